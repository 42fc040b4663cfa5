/- Texts of the ring, joined, what is used of them. No condition but those in the statements. -/
import Derived.BigQuiet
import Derived.BigRegion
import Derived.Deep.MidRow
import Derived.Deep.RegionHeld3
import Derived.Deep.Upon
import Derived.IntWalk
import Derived.Shelf.Abstract
import Derived.Test.YtfdgokkngejbhaaGreatQgG
namespace Go.Proofs.YtfdgokkngejbhaaGreat
open Go.RowKit Go.Sort
set_option linter.unusedVariables false
set_option linter.unusedSimpArgs false
set_option linter.unusedVariables false
set_option linter.unusedSimpArgs false
open Go.Proofs.YtfdgokkngejbhaaGreat.Simp
set_option maxRecDepth 100000
set_option maxHeartbeats 12800000
section
variable {W w w' : World} {E : Nat → Prop} {pb mb rb bb br N D K sq rq : Nat} {boot : Int} {x : CfgAt} {P : Ql}
theorem recvN_b (h : PQAt W w E pb mb rb bb br N D boot x (K) (P) sq rq) (hK : K ≤ 90000) (hok : (playQ N D boot P).2 = true) (hw : P.r = none) : Calls Tryz.prog 31 #[.pointer (some ⟨pb, 0, none⟩)] w fun e w' => e = .returned (.bool true) ∧ ∃ rq', PQAt W w' E pb mb rb bb br N D boot x (K + 1) ((playQ N D boot P).1) sq rq' ∧ Only (fun k => (¬ E k ∨ k = pb) ∧ W.heap.size ≤ k) w w' := by
  have g9 : w.cell? ⟨pb, 9, none⟩ = some (pqW P.r rq) := cell_blk h.blk rfl
  rw [hw] at g9
  have h9 : w.cell? ⟨pb, 9, none⟩ = some (.pointer none) := g9
  obtain ⟨wz, hwz⟩ : ∃ u, u = w := ⟨_, rfl⟩
  have hpw : playQ N D boot P = rc1 N D boot { P with r := some (startQ [] P.head), own := 0 } (startQ [] P.head) := by unfold playQ; rw [hw]
  have HP := Lib.hid h; have HPW0 := Lib.hid hpw; have HOK0 := Lib.hid hok; have HSN := Lib.hid hw
  obtain ⟨bs, hqu, hbl, hbb⟩ := h.quo
  rw [hw] at hqu
  have hqu : Quo W w W.heap.size E mb rb bb br (qr2 N D) 1 P.m bs (atQ P.s sq) none := hqu
  obtain ⟨c0, c1, c2, c3, c4, c5, c11⟩ : w.cell? ⟨pb, 0, none⟩ = some (.slice x.pa 2 x.pc) ∧ w.cell? ⟨pb, 1, none⟩ = some (.slice x.ca 1 x.cc) ∧ w.cell? ⟨pb, 2, none⟩ = some (.int .i64 1) ∧ w.cell? ⟨pb, 3, none⟩ = some (.slice x.aa 1 x.ac) ∧ w.cell? ⟨pb, 4, none⟩ = some (.int .i64 1) ∧ w.cell? ⟨pb, 5, none⟩ = some (.slice x.ba 1 x.bc) ∧ w.cell? ⟨pb, 11, none⟩ = some (.int .u32 P.head) :=
    ⟨cell_blk h.blk rfl, cell_blk h.blk rfl, cell_blk h.blk rfl, cell_blk h.blk rfl, cell_blk h.blk rfl, cell_blk h.blk rfl, cell_blk h.blk rfl⟩
  have hns := newG_b (cfgQ N D boot) x 0 (qr2 N D) P.head w.drew (h.cfg.later hqu.below.drew) h.wf (cfgQ_few N D boot) h.qrOf h.u32.2.2
  obtain ⟨f1, f2, f3, f4, f5, f6⟩ := cfgQ_len N D boot
  simp only [cfgCells, f1, f2, f3, f4, f5, f6] at hns
  have HNS := Lib.hid hns; have HQ4 := Lib.hid hqu; have HB4 := Lib.hid h.blk; have HBS := Lib.hid (And.intro hbl hbb)
  have hpl : pb < w.drew.heap.size := h.lt
  rw [← hwz] at HNS HQ4 HB4 hpl c0 c1 c2 c3 c4 c5 c11 h9 ⊢
  have HWZ := Lib.hid hwz
  clear hns hqu hbl hbb h hpw hok hw g9 f1 f2 f3 f4 f5 f6 hwz
  go_enter Tryz.func31, Tryz.ntmps31
  go_wp2
  refine wp_region_held_drew (S := (fun W' => W'.cell? ⟨pb, 0, none⟩ = some (.slice x.pa 2 x.pc) ∧ W'.cell? ⟨pb, 1, none⟩ = some (.slice x.ca 1 x.cc) ∧ W'.cell? ⟨pb, 2, none⟩ = some (.int .i64 1) ∧ W'.cell? ⟨pb, 3, none⟩ = some (.slice x.aa 1 x.ac) ∧ W'.cell? ⟨pb, 4, none⟩ = some (.int .i64 1) ∧ W'.cell? ⟨pb, 5, none⟩ = some (.slice x.ba 1 x.bc) ∧ W'.cell? ⟨pb, 11, none⟩ = some (.int .u32 P.head))) (by kernel_rfl) (by exact ⟨c0, c1, c2, c3, c4, c5, c11⟩) (fun hHeld => ?_)
  refine wpAnyH_take (i := 0) rfl (by kernel_rfl) (by kernel_rfl) (by kernel_rfl) (fun _ _ _ h => h) (Or.inl ⟨by rfl, by intro w hSw; (have z0 := hSw.1; have z1 := hSw.2.1; have z2 := hSw.2.2.1; have z3 := hSw.2.2.2.1; have z4 := hSw.2.2.2.2.1; have z5 := hSw.2.2.2.2.2.1; have z6 := hSw.2.2.2.2.2.2); (go_simp <;> with_reducible rfl)⟩) (by assumption) ?_
  (try simp only [Act.put, List.setIfInBounds_toArray, List.set_cons_zero, List.set_cons_succ, List.getElem_toArray, List.getElem_cons_zero, List.getElem_cons_succ])
  refine wpAnyH_take (i := 1) rfl (by kernel_rfl) (by kernel_rfl) (by kernel_rfl) (fun _ _ _ h => h) (Or.inl ⟨by rfl, by intro w hSw; (have z0 := hSw.1; have z1 := hSw.2.1; have z2 := hSw.2.2.1; have z3 := hSw.2.2.2.1; have z4 := hSw.2.2.2.2.1; have z5 := hSw.2.2.2.2.2.1; have z6 := hSw.2.2.2.2.2.2); (go_simp <;> with_reducible rfl)⟩) (by assumption) ?_
  (try simp only [Act.put, List.setIfInBounds_toArray, List.set_cons_zero, List.set_cons_succ, List.getElem_toArray, List.getElem_cons_zero, List.getElem_cons_succ])
  refine wpAnyH_take (i := 2) rfl (by kernel_rfl) (by kernel_rfl) (by kernel_rfl) (fun _ _ _ h => h) (Or.inl ⟨by rfl, by intro w hSw; (have z0 := hSw.1; have z1 := hSw.2.1; have z2 := hSw.2.2.1; have z3 := hSw.2.2.2.1; have z4 := hSw.2.2.2.2.1; have z5 := hSw.2.2.2.2.2.1; have z6 := hSw.2.2.2.2.2.2); (go_simp <;> with_reducible rfl)⟩) (by assumption) ?_
  (try simp only [Act.put, List.setIfInBounds_toArray, List.set_cons_zero, List.set_cons_succ, List.getElem_toArray, List.getElem_cons_zero, List.getElem_cons_succ])
  refine wpAnyH_take (i := 3) rfl (by kernel_rfl) (by kernel_rfl) (by kernel_rfl) (fun _ _ _ h => h) (Or.inl ⟨by rfl, by intro w hSw; (have z0 := hSw.1; have z1 := hSw.2.1; have z2 := hSw.2.2.1; have z3 := hSw.2.2.2.1; have z4 := hSw.2.2.2.2.1; have z5 := hSw.2.2.2.2.2.1; have z6 := hSw.2.2.2.2.2.2); (go_simp <;> with_reducible rfl)⟩) (by assumption) ?_
  (try simp only [Act.put, List.setIfInBounds_toArray, List.set_cons_zero, List.set_cons_succ, List.getElem_toArray, List.getElem_cons_zero, List.getElem_cons_succ])
  refine wpAnyH_take (i := 4) rfl (by kernel_rfl) (by kernel_rfl) (by kernel_rfl) (fun _ _ _ h => h) (Or.inl ⟨by rfl, by intro w hSw; (have z0 := hSw.1; have z1 := hSw.2.1; have z2 := hSw.2.2.1; have z3 := hSw.2.2.2.1; have z4 := hSw.2.2.2.2.1; have z5 := hSw.2.2.2.2.2.1; have z6 := hSw.2.2.2.2.2.2); (go_simp <;> with_reducible rfl)⟩) (by assumption) ?_
  (try simp only [Act.put, List.setIfInBounds_toArray, List.set_cons_zero, List.set_cons_succ, List.getElem_toArray, List.getElem_cons_zero, List.getElem_cons_succ])
  refine wpAnyH_take (i := 5) rfl (by kernel_rfl) (by kernel_rfl) (by kernel_rfl) (fun _ _ _ h => h) (Or.inl ⟨by rfl, by intro w hSw; (have z0 := hSw.1; have z1 := hSw.2.1; have z2 := hSw.2.2.1; have z3 := hSw.2.2.2.1; have z4 := hSw.2.2.2.2.1; have z5 := hSw.2.2.2.2.2.1; have z6 := hSw.2.2.2.2.2.2); (go_simp <;> with_reducible rfl)⟩) (by assumption) ?_
  (try simp only [Act.put, List.setIfInBounds_toArray, List.set_cons_zero, List.set_cons_succ, List.getElem_toArray, List.getElem_cons_zero, List.getElem_cons_succ])
  refine wpAnyH_take (i := 6) rfl (by kernel_rfl) (by kernel_rfl) (by kernel_rfl) (fun _ _ _ h => h) (Or.inl ⟨by rfl, by intro w hSw; (have z0 := hSw.1; have z1 := hSw.2.1; have z2 := hSw.2.2.1; have z3 := hSw.2.2.2.1; have z4 := hSw.2.2.2.2.1; have z5 := hSw.2.2.2.2.2.1; have z6 := hSw.2.2.2.2.2.2); (go_simp <;> with_reducible rfl)⟩) (by assumption) ?_
  (try simp only [Act.put, List.setIfInBounds_toArray, List.set_cons_zero, List.set_cons_succ, List.getElem_toArray, List.getElem_cons_zero, List.getElem_cons_succ])
  refine wpAnyH_take (i := 7) rfl (by kernel_rfl) (by kernel_rfl) (by kernel_rfl) (fun _ _ _ h => h) (Or.inl ⟨by rfl, by intro w hSw; (have z0 := hSw.1; have z1 := hSw.2.1; have z2 := hSw.2.2.1; have z3 := hSw.2.2.2.1; have z4 := hSw.2.2.2.2.1; have z5 := hSw.2.2.2.2.2.1; have z6 := hSw.2.2.2.2.2.2); (go_simp <;> with_reducible rfl)⟩) (by assumption) ?_
  (try simp only [Act.put, List.setIfInBounds_toArray, List.set_cons_zero, List.set_cons_succ, List.getElem_toArray, List.getElem_cons_zero, List.getElem_cons_succ])
  refine wpAnyH_take (i := 8) rfl (by kernel_rfl) (by kernel_rfl) (by kernel_rfl) (fun _ _ _ h => h) (Or.inl ⟨by rfl, by intro w hSw; (have z0 := hSw.1; have z1 := hSw.2.1; have z2 := hSw.2.2.1; have z3 := hSw.2.2.2.1; have z4 := hSw.2.2.2.2.1; have z5 := hSw.2.2.2.2.2.1; have z6 := hSw.2.2.2.2.2.2); (go_simp <;> with_reducible rfl)⟩) (by assumption) ?_
  (try simp only [Act.put, List.setIfInBounds_toArray, List.set_cons_zero, List.set_cons_succ, List.getElem_toArray, List.getElem_cons_zero, List.getElem_cons_succ])
  refine wpAnyH_ready (rs := [9]) (by kernel_rfl) (by simp) (AllReadyH.cons rfl (fun K hK => ?_) AllReadyH.nil)
  go_simp
  refine HNS.out.mono ?_
  rintro e v5 ⟨rq1, S5, rfl, hat, hS5, hb5⟩
  have hB5 := (hb5.block pb hpl).trans (show wz.drew.heap[pb]? = _ from HB4.out)
  have x9 : v5.cell? ⟨pb, 9, none⟩ = some (.pointer none) := by have q := cell_blk hB5 (i := 9) rfl; rw [HSN.out] at q; exact q
  have g9 := blk_frozen 9 hB5
  refine hK.out _ _ (by exact ⟨cell_blk hB5 rfl, cell_blk hB5 rfl, cell_blk hB5 rfl, cell_blk hB5 rfl, cell_blk hB5 rfl, cell_blk hB5 rfl, cell_blk hB5 rfl⟩) (fun hHeld => ?_)
  clear hK K
  (try simp only [Act.put, List.setIfInBounds_toArray, List.set_cons_zero, List.set_cons_succ, List.getElem_toArray, List.getElem_cons_zero, List.getElem_cons_succ])
  refine wpAnyH_take (i := 10) rfl (by kernel_rfl) (by kernel_rfl) (by kernel_rfl) (fun _ _ _ h => h) (Or.inl ⟨by rfl, by intro w hSw; (have z0 := hSw.1; have z1 := hSw.2.1; have z2 := hSw.2.2.1; have z3 := hSw.2.2.2.1; have z4 := hSw.2.2.2.2.1; have z5 := hSw.2.2.2.2.2.1; have z6 := hSw.2.2.2.2.2.2); (go_simp <;> with_reducible rfl)⟩) (by assumption) ?_
  (try simp only [Act.put, List.setIfInBounds_toArray, List.set_cons_zero, List.set_cons_succ, List.getElem_toArray, List.getElem_cons_zero, List.getElem_cons_succ])
  refine wpAnyH_take (i := 11) rfl (by kernel_rfl) (by kernel_rfl) (by kernel_rfl) (fun _ _ _ h => h) (Or.inl ⟨by rfl, by intro w hSw; (have z0 := hSw.1; have z1 := hSw.2.1; have z2 := hSw.2.2.1; have z3 := hSw.2.2.2.1; have z4 := hSw.2.2.2.2.1; have z5 := hSw.2.2.2.2.2.1; have z6 := hSw.2.2.2.2.2.2); (go_simp <;> with_reducible rfl)⟩) (by assumption) ?_
  (try simp only [Act.put, List.setIfInBounds_toArray, List.set_cons_zero, List.set_cons_succ, List.getElem_toArray, List.getElem_cons_zero, List.getElem_cons_succ])
  refine wpAnyH_ready (rs := [12]) (by kernel_rfl) (by simp) (AllReadyH.cons rfl (fun K hK => ?_) AllReadyH.nil)
  go_simp
  have hB6 := blk_put (o := 9) (v := .pointer (some ⟨rq1, 0, none⟩)) hB5 rfl
  refine hK.out _ _ (by exact ⟨cell_blk hB6 rfl, cell_blk hB6 rfl, cell_blk hB6 rfl, cell_blk hB6 rfl, cell_blk hB6 rfl, cell_blk hB6 rfl, cell_blk hB6 rfl⟩) (fun hHeld => ?_)
  clear hK K
  (try simp only [Act.put, List.setIfInBounds_toArray, List.set_cons_zero, List.set_cons_succ, List.getElem_toArray, List.getElem_cons_zero, List.getElem_cons_succ])
  refine wpAnyH_done (by kernel_rfl) ?_ _
  have y16 : (v5.setCell ⟨pb, 9, none⟩ (.pointer (some ⟨rq1, 0, none⟩))).cell? ⟨pb, 16, none⟩ = some (.int .i64 P.own) := cell_blk hB6 rfl
  have h16 := blk_frozen 16 hB6
  have HB6 := Lib.hid hB6
  have HQ5 := Lib.hid ((HQ4.out.only (T := fun _ => False) (Only.refl _ wz).drew (fun _ _ h => h.elim) (fun k h => .inl h)).newG hat hS5 hb5 (show WQ (startQ [] P.head) from ⟨w32_nil, HP.out.u32.2.2⟩))
  have HO5 := Lib.hid hb5
  clear hat hS5 hb5 hB5 hB6 hHeld c0 c1 c2 c3 c4 c5 c11 x9 g9 h9
  go_wp2
  obtain ⟨w1, HW1⟩ : ∃ u, Hid (u = (v5.setCell ⟨pb, 9, none⟩ (.pointer (some ⟨rq1, 0, none⟩))).setCell ⟨pb, 16, none⟩ (.int .i64 0)) := ⟨_, rfl⟩
  rw [← HW1.out]
  obtain ⟨P1, hP1⟩ : ∃ Q : Ql, { P with r := some (startQ [] P.head), own := 0 } = Q := ⟨_, rfl⟩
  obtain ⟨s, hs⟩ : ∃ s, startQ [] P.head = s := ⟨_, rfl⟩
  have hd1 : Only (fun k => k = pb) v5 w1 := by rw [HW1.out]; exact (Only.setCell v5 ⟨pb, 9, none⟩ _).trans (Only.setCell _ ⟨pb, 16, none⟩ _)
  have hb1 : w1.heap[pb]? = some (.cells (qpV (x) (mb) (bb) ((pqW P.s sq)) (.pointer (some ⟨rq1, 0, none⟩)) (P.tail) (P.head) (P.sent) (P.got) (P.n) (P.steps) (0)) 75 (0, 0)) := by rw [HW1.out]; exact blk_put (o := 16) (v := .int .i64 0) HB6.out rfl
  have hq1 := HQ5.out.only hd1 (fun k _ e => by subst e; exact HP.out.pe) (E' := E) (fun k h => .inl h)
  have hp1 : PQAt W w1 E pb mb rb bb br N D boot x K P1 sq rq1 := by
    rw [← hP1]
    obtain ⟨l1, l2, l3, l4, l5, l6, l7, l8, l9, l10⟩ := HP.out.lim
    exact ⟨hb1, ⟨_, hq1, HBS.out.1, HBS.out.2⟩, HP.out.pe, HP.out.cfg, HP.out.nn, ⟨l1, l2, l3, l4, Int.le_refl _, by show (0 : Int) ≤ K; omega, l7, l8, l9, l10⟩, HP.out.u32⟩
  rw [hs] at hq1
  have hs1 : P1.r = some s := by rw [← hP1, ← hs]
  have HPW : Hid (playQ N D boot P = rc1 N D boot P1 s) := Lib.hid (by rw [← hP1, ← hs]; exact HPW0.out)
  have HOK : Hid ((rc1 N D boot P1 s).2 = true) := Lib.hid (by rw [← HPW.out]; exact HOK0.out)
  have HDU : Hid (Quo W w1 W.heap.size E mb rb bb br (qr2 N D) 1 P1.m bs (atQ P1.s sq) (some (rq1, s))) := Lib.hid (by rw [← hP1]; exact hq1)
  have HBS : Hid (bs.length = 2 ∧ bs.getD 1 false = P1.bell) := Lib.hid (by rw [← hP1]; exact HBS.out)
  have HP1 := Lib.hid hp1; have HS1 := Lib.hid hs1
  have HO1 : Hid (Only (fun k => (¬ E k ∨ k = pb) ∧ W.heap.size ≤ k) wz w1) := Lib.hid (((Only.refl (fun _ => False) wz).drew.mono fun k _ e => e.elim).trans ((Only.of_below (S := fun k => (¬ E k ∨ k = pb) ∧ W.heap.size ≤ k) HO5.out).trans (hd1.mono fun k _ e => by subst e; exact ⟨.inr rfl, HP.out.pe.2⟩)))
  clear y16 h16 hd1 hb1 hq1 hp1 hs1 hs hP1 hpl
  have HPB : Hid (w1.heap[pb]? = some (.cells (qpV (x) (mb) (bb) ((pqW P1.s sq)) ((.pointer (some ⟨rq1, 0, none⟩))) (P1.tail) (P1.head) (P1.sent) (P1.got) (P1.n) (P1.steps) (P1.own)) 75 (0, 0))) := Lib.hid (by have q := HP1.out.blk; rw [HS1.out] at q; exact q)
  have HEL : Hid (∀ k, E k → k < w1.drew.heap.size) := Lib.hid (fun k hk => by obtain ⟨_, _, _, _, h3, _⟩ := HDU.out.two; exact (h3 k hk).2.2.2)
  have HPE : Hid (E pb ∧ pb < w1.drew.heap.size ∧ W.heap.size ≤ w1.drew.heap.size) := Lib.hid ⟨HP1.out.pe.1, HP1.out.lt, HDU.out.below.size⟩
  have HST := Lib.hid (fun (W' : World) (h : Below w1.drew.heap.size w1.drew W') => (HDU.out.only (T := fun _ => False) ((Only.refl _ w1).drew.trans (Only.of_below h)) (fun _ _ h => h.elim) (E' := fun k => E k ∨ (w1.drew.heap.size ≤ k ∧ k < W'.heap.size)) (fun k h => h)).stG 0)
  have h9' : w1.cell? ⟨pb, 9, none⟩ = some (.pointer (some ⟨rq1, 0, none⟩)) := cell_blk HPB.out rfl
  (try clear h9)
  (try go_wp2)
  clear h9'
  refine wp_region_held_drew (S := (fun W' => W'.cell? ⟨pb, 9, none⟩ = some (.pointer (some ⟨rq1, 0, none⟩)) ∧ W'.cell? ⟨pb, 6, none⟩ = some (.pointer (some ⟨mb, 0, none⟩)) ∧ W'.cell? ⟨pb, 7, none⟩ = some (.pointer (some ⟨bb, 0, none⟩)))) (by kernel_rfl) (keepP3 (show w1.drew.heap[pb]? = _ from HPB.out) rfl rfl rfl) (fun hHeld => ?_)
  refine wpAnyH_take (i := 0) rfl (by kernel_rfl) (by kernel_rfl) (by kernel_rfl) (fun _ _ _ h => h) (Or.inl ⟨by rfl, by intro w hSw; (skip); (go_simp <;> with_reducible rfl)⟩) (by assumption) ?_
  (try simp only [Act.put, List.setIfInBounds_toArray, List.set_cons_zero, List.set_cons_succ, List.getElem_toArray, List.getElem_cons_zero, List.getElem_cons_succ])
  refine wpAnyH_take (i := 1) rfl (by kernel_rfl) (by kernel_rfl) (by kernel_rfl) (fun _ _ _ h => h) (Or.inl ⟨by rfl, by intro w hSw; (skip); (go_simp <;> with_reducible rfl)⟩) (by assumption) ?_
  (try simp only [Act.put, List.setIfInBounds_toArray, List.set_cons_zero, List.set_cons_succ, List.getElem_toArray, List.getElem_cons_zero, List.getElem_cons_succ])
  refine wpAnyH_take (i := 2) rfl (by kernel_rfl) (by kernel_rfl) (by kernel_rfl) (fun _ _ _ h => h) (Or.inl ⟨by rfl, by intro w hSw; (skip); (go_simp <;> with_reducible rfl)⟩) (by assumption) ?_
  (try simp only [Act.put, List.setIfInBounds_toArray, List.set_cons_zero, List.set_cons_succ, List.getElem_toArray, List.getElem_cons_zero, List.getElem_cons_succ])
  refine wpAnyH_take (i := 3) rfl (by kernel_rfl) (by kernel_rfl) (by kernel_rfl) (fun _ _ _ h => h) (Or.inl ⟨by rfl, by intro w hSw; (skip); (go_simp <;> with_reducible rfl)⟩) (by assumption) ?_
  (try simp only [Act.put, List.setIfInBounds_toArray, List.set_cons_zero, List.set_cons_succ, List.getElem_toArray, List.getElem_cons_zero, List.getElem_cons_succ])
  refine wpAnyH_take (i := 4) rfl (by kernel_rfl) (by kernel_rfl) (by kernel_rfl) (fun _ _ _ h => h) (Or.inl ⟨by rfl, by intro w hSw; (skip); (go_simp <;> with_reducible rfl)⟩) (by assumption) ?_
  (try simp only [Act.put, List.setIfInBounds_toArray, List.set_cons_zero, List.set_cons_succ, List.getElem_toArray, List.getElem_cons_zero, List.getElem_cons_succ])
  refine wpAnyH_take (i := 5) rfl (by kernel_rfl) (by kernel_rfl) (by kernel_rfl) (fun _ _ _ h => h) (Or.inl ⟨by rfl, by intro w hSw; (skip); (go_simp <;> with_reducible rfl)⟩) (by assumption) ?_
  (try simp only [Act.put, List.setIfInBounds_toArray, List.set_cons_zero, List.set_cons_succ, List.getElem_toArray, List.getElem_cons_zero, List.getElem_cons_succ])
  refine wpAnyH_take (i := 6) rfl (by kernel_rfl) (by kernel_rfl) (by kernel_rfl) (fun _ _ _ h => h) (Or.inl ⟨by rfl, by intro w hSw; (skip); (go_simp <;> with_reducible rfl)⟩) (by assumption) ?_
  (try simp only [Act.put, List.setIfInBounds_toArray, List.set_cons_zero, List.set_cons_succ, List.getElem_toArray, List.getElem_cons_zero, List.getElem_cons_succ])
  refine wpAnyH_take (i := 7) rfl (by kernel_rfl) (by kernel_rfl) (by kernel_rfl) (fun _ _ _ h => h) (Or.inl ⟨by rfl, by intro w hSw; (skip); (go_simp <;> with_reducible rfl)⟩) (by assumption) ?_
  (try simp only [Act.put, List.setIfInBounds_toArray, List.set_cons_zero, List.set_cons_succ, List.getElem_toArray, List.getElem_cons_zero, List.getElem_cons_succ])
  refine wpAnyH_take (i := 8) rfl (by kernel_rfl) (by kernel_rfl) (by kernel_rfl) (fun _ _ _ h => h) (Or.inl ⟨by rfl, by intro w hSw; (skip); (go_simp <;> with_reducible rfl)⟩) (by assumption) ?_
  (try simp only [Act.put, List.setIfInBounds_toArray, List.set_cons_zero, List.set_cons_succ, List.getElem_toArray, List.getElem_cons_zero, List.getElem_cons_succ])
  refine wpAnyH_take (i := 9) rfl (by kernel_rfl) (by kernel_rfl) (by kernel_rfl) (fun _ _ _ h => h) (Or.inl ⟨by rfl, by intro w hSw; (skip); (go_simp <;> with_reducible rfl)⟩) (by assumption) ?_
  (try simp only [Act.put, List.setIfInBounds_toArray, List.set_cons_zero, List.set_cons_succ, List.getElem_toArray, List.getElem_cons_zero, List.getElem_cons_succ])
  refine wpAnyH_take (i := 10) rfl (by kernel_rfl) (by kernel_rfl) (by kernel_rfl) (fun _ _ _ h => h) (Or.inl ⟨by rfl, by intro w hSw; (skip); (go_simp <;> with_reducible rfl)⟩) (by assumption) ?_
  (try simp only [Act.put, List.setIfInBounds_toArray, List.set_cons_zero, List.set_cons_succ, List.getElem_toArray, List.getElem_cons_zero, List.getElem_cons_succ])
  refine wpAnyH_take (i := 11) rfl (by kernel_rfl) (by kernel_rfl) (by kernel_rfl) (fun _ _ _ h => h) (Or.inl ⟨by rfl, by intro w hSw; (skip); (go_simp <;> with_reducible rfl)⟩) (by assumption) ?_
  (try simp only [Act.put, List.setIfInBounds_toArray, List.set_cons_zero, List.set_cons_succ, List.getElem_toArray, List.getElem_cons_zero, List.getElem_cons_succ])
  refine wpAnyH_ready (rs := [12, 13]) (by kernel_rfl) (by simp) (AllReadyH.cons rfl (fun K hK => ?_) (AllReadyH.cons rfl (fun K hK => ?_) AllReadyH.nil))
  go_simp
  refine (HST.out _ (Below.refl _ _)).mono ?_
  rintro e w5 ⟨sa, sc, sn, dn, cd, mk, rg, s3, ws3, rfl, hq, hd5, hd6, hg5, hw5, ho5⟩
  have HQ := Lib.hid hq; have HW5 := Lib.hid hw5
  have hP5 := ho5.at_ (k := pb) (show w1.drew.heap[pb]? = _ from HPB.out) (fun h => h.1 (.inl HPE.out.1))
  clear hq hw5
  refine hK.out _ _ (keepP3 hP5 rfl rfl rfl) (fun hHeld => ?_)
  clear hK K
  (try simp only [Act.put, List.setIfInBounds_toArray, List.set_cons_zero, List.set_cons_succ, List.getElem_toArray, List.getElem_cons_zero, List.getElem_cons_succ])
  refine wpAnyH_ready (rs := [13]) (by kernel_rfl) (by simp) (AllReadyH.cons rfl (fun K hK => ?_) AllReadyH.nil)
  go_simp
  refine hK.out _ _ (keep_alloc3 hHeld) (fun hHeld => ?_)
  clear hK K
  (try simp only [Act.put, List.setIfInBounds_toArray, List.set_cons_zero, List.set_cons_succ, List.getElem_toArray, List.getElem_cons_zero, List.getElem_cons_succ])
  refine wpAnyH_ready (rs := [14]) (by kernel_rfl) (by simp) (AllReadyH.cons rfl (fun K hK => ?_) AllReadyH.nil)
  have hth := there_at (show (w5.alloc (.cells (didV false 0 (.slice none 0 0) false false false 0) 63)).heap[w5.heap.size]? = some (.cells (didV false 0 (.slice none 0 0) false false false 0) 63 (0, 0)) from heap_alloc_new w5 _) (n := (qdV dn cd (.slice sa sn sc) 0 mk rg : Array Value).size) rfl
  have hsd : (Tryz.prog.info? 63).map (·.size) = some (qdV dn cd (.slice sa sn sc) 0 mk rg : Array Value).size := did_size
  rw [if_pos (by rfl)]
  refine wp_store_mid _ _ _ rfl w5.heap.size 0 (qdV dn cd (.slice sa sn sc) 0 mk rg) rfl rfl hth hsd (by kernel_rfl) ?_
  refine hK.out _ _ (keep_box3 hHeld (by have := ho5.size; have := HPE.out.2.1; show w5.heap.size ≠ pb; have : w1.drew.heap.size = w1.heap.size := rfl; omega)) (fun hHeld => ?_)
  clear hK K
  (try simp only [Act.put, List.setIfInBounds_toArray, List.set_cons_zero, List.set_cons_succ, List.getElem_toArray, List.getElem_cons_zero, List.getElem_cons_succ])
  obtain ⟨X, HX⟩ : ∃ X, Hid (X = (w5.alloc (.cells #[.bool false, .int .i64 0, .slice none 0 0, .bool false, .int .i64 0, .bool false, .bool false, .bool false, .int .i64 0] 63)).setCells w5.heap.size 0 [.bool dn, .int .i64 cd, .slice sa sn sc, .bool false, .int .i64 0, .bool mk, .bool rg, .bool false, .int .i64 0]) := ⟨_, rfl⟩
  obtain ⟨tb, htb⟩ : ∃ t, t = w5.heap.size := ⟨_, rfl⟩
  have HSD : Hid (SteppedQ W w1.drew X E pb mb rb bb br N D ws3 bs (atQ P1.s sq) (some (rq1, s3)) tb (qdV dn cd (.slice sa sn sc) 0 mk rg)) := Lib.hid (by rw [HX.out, htb]; exact SteppedQ.a (w1 := w1.drew) (vs := [.bool dn, .int .i64 cd, .slice sa sn sc, .bool false, .int .i64 0, .bool mk, .bool rg, .bool false, .int .i64 0]) HEL.out HPE.out.1 hd5 ho5 rfl)
  have HOW : Hid (∀ (g : Nat) (o : Obj), Value.ownBlock (.slice sa sn sc) = some g → w5.heap[g]? = some o → X.heap[g]? = some o) := Lib.hid (fun g o hg ho => by rw [HX.out]; exact keepsA ho)
  have HNG : Hid (∀ g, Value.ownBlock (.slice sa sn sc) = some g → ¬ E g) := Lib.hid (fun g hg h => (hg5 g hg).1 (.inl h))
  refine wpAnyH_done (by kernel_rfl) ?_ _
  rotate_left
  go_simp
  refine hK.out _ _ (keep_alloc3 hHeld) (fun hHeld => ?_)
  clear hK K
  (try simp only [Act.put, List.setIfInBounds_toArray, List.set_cons_zero, List.set_cons_succ, List.getElem_toArray, List.getElem_cons_zero, List.getElem_cons_succ])
  refine wpAnyH_ready (rs := [12]) (by kernel_rfl) (by simp) (AllReadyH.cons rfl (fun K hK => ?_) AllReadyH.nil)
  go_simp
  refine (HST.out _ ((Below.refl _ _).alloc (Nat.le_refl _) _)).mono ?_
  rintro e w5 ⟨sa, sc, sn, dn, cd, mk, rg, s3, ws3, rfl, hq, hd5, hd6, hg5, hw5, ho5⟩
  have HQ := Lib.hid hq; have HW5 := Lib.hid hw5
  have hP5 := ho5.at_ (k := pb) ((Below.heap_alloc w1.drew _ pb HPE.out.2.1).trans (show w1.drew.heap[pb]? = _ from HPB.out)) (fun h => h.1 (.inl HPE.out.1))
  clear hq hw5
  refine hK.out _ _ (keepP3 hP5 rfl rfl rfl) (fun hHeld => ?_)
  clear hK K
  (try simp only [Act.put, List.setIfInBounds_toArray, List.set_cons_zero, List.set_cons_succ, List.getElem_toArray, List.getElem_cons_zero, List.getElem_cons_succ])
  refine wpAnyH_ready (rs := [14]) (by kernel_rfl) (by simp) (AllReadyH.cons rfl (fun K hK => ?_) AllReadyH.nil)
  have hth := there_at (show w5.heap[w1.drew.heap.size]? = some (.cells (didV false 0 (.slice none 0 0) false false false 0) 63 (0, 0)) from ho5.at_ (heap_alloc_new w1.drew _) (fun h => h.1 (.inr ⟨Nat.le_refl _, Nat.lt_of_lt_of_eq (Nat.lt_succ_self _) (World.size_alloc _ _).symm⟩))) (n := (qdV dn cd (.slice sa sn sc) 0 mk rg : Array Value).size) rfl
  have hsd : (Tryz.prog.info? 63).map (·.size) = some (qdV dn cd (.slice sa sn sc) 0 mk rg : Array Value).size := did_size
  rw [if_pos (by rfl)]
  refine wp_store_mid _ _ _ rfl w1.drew.heap.size 0 (qdV dn cd (.slice sa sn sc) 0 mk rg) rfl rfl hth hsd (by kernel_rfl) ?_
  refine hK.out _ _ (keep_box3 hHeld (by have := HPE.out.2.1; show w1.drew.heap.size ≠ pb; have : w1.drew.heap.size = w1.heap.size := rfl; omega)) (fun hHeld => ?_)
  clear hK K
  (try simp only [Act.put, List.setIfInBounds_toArray, List.set_cons_zero, List.set_cons_succ, List.getElem_toArray, List.getElem_cons_zero, List.getElem_cons_succ])
  obtain ⟨X, HX⟩ : ∃ X, Hid (X = (w5).setCells w1.drew.heap.size 0 [.bool dn, .int .i64 cd, .slice sa sn sc, .bool false, .int .i64 0, .bool mk, .bool rg, .bool false, .int .i64 0]) := ⟨_, rfl⟩
  obtain ⟨tb, htb⟩ : ∃ t, t = w1.heap.size := ⟨_, rfl⟩
  have HSD : Hid (SteppedQ W w1.drew X E pb mb rb bb br N D ws3 bs (atQ P1.s sq) (some (rq1, s3)) tb (qdV dn cd (.slice sa sn sc) 0 mk rg)) := Lib.hid (by rw [HX.out, htb]; exact SteppedQ.b (w1 := w1.drew) (vs := [.bool dn, .int .i64 cd, .slice sa sn sc, .bool false, .int .i64 0, .bool mk, .bool rg, .bool false, .int .i64 0]) HEL.out HPE.out.1 HPE.out.2.2 hd5 ho5 rfl)
  have HOW : Hid (∀ (g : Nat) (o : Obj), Value.ownBlock (.slice sa sn sc) = some g → w5.heap[g]? = some o → X.heap[g]? = some o) := Lib.hid (fun g o hg ho => by rw [HX.out]; exact keepsB (fun e => (hg5 g hg).1 (.inr ⟨Nat.le_of_eq e.symm, by rw [e]; exact Nat.lt_of_lt_of_eq (Nat.lt_succ_self _) (World.size_alloc _ _).symm⟩)) ho)
  have HNG : Hid (∀ g, Value.ownBlock (.slice sa sn sc) = some g → ¬ E g) := Lib.hid (fun g hg h => (hg5 g hg).1 (.inl h))
  refine wpAnyH_done (by kernel_rfl) ?_ _
  all_goals (rw [← HX.out]; simp only [← htb])
  all_goals (
    have HXB : Hid (X.heap[pb]? = some (.cells (qpV (x) (mb) (bb) ((pqW P1.s sq)) ((.pointer (some ⟨rq1, 0, none⟩))) (P1.tail) (P1.head) (P1.sent) (P1.got) (P1.n) (P1.steps) (P1.own)) 75 (0, 0))) := Lib.hid (HSD.out.at_ HP1.out.pe.1 (show w1.drew.heap[pb]? = _ from HPB.out))
    clear hHeld
    obtain ⟨l1, l2, l3, l4, l5, l6, l7, l8, l9, l10⟩ := HP1.out.lim
    obtain ⟨⟨N1, N2⟩, N3, N4, N5⟩ := HP1.out.nn
    have hne1 : tb ≠ pb := HSD.out.ne.1
    have hne2 : pb ≠ tb := fun e => hne1 e.symm
    obtain ⟨b, o, hca, hch⟩ := chanQ HP1.out.cfg HP1.out.wf
    have HCH : Hid (∀ W' : World, Below W.heap.size W W' → W'.cell? ⟨b, o + 3, none⟩ = some (.int .i64 (N : Int)) ∧ W'.cell? ⟨b, o + 6, none⟩ = some (.int .u32 boot)) := Lib.hid (fun W' h => by have q := hch W' h; exact ⟨by simpa using q.1, by simpa using q.2.2⟩)
    have HCA := Lib.hid hca
    have x9 : X.cell? ⟨pb, 9, none⟩ = some (.pointer (some ⟨rq1, 0, none⟩)) := cell_blk HXB.out rfl
    have x11 : X.cell? ⟨pb, 11, none⟩ = some (.int .u32 P1.head) := cell_blk HXB.out rfl
    have x12 : X.cell? ⟨pb, 12, none⟩ = some (.int .i64 P1.sent) := cell_blk HXB.out rfl
    have x13 : X.cell? ⟨pb, 13, none⟩ = some (.int .i64 P1.got) := cell_blk HXB.out rfl
    have x16 : X.cell? ⟨pb, 16, none⟩ = some (.int .i64 P1.own) := cell_blk HXB.out rfl
    have g9 := blk_frozen 9 HXB.out
    have g11 := blk_frozen 11 HXB.out
    have g13 := blk_frozen 13 HXB.out
    have g16 := blk_frozen 16 HXB.out
    have d0 : X.cell? ⟨tb, 0, none⟩ = some (.bool dn) := cell_blk HSD.out.box rfl
    have d1 : X.cell? ⟨tb, 1, none⟩ = some (.int .i64 cd) := cell_blk HSD.out.box rfl
    have d2 : X.cell? ⟨tb, 2, none⟩ = some (.slice sa sn sc) := cell_blk HSD.out.box rfl
    have HOWN := Lib.hid (fun (W' : World) (h : Only (fun k => k = pb) X W') => (show Calls Tryz.prog 25 #[.pointer (some ⟨rq1, 0, none⟩)] W' fun e w' => e = .returned (.int .u32 s3.own) ∧ w' = W' from by
      obtain ⟨ce, sv, hob⟩ := (HSD.out.quo.dropped h HP1.out.pe (.inl rfl) (.inl rfl)).ownG
      exact own_b _ _ _ _ _ _ _ _ _ _ hob))
    obtain ⟨d, e0, e1, e2, e3, e4, hlen, hown0, h32⟩ := HQ.out
    have hown := own_over hown0 (fun g hg o ho => HOW.out g o hg ho)
    have hc := rc1_cases e0 HOK.out
    clear hch hca htb hth hsd hP5 hown0
    rcases hc with hc | hc | hc)
  · obtain ⟨c1, c2, c3⟩ := hc
    obtain rfl : dn = false := e1.trans c1
    have HC2 := Lib.hid c2
    have c40 : decide (P1.own + 1 < 40) = true := decide_eq_true c3
    clear c1 c2 c3 e1 e0 e2 e3 e4 hlen hown h32
    go_wp2
    go_ret
    have hof : Only (fun k => k = pb) X ((X).setCell ⟨pb, 16, none⟩ (.int .i64 (P1.own + 1))) := ((Only.refl (fun k => k = pb) X).set (p := ⟨pb, 16, none⟩) rfl _)
    first | refine ⟨rfl, rq1, ?_, fin_onlyQ HO1.out HSD.out.only hof HP1.out.pe.2⟩ | refine ⟨rfl, ⟨rq1, ?_⟩, fin_onlyQ HO1.out HSD.out.only hof HP1.out.pe.2⟩
    rw [HPW.out, HC2.out]
    exact ⟨(blk_put (o := 16) (v := .int .i64 (P1.own + 1)) HXB.out rfl), ⟨bs, HSD.out.quo.dropped hof HP1.out.pe (.inl rfl) (.inl rfl), HBS.out.1, HBS.out.2⟩, HP1.out.pe, HP1.out.cfg, HP1.out.nn, (by show 0 ≤ P1.n ∧ P1.n ≤ ((K + 1 : Nat) : Int) ∧ 0 ≤ P1.steps ∧ P1.steps ≤ ((K + 1 : Nat) : Int) ∧ 0 ≤ P1.own + 1 ∧ P1.own + 1 ≤ ((K + 1 : Nat) : Int) ∧ 0 ≤ P1.sent ∧ P1.sent ≤ ((K + 1 : Nat) : Int) ∧ 0 ≤ P1.got ∧ P1.got ≤ ((K + 1 : Nat) : Int); omega), HP1.out.u32⟩
  · obtain ⟨c1, c2, c3, c4, c5, c6⟩ := hc
    obtain rfl : dn = true := e1.trans c1
    obtain rfl : cd = 2 := e2.trans c2
    obtain rfl : sn = 0 := by rw [hlen, c6]; rfl
    have HC2 := Lib.hid c3
    have HST1 := Lib.hid c4; have HSG := Lib.hid c5
    clear c1 c2 c3 c4 c5 c6 e1 e0 e2 e3 e4 hlen hown h32
    go_wp2_with fail
    refine (HOWN.out _ (((Only.refl (fun k => k = pb) X).set (p := ⟨pb, 16, none⟩) rfl _))).mono ?_
    rintro e wz ⟨rfl, rfl⟩
    go_wp2
    obtain ⟨X1, HX1⟩ : ∃ u, Hid (u = ((((((X).setCell ⟨pb, 16, none⟩ (.int .i64 (P1.own + 1)))).setCell ⟨pb, 11, none⟩ (.int .u32 s3.own))).setCell ⟨pb, 9, none⟩ (.pointer none))) := ⟨_, rfl⟩
    rw [← HX1.out]
    have HXB1 : Hid (X1.heap[pb]? = some (.cells (qpV (x) (mb) (bb) ((pqW P1.s sq)) (.pointer none) (P1.tail) (s3.own) (P1.sent) (P1.got) (P1.n) (P1.steps) (P1.own + 1)) 75 (0, 0))) := Lib.hid (by rw [HX1.out]; exact (blk_put (o := 9) (v := .pointer none) (blk_put (o := 11) (v := .int .u32 s3.own) (blk_put (o := 16) (v := .int .i64 (P1.own + 1)) HXB.out rfl) rfl) rfl))
    have HO1X : Hid (Only (fun k => k = pb) X X1) := Lib.hid (by rw [HX1.out]; exact ((((Only.refl (fun k => k = pb) X).set (p := ⟨pb, 16, none⟩) rfl _).set (p := ⟨pb, 11, none⟩) rfl _).set (p := ⟨pb, 9, none⟩) rfl _))
    have HQ1 := Lib.hid (HSD.out.quo.dropped (og' := none) HO1X.out HP1.out.pe (.inl rfl) (.inr rfl))
    have h4 := HCH.out X1 HQ1.out.below
    have h1 : X1.cell? ⟨tb, 1, none⟩ = some (.int .i64 2) := cell_of_blk (w := X) (cell_blk HSD.out.box rfl) (HO1X.out.block tb (Array.getElem?_eq_some_iff.1 HSD.out.box).1 hne1)
    have h2 : X1.cell? ⟨tb, 2, none⟩ = some (.slice sa 0 sc) := cell_of_blk (w := X) (cell_blk HSD.out.box rfl) (HO1X.out.block tb (Array.getElem?_eq_some_iff.1 HSD.out.box).1 hne1)
    clear x9 x11 x12 x13 x16 d0 d1 d2 g13
    have q12 : ∀ p : Regrown, (grow (redrawn X1 p.d) p.os).cell? ⟨pb, 12, none⟩ = some (.int .i64 P1.got) := fun p => cell_regrown (by have q := cell_blk HXB1.out (i := 12) rfl; rw [HSG.out] at q; exact q) p.d p.os
    have q13 : ∀ p : Regrown, (grow (redrawn X1 p.d) p.os).cell? ⟨pb, 13, none⟩ = some (.int .i64 P1.got) := fun p => cell_regrown (cell_blk HXB1.out rfl) p.d p.os
    have q16 : ∀ p : Regrown, (grow (redrawn X1 p.d) p.os).cell? ⟨pb, 16, none⟩ = some (.int .i64 1) := fun p => cell_regrown (by have q := cell_blk HXB1.out (i := 16) rfl; rw [HST1.out] at q; exact q) p.d p.os
    have q22 : ∀ p : Regrown, (grow (redrawn X1 p.d) p.os).cell? ⟨tb, 1, none⟩ = some (.int .i64 2) := fun p => cell_regrown h1 p.d p.os
    have q23 : ∀ p : Regrown, (grow (redrawn X1 p.d) p.os).cell? ⟨tb, 2, none⟩ = some (.slice sa 0 sc) := fun p => cell_regrown h2 p.d p.os
    have hbc := Below.refl X1.heap.size X1
    with_reducible refine wp_on hbc (by kernel_rfl) (by kernel_rfl) ?_
    (repeat (go_big_quiet_step (fail)))
    with_reducible refine wpQuiet_nil ?_
    intro wc hbc
    clear q12 q13 q16 q22 q23
    go_wp2
    go_ret
    have HBC := (hbc.block pb (Array.getElem?_eq_some_iff.1 HXB1.out).1).trans HXB1.out
    have hof : Only (fun k => k = pb) X wc := HO1X.out.trans (Only.of_below (S := fun k => k = pb) hbc)
    first | refine ⟨rfl, rq1, ?_, fin_onlyQ HO1.out HSD.out.only hof HP1.out.pe.2⟩ | refine ⟨rfl, ⟨rq1, ?_⟩, fin_onlyQ HO1.out HSD.out.only hof HP1.out.pe.2⟩
    rw [HPW.out, HC2.out]
    exact ⟨HBC, ⟨bs, HSD.out.quo.dropped hof HP1.out.pe (.inl rfl) (.inr rfl), HBS.out.1, HBS.out.2⟩, HP1.out.pe, HP1.out.cfg, HP1.out.nn, (by show 0 ≤ P1.n ∧ P1.n ≤ ((K + 1 : Nat) : Int) ∧ 0 ≤ P1.steps ∧ P1.steps ≤ ((K + 1 : Nat) : Int) ∧ 0 ≤ P1.own + 1 ∧ P1.own + 1 ≤ ((K + 1 : Nat) : Int) ∧ 0 ≤ P1.sent ∧ P1.sent ≤ ((K + 1 : Nat) : Int) ∧ 0 ≤ P1.got ∧ P1.got ≤ ((K + 1 : Nat) : Int); omega), ⟨HP1.out.u32.1, HP1.out.u32.2.1, HW5.out.2.1, HW5.out.2.2⟩⟩
  · obtain ⟨c1, c2, c3, c4, c5⟩ := hc
    obtain rfl : dn = true := e1.trans c1
    obtain rfl : cd = 0 := e2.trans c2
    obtain ⟨f1, f2, f3, f4⟩ := foundQ_is c4
    have hmb := ml_in (N := N) N1 P1.got
    have hml : ml N P1.got = (sn : Int) := by rw [hlen]; exact f1.symm
    rw [hml] at hmb
    have hpos : 0 < sn := by omega
    have hsm : sn ≤ 1000 := by omega
    have HML := Lib.hid hml
    have HC2 := Lib.hid c3
    have HST1 : Hid (P1.own + 1 = (sn : Int) + 3) := Lib.hid (by rw [hlen]; exact f2)
    have lt1 : decide (P1.sent ≤ P1.got) = false := decide_eq_false (by omega)
    have u1 : IntKind.u32.wrap (s3.own - boot) = P1.got + 1 := by rw [IntKind.wrap_u32]; omega
    have u2 : IntKind.u32.wrap (P1.got + 1) = P1.got + 1 := by rw [IntKind.wrap_u32]; omega
    have u3 : IntKind.u32.wrap P1.got = P1.got := by rw [IntKind.wrap_u32]; omega
    obtain ⟨g, off, cap, hsl, -, -, -, -, -, hcells⟩ := hown.lies hpos
    obtain ⟨rfl, rfl⟩ : sa = some ⟨g, off, none⟩ ∧ sc = cap := by simpa using hsl
    have HCL : Hid (∀ k : Nat, k < sn → X.cell? ⟨g, off + k, none⟩ = some (.int .u32 P1.got) ∧ g ≠ pb) := Lib.hid (fun k hk => by
      have hx : d.data[k]? = some P1.got := by
        have hk2 : k < d.data.length := by omega
        rw [List.getElem?_eq_getElem hk2]
        exact congrArg some (f4 _ (List.getElem_mem hk2))
      have hxw : (wcells d.data)[k]? = some (.int .u32 P1.got) := by unfold wcells; rw [List.getElem?_map, hx]; rfl
      exact ⟨hcells k _ hxw, fun e => HNG.out g rfl (by rw [e]; exact HP1.out.pe.1)⟩)
    clear c1 c2 c3 c4 c5 e1 e0 e2 e3 e4 hlen hown h32 hcells hsl f1 f2 f3 f4 hml HQ HOW
    go_wp2_with fail
    refine (HOWN.out _ (((Only.refl (fun k => k = pb) X).set (p := ⟨pb, 16, none⟩) rfl _))).mono ?_
    rintro e wz ⟨rfl, rfl⟩
    go_wp2
    obtain ⟨X1, HX1⟩ : ∃ u, Hid (u = ((((((X).setCell ⟨pb, 16, none⟩ (.int .i64 (P1.own + 1)))).setCell ⟨pb, 11, none⟩ (.int .u32 s3.own))).setCell ⟨pb, 9, none⟩ (.pointer none))) := ⟨_, rfl⟩
    rw [← HX1.out]
    have HXB1 : Hid (X1.heap[pb]? = some (.cells (qpV (x) (mb) (bb) ((pqW P1.s sq)) (.pointer none) (P1.tail) (s3.own) (P1.sent) (P1.got) (P1.n) (P1.steps) (P1.own + 1)) 75 (0, 0))) := Lib.hid (by rw [HX1.out]; exact (blk_put (o := 9) (v := .pointer none) (blk_put (o := 11) (v := .int .u32 s3.own) (blk_put (o := 16) (v := .int .i64 (P1.own + 1)) HXB.out rfl) rfl) rfl))
    have HO1X : Hid (Only (fun k => k = pb) X X1) := Lib.hid (by rw [HX1.out]; exact ((((Only.refl (fun k => k = pb) X).set (p := ⟨pb, 16, none⟩) rfl _).set (p := ⟨pb, 11, none⟩) rfl _).set (p := ⟨pb, 9, none⟩) rfl _))
    have HQ1 := Lib.hid (HSD.out.quo.dropped (og' := none) HO1X.out HP1.out.pe (.inl rfl) (.inr rfl))
    have h4 := HCH.out X1 HQ1.out.below
    have h1 : X1.cell? ⟨tb, 1, none⟩ = some (.int .i64 0) := cell_of_blk (w := X) (cell_blk HSD.out.box rfl) (HO1X.out.block tb (Array.getElem?_eq_some_iff.1 HSD.out.box).1 hne1)
    have h2 : X1.cell? ⟨tb, 2, none⟩ = some (.slice (some ⟨g, off, none⟩) sn sc) := cell_of_blk (w := X) (cell_blk HSD.out.box rfl) (HO1X.out.block tb (Array.getElem?_eq_some_iff.1 HSD.out.box).1 hne1)
    clear x9 x11 x12 x13 x16 d0 d1 d2 g13
    have q1 : ∀ p : Regrown, (grow (redrawn X1 p.d) p.os).cell? ⟨pb, 1, none⟩ = some (.slice (some ⟨b, o, none⟩) 1 x.cc) := fun p => cell_regrown (by rw [← HCA.out]; exact cell_blk HXB1.out rfl) p.d p.os
    have q12 : ∀ p : Regrown, (grow (redrawn X1 p.d) p.os).cell? ⟨pb, 12, none⟩ = some (.int .i64 P1.sent) := fun p => cell_regrown (cell_blk HXB1.out rfl) p.d p.os
    have q13 : ∀ p : Regrown, (grow (redrawn X1 p.d) p.os).cell? ⟨pb, 13, none⟩ = some (.int .i64 P1.got) := fun p => cell_regrown (cell_blk HXB1.out rfl) p.d p.os
    have q16 : ∀ p : Regrown, (grow (redrawn X1 p.d) p.os).cell? ⟨pb, 16, none⟩ = some (.int .i64 ((sn : Int) + 3)) := fun p => cell_regrown (by have q := cell_blk HXB1.out (i := 16) rfl; rw [HST1.out] at q; exact q) p.d p.os
    have q20 : ∀ p : Regrown, (grow (redrawn X1 p.d) p.os).cell? ⟨b, o + 3, none⟩ = some (.int .i64 (N : Int)) := fun p => cell_regrown h4.1 p.d p.os
    have q22 : ∀ p : Regrown, (grow (redrawn X1 p.d) p.os).cell? ⟨tb, 1, none⟩ = some (.int .i64 0) := fun p => cell_regrown h1 p.d p.os
    have hbc := Below.refl X1.heap.size X1
    have HSZ := Lib.hid (fun (d : Nat) (os : Array Obj) => Calls.regrown_of (((sizeQ_b N x.cc pb b o P1.got (grow (redrawn X1 d) os) (by omega) (by omega) (q1 ⟨d, os⟩) (by have := q20 ⟨d, os⟩; simpa using this))).mono (fun e w' h => ⟨h.1, by rw [h.2]; exact Below.refl _ _⟩)))
    rw [HML.out] at HSZ
    with_reducible refine wp_on hbc (by kernel_rfl) (by kernel_rfl) ?_
    (repeat (go_big_quiet_step (first | exact HSZ.out _ _)))
    with_reducible refine wpQuiet_nil ?_
    intro wc hbc
    have HBC := Lib.hid ((hbc.block pb (Array.getElem?_eq_some_iff.1 HXB1.out).1).trans HXB1.out)
    have HOC : Hid (Only (fun k => k = pb) X wc) := Lib.hid (HO1X.out.trans (Only.of_below (S := fun k => k = pb) hbc))
    have HCLC : Hid (∀ k : Nat, k < sn → wc.cell? ⟨g, off + k, none⟩ = some (.int .u32 P1.got)) := Lib.hid (fun k hk => by
      have hx := HCL.out k hk
      exact cell_of_blk hx.1 (HOC.out.block g (World.block_lt_of_cell? X ⟨g, off + k, none⟩ hx.1) hx.2))
    have x13 : wc.cell? ⟨pb, 13, none⟩ = some (.int .i64 P1.got) := cell_blk HBC.out rfl
    have g13 := blk_frozen 13 HBC.out
    clear q1 q12 q13 q16 q20 q22 hbc h4 h1 h2 lt1
    go_wp2
    go_loopw [134] (fun ix wr => ∃ k : Nat, k ≤ sn ∧ ix = .int .i64 k ∧ wc = wr) (fun ix _ => sn - (intOf ix).toNat)
    case atStart => exact ⟨0, Nat.zero_le _, rfl, rfl⟩
    case round =>
      obtain ⟨k, hk, rfl, rfl⟩ := hrel
      by_cases hkl : k < sn
      · have yk := HCLC.out k hkl
        go_wp2
        go_roundw
        case rel => exact ⟨k + 1, by omega, by go_num, by trivial⟩
        case measure => simp [intOf]; omega
      · obtain rfl : k = sn := by omega
        clear hkl
        go_wp2
        obtain ⟨X2, HX2⟩ : ∃ u, Hid (u = ((wc).setCell ⟨pb, 13, none⟩ (.int .i64 (P1.got + 1)))) := ⟨_, rfl⟩
        rw [← HX2.out]
        have HXB2 : Hid (X2.heap[pb]? = some (.cells (qpV (x) (mb) (bb) ((pqW P1.s sq)) (.pointer none) (P1.tail) (s3.own) (P1.sent) (P1.got + 1) (P1.n) (P1.steps) (P1.own + 1)) 75 (0, 0))) := Lib.hid (by rw [HX2.out]; exact (blk_put (o := 13) (v := .int .i64 (P1.got + 1)) HBC.out rfl))
        have HOX2 : Hid (Only (fun k => k = pb) X X2) := Lib.hid (by rw [HX2.out]; exact HOC.out.trans ((Only.refl (fun k => k = pb) wc).set (p := ⟨pb, 13, none⟩) rfl _))
        have HQ2 := Lib.hid (HSD.out.quo.dropped (og' := none) HOX2.out HP1.out.pe (.inl rfl) (.inr rfl))
        have h4 := (HCH.out X2 HQ2.out.below).2
        clear x13 g13
        have q1 : ∀ p : Regrown, (grow (redrawn X2 p.d) p.os).cell? ⟨pb, 1, none⟩ = some (.slice (some ⟨b, o, none⟩) 1 x.cc) := fun p => cell_regrown (by rw [← HCA.out]; exact cell_blk HXB2.out rfl) p.d p.os
        have q11 : ∀ p : Regrown, (grow (redrawn X2 p.d) p.os).cell? ⟨pb, 11, none⟩ = some (.int .u32 s3.own) := fun p => cell_regrown (cell_blk HXB2.out rfl) p.d p.os
        have q13 : ∀ p : Regrown, (grow (redrawn X2 p.d) p.os).cell? ⟨pb, 13, none⟩ = some (.int .i64 (P1.got + 1)) := fun p => cell_regrown (cell_blk HXB2.out rfl) p.d p.os
        have q20 : ∀ p : Regrown, (grow (redrawn X2 p.d) p.os).cell? ⟨b, o + 6, none⟩ = some (.int .u32 boot) := fun p => cell_regrown h4 p.d p.os
        have hbc := Below.refl X2.heap.size X2
        with_reducible refine wp_on hbc (by kernel_rfl) (by kernel_rfl) ?_
        (repeat (go_big_quiet_step (fail)))
        with_reducible refine wpQuiet_nil ?_
        intro wd hbd
        have HBC := (hbd.block pb (Array.getElem?_eq_some_iff.1 HXB2.out).1).trans HXB2.out
        have hof : Only (fun k => k = pb) X wd := HOX2.out.trans (Only.of_below (S := fun k => k = pb) hbd)
        clear q1 q11 q13 q20
        go_wp2
        go_ret
        first | refine ⟨rfl, rq1, ?_, fin_onlyQ HO1.out HSD.out.only hof HP1.out.pe.2⟩ | refine ⟨rfl, ⟨rq1, ?_⟩, fin_onlyQ HO1.out HSD.out.only hof HP1.out.pe.2⟩
        rw [HPW.out, HC2.out]
        exact ⟨HBC, ⟨bs, HSD.out.quo.dropped hof HP1.out.pe (.inl rfl) (.inr rfl), HBS.out.1, HBS.out.2⟩, HP1.out.pe, HP1.out.cfg, HP1.out.nn, (by show 0 ≤ P1.n ∧ P1.n ≤ ((K + 1 : Nat) : Int) ∧ 0 ≤ P1.steps ∧ P1.steps ≤ ((K + 1 : Nat) : Int) ∧ 0 ≤ P1.own + 1 ∧ P1.own + 1 ≤ ((K + 1 : Nat) : Int) ∧ 0 ≤ P1.sent ∧ P1.sent ≤ ((K + 1 : Nat) : Int) ∧ 0 ≤ P1.got + 1 ∧ P1.got + 1 ≤ ((K + 1 : Nat) : Int); omega), ⟨HP1.out.u32.1, HP1.out.u32.2.1, HW5.out.2.1, HW5.out.2.2⟩⟩
  · obtain ⟨c1, c2, c3⟩ := hc
    obtain rfl : dn = false := e1.trans c1
    have HC2 := Lib.hid c2
    have c40 : decide (P1.own + 1 < 40) = true := decide_eq_true c3
    clear c1 c2 c3 e1 e0 e2 e3 e4 hlen hown h32
    go_wp2
    go_ret
    have hof : Only (fun k => k = pb) X ((X).setCell ⟨pb, 16, none⟩ (.int .i64 (P1.own + 1))) := ((Only.refl (fun k => k = pb) X).set (p := ⟨pb, 16, none⟩) rfl _)
    first | refine ⟨rfl, rq1, ?_, fin_onlyQ HO1.out HSD.out.only hof HP1.out.pe.2⟩ | refine ⟨rfl, ⟨rq1, ?_⟩, fin_onlyQ HO1.out HSD.out.only hof HP1.out.pe.2⟩
    rw [HPW.out, HC2.out]
    exact ⟨(blk_put (o := 16) (v := .int .i64 (P1.own + 1)) HXB.out rfl), ⟨bs, HSD.out.quo.dropped hof HP1.out.pe (.inl rfl) (.inl rfl), HBS.out.1, HBS.out.2⟩, HP1.out.pe, HP1.out.cfg, HP1.out.nn, (by show 0 ≤ P1.n ∧ P1.n ≤ ((K + 1 : Nat) : Int) ∧ 0 ≤ P1.steps ∧ P1.steps ≤ ((K + 1 : Nat) : Int) ∧ 0 ≤ P1.own + 1 ∧ P1.own + 1 ≤ ((K + 1 : Nat) : Int) ∧ 0 ≤ P1.sent ∧ P1.sent ≤ ((K + 1 : Nat) : Int) ∧ 0 ≤ P1.got ∧ P1.got ≤ ((K + 1 : Nat) : Int); omega), HP1.out.u32⟩
  · obtain ⟨c1, c2, c3, c4, c5, c6⟩ := hc
    obtain rfl : dn = true := e1.trans c1
    obtain rfl : cd = 2 := e2.trans c2
    obtain rfl : sn = 0 := by rw [hlen, c6]; rfl
    have HC2 := Lib.hid c3
    have HST1 := Lib.hid c4; have HSG := Lib.hid c5
    clear c1 c2 c3 c4 c5 c6 e1 e0 e2 e3 e4 hlen hown h32
    go_wp2_with fail
    refine (HOWN.out _ (((Only.refl (fun k => k = pb) X).set (p := ⟨pb, 16, none⟩) rfl _))).mono ?_
    rintro e wz ⟨rfl, rfl⟩
    go_wp2
    obtain ⟨X1, HX1⟩ : ∃ u, Hid (u = ((((((X).setCell ⟨pb, 16, none⟩ (.int .i64 (P1.own + 1)))).setCell ⟨pb, 11, none⟩ (.int .u32 s3.own))).setCell ⟨pb, 9, none⟩ (.pointer none))) := ⟨_, rfl⟩
    rw [← HX1.out]
    have HXB1 : Hid (X1.heap[pb]? = some (.cells (qpV (x) (mb) (bb) ((pqW P1.s sq)) (.pointer none) (P1.tail) (s3.own) (P1.sent) (P1.got) (P1.n) (P1.steps) (P1.own + 1)) 75 (0, 0))) := Lib.hid (by rw [HX1.out]; exact (blk_put (o := 9) (v := .pointer none) (blk_put (o := 11) (v := .int .u32 s3.own) (blk_put (o := 16) (v := .int .i64 (P1.own + 1)) HXB.out rfl) rfl) rfl))
    have HO1X : Hid (Only (fun k => k = pb) X X1) := Lib.hid (by rw [HX1.out]; exact ((((Only.refl (fun k => k = pb) X).set (p := ⟨pb, 16, none⟩) rfl _).set (p := ⟨pb, 11, none⟩) rfl _).set (p := ⟨pb, 9, none⟩) rfl _))
    have HQ1 := Lib.hid (HSD.out.quo.dropped (og' := none) HO1X.out HP1.out.pe (.inl rfl) (.inr rfl))
    have h4 := HCH.out X1 HQ1.out.below
    have h1 : X1.cell? ⟨tb, 1, none⟩ = some (.int .i64 2) := cell_of_blk (w := X) (cell_blk HSD.out.box rfl) (HO1X.out.block tb (Array.getElem?_eq_some_iff.1 HSD.out.box).1 hne1)
    have h2 : X1.cell? ⟨tb, 2, none⟩ = some (.slice sa 0 sc) := cell_of_blk (w := X) (cell_blk HSD.out.box rfl) (HO1X.out.block tb (Array.getElem?_eq_some_iff.1 HSD.out.box).1 hne1)
    clear x9 x11 x12 x13 x16 d0 d1 d2 g13
    have q12 : ∀ p : Regrown, (grow (redrawn X1 p.d) p.os).cell? ⟨pb, 12, none⟩ = some (.int .i64 P1.got) := fun p => cell_regrown (by have q := cell_blk HXB1.out (i := 12) rfl; rw [HSG.out] at q; exact q) p.d p.os
    have q13 : ∀ p : Regrown, (grow (redrawn X1 p.d) p.os).cell? ⟨pb, 13, none⟩ = some (.int .i64 P1.got) := fun p => cell_regrown (cell_blk HXB1.out rfl) p.d p.os
    have q16 : ∀ p : Regrown, (grow (redrawn X1 p.d) p.os).cell? ⟨pb, 16, none⟩ = some (.int .i64 1) := fun p => cell_regrown (by have q := cell_blk HXB1.out (i := 16) rfl; rw [HST1.out] at q; exact q) p.d p.os
    have q22 : ∀ p : Regrown, (grow (redrawn X1 p.d) p.os).cell? ⟨tb, 1, none⟩ = some (.int .i64 2) := fun p => cell_regrown h1 p.d p.os
    have q23 : ∀ p : Regrown, (grow (redrawn X1 p.d) p.os).cell? ⟨tb, 2, none⟩ = some (.slice sa 0 sc) := fun p => cell_regrown h2 p.d p.os
    have hbc := Below.refl X1.heap.size X1
    with_reducible refine wp_on hbc (by kernel_rfl) (by kernel_rfl) ?_
    (repeat (go_big_quiet_step (fail)))
    with_reducible refine wpQuiet_nil ?_
    intro wc hbc
    clear q12 q13 q16 q22 q23
    go_wp2
    go_ret
    have HBC := (hbc.block pb (Array.getElem?_eq_some_iff.1 HXB1.out).1).trans HXB1.out
    have hof : Only (fun k => k = pb) X wc := HO1X.out.trans (Only.of_below (S := fun k => k = pb) hbc)
    first | refine ⟨rfl, rq1, ?_, fin_onlyQ HO1.out HSD.out.only hof HP1.out.pe.2⟩ | refine ⟨rfl, ⟨rq1, ?_⟩, fin_onlyQ HO1.out HSD.out.only hof HP1.out.pe.2⟩
    rw [HPW.out, HC2.out]
    exact ⟨HBC, ⟨bs, HSD.out.quo.dropped hof HP1.out.pe (.inl rfl) (.inr rfl), HBS.out.1, HBS.out.2⟩, HP1.out.pe, HP1.out.cfg, HP1.out.nn, (by show 0 ≤ P1.n ∧ P1.n ≤ ((K + 1 : Nat) : Int) ∧ 0 ≤ P1.steps ∧ P1.steps ≤ ((K + 1 : Nat) : Int) ∧ 0 ≤ P1.own + 1 ∧ P1.own + 1 ≤ ((K + 1 : Nat) : Int) ∧ 0 ≤ P1.sent ∧ P1.sent ≤ ((K + 1 : Nat) : Int) ∧ 0 ≤ P1.got ∧ P1.got ≤ ((K + 1 : Nat) : Int); omega), ⟨HP1.out.u32.1, HP1.out.u32.2.1, HW5.out.2.1, HW5.out.2.2⟩⟩
  · obtain ⟨c1, c2, c3, c4, c5⟩ := hc
    obtain rfl : dn = true := e1.trans c1
    obtain rfl : cd = 0 := e2.trans c2
    obtain ⟨f1, f2, f3, f4⟩ := foundQ_is c4
    have hmb := ml_in (N := N) N1 P1.got
    have hml : ml N P1.got = (sn : Int) := by rw [hlen]; exact f1.symm
    rw [hml] at hmb
    have hpos : 0 < sn := by omega
    have hsm : sn ≤ 1000 := by omega
    have HML := Lib.hid hml
    have HC2 := Lib.hid c3
    have HST1 : Hid (P1.own + 1 = (sn : Int) + 3) := Lib.hid (by rw [hlen]; exact f2)
    have lt1 : decide (P1.sent ≤ P1.got) = false := decide_eq_false (by omega)
    have u1 : IntKind.u32.wrap (s3.own - boot) = P1.got + 1 := by rw [IntKind.wrap_u32]; omega
    have u2 : IntKind.u32.wrap (P1.got + 1) = P1.got + 1 := by rw [IntKind.wrap_u32]; omega
    have u3 : IntKind.u32.wrap P1.got = P1.got := by rw [IntKind.wrap_u32]; omega
    obtain ⟨g, off, cap, hsl, -, -, -, -, -, hcells⟩ := hown.lies hpos
    obtain ⟨rfl, rfl⟩ : sa = some ⟨g, off, none⟩ ∧ sc = cap := by simpa using hsl
    have HCL : Hid (∀ k : Nat, k < sn → X.cell? ⟨g, off + k, none⟩ = some (.int .u32 P1.got) ∧ g ≠ pb) := Lib.hid (fun k hk => by
      have hx : d.data[k]? = some P1.got := by
        have hk2 : k < d.data.length := by omega
        rw [List.getElem?_eq_getElem hk2]
        exact congrArg some (f4 _ (List.getElem_mem hk2))
      have hxw : (wcells d.data)[k]? = some (.int .u32 P1.got) := by unfold wcells; rw [List.getElem?_map, hx]; rfl
      exact ⟨hcells k _ hxw, fun e => HNG.out g rfl (by rw [e]; exact HP1.out.pe.1)⟩)
    clear c1 c2 c3 c4 c5 e1 e0 e2 e3 e4 hlen hown h32 hcells hsl f1 f2 f3 f4 hml HQ HOW
    go_wp2_with fail
    refine (HOWN.out _ (((Only.refl (fun k => k = pb) X).set (p := ⟨pb, 16, none⟩) rfl _))).mono ?_
    rintro e wz ⟨rfl, rfl⟩
    go_wp2
    obtain ⟨X1, HX1⟩ : ∃ u, Hid (u = ((((((X).setCell ⟨pb, 16, none⟩ (.int .i64 (P1.own + 1)))).setCell ⟨pb, 11, none⟩ (.int .u32 s3.own))).setCell ⟨pb, 9, none⟩ (.pointer none))) := ⟨_, rfl⟩
    rw [← HX1.out]
    have HXB1 : Hid (X1.heap[pb]? = some (.cells (qpV (x) (mb) (bb) ((pqW P1.s sq)) (.pointer none) (P1.tail) (s3.own) (P1.sent) (P1.got) (P1.n) (P1.steps) (P1.own + 1)) 75 (0, 0))) := Lib.hid (by rw [HX1.out]; exact (blk_put (o := 9) (v := .pointer none) (blk_put (o := 11) (v := .int .u32 s3.own) (blk_put (o := 16) (v := .int .i64 (P1.own + 1)) HXB.out rfl) rfl) rfl))
    have HO1X : Hid (Only (fun k => k = pb) X X1) := Lib.hid (by rw [HX1.out]; exact ((((Only.refl (fun k => k = pb) X).set (p := ⟨pb, 16, none⟩) rfl _).set (p := ⟨pb, 11, none⟩) rfl _).set (p := ⟨pb, 9, none⟩) rfl _))
    have HQ1 := Lib.hid (HSD.out.quo.dropped (og' := none) HO1X.out HP1.out.pe (.inl rfl) (.inr rfl))
    have h4 := HCH.out X1 HQ1.out.below
    have h1 : X1.cell? ⟨tb, 1, none⟩ = some (.int .i64 0) := cell_of_blk (w := X) (cell_blk HSD.out.box rfl) (HO1X.out.block tb (Array.getElem?_eq_some_iff.1 HSD.out.box).1 hne1)
    have h2 : X1.cell? ⟨tb, 2, none⟩ = some (.slice (some ⟨g, off, none⟩) sn sc) := cell_of_blk (w := X) (cell_blk HSD.out.box rfl) (HO1X.out.block tb (Array.getElem?_eq_some_iff.1 HSD.out.box).1 hne1)
    clear x9 x11 x12 x13 x16 d0 d1 d2 g13
    have q1 : ∀ p : Regrown, (grow (redrawn X1 p.d) p.os).cell? ⟨pb, 1, none⟩ = some (.slice (some ⟨b, o, none⟩) 1 x.cc) := fun p => cell_regrown (by rw [← HCA.out]; exact cell_blk HXB1.out rfl) p.d p.os
    have q12 : ∀ p : Regrown, (grow (redrawn X1 p.d) p.os).cell? ⟨pb, 12, none⟩ = some (.int .i64 P1.sent) := fun p => cell_regrown (cell_blk HXB1.out rfl) p.d p.os
    have q13 : ∀ p : Regrown, (grow (redrawn X1 p.d) p.os).cell? ⟨pb, 13, none⟩ = some (.int .i64 P1.got) := fun p => cell_regrown (cell_blk HXB1.out rfl) p.d p.os
    have q16 : ∀ p : Regrown, (grow (redrawn X1 p.d) p.os).cell? ⟨pb, 16, none⟩ = some (.int .i64 ((sn : Int) + 3)) := fun p => cell_regrown (by have q := cell_blk HXB1.out (i := 16) rfl; rw [HST1.out] at q; exact q) p.d p.os
    have q20 : ∀ p : Regrown, (grow (redrawn X1 p.d) p.os).cell? ⟨b, o + 3, none⟩ = some (.int .i64 (N : Int)) := fun p => cell_regrown h4.1 p.d p.os
    have q22 : ∀ p : Regrown, (grow (redrawn X1 p.d) p.os).cell? ⟨tb, 1, none⟩ = some (.int .i64 0) := fun p => cell_regrown h1 p.d p.os
    have hbc := Below.refl X1.heap.size X1
    have HSZ := Lib.hid (fun (d : Nat) (os : Array Obj) => Calls.regrown_of (((sizeQ_b N x.cc pb b o P1.got (grow (redrawn X1 d) os) (by omega) (by omega) (q1 ⟨d, os⟩) (by have := q20 ⟨d, os⟩; simpa using this))).mono (fun e w' h => ⟨h.1, by rw [h.2]; exact Below.refl _ _⟩)))
    rw [HML.out] at HSZ
    with_reducible refine wp_on hbc (by kernel_rfl) (by kernel_rfl) ?_
    (repeat (go_big_quiet_step (first | exact HSZ.out _ _)))
    with_reducible refine wpQuiet_nil ?_
    intro wc hbc
    have HBC := Lib.hid ((hbc.block pb (Array.getElem?_eq_some_iff.1 HXB1.out).1).trans HXB1.out)
    have HOC : Hid (Only (fun k => k = pb) X wc) := Lib.hid (HO1X.out.trans (Only.of_below (S := fun k => k = pb) hbc))
    have HCLC : Hid (∀ k : Nat, k < sn → wc.cell? ⟨g, off + k, none⟩ = some (.int .u32 P1.got)) := Lib.hid (fun k hk => by
      have hx := HCL.out k hk
      exact cell_of_blk hx.1 (HOC.out.block g (World.block_lt_of_cell? X ⟨g, off + k, none⟩ hx.1) hx.2))
    have x13 : wc.cell? ⟨pb, 13, none⟩ = some (.int .i64 P1.got) := cell_blk HBC.out rfl
    have g13 := blk_frozen 13 HBC.out
    clear q1 q12 q13 q16 q20 q22 hbc h4 h1 h2 lt1
    go_wp2
    go_loopw [134] (fun ix wr => ∃ k : Nat, k ≤ sn ∧ ix = .int .i64 k ∧ wc = wr) (fun ix _ => sn - (intOf ix).toNat)
    case atStart => exact ⟨0, Nat.zero_le _, rfl, rfl⟩
    case round =>
      obtain ⟨k, hk, rfl, rfl⟩ := hrel
      by_cases hkl : k < sn
      · have yk := HCLC.out k hkl
        go_wp2
        go_roundw
        case rel => exact ⟨k + 1, by omega, by go_num, by trivial⟩
        case measure => simp [intOf]; omega
      · obtain rfl : k = sn := by omega
        clear hkl
        go_wp2
        obtain ⟨X2, HX2⟩ : ∃ u, Hid (u = ((wc).setCell ⟨pb, 13, none⟩ (.int .i64 (P1.got + 1)))) := ⟨_, rfl⟩
        rw [← HX2.out]
        have HXB2 : Hid (X2.heap[pb]? = some (.cells (qpV (x) (mb) (bb) ((pqW P1.s sq)) (.pointer none) (P1.tail) (s3.own) (P1.sent) (P1.got + 1) (P1.n) (P1.steps) (P1.own + 1)) 75 (0, 0))) := Lib.hid (by rw [HX2.out]; exact (blk_put (o := 13) (v := .int .i64 (P1.got + 1)) HBC.out rfl))
        have HOX2 : Hid (Only (fun k => k = pb) X X2) := Lib.hid (by rw [HX2.out]; exact HOC.out.trans ((Only.refl (fun k => k = pb) wc).set (p := ⟨pb, 13, none⟩) rfl _))
        have HQ2 := Lib.hid (HSD.out.quo.dropped (og' := none) HOX2.out HP1.out.pe (.inl rfl) (.inr rfl))
        have h4 := (HCH.out X2 HQ2.out.below).2
        clear x13 g13
        have q1 : ∀ p : Regrown, (grow (redrawn X2 p.d) p.os).cell? ⟨pb, 1, none⟩ = some (.slice (some ⟨b, o, none⟩) 1 x.cc) := fun p => cell_regrown (by rw [← HCA.out]; exact cell_blk HXB2.out rfl) p.d p.os
        have q11 : ∀ p : Regrown, (grow (redrawn X2 p.d) p.os).cell? ⟨pb, 11, none⟩ = some (.int .u32 s3.own) := fun p => cell_regrown (cell_blk HXB2.out rfl) p.d p.os
        have q13 : ∀ p : Regrown, (grow (redrawn X2 p.d) p.os).cell? ⟨pb, 13, none⟩ = some (.int .i64 (P1.got + 1)) := fun p => cell_regrown (cell_blk HXB2.out rfl) p.d p.os
        have q20 : ∀ p : Regrown, (grow (redrawn X2 p.d) p.os).cell? ⟨b, o + 6, none⟩ = some (.int .u32 boot) := fun p => cell_regrown h4 p.d p.os
        have hbc := Below.refl X2.heap.size X2
        with_reducible refine wp_on hbc (by kernel_rfl) (by kernel_rfl) ?_
        (repeat (go_big_quiet_step (fail)))
        with_reducible refine wpQuiet_nil ?_
        intro wd hbd
        have HBC := (hbd.block pb (Array.getElem?_eq_some_iff.1 HXB2.out).1).trans HXB2.out
        have hof : Only (fun k => k = pb) X wd := HOX2.out.trans (Only.of_below (S := fun k => k = pb) hbd)
        clear q1 q11 q13 q20
        go_wp2
        go_ret
        first | refine ⟨rfl, rq1, ?_, fin_onlyQ HO1.out HSD.out.only hof HP1.out.pe.2⟩ | refine ⟨rfl, ⟨rq1, ?_⟩, fin_onlyQ HO1.out HSD.out.only hof HP1.out.pe.2⟩
        rw [HPW.out, HC2.out]
        exact ⟨HBC, ⟨bs, HSD.out.quo.dropped hof HP1.out.pe (.inl rfl) (.inr rfl), HBS.out.1, HBS.out.2⟩, HP1.out.pe, HP1.out.cfg, HP1.out.nn, (by show 0 ≤ P1.n ∧ P1.n ≤ ((K + 1 : Nat) : Int) ∧ 0 ≤ P1.steps ∧ P1.steps ≤ ((K + 1 : Nat) : Int) ∧ 0 ≤ P1.own + 1 ∧ P1.own + 1 ≤ ((K + 1 : Nat) : Int) ∧ 0 ≤ P1.sent ∧ P1.sent ≤ ((K + 1 : Nat) : Int) ∧ 0 ≤ P1.got + 1 ∧ P1.got + 1 ≤ ((K + 1 : Nat) : Int); omega), ⟨HP1.out.u32.1, HP1.out.u32.2.1, HW5.out.2.1, HW5.out.2.2⟩⟩
end
end Go.Proofs.YtfdgokkngejbhaaGreat
