/- Texts of the ring, joined, what is used of them. No condition but those in the statements. -/
import Derived.BigQuiet
import Derived.BigRegion
import Derived.Deep.MidRow
import Derived.Deep.RegionHeld3
import Derived.Deep.Upon
import Derived.IntWalk
import Derived.Shelf.Abstract
import Derived.Test.YtfdgokkngejbhaaGreatQgG
namespace Go.Proofs.YtfdgokkngejbhaaGreat
open Go.RowKit Go.Sort
set_option linter.unusedVariables false
set_option linter.unusedSimpArgs false
set_option linter.unusedVariables false
set_option linter.unusedSimpArgs false
open Go.Proofs.YtfdgokkngejbhaaGreat.Simp
set_option maxRecDepth 100000
set_option maxHeartbeats 12800000
section
variable {W w w' : World} {E : Nat → Prop} {pb mb rb bb br N D K sq rq : Nat} {boot : Int} {x : CfgAt} {P : Ql}
theorem sendS_b (h : PQAt W w E pb mb rb bb br N D boot x (K) (P) sq rq) (hK : K ≤ 90000) (hok : (playS N D P).2 = true) {s : QS} (hw : P.s = some s) : Calls Tryz.prog 30 #[.pointer (some ⟨pb, 0, none⟩)] w fun e w' => e = .returned (.bool true) ∧ ∃ sq', PQAt W w' E pb mb rb bb br N D boot x (K + 1) ((playS N D P).1) sq' rq ∧ Only (fun k => (¬ E k ∨ k = pb) ∧ W.heap.size ≤ k) w w' := by
  have g8 : w.cell? ⟨pb, 8, none⟩ = some (pqW P.s sq) := cell_blk h.blk rfl
  rw [hw] at g8
  have h8 : w.cell? ⟨pb, 8, none⟩ = some (.pointer (some ⟨sq, 0, none⟩)) := g8
  obtain ⟨w1, hw1⟩ : ∃ u, u = w := ⟨_, rfl⟩
  obtain ⟨sq1, hq1⟩ : ∃ u, u = sq := ⟨_, rfl⟩
  obtain ⟨P1, hP1⟩ : ∃ u, u = P := ⟨_, rfl⟩
  have hpw : playS N D P = sd1 N D P1 s := by unfold playS; rw [hw, hP1]
  have HOK : Hid ((sd1 N D P1 s).2 = true) := Lib.hid (by rw [← hpw]; exact hok)
  have HPW := Lib.hid hpw
  rw [← hw1, ← hq1] at h8
  rw [← hw1, ← hq1, ← hP1] at h
  rw [← hP1] at hw
  have HP1 := Lib.hid h; have HS1 := Lib.hid hw
  have HO1 : Hid (Only (fun k => (¬ E k ∨ k = pb) ∧ W.heap.size ≤ k) w1 w1) := Lib.hid (Only.refl _ _)
  obtain ⟨bs, hqu, hbl, hbb⟩ := h.quo
  have HDU : Hid (Quo W w1 W.heap.size E mb rb bb br (qr2 N D) 1 P1.m bs (some (sq1, s)) (atQ P1.r rq)) := Lib.hid (by have q := hqu; rw [hw] at q; exact q)
  have HBS := Lib.hid (And.intro hbl hbb)
  rw [← hw1]
  clear g8 hw1 hq1 hP1 h hw hok hpw hqu hbl hbb
  go_enter Tryz.func30, Tryz.ntmps30
  have HPB : Hid (w1.heap[pb]? = some (.cells (qpV (x) (mb) (bb) ((.pointer (some ⟨sq1, 0, none⟩))) ((pqW P1.r rq)) (P1.tail) (P1.head) (P1.sent) (P1.got) (P1.n) (P1.steps) (P1.own)) 75 (0, 0))) := Lib.hid (by have q := HP1.out.blk; rw [HS1.out] at q; exact q)
  have HEL : Hid (∀ k, E k → k < w1.drew.heap.size) := Lib.hid (fun k hk => by obtain ⟨_, _, _, _, h3, _⟩ := HDU.out.two; exact (h3 k hk).2.2.2)
  have HPE : Hid (E pb ∧ pb < w1.drew.heap.size ∧ W.heap.size ≤ w1.drew.heap.size) := Lib.hid ⟨HP1.out.pe.1, HP1.out.lt, HDU.out.below.size⟩
  have HST := Lib.hid (fun (W' : World) (h : Below w1.drew.heap.size w1.drew W') => (HDU.out.only (T := fun _ => False) ((Only.refl _ w1).drew.trans (Only.of_below h)) (fun _ _ h => h.elim) (E' := fun k => E k ∨ (w1.drew.heap.size ≤ k ∧ k < W'.heap.size)) (fun k h => h)).stS 0)
  have h8' : w1.cell? ⟨pb, 8, none⟩ = some (.pointer (some ⟨sq1, 0, none⟩)) := cell_blk HPB.out rfl
  (try clear h8)
  go_wp2
  clear h8'
  refine wp_region_held_drew (S := (fun W' => W'.cell? ⟨pb, 8, none⟩ = some (.pointer (some ⟨sq1, 0, none⟩)) ∧ W'.cell? ⟨pb, 6, none⟩ = some (.pointer (some ⟨mb, 0, none⟩)) ∧ W'.cell? ⟨pb, 7, none⟩ = some (.pointer (some ⟨bb, 0, none⟩)))) (by kernel_rfl) (keepP3 (show w1.drew.heap[pb]? = _ from HPB.out) rfl rfl rfl) (fun hHeld => ?_)
  refine wpAnyH_take (i := 0) rfl (by kernel_rfl) (by kernel_rfl) (by kernel_rfl) (fun _ _ _ h => h) (Or.inl ⟨by rfl, by intro w hSw; (skip); (go_simp <;> with_reducible rfl)⟩) (by assumption) ?_
  (try simp only [Act.put, List.setIfInBounds_toArray, List.set_cons_zero, List.set_cons_succ, List.getElem_toArray, List.getElem_cons_zero, List.getElem_cons_succ])
  refine wpAnyH_take (i := 1) rfl (by kernel_rfl) (by kernel_rfl) (by kernel_rfl) (fun _ _ _ h => h) (Or.inl ⟨by rfl, by intro w hSw; (skip); (go_simp <;> with_reducible rfl)⟩) (by assumption) ?_
  (try simp only [Act.put, List.setIfInBounds_toArray, List.set_cons_zero, List.set_cons_succ, List.getElem_toArray, List.getElem_cons_zero, List.getElem_cons_succ])
  refine wpAnyH_take (i := 2) rfl (by kernel_rfl) (by kernel_rfl) (by kernel_rfl) (fun _ _ _ h => h) (Or.inl ⟨by rfl, by intro w hSw; (skip); (go_simp <;> with_reducible rfl)⟩) (by assumption) ?_
  (try simp only [Act.put, List.setIfInBounds_toArray, List.set_cons_zero, List.set_cons_succ, List.getElem_toArray, List.getElem_cons_zero, List.getElem_cons_succ])
  refine wpAnyH_take (i := 3) rfl (by kernel_rfl) (by kernel_rfl) (by kernel_rfl) (fun _ _ _ h => h) (Or.inl ⟨by rfl, by intro w hSw; (skip); (go_simp <;> with_reducible rfl)⟩) (by assumption) ?_
  (try simp only [Act.put, List.setIfInBounds_toArray, List.set_cons_zero, List.set_cons_succ, List.getElem_toArray, List.getElem_cons_zero, List.getElem_cons_succ])
  refine wpAnyH_take (i := 4) rfl (by kernel_rfl) (by kernel_rfl) (by kernel_rfl) (fun _ _ _ h => h) (Or.inl ⟨by rfl, by intro w hSw; (skip); (go_simp <;> with_reducible rfl)⟩) (by assumption) ?_
  (try simp only [Act.put, List.setIfInBounds_toArray, List.set_cons_zero, List.set_cons_succ, List.getElem_toArray, List.getElem_cons_zero, List.getElem_cons_succ])
  refine wpAnyH_take (i := 5) rfl (by kernel_rfl) (by kernel_rfl) (by kernel_rfl) (fun _ _ _ h => h) (Or.inl ⟨by rfl, by intro w hSw; (skip); (go_simp <;> with_reducible rfl)⟩) (by assumption) ?_
  (try simp only [Act.put, List.setIfInBounds_toArray, List.set_cons_zero, List.set_cons_succ, List.getElem_toArray, List.getElem_cons_zero, List.getElem_cons_succ])
  refine wpAnyH_take (i := 6) rfl (by kernel_rfl) (by kernel_rfl) (by kernel_rfl) (fun _ _ _ h => h) (Or.inl ⟨by rfl, by intro w hSw; (skip); (go_simp <;> with_reducible rfl)⟩) (by assumption) ?_
  (try simp only [Act.put, List.setIfInBounds_toArray, List.set_cons_zero, List.set_cons_succ, List.getElem_toArray, List.getElem_cons_zero, List.getElem_cons_succ])
  refine wpAnyH_take (i := 7) rfl (by kernel_rfl) (by kernel_rfl) (by kernel_rfl) (fun _ _ _ h => h) (Or.inl ⟨by rfl, by intro w hSw; (skip); (go_simp <;> with_reducible rfl)⟩) (by assumption) ?_
  (try simp only [Act.put, List.setIfInBounds_toArray, List.set_cons_zero, List.set_cons_succ, List.getElem_toArray, List.getElem_cons_zero, List.getElem_cons_succ])
  refine wpAnyH_take (i := 8) rfl (by kernel_rfl) (by kernel_rfl) (by kernel_rfl) (fun _ _ _ h => h) (Or.inl ⟨by rfl, by intro w hSw; (skip); (go_simp <;> with_reducible rfl)⟩) (by assumption) ?_
  (try simp only [Act.put, List.setIfInBounds_toArray, List.set_cons_zero, List.set_cons_succ, List.getElem_toArray, List.getElem_cons_zero, List.getElem_cons_succ])
  refine wpAnyH_take (i := 9) rfl (by kernel_rfl) (by kernel_rfl) (by kernel_rfl) (fun _ _ _ h => h) (Or.inl ⟨by rfl, by intro w hSw; (skip); (go_simp <;> with_reducible rfl)⟩) (by assumption) ?_
  (try simp only [Act.put, List.setIfInBounds_toArray, List.set_cons_zero, List.set_cons_succ, List.getElem_toArray, List.getElem_cons_zero, List.getElem_cons_succ])
  refine wpAnyH_take (i := 10) rfl (by kernel_rfl) (by kernel_rfl) (by kernel_rfl) (fun _ _ _ h => h) (Or.inl ⟨by rfl, by intro w hSw; (skip); (go_simp <;> with_reducible rfl)⟩) (by assumption) ?_
  (try simp only [Act.put, List.setIfInBounds_toArray, List.set_cons_zero, List.set_cons_succ, List.getElem_toArray, List.getElem_cons_zero, List.getElem_cons_succ])
  refine wpAnyH_take (i := 11) rfl (by kernel_rfl) (by kernel_rfl) (by kernel_rfl) (fun _ _ _ h => h) (Or.inl ⟨by rfl, by intro w hSw; (skip); (go_simp <;> with_reducible rfl)⟩) (by assumption) ?_
  (try simp only [Act.put, List.setIfInBounds_toArray, List.set_cons_zero, List.set_cons_succ, List.getElem_toArray, List.getElem_cons_zero, List.getElem_cons_succ])
  refine wpAnyH_ready (rs := [12, 13]) (by kernel_rfl) (by simp) (AllReadyH.cons rfl (fun K hK => ?_) (AllReadyH.cons rfl (fun K hK => ?_) AllReadyH.nil))
  go_simp
  refine (HST.out _ (Below.refl _ _)).mono ?_
  rintro e w5 ⟨dn, cd, mk, rg, s3, ws3, rfl, hq, hd5, hw5, ho5⟩
  have HQ := Lib.hid hq; have HW5 := Lib.hid hw5
  have hP5 := ho5.at_ (k := pb) (show w1.drew.heap[pb]? = _ from HPB.out) (fun h => h.1 (.inl HPE.out.1))
  clear hq hw5
  refine hK.out _ _ (keepP3 hP5 rfl rfl rfl) (fun hHeld => ?_)
  clear hK K
  (try simp only [Act.put, List.setIfInBounds_toArray, List.set_cons_zero, List.set_cons_succ, List.getElem_toArray, List.getElem_cons_zero, List.getElem_cons_succ])
  refine wpAnyH_ready (rs := [13]) (by kernel_rfl) (by simp) (AllReadyH.cons rfl (fun K hK => ?_) AllReadyH.nil)
  go_simp
  refine hK.out _ _ (keep_alloc3 hHeld) (fun hHeld => ?_)
  clear hK K
  (try simp only [Act.put, List.setIfInBounds_toArray, List.set_cons_zero, List.set_cons_succ, List.getElem_toArray, List.getElem_cons_zero, List.getElem_cons_succ])
  refine wpAnyH_ready (rs := [14]) (by kernel_rfl) (by simp) (AllReadyH.cons rfl (fun K hK => ?_) AllReadyH.nil)
  have hth := there_at (show (w5.alloc (.cells (didV false 0 (.slice none 0 0) false false false 0) 63)).heap[w5.heap.size]? = some (.cells (didV false 0 (.slice none 0 0) false false false 0) 63 (0, 0)) from heap_alloc_new w5 _) (n := (qdV dn cd (.slice none 0 0) 0 mk rg : Array Value).size) rfl
  have hsd : (Tryz.prog.info? 63).map (·.size) = some (qdV dn cd (.slice none 0 0) 0 mk rg : Array Value).size := did_size
  rw [if_pos (by rfl)]
  refine wp_store_mid _ _ _ rfl w5.heap.size 0 (qdV dn cd (.slice none 0 0) 0 mk rg) rfl rfl hth hsd (by kernel_rfl) ?_
  refine hK.out _ _ (keep_box3 hHeld (by have := ho5.size; have := HPE.out.2.1; show w5.heap.size ≠ pb; have : w1.drew.heap.size = w1.heap.size := rfl; omega)) (fun hHeld => ?_)
  clear hK K
  (try simp only [Act.put, List.setIfInBounds_toArray, List.set_cons_zero, List.set_cons_succ, List.getElem_toArray, List.getElem_cons_zero, List.getElem_cons_succ])
  obtain ⟨X, HX⟩ : ∃ X, Hid (X = (w5.alloc (.cells #[.bool false, .int .i64 0, .slice none 0 0, .bool false, .int .i64 0, .bool false, .bool false, .bool false, .int .i64 0] 63)).setCells w5.heap.size 0 [.bool dn, .int .i64 cd, .slice none 0 0, .bool false, .int .i64 0, .bool mk, .bool rg, .bool false, .int .i64 0]) := ⟨_, rfl⟩
  obtain ⟨tb, htb⟩ : ∃ t, t = w5.heap.size := ⟨_, rfl⟩
  have HSD : Hid (SteppedQ W w1.drew X E pb mb rb bb br N D ws3 (ringB12 rg 1 bs) (some (sq1, s3)) (atQ P1.r rq) tb (qdV dn cd (.slice none 0 0) 0 mk rg)) := Lib.hid (by rw [HX.out, htb]; exact SteppedQ.a (w1 := w1.drew) (vs := [.bool dn, .int .i64 cd, .slice none 0 0, .bool false, .int .i64 0, .bool mk, .bool rg, .bool false, .int .i64 0]) HEL.out HPE.out.1 hd5 ho5 rfl)
  refine wpAnyH_done (by kernel_rfl) ?_ _
  rotate_left
  go_simp
  refine hK.out _ _ (keep_alloc3 hHeld) (fun hHeld => ?_)
  clear hK K
  (try simp only [Act.put, List.setIfInBounds_toArray, List.set_cons_zero, List.set_cons_succ, List.getElem_toArray, List.getElem_cons_zero, List.getElem_cons_succ])
  refine wpAnyH_ready (rs := [12]) (by kernel_rfl) (by simp) (AllReadyH.cons rfl (fun K hK => ?_) AllReadyH.nil)
  go_simp
  refine (HST.out _ ((Below.refl _ _).alloc (Nat.le_refl _) _)).mono ?_
  rintro e w5 ⟨dn, cd, mk, rg, s3, ws3, rfl, hq, hd5, hw5, ho5⟩
  have HQ := Lib.hid hq; have HW5 := Lib.hid hw5
  have hP5 := ho5.at_ (k := pb) ((Below.heap_alloc w1.drew _ pb HPE.out.2.1).trans (show w1.drew.heap[pb]? = _ from HPB.out)) (fun h => h.1 (.inl HPE.out.1))
  clear hq hw5
  refine hK.out _ _ (keepP3 hP5 rfl rfl rfl) (fun hHeld => ?_)
  clear hK K
  (try simp only [Act.put, List.setIfInBounds_toArray, List.set_cons_zero, List.set_cons_succ, List.getElem_toArray, List.getElem_cons_zero, List.getElem_cons_succ])
  refine wpAnyH_ready (rs := [14]) (by kernel_rfl) (by simp) (AllReadyH.cons rfl (fun K hK => ?_) AllReadyH.nil)
  have hth := there_at (show w5.heap[w1.drew.heap.size]? = some (.cells (didV false 0 (.slice none 0 0) false false false 0) 63 (0, 0)) from ho5.at_ (heap_alloc_new w1.drew _) (fun h => h.1 (.inr ⟨Nat.le_refl _, Nat.lt_of_lt_of_eq (Nat.lt_succ_self _) (World.size_alloc _ _).symm⟩))) (n := (qdV dn cd (.slice none 0 0) 0 mk rg : Array Value).size) rfl
  have hsd : (Tryz.prog.info? 63).map (·.size) = some (qdV dn cd (.slice none 0 0) 0 mk rg : Array Value).size := did_size
  rw [if_pos (by rfl)]
  refine wp_store_mid _ _ _ rfl w1.drew.heap.size 0 (qdV dn cd (.slice none 0 0) 0 mk rg) rfl rfl hth hsd (by kernel_rfl) ?_
  refine hK.out _ _ (keep_box3 hHeld (by have := HPE.out.2.1; show w1.drew.heap.size ≠ pb; have : w1.drew.heap.size = w1.heap.size := rfl; omega)) (fun hHeld => ?_)
  clear hK K
  (try simp only [Act.put, List.setIfInBounds_toArray, List.set_cons_zero, List.set_cons_succ, List.getElem_toArray, List.getElem_cons_zero, List.getElem_cons_succ])
  obtain ⟨X, HX⟩ : ∃ X, Hid (X = (w5).setCells w1.drew.heap.size 0 [.bool dn, .int .i64 cd, .slice none 0 0, .bool false, .int .i64 0, .bool mk, .bool rg, .bool false, .int .i64 0]) := ⟨_, rfl⟩
  obtain ⟨tb, htb⟩ : ∃ t, t = w1.heap.size := ⟨_, rfl⟩
  have HSD : Hid (SteppedQ W w1.drew X E pb mb rb bb br N D ws3 (ringB12 rg 1 bs) (some (sq1, s3)) (atQ P1.r rq) tb (qdV dn cd (.slice none 0 0) 0 mk rg)) := Lib.hid (by rw [HX.out, htb]; exact SteppedQ.b (w1 := w1.drew) (vs := [.bool dn, .int .i64 cd, .slice none 0 0, .bool false, .int .i64 0, .bool mk, .bool rg, .bool false, .int .i64 0]) HEL.out HPE.out.1 HPE.out.2.2 hd5 ho5 rfl)
  refine wpAnyH_done (by kernel_rfl) ?_ _
  all_goals (rw [← HX.out]; simp only [← htb])
  all_goals (
    have HXB : Hid (X.heap[pb]? = some (.cells (qpV (x) (mb) (bb) ((.pointer (some ⟨sq1, 0, none⟩))) ((pqW P1.r rq)) (P1.tail) (P1.head) (P1.sent) (P1.got) (P1.n) (P1.steps) (P1.own)) 75 (0, 0))) := Lib.hid (HSD.out.at_ HP1.out.pe.1 (show w1.drew.heap[pb]? = _ from HPB.out))
    clear hHeld
    obtain ⟨l1, l2, l3, l4, l5, l6, l7, l8, l9, l10⟩ := HP1.out.lim
    obtain ⟨⟨N1, N2⟩, N3, N4, N5⟩ := HP1.out.nn
    have hne1 : tb ≠ pb := HSD.out.ne.1
    have hne2 : pb ≠ tb := fun e => hne1 e.symm
    obtain ⟨b, o, hca, hch⟩ := chanQ HP1.out.cfg HP1.out.wf
    have HCH : Hid (∀ W' : World, Below W.heap.size W W' → W'.cell? ⟨b, o + 3, none⟩ = some (.int .i64 (N : Int)) ∧ W'.cell? ⟨b, o + 4, none⟩ = some (.int .i64 (D : Int))) := Lib.hid (fun W' h => by have q := hch W' h; exact ⟨by simpa using q.1, by simpa using q.2.1⟩)
    have HCA := Lib.hid hca
    have x8 : X.cell? ⟨pb, 8, none⟩ = some (.pointer (some ⟨sq1, 0, none⟩)) := cell_blk HXB.out rfl
    have x10 : X.cell? ⟨pb, 10, none⟩ = some (.int .u32 P1.tail) := cell_blk HXB.out rfl
    have x12 : X.cell? ⟨pb, 12, none⟩ = some (.int .i64 P1.sent) := cell_blk HXB.out rfl
    have x13 : X.cell? ⟨pb, 13, none⟩ = some (.int .i64 P1.got) := cell_blk HXB.out rfl
    have x14 : X.cell? ⟨pb, 14, none⟩ = some (.int .i64 P1.n) := cell_blk HXB.out rfl
    have x15 : X.cell? ⟨pb, 15, none⟩ = some (.int .i64 P1.steps) := cell_blk HXB.out rfl
    have g8 := blk_frozen 8 HXB.out
    have g10 := blk_frozen 10 HXB.out
    have g12 := blk_frozen 12 HXB.out
    have g14 := blk_frozen 14 HXB.out
    have g15 := blk_frozen 15 HXB.out
    have d0 : X.cell? ⟨tb, 0, none⟩ = some (.bool dn) := cell_blk HSD.out.box rfl
    have d1 : X.cell? ⟨tb, 1, none⟩ = some (.int .i64 cd) := cell_blk HSD.out.box rfl
    have d5 : X.cell? ⟨tb, 5, none⟩ = some (.bool mk) := cell_blk HSD.out.box rfl
    have d6 : X.cell? ⟨tb, 6, none⟩ = some (.bool rg) := cell_blk HSD.out.box rfl
    have HOWN := Lib.hid (fun (W' : World) (h : Only (fun k => k = pb) X W') => (show Calls Tryz.prog 25 #[.pointer (some ⟨sq1, 0, none⟩)] W' fun e w' => e = .returned (.int .u32 s3.own) ∧ w' = W' from by
      obtain ⟨ce, sv, hob⟩ := (HSD.out.quo.dropped h HP1.out.pe (.inl rfl) (.inl rfl)).ownS
      exact own_b _ _ _ _ _ _ _ _ _ _ hob))
    obtain ⟨d, e0, e1, e2, e3, e4⟩ := HQ.out
    have hc := sd1_cases e0 HOK.out
    clear hch hca htb hth hsd hP5
    rcases hc with hc | hc | hc)
  · obtain ⟨c1, c2, c3⟩ := hc
    obtain rfl : dn = false := e1.trans c1
    have HC2 := Lib.hid c2
    have c40 : decide (P1.steps + 1 < 40) = true := decide_eq_true c3
    rw [← e3, ← e4] at HC2
    clear c1 c2 c3 e1 e0 e2 e3 e4
    cases mk
    · go_wp2
      go_ret
      have hof : Only (fun k => k = pb) X ((X).setCell ⟨pb, 15, none⟩ (.int .i64 (P1.steps + 1))) := ((Only.refl (fun k => k = pb) X).set (p := ⟨pb, 15, none⟩) rfl _)
      first | refine ⟨rfl, sq1, ?_, fin_onlyQ HO1.out HSD.out.only hof HP1.out.pe.2⟩ | refine ⟨rfl, ⟨sq1, ?_⟩, fin_onlyQ HO1.out HSD.out.only hof HP1.out.pe.2⟩
      rw [HPW.out, HC2.out]
      exact ⟨(blk_put (o := 15) (v := .int .i64 (P1.steps + 1)) HXB.out rfl), ⟨_, HSD.out.quo.dropped hof HP1.out.pe (.inl rfl) (.inl rfl), by rw [ringB12_len]; exact HBS.out.1, by rw [ringB12_get HBS.out.1 HBS.out.2]⟩, HP1.out.pe, HP1.out.cfg, HP1.out.nn, (by show 0 ≤ P1.n ∧ P1.n ≤ ((K + 1 : Nat) : Int) ∧ 0 ≤ P1.steps + 1 ∧ P1.steps + 1 ≤ ((K + 1 : Nat) : Int) ∧ 0 ≤ P1.own ∧ P1.own ≤ ((K + 1 : Nat) : Int) ∧ 0 ≤ P1.sent ∧ P1.sent ≤ ((K + 1 : Nat) : Int) ∧ 0 ≤ P1.got ∧ P1.got ≤ ((K + 1 : Nat) : Int); omega), HP1.out.u32⟩
    · go_wp2
      go_ret
      have hof : Only (fun k => k = pb) X ((((X).setCell ⟨pb, 15, none⟩ (.int .i64 (P1.steps + 1)))).setCell ⟨pb, 12, none⟩ (.int .i64 (P1.sent + 1))) := (((Only.refl (fun k => k = pb) X).set (p := ⟨pb, 15, none⟩) rfl _).set (p := ⟨pb, 12, none⟩) rfl _)
      first | refine ⟨rfl, sq1, ?_, fin_onlyQ HO1.out HSD.out.only hof HP1.out.pe.2⟩ | refine ⟨rfl, ⟨sq1, ?_⟩, fin_onlyQ HO1.out HSD.out.only hof HP1.out.pe.2⟩
      rw [HPW.out, HC2.out]
      exact ⟨(blk_put (o := 12) (v := .int .i64 (P1.sent + 1)) (blk_put (o := 15) (v := .int .i64 (P1.steps + 1)) HXB.out rfl) rfl), ⟨_, HSD.out.quo.dropped hof HP1.out.pe (.inl rfl) (.inl rfl), by rw [ringB12_len]; exact HBS.out.1, by rw [ringB12_get HBS.out.1 HBS.out.2]⟩, HP1.out.pe, HP1.out.cfg, HP1.out.nn, (by show 0 ≤ P1.n ∧ P1.n ≤ ((K + 1 : Nat) : Int) ∧ 0 ≤ P1.steps + 1 ∧ P1.steps + 1 ≤ ((K + 1 : Nat) : Int) ∧ 0 ≤ P1.own ∧ P1.own ≤ ((K + 1 : Nat) : Int) ∧ 0 ≤ P1.sent + 1 ∧ P1.sent + 1 ≤ ((K + 1 : Nat) : Int) ∧ 0 ≤ P1.got ∧ P1.got ≤ ((K + 1 : Nat) : Int); omega), HP1.out.u32⟩
  · obtain ⟨c1, c2, c3, c4, c5, c6⟩ := hc
    obtain rfl : dn = true := e1.trans c1
    obtain rfl : cd = 2 := e2.trans c2
    obtain rfl : rg = false := e4.trans c3
    have HC2 := Lib.hid c4
    rw [← e4] at HC2
    have HST1 := Lib.hid c5
    have n7 : IntKind.i64.wrap (P1.sent - P1.got) = (D : Int) := by rw [c6]; exact IntWalk.i64_in _ (by omega)
    clear c1 c2 c3 c4 c5 c6 e1 e0 e2 e3 e4
    cases mk
    all_goals
      go_wp2_with fail
      refine (HOWN.out _ (((Only.refl (fun k => k = pb) X).set (p := ⟨pb, 15, none⟩) rfl _))).mono ?_
      rintro e wz ⟨rfl, rfl⟩
      go_wp2
      obtain ⟨X1, HX1⟩ : ∃ u, Hid (u = ((((((X).setCell ⟨pb, 15, none⟩ (.int .i64 (P1.steps + 1)))).setCell ⟨pb, 10, none⟩ (.int .u32 s3.own))).setCell ⟨pb, 8, none⟩ (.pointer none))) := ⟨_, rfl⟩
      rw [← HX1.out]
      have HXB1 : Hid (X1.heap[pb]? = some (.cells (qpV (x) (mb) (bb) (.pointer none) ((pqW P1.r rq)) (s3.own) (P1.head) (P1.sent) (P1.got) (P1.n) (P1.steps + 1) (P1.own)) 75 (0, 0))) := Lib.hid (by rw [HX1.out]; exact (blk_put (o := 8) (v := .pointer none) (blk_put (o := 10) (v := .int .u32 s3.own) (blk_put (o := 15) (v := .int .i64 (P1.steps + 1)) HXB.out rfl) rfl) rfl))
      have HO1X : Hid (Only (fun k => k = pb) X X1) := Lib.hid (by rw [HX1.out]; exact ((((Only.refl (fun k => k = pb) X).set (p := ⟨pb, 15, none⟩) rfl _).set (p := ⟨pb, 10, none⟩) rfl _).set (p := ⟨pb, 8, none⟩) rfl _))
      have HQ1 := Lib.hid (HSD.out.quo.dropped (os' := none) HO1X.out HP1.out.pe (.inr rfl) (.inl rfl))
      have h4 := HCH.out X1 HQ1.out.below
      have h1 : X1.cell? ⟨tb, 1, none⟩ = some (.int .i64 2) := cell_of_blk (w := X) (cell_blk HSD.out.box rfl) (HO1X.out.block tb (Array.getElem?_eq_some_iff.1 HSD.out.box).1 hne1)
      have h6 : X1.cell? ⟨tb, 6, none⟩ = some (.bool false) := cell_of_blk (w := X) (cell_blk HSD.out.box rfl) (HO1X.out.block tb (Array.getElem?_eq_some_iff.1 HSD.out.box).1 hne1)
      clear x8 x10 x12 x13 x14 x15 d0 d1 d5 d6 g14
      have q1 : ∀ p : Regrown, (grow (redrawn X1 p.d) p.os).cell? ⟨pb, 1, none⟩ = some (.slice (some ⟨b, o, none⟩) 1 x.cc) := fun p => cell_regrown (by rw [← HCA.out]; exact cell_blk HXB1.out rfl) p.d p.os
      have q7 : ∀ p : Regrown, (grow (redrawn X1 p.d) p.os).cell? ⟨pb, 7, none⟩ = some (.pointer (some ⟨bb, 0, none⟩)) := fun p => cell_regrown (cell_blk HXB1.out rfl) p.d p.os
      have q12 : ∀ p : Regrown, (grow (redrawn X1 p.d) p.os).cell? ⟨pb, 12, none⟩ = some (.int .i64 P1.sent) := fun p => cell_regrown (cell_blk HXB1.out rfl) p.d p.os
      have q13 : ∀ p : Regrown, (grow (redrawn X1 p.d) p.os).cell? ⟨pb, 13, none⟩ = some (.int .i64 P1.got) := fun p => cell_regrown (cell_blk HXB1.out rfl) p.d p.os
      have q14 : ∀ p : Regrown, (grow (redrawn X1 p.d) p.os).cell? ⟨pb, 14, none⟩ = some (.int .i64 P1.n) := fun p => cell_regrown (cell_blk HXB1.out rfl) p.d p.os
      have q15 : ∀ p : Regrown, (grow (redrawn X1 p.d) p.os).cell? ⟨pb, 15, none⟩ = some (.int .i64 1) := fun p => cell_regrown (by have q := cell_blk HXB1.out (i := 15) rfl; rw [HST1.out] at q; exact q) p.d p.os
      have q20 : ∀ p : Regrown, (grow (redrawn X1 p.d) p.os).cell? ⟨b, o + 3, none⟩ = some (.int .i64 (N : Int)) := fun p => cell_regrown h4.1 p.d p.os
      have q21 : ∀ p : Regrown, (grow (redrawn X1 p.d) p.os).cell? ⟨b, o + 4, none⟩ = some (.int .i64 (D : Int)) := fun p => cell_regrown h4.2 p.d p.os
      have q22 : ∀ p : Regrown, (grow (redrawn X1 p.d) p.os).cell? ⟨tb, 1, none⟩ = some (.int .i64 2) := fun p => cell_regrown h1 p.d p.os
      have q23 : ∀ p : Regrown, (grow (redrawn X1 p.d) p.os).cell? ⟨tb, 6, none⟩ = some (.bool false) := fun p => cell_regrown h6 p.d p.os
      have hbc := Below.refl X1.heap.size X1
      with_reducible refine wp_on hbc (by kernel_rfl) (by kernel_rfl) ?_
      (repeat (go_big_quiet_step (fail)))
      with_reducible refine wpQuiet_nil ?_
      intro wc hbc
      clear q1 q7 q12 q13 q14 q15 q20 q21 q22 q23
      go_wp2
      go_ret
      have HBC := (hbc.block pb (Array.getElem?_eq_some_iff.1 HXB1.out).1).trans HXB1.out
      have hof : Only (fun k => k = pb) X wc := HO1X.out.trans (Only.of_below (S := fun k => k = pb) hbc)
      first | refine ⟨rfl, sq1, ?_, fin_onlyQ HO1.out HSD.out.only hof HP1.out.pe.2⟩ | refine ⟨rfl, ⟨sq1, ?_⟩, fin_onlyQ HO1.out HSD.out.only hof HP1.out.pe.2⟩
      rw [HPW.out, HC2.out]
      exact ⟨HBC, ⟨_, HSD.out.quo.dropped hof HP1.out.pe (.inr rfl) (.inl rfl), by rw [ringB12_len]; exact HBS.out.1, by rw [ringB12_get HBS.out.1 HBS.out.2]⟩, HP1.out.pe, HP1.out.cfg, HP1.out.nn, (by show 0 ≤ P1.n ∧ P1.n ≤ ((K + 1 : Nat) : Int) ∧ 0 ≤ P1.steps + 1 ∧ P1.steps + 1 ≤ ((K + 1 : Nat) : Int) ∧ 0 ≤ P1.own ∧ P1.own ≤ ((K + 1 : Nat) : Int) ∧ 0 ≤ P1.sent ∧ P1.sent ≤ ((K + 1 : Nat) : Int) ∧ 0 ≤ P1.got ∧ P1.got ≤ ((K + 1 : Nat) : Int); omega), ⟨HW5.out.2.1, HW5.out.2.2, HP1.out.u32.2.2⟩⟩
  · obtain ⟨c1, c2, c3, c4, c5, c6⟩ := hc
    obtain rfl : dn = true := e1.trans c1
    obtain rfl : cd = 0 := e2.trans c2
    obtain rfl : rg = true := e4.trans c3
    obtain ⟨mlv, hml⟩ : ∃ v, ml N P1.n = v := ⟨_, rfl⟩
    have hmb := ml_in (N := N) N1 P1.n
    rw [hml] at c5 hmb
    have HML := Lib.hid hml
    have HC2 := Lib.hid c4
    rw [← e4] at HC2
    have HST1 := Lib.hid c5; have HSN1 := Lib.hid c6
    have HGB : Hid ((ringB12 true 1 bs).getD 1 false = true) := Lib.hid (by rw [ringB12_get HBS.out.1 HBS.out.2, Bool.or_true])
    clear c1 c2 c3 c4 c5 c6 e1 e0 e2 e3 e4 hml
    cases mk
    all_goals
      go_wp2_with fail
      refine (HOWN.out _ (((Only.refl (fun k => k = pb) X).set (p := ⟨pb, 15, none⟩) rfl _))).mono ?_
      rintro e wz ⟨rfl, rfl⟩
      go_wp2
      obtain ⟨X1, HX1⟩ : ∃ u, Hid (u = ((((((X).setCell ⟨pb, 15, none⟩ (.int .i64 (P1.steps + 1)))).setCell ⟨pb, 10, none⟩ (.int .u32 s3.own))).setCell ⟨pb, 8, none⟩ (.pointer none))) := ⟨_, rfl⟩
      rw [← HX1.out]
      have HXB1 : Hid (X1.heap[pb]? = some (.cells (qpV (x) (mb) (bb) (.pointer none) ((pqW P1.r rq)) (s3.own) (P1.head) (P1.sent) (P1.got) (P1.n) (P1.steps + 1) (P1.own)) 75 (0, 0))) := Lib.hid (by rw [HX1.out]; exact (blk_put (o := 8) (v := .pointer none) (blk_put (o := 10) (v := .int .u32 s3.own) (blk_put (o := 15) (v := .int .i64 (P1.steps + 1)) HXB.out rfl) rfl) rfl))
      have HO1X : Hid (Only (fun k => k = pb) X X1) := Lib.hid (by rw [HX1.out]; exact ((((Only.refl (fun k => k = pb) X).set (p := ⟨pb, 15, none⟩) rfl _).set (p := ⟨pb, 10, none⟩) rfl _).set (p := ⟨pb, 8, none⟩) rfl _))
      have HQ1 := Lib.hid (HSD.out.quo.dropped (os' := none) HO1X.out HP1.out.pe (.inr rfl) (.inl rfl))
      have h4 := HCH.out X1 HQ1.out.below
      have h1 : X1.cell? ⟨tb, 1, none⟩ = some (.int .i64 0) := cell_of_blk (w := X) (cell_blk HSD.out.box rfl) (HO1X.out.block tb (Array.getElem?_eq_some_iff.1 HSD.out.box).1 hne1)
      have h6 : X1.cell? ⟨tb, 6, none⟩ = some (.bool true) := cell_of_blk (w := X) (cell_blk HSD.out.box rfl) (HO1X.out.block tb (Array.getElem?_eq_some_iff.1 HSD.out.box).1 hne1)
      clear x8 x10 x12 x13 x14 x15 d0 d1 d5 d6 g14
      have q1 : ∀ p : Regrown, (grow (redrawn X1 p.d) p.os).cell? ⟨pb, 1, none⟩ = some (.slice (some ⟨b, o, none⟩) 1 x.cc) := fun p => cell_regrown (by rw [← HCA.out]; exact cell_blk HXB1.out rfl) p.d p.os
      have q7 : ∀ p : Regrown, (grow (redrawn X1 p.d) p.os).cell? ⟨pb, 7, none⟩ = some (.pointer (some ⟨bb, 0, none⟩)) := fun p => cell_regrown (cell_blk HXB1.out rfl) p.d p.os
      have q12 : ∀ p : Regrown, (grow (redrawn X1 p.d) p.os).cell? ⟨pb, 12, none⟩ = some (.int .i64 (P1.n + 1)) := fun p => cell_regrown (by have q := cell_blk HXB1.out (i := 12) rfl; rw [HSN1.out] at q; exact q) p.d p.os
      have q13 : ∀ p : Regrown, (grow (redrawn X1 p.d) p.os).cell? ⟨pb, 13, none⟩ = some (.int .i64 P1.got) := fun p => cell_regrown (cell_blk HXB1.out rfl) p.d p.os
      have q14 : ∀ p : Regrown, (grow (redrawn X1 p.d) p.os).cell? ⟨pb, 14, none⟩ = some (.int .i64 P1.n) := fun p => cell_regrown (cell_blk HXB1.out rfl) p.d p.os
      have q15 : ∀ p : Regrown, (grow (redrawn X1 p.d) p.os).cell? ⟨pb, 15, none⟩ = some (.int .i64 (mlv + 4)) := fun p => cell_regrown (by have q := cell_blk HXB1.out (i := 15) rfl; rw [HST1.out] at q; exact q) p.d p.os
      have q20 : ∀ p : Regrown, (grow (redrawn X1 p.d) p.os).cell? ⟨b, o + 3, none⟩ = some (.int .i64 (N : Int)) := fun p => cell_regrown h4.1 p.d p.os
      have q21 : ∀ p : Regrown, (grow (redrawn X1 p.d) p.os).cell? ⟨b, o + 4, none⟩ = some (.int .i64 (D : Int)) := fun p => cell_regrown h4.2 p.d p.os
      have q22 : ∀ p : Regrown, (grow (redrawn X1 p.d) p.os).cell? ⟨tb, 1, none⟩ = some (.int .i64 0) := fun p => cell_regrown h1 p.d p.os
      have q23 : ∀ p : Regrown, (grow (redrawn X1 p.d) p.os).cell? ⟨tb, 6, none⟩ = some (.bool true) := fun p => cell_regrown h6 p.d p.os
      have hbc := Below.refl X1.heap.size X1
      have HSZ := Lib.hid (fun (d : Nat) (os : Array Obj) => Calls.regrown_of (((sizeQ_b N x.cc pb b o P1.n (grow (redrawn X1 d) os) (by omega) (by omega) (q1 ⟨d, os⟩) (by have := q20 ⟨d, os⟩; simpa using this))).mono (fun e w' h => ⟨h.1, by rw [h.2]; exact Below.refl _ _⟩)))
      have HHS := Lib.hid (fun (d : Nat) (os : Array Obj) => Calls.regrown_of ((Bel.has_in bb br (ringB12 true 1 bs) 1 (grow (redrawn X1 d) os) (HQ1.out.bel.below (below_regrown X1 d os)) HQ1.out.belt).mono (fun e w' h => ⟨h.1, by rw [← h.2]; exact Below.refl _ _⟩)))
      rw [HML.out] at HSZ
      rw [HGB.out] at HHS
      with_reducible refine wp_on hbc (by kernel_rfl) (by kernel_rfl) ?_
      (repeat (go_big_quiet_step (first | exact HSZ.out _ _ | exact HHS.out _ _)))
      with_reducible refine wpQuiet_nil ?_
      intro wc hbc
      have HBC := Lib.hid ((hbc.block pb (Array.getElem?_eq_some_iff.1 HXB1.out).1).trans HXB1.out)
      have HOC : Hid (Only (fun k => k = pb) X wc) := Lib.hid (HO1X.out.trans (Only.of_below (S := fun k => k = pb) hbc))
      have x14 : wc.cell? ⟨pb, 14, none⟩ = some (.int .i64 P1.n) := cell_blk HBC.out rfl
      have g14 := blk_frozen 14 HBC.out
      clear q1 q7 q12 q13 q14 q15 q20 q21 q22 q23 hbc h4 h1 h6
      go_wp2
      go_ret
      have hof : Only (fun k => k = pb) X ((wc).setCell ⟨pb, 14, none⟩ (.int .i64 (P1.n + 1))) := HOC.out.trans ((Only.refl (fun k => k = pb) wc).set (p := ⟨pb, 14, none⟩) rfl _)
      first | refine ⟨rfl, sq1, ?_, fin_onlyQ HO1.out HSD.out.only hof HP1.out.pe.2⟩ | refine ⟨rfl, ⟨sq1, ?_⟩, fin_onlyQ HO1.out HSD.out.only hof HP1.out.pe.2⟩
      rw [HPW.out, HC2.out]
      exact ⟨(blk_put (o := 14) (v := .int .i64 (P1.n + 1)) HBC.out rfl), ⟨_, HSD.out.quo.dropped hof HP1.out.pe (.inr rfl) (.inl rfl), by rw [ringB12_len]; exact HBS.out.1, by rw [ringB12_get HBS.out.1 HBS.out.2]⟩, HP1.out.pe, HP1.out.cfg, HP1.out.nn, (by show 0 ≤ P1.n + 1 ∧ P1.n + 1 ≤ ((K + 1 : Nat) : Int) ∧ 0 ≤ P1.steps + 1 ∧ P1.steps + 1 ≤ ((K + 1 : Nat) : Int) ∧ 0 ≤ P1.own ∧ P1.own ≤ ((K + 1 : Nat) : Int) ∧ 0 ≤ P1.sent ∧ P1.sent ≤ ((K + 1 : Nat) : Int) ∧ 0 ≤ P1.got ∧ P1.got ≤ ((K + 1 : Nat) : Int); omega), ⟨HW5.out.2.1, HW5.out.2.2, HP1.out.u32.2.2⟩⟩
  · obtain ⟨c1, c2, c3⟩ := hc
    obtain rfl : dn = false := e1.trans c1
    have HC2 := Lib.hid c2
    have c40 : decide (P1.steps + 1 < 40) = true := decide_eq_true c3
    rw [← e3, ← e4] at HC2
    clear c1 c2 c3 e1 e0 e2 e3 e4
    cases mk
    · go_wp2
      go_ret
      have hof : Only (fun k => k = pb) X ((X).setCell ⟨pb, 15, none⟩ (.int .i64 (P1.steps + 1))) := ((Only.refl (fun k => k = pb) X).set (p := ⟨pb, 15, none⟩) rfl _)
      first | refine ⟨rfl, sq1, ?_, fin_onlyQ HO1.out HSD.out.only hof HP1.out.pe.2⟩ | refine ⟨rfl, ⟨sq1, ?_⟩, fin_onlyQ HO1.out HSD.out.only hof HP1.out.pe.2⟩
      rw [HPW.out, HC2.out]
      exact ⟨(blk_put (o := 15) (v := .int .i64 (P1.steps + 1)) HXB.out rfl), ⟨_, HSD.out.quo.dropped hof HP1.out.pe (.inl rfl) (.inl rfl), by rw [ringB12_len]; exact HBS.out.1, by rw [ringB12_get HBS.out.1 HBS.out.2]⟩, HP1.out.pe, HP1.out.cfg, HP1.out.nn, (by show 0 ≤ P1.n ∧ P1.n ≤ ((K + 1 : Nat) : Int) ∧ 0 ≤ P1.steps + 1 ∧ P1.steps + 1 ≤ ((K + 1 : Nat) : Int) ∧ 0 ≤ P1.own ∧ P1.own ≤ ((K + 1 : Nat) : Int) ∧ 0 ≤ P1.sent ∧ P1.sent ≤ ((K + 1 : Nat) : Int) ∧ 0 ≤ P1.got ∧ P1.got ≤ ((K + 1 : Nat) : Int); omega), HP1.out.u32⟩
    · go_wp2
      go_ret
      have hof : Only (fun k => k = pb) X ((((X).setCell ⟨pb, 15, none⟩ (.int .i64 (P1.steps + 1)))).setCell ⟨pb, 12, none⟩ (.int .i64 (P1.sent + 1))) := (((Only.refl (fun k => k = pb) X).set (p := ⟨pb, 15, none⟩) rfl _).set (p := ⟨pb, 12, none⟩) rfl _)
      first | refine ⟨rfl, sq1, ?_, fin_onlyQ HO1.out HSD.out.only hof HP1.out.pe.2⟩ | refine ⟨rfl, ⟨sq1, ?_⟩, fin_onlyQ HO1.out HSD.out.only hof HP1.out.pe.2⟩
      rw [HPW.out, HC2.out]
      exact ⟨(blk_put (o := 12) (v := .int .i64 (P1.sent + 1)) (blk_put (o := 15) (v := .int .i64 (P1.steps + 1)) HXB.out rfl) rfl), ⟨_, HSD.out.quo.dropped hof HP1.out.pe (.inl rfl) (.inl rfl), by rw [ringB12_len]; exact HBS.out.1, by rw [ringB12_get HBS.out.1 HBS.out.2]⟩, HP1.out.pe, HP1.out.cfg, HP1.out.nn, (by show 0 ≤ P1.n ∧ P1.n ≤ ((K + 1 : Nat) : Int) ∧ 0 ≤ P1.steps + 1 ∧ P1.steps + 1 ≤ ((K + 1 : Nat) : Int) ∧ 0 ≤ P1.own ∧ P1.own ≤ ((K + 1 : Nat) : Int) ∧ 0 ≤ P1.sent + 1 ∧ P1.sent + 1 ≤ ((K + 1 : Nat) : Int) ∧ 0 ≤ P1.got ∧ P1.got ≤ ((K + 1 : Nat) : Int); omega), HP1.out.u32⟩
  · obtain ⟨c1, c2, c3, c4, c5, c6⟩ := hc
    obtain rfl : dn = true := e1.trans c1
    obtain rfl : cd = 2 := e2.trans c2
    obtain rfl : rg = false := e4.trans c3
    have HC2 := Lib.hid c4
    rw [← e4] at HC2
    have HST1 := Lib.hid c5
    have n7 : IntKind.i64.wrap (P1.sent - P1.got) = (D : Int) := by rw [c6]; exact IntWalk.i64_in _ (by omega)
    clear c1 c2 c3 c4 c5 c6 e1 e0 e2 e3 e4
    cases mk
    all_goals
      go_wp2_with fail
      refine (HOWN.out _ (((Only.refl (fun k => k = pb) X).set (p := ⟨pb, 15, none⟩) rfl _))).mono ?_
      rintro e wz ⟨rfl, rfl⟩
      go_wp2
      obtain ⟨X1, HX1⟩ : ∃ u, Hid (u = ((((((X).setCell ⟨pb, 15, none⟩ (.int .i64 (P1.steps + 1)))).setCell ⟨pb, 10, none⟩ (.int .u32 s3.own))).setCell ⟨pb, 8, none⟩ (.pointer none))) := ⟨_, rfl⟩
      rw [← HX1.out]
      have HXB1 : Hid (X1.heap[pb]? = some (.cells (qpV (x) (mb) (bb) (.pointer none) ((pqW P1.r rq)) (s3.own) (P1.head) (P1.sent) (P1.got) (P1.n) (P1.steps + 1) (P1.own)) 75 (0, 0))) := Lib.hid (by rw [HX1.out]; exact (blk_put (o := 8) (v := .pointer none) (blk_put (o := 10) (v := .int .u32 s3.own) (blk_put (o := 15) (v := .int .i64 (P1.steps + 1)) HXB.out rfl) rfl) rfl))
      have HO1X : Hid (Only (fun k => k = pb) X X1) := Lib.hid (by rw [HX1.out]; exact ((((Only.refl (fun k => k = pb) X).set (p := ⟨pb, 15, none⟩) rfl _).set (p := ⟨pb, 10, none⟩) rfl _).set (p := ⟨pb, 8, none⟩) rfl _))
      have HQ1 := Lib.hid (HSD.out.quo.dropped (os' := none) HO1X.out HP1.out.pe (.inr rfl) (.inl rfl))
      have h4 := HCH.out X1 HQ1.out.below
      have h1 : X1.cell? ⟨tb, 1, none⟩ = some (.int .i64 2) := cell_of_blk (w := X) (cell_blk HSD.out.box rfl) (HO1X.out.block tb (Array.getElem?_eq_some_iff.1 HSD.out.box).1 hne1)
      have h6 : X1.cell? ⟨tb, 6, none⟩ = some (.bool false) := cell_of_blk (w := X) (cell_blk HSD.out.box rfl) (HO1X.out.block tb (Array.getElem?_eq_some_iff.1 HSD.out.box).1 hne1)
      clear x8 x10 x12 x13 x14 x15 d0 d1 d5 d6 g14
      have q1 : ∀ p : Regrown, (grow (redrawn X1 p.d) p.os).cell? ⟨pb, 1, none⟩ = some (.slice (some ⟨b, o, none⟩) 1 x.cc) := fun p => cell_regrown (by rw [← HCA.out]; exact cell_blk HXB1.out rfl) p.d p.os
      have q7 : ∀ p : Regrown, (grow (redrawn X1 p.d) p.os).cell? ⟨pb, 7, none⟩ = some (.pointer (some ⟨bb, 0, none⟩)) := fun p => cell_regrown (cell_blk HXB1.out rfl) p.d p.os
      have q12 : ∀ p : Regrown, (grow (redrawn X1 p.d) p.os).cell? ⟨pb, 12, none⟩ = some (.int .i64 P1.sent) := fun p => cell_regrown (cell_blk HXB1.out rfl) p.d p.os
      have q13 : ∀ p : Regrown, (grow (redrawn X1 p.d) p.os).cell? ⟨pb, 13, none⟩ = some (.int .i64 P1.got) := fun p => cell_regrown (cell_blk HXB1.out rfl) p.d p.os
      have q14 : ∀ p : Regrown, (grow (redrawn X1 p.d) p.os).cell? ⟨pb, 14, none⟩ = some (.int .i64 P1.n) := fun p => cell_regrown (cell_blk HXB1.out rfl) p.d p.os
      have q15 : ∀ p : Regrown, (grow (redrawn X1 p.d) p.os).cell? ⟨pb, 15, none⟩ = some (.int .i64 1) := fun p => cell_regrown (by have q := cell_blk HXB1.out (i := 15) rfl; rw [HST1.out] at q; exact q) p.d p.os
      have q20 : ∀ p : Regrown, (grow (redrawn X1 p.d) p.os).cell? ⟨b, o + 3, none⟩ = some (.int .i64 (N : Int)) := fun p => cell_regrown h4.1 p.d p.os
      have q21 : ∀ p : Regrown, (grow (redrawn X1 p.d) p.os).cell? ⟨b, o + 4, none⟩ = some (.int .i64 (D : Int)) := fun p => cell_regrown h4.2 p.d p.os
      have q22 : ∀ p : Regrown, (grow (redrawn X1 p.d) p.os).cell? ⟨tb, 1, none⟩ = some (.int .i64 2) := fun p => cell_regrown h1 p.d p.os
      have q23 : ∀ p : Regrown, (grow (redrawn X1 p.d) p.os).cell? ⟨tb, 6, none⟩ = some (.bool false) := fun p => cell_regrown h6 p.d p.os
      have hbc := Below.refl X1.heap.size X1
      with_reducible refine wp_on hbc (by kernel_rfl) (by kernel_rfl) ?_
      (repeat (go_big_quiet_step (fail)))
      with_reducible refine wpQuiet_nil ?_
      intro wc hbc
      clear q1 q7 q12 q13 q14 q15 q20 q21 q22 q23
      go_wp2
      go_ret
      have HBC := (hbc.block pb (Array.getElem?_eq_some_iff.1 HXB1.out).1).trans HXB1.out
      have hof : Only (fun k => k = pb) X wc := HO1X.out.trans (Only.of_below (S := fun k => k = pb) hbc)
      first | refine ⟨rfl, sq1, ?_, fin_onlyQ HO1.out HSD.out.only hof HP1.out.pe.2⟩ | refine ⟨rfl, ⟨sq1, ?_⟩, fin_onlyQ HO1.out HSD.out.only hof HP1.out.pe.2⟩
      rw [HPW.out, HC2.out]
      exact ⟨HBC, ⟨_, HSD.out.quo.dropped hof HP1.out.pe (.inr rfl) (.inl rfl), by rw [ringB12_len]; exact HBS.out.1, by rw [ringB12_get HBS.out.1 HBS.out.2]⟩, HP1.out.pe, HP1.out.cfg, HP1.out.nn, (by show 0 ≤ P1.n ∧ P1.n ≤ ((K + 1 : Nat) : Int) ∧ 0 ≤ P1.steps + 1 ∧ P1.steps + 1 ≤ ((K + 1 : Nat) : Int) ∧ 0 ≤ P1.own ∧ P1.own ≤ ((K + 1 : Nat) : Int) ∧ 0 ≤ P1.sent ∧ P1.sent ≤ ((K + 1 : Nat) : Int) ∧ 0 ≤ P1.got ∧ P1.got ≤ ((K + 1 : Nat) : Int); omega), ⟨HW5.out.2.1, HW5.out.2.2, HP1.out.u32.2.2⟩⟩
  · obtain ⟨c1, c2, c3, c4, c5, c6⟩ := hc
    obtain rfl : dn = true := e1.trans c1
    obtain rfl : cd = 0 := e2.trans c2
    obtain rfl : rg = true := e4.trans c3
    obtain ⟨mlv, hml⟩ : ∃ v, ml N P1.n = v := ⟨_, rfl⟩
    have hmb := ml_in (N := N) N1 P1.n
    rw [hml] at c5 hmb
    have HML := Lib.hid hml
    have HC2 := Lib.hid c4
    rw [← e4] at HC2
    have HST1 := Lib.hid c5; have HSN1 := Lib.hid c6
    have HGB : Hid ((ringB12 true 1 bs).getD 1 false = true) := Lib.hid (by rw [ringB12_get HBS.out.1 HBS.out.2, Bool.or_true])
    clear c1 c2 c3 c4 c5 c6 e1 e0 e2 e3 e4 hml
    cases mk
    all_goals
      go_wp2_with fail
      refine (HOWN.out _ (((Only.refl (fun k => k = pb) X).set (p := ⟨pb, 15, none⟩) rfl _))).mono ?_
      rintro e wz ⟨rfl, rfl⟩
      go_wp2
      obtain ⟨X1, HX1⟩ : ∃ u, Hid (u = ((((((X).setCell ⟨pb, 15, none⟩ (.int .i64 (P1.steps + 1)))).setCell ⟨pb, 10, none⟩ (.int .u32 s3.own))).setCell ⟨pb, 8, none⟩ (.pointer none))) := ⟨_, rfl⟩
      rw [← HX1.out]
      have HXB1 : Hid (X1.heap[pb]? = some (.cells (qpV (x) (mb) (bb) (.pointer none) ((pqW P1.r rq)) (s3.own) (P1.head) (P1.sent) (P1.got) (P1.n) (P1.steps + 1) (P1.own)) 75 (0, 0))) := Lib.hid (by rw [HX1.out]; exact (blk_put (o := 8) (v := .pointer none) (blk_put (o := 10) (v := .int .u32 s3.own) (blk_put (o := 15) (v := .int .i64 (P1.steps + 1)) HXB.out rfl) rfl) rfl))
      have HO1X : Hid (Only (fun k => k = pb) X X1) := Lib.hid (by rw [HX1.out]; exact ((((Only.refl (fun k => k = pb) X).set (p := ⟨pb, 15, none⟩) rfl _).set (p := ⟨pb, 10, none⟩) rfl _).set (p := ⟨pb, 8, none⟩) rfl _))
      have HQ1 := Lib.hid (HSD.out.quo.dropped (os' := none) HO1X.out HP1.out.pe (.inr rfl) (.inl rfl))
      have h4 := HCH.out X1 HQ1.out.below
      have h1 : X1.cell? ⟨tb, 1, none⟩ = some (.int .i64 0) := cell_of_blk (w := X) (cell_blk HSD.out.box rfl) (HO1X.out.block tb (Array.getElem?_eq_some_iff.1 HSD.out.box).1 hne1)
      have h6 : X1.cell? ⟨tb, 6, none⟩ = some (.bool true) := cell_of_blk (w := X) (cell_blk HSD.out.box rfl) (HO1X.out.block tb (Array.getElem?_eq_some_iff.1 HSD.out.box).1 hne1)
      clear x8 x10 x12 x13 x14 x15 d0 d1 d5 d6 g14
      have q1 : ∀ p : Regrown, (grow (redrawn X1 p.d) p.os).cell? ⟨pb, 1, none⟩ = some (.slice (some ⟨b, o, none⟩) 1 x.cc) := fun p => cell_regrown (by rw [← HCA.out]; exact cell_blk HXB1.out rfl) p.d p.os
      have q7 : ∀ p : Regrown, (grow (redrawn X1 p.d) p.os).cell? ⟨pb, 7, none⟩ = some (.pointer (some ⟨bb, 0, none⟩)) := fun p => cell_regrown (cell_blk HXB1.out rfl) p.d p.os
      have q12 : ∀ p : Regrown, (grow (redrawn X1 p.d) p.os).cell? ⟨pb, 12, none⟩ = some (.int .i64 (P1.n + 1)) := fun p => cell_regrown (by have q := cell_blk HXB1.out (i := 12) rfl; rw [HSN1.out] at q; exact q) p.d p.os
      have q13 : ∀ p : Regrown, (grow (redrawn X1 p.d) p.os).cell? ⟨pb, 13, none⟩ = some (.int .i64 P1.got) := fun p => cell_regrown (cell_blk HXB1.out rfl) p.d p.os
      have q14 : ∀ p : Regrown, (grow (redrawn X1 p.d) p.os).cell? ⟨pb, 14, none⟩ = some (.int .i64 P1.n) := fun p => cell_regrown (cell_blk HXB1.out rfl) p.d p.os
      have q15 : ∀ p : Regrown, (grow (redrawn X1 p.d) p.os).cell? ⟨pb, 15, none⟩ = some (.int .i64 (mlv + 4)) := fun p => cell_regrown (by have q := cell_blk HXB1.out (i := 15) rfl; rw [HST1.out] at q; exact q) p.d p.os
      have q20 : ∀ p : Regrown, (grow (redrawn X1 p.d) p.os).cell? ⟨b, o + 3, none⟩ = some (.int .i64 (N : Int)) := fun p => cell_regrown h4.1 p.d p.os
      have q21 : ∀ p : Regrown, (grow (redrawn X1 p.d) p.os).cell? ⟨b, o + 4, none⟩ = some (.int .i64 (D : Int)) := fun p => cell_regrown h4.2 p.d p.os
      have q22 : ∀ p : Regrown, (grow (redrawn X1 p.d) p.os).cell? ⟨tb, 1, none⟩ = some (.int .i64 0) := fun p => cell_regrown h1 p.d p.os
      have q23 : ∀ p : Regrown, (grow (redrawn X1 p.d) p.os).cell? ⟨tb, 6, none⟩ = some (.bool true) := fun p => cell_regrown h6 p.d p.os
      have hbc := Below.refl X1.heap.size X1
      have HSZ := Lib.hid (fun (d : Nat) (os : Array Obj) => Calls.regrown_of (((sizeQ_b N x.cc pb b o P1.n (grow (redrawn X1 d) os) (by omega) (by omega) (q1 ⟨d, os⟩) (by have := q20 ⟨d, os⟩; simpa using this))).mono (fun e w' h => ⟨h.1, by rw [h.2]; exact Below.refl _ _⟩)))
      have HHS := Lib.hid (fun (d : Nat) (os : Array Obj) => Calls.regrown_of ((Bel.has_in bb br (ringB12 true 1 bs) 1 (grow (redrawn X1 d) os) (HQ1.out.bel.below (below_regrown X1 d os)) HQ1.out.belt).mono (fun e w' h => ⟨h.1, by rw [← h.2]; exact Below.refl _ _⟩)))
      rw [HML.out] at HSZ
      rw [HGB.out] at HHS
      with_reducible refine wp_on hbc (by kernel_rfl) (by kernel_rfl) ?_
      (repeat (go_big_quiet_step (first | exact HSZ.out _ _ | exact HHS.out _ _)))
      with_reducible refine wpQuiet_nil ?_
      intro wc hbc
      have HBC := Lib.hid ((hbc.block pb (Array.getElem?_eq_some_iff.1 HXB1.out).1).trans HXB1.out)
      have HOC : Hid (Only (fun k => k = pb) X wc) := Lib.hid (HO1X.out.trans (Only.of_below (S := fun k => k = pb) hbc))
      have x14 : wc.cell? ⟨pb, 14, none⟩ = some (.int .i64 P1.n) := cell_blk HBC.out rfl
      have g14 := blk_frozen 14 HBC.out
      clear q1 q7 q12 q13 q14 q15 q20 q21 q22 q23 hbc h4 h1 h6
      go_wp2
      go_ret
      have hof : Only (fun k => k = pb) X ((wc).setCell ⟨pb, 14, none⟩ (.int .i64 (P1.n + 1))) := HOC.out.trans ((Only.refl (fun k => k = pb) wc).set (p := ⟨pb, 14, none⟩) rfl _)
      first | refine ⟨rfl, sq1, ?_, fin_onlyQ HO1.out HSD.out.only hof HP1.out.pe.2⟩ | refine ⟨rfl, ⟨sq1, ?_⟩, fin_onlyQ HO1.out HSD.out.only hof HP1.out.pe.2⟩
      rw [HPW.out, HC2.out]
      exact ⟨(blk_put (o := 14) (v := .int .i64 (P1.n + 1)) HBC.out rfl), ⟨_, HSD.out.quo.dropped hof HP1.out.pe (.inr rfl) (.inl rfl), by rw [ringB12_len]; exact HBS.out.1, by rw [ringB12_get HBS.out.1 HBS.out.2]⟩, HP1.out.pe, HP1.out.cfg, HP1.out.nn, (by show 0 ≤ P1.n + 1 ∧ P1.n + 1 ≤ ((K + 1 : Nat) : Int) ∧ 0 ≤ P1.steps + 1 ∧ P1.steps + 1 ≤ ((K + 1 : Nat) : Int) ∧ 0 ≤ P1.own ∧ P1.own ≤ ((K + 1 : Nat) : Int) ∧ 0 ≤ P1.sent ∧ P1.sent ≤ ((K + 1 : Nat) : Int) ∧ 0 ≤ P1.got ∧ P1.got ≤ ((K + 1 : Nat) : Int); omega), ⟨HW5.out.2.1, HW5.out.2.2, HP1.out.u32.2.2⟩⟩
end
end Go.Proofs.YtfdgokkngejbhaaGreat
