/- The play: a step of the read under way. No condition but those in the statements. -/
import Derived.Test.YtocdidkfnbkkhaaGreatGG
import Derived.BigQuiet
import Derived.IntWalk
import Derived.Deep.MidRow
import Derived.Deep.Upon
import Derived.BigRegion
import Derived.Shelf.Abstract
import Derived.Deep.RegionHeld3
namespace Go.Proofs.YtocdidkfnbkkhaaGreat
open Go.RowKit Go.Sort
set_option linter.unusedVariables false
set_option linter.unusedSimpArgs false
set_option linter.unusedVariables false
set_option linter.unusedSimpArgs false
open Go.Proofs.YtocdidkfnbkkhaaGreat.Simp
set_option maxRecDepth 100000
set_option maxHeartbeats 12800000
section
variable {W w w' : World} {E : Nat → Prop} {pb mb rb N K wq rq : Nat} {per : Int} {x : CfgAt} {P : Pl}
theorem readS_b (now : Int) (hnow : 0 ≤ now ∧ now ≤ 1000000000000) (h : PAt W w E pb mb rb N per x (K) (P) wq rq) (hK : K ≤ 90000) (hok : (playR N per P now).2 = true) {s : FS} (hr : P.r = some s) : Calls Tryz.prog 23 #[.pointer (some ⟨pb, 0, none⟩), .int .i64 now] w fun e w' => e = .returned (.bool true) ∧ ∃ rq', PAt W w' E pb mb rb N per x (K + 1) ((playR N per P now).1) wq rq' ∧ Only (fun k => (¬ E k ∨ k = pb) ∧ W.heap.size ≤ k) w w' := by
  have g8 : w.cell? ⟨pb, 8, none⟩ = some (pvW P.r rq) := cell_blk h.blk rfl
  rw [hr] at g8
  have h8 : w.cell? ⟨pb, 8, none⟩ = some (.pointer (some ⟨rq, 0, none⟩)) := g8
  obtain ⟨w1, hw1⟩ : ∃ u, u = w := ⟨_, rfl⟩
  obtain ⟨rq1, hq1⟩ : ∃ u, u = rq := ⟨_, rfl⟩
  obtain ⟨P1, hP1⟩ : ∃ u, u = P := ⟨_, rfl⟩
  have hpw : playR N per P now = rd1 N per P1 s now := by unfold playR; rw [hr, hP1]
  have HOK : Hid ((rd1 N per P1 s now).2 = true) := Lib.hid (by rw [← hpw]; exact hok)
  have HPW := Lib.hid hpw
  rw [← hw1, ← hq1] at h8
  rw [← hw1, ← hq1, ← hP1] at h
  rw [← hP1] at hr
  have HP1 := Lib.hid h; have HS1 := Lib.hid hr
  have HO1 : Hid (Only (fun k => (¬ E k ∨ k = pb) ∧ W.heap.size ≤ k) w1 w1) := Lib.hid (Only.refl _ _)
  have HDU : Hid (Duo W w1 W.heap.size E mb rb (fr2 N per) P1.m (atW P1.w wq) (some (rq1, s))) := Lib.hid (by have q := h.duo; rw [hr] at q; exact q)
  rw [← hw1]
  clear g8 hw1 hq1 hP1 h hr hok hpw
  go_enter Tryz.func23, Tryz.ntmps23
  have HPB : Hid (w1.heap[pb]? = some (.cells (pV (x) (mb) ((pvW P1.w wq)) ((.pointer (some ⟨rq1, 0, none⟩))) (P1.n) (P1.written) (P1.marked) (P1.begun) (P1.first) (P1.last) (P1.steps) (P1.own)) 66 (0, 0))) := Lib.hid (by have q := HP1.out.blk; rw [HS1.out] at q; exact q)
  have HEL : Hid (∀ k, E k → k < w1.drew.heap.size) := Lib.hid (fun k hk => by obtain ⟨_, _, _, _, h3, _⟩ := HP1.out.duo.two; exact (h3 k hk).2.2.2.2)
  have HPE : Hid (E pb ∧ pb < w1.drew.heap.size ∧ W.heap.size ≤ w1.drew.heap.size) := Lib.hid ⟨HP1.out.pe.1, HP1.out.lt, HP1.out.duo.below.size⟩
  have HST := Lib.hid (fun (W' : World) (h : Below w1.drew.heap.size w1.drew W') => (HDU.out.only (T := fun _ => False) ((Only.refl _ w1).drew.trans (Only.of_below h)) (fun _ _ h => h.elim) (E' := fun k => E k ∨ (w1.drew.heap.size ≤ k ∧ k < W'.heap.size)) (fun k h => h)).stR now hnow)
  have h8' : w1.cell? ⟨pb, 8, none⟩ = some (.pointer (some ⟨rq1, 0, none⟩)) := cell_blk HPB.out rfl
  (try clear h8)
  go_wp2
  clear h8'
  refine wp_region_held_drew (S := (fun W' => W'.cell? ⟨pb, 8, none⟩ = some (.pointer (some ⟨rq1, 0, none⟩)) ∧ W'.cell? ⟨pb, 6, none⟩ = some (.pointer (some ⟨mb, 0, none⟩)))) (by kernel_rfl) (keepP (show w1.drew.heap[pb]? = _ from HPB.out) rfl rfl) (fun hHeld => ?_)
  refine wpAnyH_take (i := 0) rfl (by kernel_rfl) (by kernel_rfl) (by kernel_rfl) (fun _ _ _ h => h) (Or.inl ⟨by rfl, by intro w hSw; (skip); (go_simp <;> with_reducible rfl)⟩) (by assumption) ?_
  (try simp only [Act.put, List.setIfInBounds_toArray, List.set_cons_zero, List.set_cons_succ, List.getElem_toArray, List.getElem_cons_zero, List.getElem_cons_succ])
  refine wpAnyH_take (i := 1) rfl (by kernel_rfl) (by kernel_rfl) (by kernel_rfl) (fun _ _ _ h => h) (Or.inl ⟨by rfl, by intro w hSw; (skip); (go_simp <;> with_reducible rfl)⟩) (by assumption) ?_
  (try simp only [Act.put, List.setIfInBounds_toArray, List.set_cons_zero, List.set_cons_succ, List.getElem_toArray, List.getElem_cons_zero, List.getElem_cons_succ])
  refine wpAnyH_take (i := 2) rfl (by kernel_rfl) (by kernel_rfl) (by kernel_rfl) (fun _ _ _ h => h) (Or.inl ⟨by rfl, by intro w hSw; (skip); (go_simp <;> with_reducible rfl)⟩) (by assumption) ?_
  (try simp only [Act.put, List.setIfInBounds_toArray, List.set_cons_zero, List.set_cons_succ, List.getElem_toArray, List.getElem_cons_zero, List.getElem_cons_succ])
  refine wpAnyH_take (i := 3) rfl (by kernel_rfl) (by kernel_rfl) (by kernel_rfl) (fun _ _ _ h => h) (Or.inl ⟨by rfl, by intro w hSw; (skip); (go_simp <;> with_reducible rfl)⟩) (by assumption) ?_
  (try simp only [Act.put, List.setIfInBounds_toArray, List.set_cons_zero, List.set_cons_succ, List.getElem_toArray, List.getElem_cons_zero, List.getElem_cons_succ])
  refine wpAnyH_take (i := 4) rfl (by kernel_rfl) (by kernel_rfl) (by kernel_rfl) (fun _ _ _ h => h) (Or.inl ⟨by rfl, by intro w hSw; (skip); (go_simp <;> with_reducible rfl)⟩) (by assumption) ?_
  (try simp only [Act.put, List.setIfInBounds_toArray, List.set_cons_zero, List.set_cons_succ, List.getElem_toArray, List.getElem_cons_zero, List.getElem_cons_succ])
  refine wpAnyH_take (i := 5) rfl (by kernel_rfl) (by kernel_rfl) (by kernel_rfl) (fun _ _ _ h => h) (Or.inl ⟨by rfl, by intro w hSw; (skip); (go_simp <;> with_reducible rfl)⟩) (by assumption) ?_
  (try simp only [Act.put, List.setIfInBounds_toArray, List.set_cons_zero, List.set_cons_succ, List.getElem_toArray, List.getElem_cons_zero, List.getElem_cons_succ])
  refine wpAnyH_take (i := 6) rfl (by kernel_rfl) (by kernel_rfl) (by kernel_rfl) (fun _ _ _ h => h) (Or.inl ⟨by rfl, by intro w hSw; (skip); (go_simp <;> with_reducible rfl)⟩) (by assumption) ?_
  (try simp only [Act.put, List.setIfInBounds_toArray, List.set_cons_zero, List.set_cons_succ, List.getElem_toArray, List.getElem_cons_zero, List.getElem_cons_succ])
  refine wpAnyH_take (i := 7) rfl (by kernel_rfl) (by kernel_rfl) (by kernel_rfl) (fun _ _ _ h => h) (Or.inl ⟨by rfl, by intro w hSw; (skip); (go_simp <;> with_reducible rfl)⟩) (by assumption) ?_
  (try simp only [Act.put, List.setIfInBounds_toArray, List.set_cons_zero, List.set_cons_succ, List.getElem_toArray, List.getElem_cons_zero, List.getElem_cons_succ])
  refine wpAnyH_take (i := 8) rfl (by kernel_rfl) (by kernel_rfl) (by kernel_rfl) (fun _ _ _ h => h) (Or.inl ⟨by rfl, by intro w hSw; (skip); (go_simp <;> with_reducible rfl)⟩) (by assumption) ?_
  (try simp only [Act.put, List.setIfInBounds_toArray, List.set_cons_zero, List.set_cons_succ, List.getElem_toArray, List.getElem_cons_zero, List.getElem_cons_succ])
  refine wpAnyH_ready (rs := [9, 10]) (by kernel_rfl) (by simp) (AllReadyH.cons rfl (fun K hK => ?_) (AllReadyH.cons rfl (fun K hK => ?_) AllReadyH.nil))
  go_simp
  refine (HST.out _ (Below.refl _ _)).mono ?_
  rintro e w5 ⟨sa, sc, sn, dn, cd, vl, mk, st, bf, s3, ws3, rfl, hq, hd5, hd6, hg5, ho5⟩
  have HQ := Lib.hid hq
  have hP5 := ho5.at_ (k := pb) (show w1.drew.heap[pb]? = _ from HPB.out) (fun h => h.1 (.inl HPE.out.1))
  clear hq
  refine hK.out _ _ (keepP hP5 rfl rfl) (fun hHeld => ?_)
  clear hK K
  (try simp only [Act.put, List.setIfInBounds_toArray, List.set_cons_zero, List.set_cons_succ, List.getElem_toArray, List.getElem_cons_zero, List.getElem_cons_succ])
  refine wpAnyH_ready (rs := [10]) (by kernel_rfl) (by simp) (AllReadyH.cons rfl (fun K hK => ?_) AllReadyH.nil)
  go_simp
  refine hK.out _ _ (keep_alloc2 hHeld) (fun hHeld => ?_)
  clear hK K
  (try simp only [Act.put, List.setIfInBounds_toArray, List.set_cons_zero, List.set_cons_succ, List.getElem_toArray, List.getElem_cons_zero, List.getElem_cons_succ])
  refine wpAnyH_ready (rs := [11]) (by kernel_rfl) (by simp) (AllReadyH.cons rfl (fun K hK => ?_) AllReadyH.nil)
  have hth := there_at (show (w5.alloc (.cells (didV false 0 (.slice none 0 0) false false false 0) 56)).heap[w5.heap.size]? = some (.cells (didV false 0 (.slice none 0 0) false false false 0) 56 (0, 0)) from heap_alloc_new w5 _) (n := (didV dn cd (.slice sa sn sc) vl mk st bf : Array Value).size) rfl
  have hsd : (Tryz.prog.info? 56).map (·.size) = some (didV dn cd (.slice sa sn sc) vl mk st bf : Array Value).size := did_size
  rw [if_pos (by rfl)]
  refine wp_store_mid _ _ _ rfl w5.heap.size 0 (didV dn cd (.slice sa sn sc) vl mk st bf) rfl rfl hth hsd (by kernel_rfl) ?_
  refine hK.out _ _ (keep_box2 hHeld (by have := ho5.size; have := HPE.out.2.1; show w5.heap.size ≠ pb; have : w1.drew.heap.size = w1.heap.size := rfl; omega)) (fun hHeld => ?_)
  clear hK K
  (try simp only [Act.put, List.setIfInBounds_toArray, List.set_cons_zero, List.set_cons_succ, List.getElem_toArray, List.getElem_cons_zero, List.getElem_cons_succ])
  obtain ⟨X, HX⟩ : ∃ X, Hid (X = (w5.alloc (.cells #[.bool false, .int .i64 0, .slice none 0 0, .bool false, .int .i64 0, .bool false, .bool false, .bool false, .int .i64 0] 56)).setCells w5.heap.size 0 [.bool dn, .int .i64 cd, .slice sa sn sc, .bool vl, .int .i64 0, .bool mk, .bool false, .bool st, .int .i64 bf]) := ⟨_, rfl⟩
  obtain ⟨tb, htb⟩ : ∃ t, t = w5.heap.size := ⟨_, rfl⟩
  have HSD : Hid (Stepped W w1.drew X E pb mb rb N per ws3 (atW P1.w wq) (some (rq1, s3)) tb (didV dn cd (.slice sa sn sc) vl mk st bf)) := Lib.hid (by rw [HX.out, htb]; exact Stepped.a (w1 := w1.drew) (vs := [.bool dn, .int .i64 cd, .slice sa sn sc, .bool vl, .int .i64 0, .bool mk, .bool false, .bool st, .int .i64 bf]) HEL.out HPE.out.1 hd5 ho5 rfl)
  have HOW : Hid (∀ (g : Nat) (o : Obj), Value.ownBlock (.slice sa sn sc) = some g → w5.heap[g]? = some o → X.heap[g]? = some o) := Lib.hid (fun g o hg ho => by rw [HX.out]; exact keepsA ho)
  have HNG : Hid (∀ g, Value.ownBlock (.slice sa sn sc) = some g → ¬ E g) := Lib.hid (fun g hg h => (hg5 g hg).1 (.inl h))
  refine wpAnyH_done (by kernel_rfl) ?_ _
  rotate_left
  go_simp
  refine hK.out _ _ (keep_alloc2 hHeld) (fun hHeld => ?_)
  clear hK K
  (try simp only [Act.put, List.setIfInBounds_toArray, List.set_cons_zero, List.set_cons_succ, List.getElem_toArray, List.getElem_cons_zero, List.getElem_cons_succ])
  refine wpAnyH_ready (rs := [9]) (by kernel_rfl) (by simp) (AllReadyH.cons rfl (fun K hK => ?_) AllReadyH.nil)
  go_simp
  refine (HST.out _ ((Below.refl _ _).alloc (Nat.le_refl _) _)).mono ?_
  rintro e w5 ⟨sa, sc, sn, dn, cd, vl, mk, st, bf, s3, ws3, rfl, hq, hd5, hd6, hg5, ho5⟩
  have HQ := Lib.hid hq
  have hP5 := ho5.at_ (k := pb) ((Below.heap_alloc w1.drew _ pb HPE.out.2.1).trans (show w1.drew.heap[pb]? = _ from HPB.out)) (fun h => h.1 (.inl HPE.out.1))
  clear hq
  refine hK.out _ _ (keepP hP5 rfl rfl) (fun hHeld => ?_)
  clear hK K
  (try simp only [Act.put, List.setIfInBounds_toArray, List.set_cons_zero, List.set_cons_succ, List.getElem_toArray, List.getElem_cons_zero, List.getElem_cons_succ])
  refine wpAnyH_ready (rs := [11]) (by kernel_rfl) (by simp) (AllReadyH.cons rfl (fun K hK => ?_) AllReadyH.nil)
  have hth := there_at (show w5.heap[w1.drew.heap.size]? = some (.cells (didV false 0 (.slice none 0 0) false false false 0) 56 (0, 0)) from ho5.at_ (heap_alloc_new w1.drew _) (fun h => h.1 (.inr ⟨Nat.le_refl _, Nat.lt_of_lt_of_eq (Nat.lt_succ_self _) (World.size_alloc _ _).symm⟩))) (n := (didV dn cd (.slice sa sn sc) vl mk st bf : Array Value).size) rfl
  have hsd : (Tryz.prog.info? 56).map (·.size) = some (didV dn cd (.slice sa sn sc) vl mk st bf : Array Value).size := did_size
  rw [if_pos (by rfl)]
  refine wp_store_mid _ _ _ rfl w1.drew.heap.size 0 (didV dn cd (.slice sa sn sc) vl mk st bf) rfl rfl hth hsd (by kernel_rfl) ?_
  refine hK.out _ _ (keep_box2 hHeld (by have := HPE.out.2.1; show w1.drew.heap.size ≠ pb; have : w1.drew.heap.size = w1.heap.size := rfl; omega)) (fun hHeld => ?_)
  clear hK K
  (try simp only [Act.put, List.setIfInBounds_toArray, List.set_cons_zero, List.set_cons_succ, List.getElem_toArray, List.getElem_cons_zero, List.getElem_cons_succ])
  obtain ⟨X, HX⟩ : ∃ X, Hid (X = (w5).setCells w1.drew.heap.size 0 [.bool dn, .int .i64 cd, .slice sa sn sc, .bool vl, .int .i64 0, .bool mk, .bool false, .bool st, .int .i64 bf]) := ⟨_, rfl⟩
  obtain ⟨tb, htb⟩ : ∃ t, t = w1.heap.size := ⟨_, rfl⟩
  have HSD : Hid (Stepped W w1.drew X E pb mb rb N per ws3 (atW P1.w wq) (some (rq1, s3)) tb (didV dn cd (.slice sa sn sc) vl mk st bf)) := Lib.hid (by rw [HX.out, htb]; exact Stepped.b (w1 := w1.drew) (vs := [.bool dn, .int .i64 cd, .slice sa sn sc, .bool vl, .int .i64 0, .bool mk, .bool false, .bool st, .int .i64 bf]) HEL.out HPE.out.1 HPE.out.2.2 hd5 ho5 rfl)
  have HOW : Hid (∀ (g : Nat) (o : Obj), Value.ownBlock (.slice sa sn sc) = some g → w5.heap[g]? = some o → X.heap[g]? = some o) := Lib.hid (fun g o hg ho => by rw [HX.out]; exact keepsB (fun e => (hg5 g hg).1 (.inr ⟨Nat.le_of_eq e.symm, by rw [e]; exact Nat.lt_of_lt_of_eq (Nat.lt_succ_self _) (World.size_alloc _ _).symm⟩)) ho)
  have HNG : Hid (∀ g, Value.ownBlock (.slice sa sn sc) = some g → ¬ E g) := Lib.hid (fun g hg h => (hg5 g hg).1 (.inl h))
  refine wpAnyH_done (by kernel_rfl) ?_ _
  all_goals (rw [← HX.out]; simp only [← htb])
  all_goals (
    have HXB : Hid (X.heap[pb]? = some (.cells (pV (x) (mb) ((pvW P1.w wq)) ((.pointer (some ⟨rq1, 0, none⟩))) (P1.n) (P1.written) (P1.marked) (P1.begun) (P1.first) (P1.last) (P1.steps) (P1.own)) 66 (0, 0))) := Lib.hid (HSD.out.at_ HP1.out.pe.1 (show w1.drew.heap[pb]? = _ from HPB.out))
    clear hHeld
    obtain ⟨l1, l2, l3, l4, l5, l6⟩ := HP1.out.lim
    obtain ⟨N1, N2, N3, N4⟩ := HP1.out.nn
    have hN0 : ¬ ((N : Int) = 0) := by omega
    have hne1 : tb ≠ pb := HSD.out.ne.1
    have hne2 : pb ≠ tb := fun e => hne1 e.symm
    obtain ⟨b, o, hca, hch⟩ := HP1.out.chan
    have HCH := Lib.hid hch
    have HCA := Lib.hid hca
    have g8 := blk_frozen 8 HXB.out
    have g16 := blk_frozen 16 HXB.out
    have d0 : X.cell? ⟨tb, 0, none⟩ = some (.bool dn) := cell_blk HSD.out.box rfl
    have d1 : X.cell? ⟨tb, 1, none⟩ = some (.int .i64 cd) := cell_blk HSD.out.box rfl
    have d2 : X.cell? ⟨tb, 2, none⟩ = some (.slice sa sn sc) := cell_blk HSD.out.box rfl
    obtain ⟨d, e0, e1, e2, -, -, -, -, hlen, hown0, h32⟩ := HQ.out
    have hown := own_over hown0 (fun g hg o ho => HOW.out g o hg ho)
    have hc := rd1_cases e0 HOK.out
    clear hch hca htb hth hsd hP5 hown0
    rcases hc with hc | hc | hc)
  · obtain ⟨c1, c2, c3⟩ := hc
    obtain rfl : dn = false := e1.trans c1
    have HC2 := Lib.hid c2
    have c40 : decide (P1.own + 1 < 40) = true := decide_eq_true c3
    have x8 : X.cell? ⟨pb, 8, none⟩ = some (.pointer (some ⟨rq1, 0, none⟩)) := cell_blk HXB.out rfl
    have x16 : X.cell? ⟨pb, 16, none⟩ = some (.int .i64 P1.own) := cell_blk HXB.out rfl
    clear c1 c2 c3 e1
    go_wp2
    go_ret
    have hof : Only (fun k => k = pb) X ((X).setCell ⟨pb, 16, none⟩ (.int .i64 (P1.own + 1))) := ((Only.refl (fun k => k = pb) X).set (p := ⟨pb, 16, none⟩) rfl _)
    refine ⟨rfl, rq1, ?_, fin_only HO1.out HSD.out.only hof HP1.out.pe.2⟩
    rw [HPW.out, HC2.out]
    refine ⟨(blk_put (o := 16) (v := .int .i64 (P1.own + 1)) HXB.out rfl), HSD.out.duo.dropped hof HP1.out.pe (by first | exact .inl rfl | exact .inr rfl) (by first | exact .inl rfl | exact .inr rfl), HP1.out.pe, HP1.out.cfg, HP1.out.nn, ?_⟩
    exact ⟨l1, by show P1.n ≤ ((K + 1 : Nat) : Int); omega, l3, by show P1.steps ≤ ((K + 1 : Nat) : Int); omega, by show 0 ≤ P1.own + 1; omega, by show P1.own + 1 ≤ ((K + 1 : Nat) : Int); omega⟩
  · obtain ⟨c1, c2, c3, c4, c5, c6, c7, c8⟩ := hc
    obtain rfl : dn = true := e1.trans c1
    obtain rfl : cd = 1 := e2.trans c2
    obtain rfl : sn = 0 := by rw [hlen, c7]; rfl
    have HC2 := Lib.hid c3
    have H41 : Hid (P1.own + 1 = 4) := Lib.hid (by omega)
    have x8 : X.cell? ⟨pb, 8, none⟩ = some (.pointer (some ⟨rq1, 0, none⟩)) := cell_blk HXB.out rfl
    have x12 : X.cell? ⟨pb, 12, none⟩ = some (.int .u32 0) := by rw [← c4]; exact cell_blk HXB.out rfl
    have x13 : X.cell? ⟨pb, 13, none⟩ = some (.int .u32 0) := by rw [← c5]; exact cell_blk HXB.out rfl
    have x14 : X.cell? ⟨pb, 14, none⟩ = some (.int .u32 0) := by rw [← c6]; exact cell_blk HXB.out rfl
    have x16 : X.cell? ⟨pb, 16, none⟩ = some (.int .i64 3) := by rw [← c8]; exact cell_blk HXB.out rfl
    clear c1 c2 c3 c4 c5 c6 c7 c8 e1 e2 hlen hown h32 e0
    go_wp2
    go_ret
    have hof : Only (fun k => k = pb) X ((((X).setCell ⟨pb, 16, none⟩ (.int .i64 4))).setCell ⟨pb, 8, none⟩ (.pointer none)) := (((Only.refl (fun k => k = pb) X).set (p := ⟨pb, 16, none⟩) rfl _).set (p := ⟨pb, 8, none⟩) rfl _)
    refine ⟨rfl, rq1, ?_, fin_only HO1.out HSD.out.only hof HP1.out.pe.2⟩
    have h41 := H41.out
    rw [HPW.out, HC2.out, h41]
    refine ⟨(blk_put (o := 8) (v := .pointer none) (blk_put (o := 16) (v := .int .i64 4) HXB.out rfl) rfl), HSD.out.duo.dropped hof HP1.out.pe (by first | exact .inl rfl | exact .inr rfl) (by first | exact .inl rfl | exact .inr rfl), HP1.out.pe, HP1.out.cfg, HP1.out.nn, ?_⟩
    exact ⟨l1, by show P1.n ≤ ((K + 1 : Nat) : Int); omega, l3, by show P1.steps ≤ ((K + 1 : Nat) : Int); omega, by show (0 : Int) ≤ 4; omega, by show (4 : Int) ≤ ((K + 1 : Nat) : Int); omega⟩
  · obtain ⟨c1, c2, c3, c4, c5⟩ := hc
    obtain rfl : dn = true := e1.trans c1
    obtain rfl : cd = 0 := e2.trans c2
    obtain ⟨f1, f2, f3, f4, f5, f6, f7, f8⟩ := found_is c5
    have HC2 := Lib.hid c4
    have hpos : 0 < sn := by rw [hlen]; exact List.length_pos_iff.2 c3
    obtain ⟨n0, hn0⟩ : ∃ n0, d.data.getD 0 0 = n0 := ⟨_, rfl⟩
    rw [hn0] at f2 f3 f4 f5 f6 f7 f8 HC2
    have hn32 : n0 ≤ 4294967295 := by rw [← hn0]; exact (h32 0).2
    obtain ⟨g, off, cap, hsl, -, -, -, -, -, hcells⟩ := hown.lies hpos
    obtain ⟨rfl, rfl⟩ : sa = some ⟨g, off, none⟩ ∧ sc = cap := by simpa using hsl
    obtain ⟨Y, HY⟩ : ∃ u, Hid (u = ((((X).setCell ⟨pb, 16, none⟩ (.int .i64 (P1.own + 1)))).setCell ⟨pb, 8, none⟩ (.pointer none))) := ⟨_, rfl⟩
    have HYB : Hid (Y.heap[pb]? = some (.cells (pV (x) (mb) ((pvW P1.w wq)) (.pointer none) (P1.n) (P1.written) (P1.marked) (P1.begun) (P1.first) (P1.last) (P1.steps) (P1.own + 1)) 66 (0, 0))) := Lib.hid (by rw [HY.out]; exact (blk_put (o := 8) (v := .pointer none) (blk_put (o := 16) (v := .int .i64 (P1.own + 1)) HXB.out rfl) rfl))
    have HOY : Hid (Only (fun k => k = pb) X Y) := Lib.hid (by rw [HY.out]; exact (((Only.refl (fun k => k = pb) X).set (p := ⟨pb, 16, none⟩) rfl _).set (p := ⟨pb, 8, none⟩) rfl _))
    have HDY := Lib.hid (HSD.out.duo.dropped (or' := none) HOY.out HP1.out.pe (.inl rfl) (.inr rfl))
    have y1 : Y.cell? ⟨tb, 1, none⟩ = some (.int .i64 0) := cell_of_blk (w := X) (cell_blk HSD.out.box rfl) (HOY.out.block tb (Array.getElem?_eq_some_iff.1 HSD.out.box).1 hne1)
    have y2 : Y.cell? ⟨tb, 2, none⟩ = some (.slice (some ⟨g, off, none⟩) sn sc) := cell_of_blk (w := X) (cell_blk HSD.out.box rfl) (HOY.out.block tb (Array.getElem?_eq_some_iff.1 HSD.out.box).1 hne1)
    have HCL : Hid (∀ k : Nat, k < sn → Y.cell? ⟨g, off + k, none⟩ = some (.int .u32 n0)) := Lib.hid (fun k hk => by
      have hx : d.data[k]? = some n0 := by
        have hk2 : k < d.data.length := by omega
        rw [List.getElem?_eq_getElem hk2]
        exact congrArg some (f2 _ (List.getElem_mem hk2))
      have hxw : (wcells d.data)[k]? = some (.int .u32 n0) := by unfold wcells; rw [List.getElem?_map, hx]; rfl
      exact cell_of_blk (w := X) (hcells k _ hxw) (HOY.out.block g (World.block_lt_of_cell? X ⟨g, off + k, none⟩ (hcells k _ hxw)) (fun e => HNG.out g rfl (by rw [e]; exact HP1.out.pe.1))))
    have x8 : X.cell? ⟨pb, 8, none⟩ = some (.pointer (some ⟨rq1, 0, none⟩)) := cell_blk HXB.out rfl
    have x16 : X.cell? ⟨pb, 16, none⟩ = some (.int .i64 P1.own) := cell_blk HXB.out rfl
    have y_1 : Y.cell? ⟨pb, 1, none⟩ = some (.slice (some ⟨b, o, none⟩) 1 x.cc) := by rw [← HCA.out]; exact cell_blk HYB.out rfl
    have y_11 : Y.cell? ⟨pb, 11, none⟩ = some (.int .u32 P1.marked) := cell_blk HYB.out rfl
    have y_12 : Y.cell? ⟨pb, 12, none⟩ = some (.int .u32 P1.begun) := cell_blk HYB.out rfl
    have y_13 : Y.cell? ⟨pb, 13, none⟩ = some (.int .u32 P1.first) := cell_blk HYB.out rfl
    have y_14 : Y.cell? ⟨pb, 14, none⟩ = some (.int .u32 P1.last) := cell_blk HYB.out rfl
    have y_16 : Y.cell? ⟨pb, 16, none⟩ = some (.int .i64 (P1.own + 1)) := cell_blk HYB.out rfl
    have g14 := blk_frozen 14 HYB.out
    have y3 : Y.cell? ⟨b, o + 3, none⟩ = some (.int .i64 (N : Int)) := by
      have := HCH.out Y HDY.out.below
      simpa using this
    have y0 : Y.cell? ⟨g, off, none⟩ = some (.int .u32 n0) := HCL.out 0 hpos
    have b1 : (P1.own + 1 != (sn : Int) + 5) = false := by rw [f1, hlen]; simp
    have nm0 := Int.emod_nonneg n0 (show (N : Int) ≠ 0 by omega)
    have nm1 := Int.emod_lt_of_pos n0 (show (0 : Int) < N by omega)
    have ntm : n0.tmod (N : Int) = n0 % (N : Int) := Int.tmod_eq_emod_of_nonneg (by omega)
    have b2 : ((sn : Int) == 1 + n0 % (N : Int)) = true := by
      have : (sn : Int) = 1 + n0 % (N : Int) := by rw [hlen]; exact f8
      rw [← this]; simp
    have hsm : sn ≤ 1000000 := by
      have : (sn : Int) = 1 + n0 % (N : Int) := by rw [hlen]; exact f8
      omega
    have HLEN := Lib.hid hlen
    clear c1 c2 c3 c4 c5 e1 e2 f1 f2 f8 hn0 hown hcells h32 hlen hsl HQ HOW e0
    go_wp2_with (rw [← HY.out])
    go_loopw [130] (fun ix wr => ∃ k : Nat, k ≤ sn ∧ ix = .int .i64 k ∧ Y = wr) (fun ix _ => sn - (intOf ix).toNat)
    case atStart => exact ⟨0, Nat.zero_le _, rfl, rfl⟩
    case round =>
      obtain ⟨k, hk, rfl, rfl⟩ := hrel
      by_cases hkl : k < sn
      · have yk := HCL.out k hkl
        go_wp2
        go_roundw
        case rel => exact ⟨k + 1, by omega, by go_num, by trivial⟩
        case measure => simp [intOf]; omega
      · obtain rfl : k = sn := by omega
        clear hkl
        go_wp2
        go_ret
        have hof : Only (fun k => k = pb) X ((Y).setCell ⟨pb, 14, none⟩ (.int .u32 n0)) := HOY.out.trans ((Only.refl (fun k => k = pb) Y).set (p := ⟨pb, 14, none⟩) rfl _)
        refine ⟨rfl, rq1, ?_, fin_only HO1.out HSD.out.only hof HP1.out.pe.2⟩
        rw [HPW.out, HC2.out]
        refine ⟨(blk_put (o := 14) (v := .int .u32 n0) HYB.out rfl), HSD.out.duo.dropped hof HP1.out.pe (by first | exact .inl rfl | exact .inr rfl) (by first | exact .inl rfl | exact .inr rfl), HP1.out.pe, HP1.out.cfg, HP1.out.nn, ?_⟩
        exact ⟨l1, by show P1.n ≤ ((K + 1 : Nat) : Int); omega, l3, by show P1.steps ≤ ((K + 1 : Nat) : Int); omega, by show 0 ≤ P1.own + 1; omega, by show P1.own + 1 ≤ ((K + 1 : Nat) : Int); omega⟩
  · obtain ⟨c1, c2, c3⟩ := hc
    obtain rfl : dn = false := e1.trans c1
    have HC2 := Lib.hid c2
    have c40 : decide (P1.own + 1 < 40) = true := decide_eq_true c3
    have x8 : X.cell? ⟨pb, 8, none⟩ = some (.pointer (some ⟨rq1, 0, none⟩)) := cell_blk HXB.out rfl
    have x16 : X.cell? ⟨pb, 16, none⟩ = some (.int .i64 P1.own) := cell_blk HXB.out rfl
    clear c1 c2 c3 e1
    go_wp2
    go_ret
    have hof : Only (fun k => k = pb) X ((X).setCell ⟨pb, 16, none⟩ (.int .i64 (P1.own + 1))) := ((Only.refl (fun k => k = pb) X).set (p := ⟨pb, 16, none⟩) rfl _)
    refine ⟨rfl, rq1, ?_, fin_only HO1.out HSD.out.only hof HP1.out.pe.2⟩
    rw [HPW.out, HC2.out]
    refine ⟨(blk_put (o := 16) (v := .int .i64 (P1.own + 1)) HXB.out rfl), HSD.out.duo.dropped hof HP1.out.pe (by first | exact .inl rfl | exact .inr rfl) (by first | exact .inl rfl | exact .inr rfl), HP1.out.pe, HP1.out.cfg, HP1.out.nn, ?_⟩
    exact ⟨l1, by show P1.n ≤ ((K + 1 : Nat) : Int); omega, l3, by show P1.steps ≤ ((K + 1 : Nat) : Int); omega, by show 0 ≤ P1.own + 1; omega, by show P1.own + 1 ≤ ((K + 1 : Nat) : Int); omega⟩
  · obtain ⟨c1, c2, c3, c4, c5, c6, c7, c8⟩ := hc
    obtain rfl : dn = true := e1.trans c1
    obtain rfl : cd = 1 := e2.trans c2
    obtain rfl : sn = 0 := by rw [hlen, c7]; rfl
    have HC2 := Lib.hid c3
    have H41 : Hid (P1.own + 1 = 4) := Lib.hid (by omega)
    have x8 : X.cell? ⟨pb, 8, none⟩ = some (.pointer (some ⟨rq1, 0, none⟩)) := cell_blk HXB.out rfl
    have x12 : X.cell? ⟨pb, 12, none⟩ = some (.int .u32 0) := by rw [← c4]; exact cell_blk HXB.out rfl
    have x13 : X.cell? ⟨pb, 13, none⟩ = some (.int .u32 0) := by rw [← c5]; exact cell_blk HXB.out rfl
    have x14 : X.cell? ⟨pb, 14, none⟩ = some (.int .u32 0) := by rw [← c6]; exact cell_blk HXB.out rfl
    have x16 : X.cell? ⟨pb, 16, none⟩ = some (.int .i64 3) := by rw [← c8]; exact cell_blk HXB.out rfl
    clear c1 c2 c3 c4 c5 c6 c7 c8 e1 e2 hlen hown h32 e0
    go_wp2
    go_ret
    have hof : Only (fun k => k = pb) X ((((X).setCell ⟨pb, 16, none⟩ (.int .i64 4))).setCell ⟨pb, 8, none⟩ (.pointer none)) := (((Only.refl (fun k => k = pb) X).set (p := ⟨pb, 16, none⟩) rfl _).set (p := ⟨pb, 8, none⟩) rfl _)
    refine ⟨rfl, rq1, ?_, fin_only HO1.out HSD.out.only hof HP1.out.pe.2⟩
    have h41 := H41.out
    rw [HPW.out, HC2.out, h41]
    refine ⟨(blk_put (o := 8) (v := .pointer none) (blk_put (o := 16) (v := .int .i64 4) HXB.out rfl) rfl), HSD.out.duo.dropped hof HP1.out.pe (by first | exact .inl rfl | exact .inr rfl) (by first | exact .inl rfl | exact .inr rfl), HP1.out.pe, HP1.out.cfg, HP1.out.nn, ?_⟩
    exact ⟨l1, by show P1.n ≤ ((K + 1 : Nat) : Int); omega, l3, by show P1.steps ≤ ((K + 1 : Nat) : Int); omega, by show (0 : Int) ≤ 4; omega, by show (4 : Int) ≤ ((K + 1 : Nat) : Int); omega⟩
  · obtain ⟨c1, c2, c3, c4, c5⟩ := hc
    obtain rfl : dn = true := e1.trans c1
    obtain rfl : cd = 0 := e2.trans c2
    obtain ⟨f1, f2, f3, f4, f5, f6, f7, f8⟩ := found_is c5
    have HC2 := Lib.hid c4
    have hpos : 0 < sn := by rw [hlen]; exact List.length_pos_iff.2 c3
    obtain ⟨n0, hn0⟩ : ∃ n0, d.data.getD 0 0 = n0 := ⟨_, rfl⟩
    rw [hn0] at f2 f3 f4 f5 f6 f7 f8 HC2
    have hn32 : n0 ≤ 4294967295 := by rw [← hn0]; exact (h32 0).2
    obtain ⟨g, off, cap, hsl, -, -, -, -, -, hcells⟩ := hown.lies hpos
    obtain ⟨rfl, rfl⟩ : sa = some ⟨g, off, none⟩ ∧ sc = cap := by simpa using hsl
    obtain ⟨Y, HY⟩ : ∃ u, Hid (u = ((((X).setCell ⟨pb, 16, none⟩ (.int .i64 (P1.own + 1)))).setCell ⟨pb, 8, none⟩ (.pointer none))) := ⟨_, rfl⟩
    have HYB : Hid (Y.heap[pb]? = some (.cells (pV (x) (mb) ((pvW P1.w wq)) (.pointer none) (P1.n) (P1.written) (P1.marked) (P1.begun) (P1.first) (P1.last) (P1.steps) (P1.own + 1)) 66 (0, 0))) := Lib.hid (by rw [HY.out]; exact (blk_put (o := 8) (v := .pointer none) (blk_put (o := 16) (v := .int .i64 (P1.own + 1)) HXB.out rfl) rfl))
    have HOY : Hid (Only (fun k => k = pb) X Y) := Lib.hid (by rw [HY.out]; exact (((Only.refl (fun k => k = pb) X).set (p := ⟨pb, 16, none⟩) rfl _).set (p := ⟨pb, 8, none⟩) rfl _))
    have HDY := Lib.hid (HSD.out.duo.dropped (or' := none) HOY.out HP1.out.pe (.inl rfl) (.inr rfl))
    have y1 : Y.cell? ⟨tb, 1, none⟩ = some (.int .i64 0) := cell_of_blk (w := X) (cell_blk HSD.out.box rfl) (HOY.out.block tb (Array.getElem?_eq_some_iff.1 HSD.out.box).1 hne1)
    have y2 : Y.cell? ⟨tb, 2, none⟩ = some (.slice (some ⟨g, off, none⟩) sn sc) := cell_of_blk (w := X) (cell_blk HSD.out.box rfl) (HOY.out.block tb (Array.getElem?_eq_some_iff.1 HSD.out.box).1 hne1)
    have HCL : Hid (∀ k : Nat, k < sn → Y.cell? ⟨g, off + k, none⟩ = some (.int .u32 n0)) := Lib.hid (fun k hk => by
      have hx : d.data[k]? = some n0 := by
        have hk2 : k < d.data.length := by omega
        rw [List.getElem?_eq_getElem hk2]
        exact congrArg some (f2 _ (List.getElem_mem hk2))
      have hxw : (wcells d.data)[k]? = some (.int .u32 n0) := by unfold wcells; rw [List.getElem?_map, hx]; rfl
      exact cell_of_blk (w := X) (hcells k _ hxw) (HOY.out.block g (World.block_lt_of_cell? X ⟨g, off + k, none⟩ (hcells k _ hxw)) (fun e => HNG.out g rfl (by rw [e]; exact HP1.out.pe.1))))
    have x8 : X.cell? ⟨pb, 8, none⟩ = some (.pointer (some ⟨rq1, 0, none⟩)) := cell_blk HXB.out rfl
    have x16 : X.cell? ⟨pb, 16, none⟩ = some (.int .i64 P1.own) := cell_blk HXB.out rfl
    have y_1 : Y.cell? ⟨pb, 1, none⟩ = some (.slice (some ⟨b, o, none⟩) 1 x.cc) := by rw [← HCA.out]; exact cell_blk HYB.out rfl
    have y_11 : Y.cell? ⟨pb, 11, none⟩ = some (.int .u32 P1.marked) := cell_blk HYB.out rfl
    have y_12 : Y.cell? ⟨pb, 12, none⟩ = some (.int .u32 P1.begun) := cell_blk HYB.out rfl
    have y_13 : Y.cell? ⟨pb, 13, none⟩ = some (.int .u32 P1.first) := cell_blk HYB.out rfl
    have y_14 : Y.cell? ⟨pb, 14, none⟩ = some (.int .u32 P1.last) := cell_blk HYB.out rfl
    have y_16 : Y.cell? ⟨pb, 16, none⟩ = some (.int .i64 (P1.own + 1)) := cell_blk HYB.out rfl
    have g14 := blk_frozen 14 HYB.out
    have y3 : Y.cell? ⟨b, o + 3, none⟩ = some (.int .i64 (N : Int)) := by
      have := HCH.out Y HDY.out.below
      simpa using this
    have y0 : Y.cell? ⟨g, off, none⟩ = some (.int .u32 n0) := HCL.out 0 hpos
    have b1 : (P1.own + 1 != (sn : Int) + 5) = false := by rw [f1, hlen]; simp
    have nm0 := Int.emod_nonneg n0 (show (N : Int) ≠ 0 by omega)
    have nm1 := Int.emod_lt_of_pos n0 (show (0 : Int) < N by omega)
    have ntm : n0.tmod (N : Int) = n0 % (N : Int) := Int.tmod_eq_emod_of_nonneg (by omega)
    have b2 : ((sn : Int) == 1 + n0 % (N : Int)) = true := by
      have : (sn : Int) = 1 + n0 % (N : Int) := by rw [hlen]; exact f8
      rw [← this]; simp
    have hsm : sn ≤ 1000000 := by
      have : (sn : Int) = 1 + n0 % (N : Int) := by rw [hlen]; exact f8
      omega
    have HLEN := Lib.hid hlen
    clear c1 c2 c3 c4 c5 e1 e2 f1 f2 f8 hn0 hown hcells h32 hlen hsl HQ HOW e0
    go_wp2_with (rw [← HY.out])
    go_loopw [130] (fun ix wr => ∃ k : Nat, k ≤ sn ∧ ix = .int .i64 k ∧ Y = wr) (fun ix _ => sn - (intOf ix).toNat)
    case atStart => exact ⟨0, Nat.zero_le _, rfl, rfl⟩
    case round =>
      obtain ⟨k, hk, rfl, rfl⟩ := hrel
      by_cases hkl : k < sn
      · have yk := HCL.out k hkl
        go_wp2
        go_roundw
        case rel => exact ⟨k + 1, by omega, by go_num, by trivial⟩
        case measure => simp [intOf]; omega
      · obtain rfl : k = sn := by omega
        clear hkl
        go_wp2
        go_ret
        have hof : Only (fun k => k = pb) X ((Y).setCell ⟨pb, 14, none⟩ (.int .u32 n0)) := HOY.out.trans ((Only.refl (fun k => k = pb) Y).set (p := ⟨pb, 14, none⟩) rfl _)
        refine ⟨rfl, rq1, ?_, fin_only HO1.out HSD.out.only hof HP1.out.pe.2⟩
        rw [HPW.out, HC2.out]
        refine ⟨(blk_put (o := 14) (v := .int .u32 n0) HYB.out rfl), HSD.out.duo.dropped hof HP1.out.pe (by first | exact .inl rfl | exact .inr rfl) (by first | exact .inl rfl | exact .inr rfl), HP1.out.pe, HP1.out.cfg, HP1.out.nn, ?_⟩
        exact ⟨l1, by show P1.n ≤ ((K + 1 : Nat) : Int); omega, l3, by show P1.steps ≤ ((K + 1 : Nat) : Int); omega, by show 0 ≤ P1.own + 1; omega, by show P1.own + 1 ≤ ((K + 1 : Nat) : Int); omega⟩
end
end Go.Proofs.YtocdidkfnbkkhaaGreat
