/- The play: a step of the write, at a message's beginning. No condition but those in the statements. -/
import Derived.Test.YtocdidkfnbkkhaaGreatGG
import Derived.BigQuiet
import Derived.IntWalk
import Derived.Deep.MidRow
import Derived.Deep.Upon
import Derived.BigRegion
import Derived.Shelf.Abstract
import Derived.Deep.RegionHeld3
namespace Go.Proofs.YtocdidkfnbkkhaaGreat
open Go.RowKit Go.Sort
set_option linter.unusedVariables false
set_option linter.unusedSimpArgs false
set_option linter.unusedVariables false
set_option linter.unusedSimpArgs false
open Go.Proofs.YtocdidkfnbkkhaaGreat.Simp
set_option maxRecDepth 100000
set_option maxHeartbeats 12800000
section
variable {W w w' : World} {E : Nat → Prop} {pb mb rb N K wq rq : Nat} {per : Int} {x : CfgAt} {P : Pl}
theorem writeN_b (now : Int) (h : PAt W w E pb mb rb N per x (K) (P) wq rq) (hK : K ≤ 90000) (hw : P.w = none) : Calls Tryz.prog 22 #[.pointer (some ⟨pb, 0, none⟩), .int .i64 now] w (WroteW W w E pb mb rb N per x (K + 2) (playW N per P now) rq) := by
  unfold WroteW
  have h7 : w.cell? ⟨pb, 7, none⟩ = some (pvW P.w wq) := cell_blk h.blk rfl
  have HBG := Lib.hid (begin_b h hw (by omega))
  have HPW := Lib.hid (show playW N per P now = wr1 N per (begin_ N P) (Simp.start (msg N (P.n + 1))) now from by unfold playW; rw [hw])
  rw [hw] at h7
  have g7 : w.cell? ⟨pb, 7, none⟩ = some (.pointer none) := h7
  clear h h7
  go_enter Tryz.func22, Tryz.ntmps22
  go_wp2_with fail
  refine HBG.out.mono ?_
  rintro e w1 ⟨rfl, wq1, hp1, ho1⟩
  obtain ⟨P1, hP1⟩ : ∃ Q, begin_ N P = Q := ⟨_, rfl⟩
  have hs1 : P1.w = some (Simp.start (msg N (P.n + 1))) := by rw [← hP1]; rfl
  rw [hP1] at hp1 HPW
  obtain ⟨s, hs⟩ : ∃ s, Simp.start (msg N (P.n + 1)) = s := ⟨_, rfl⟩
  rw [hs] at hs1 HPW
  have HP1 := Lib.hid hp1; have HS1 := Lib.hid hs1; have HO1 := Lib.hid ho1
  have HDU : Hid (Duo W w1 W.heap.size E mb rb (fr2 N per) P1.m (some (wq1, s)) (atW P1.r rq)) := Lib.hid (by have q := hp1.duo; rw [hs1] at q; exact q)
  clear hp1 hs1 ho1 hs hP1 g7 hw
  have HPB : Hid (w1.heap[pb]? = some (.cells (pV (x) (mb) ((.pointer (some ⟨wq1, 0, none⟩))) ((pvW P1.r rq)) (P1.n) (P1.written) (P1.marked) (P1.begun) (P1.first) (P1.last) (P1.steps) (P1.own)) 66 (0, 0))) := Lib.hid (by have q := HP1.out.blk; rw [HS1.out] at q; exact q)
  have HEL : Hid (∀ k, E k → k < w1.drew.heap.size) := Lib.hid (fun k hk => by obtain ⟨_, _, _, _, h3, _⟩ := HP1.out.duo.two; exact (h3 k hk).2.2.2.2)
  have HPE : Hid (E pb ∧ pb < w1.drew.heap.size ∧ W.heap.size ≤ w1.drew.heap.size) := Lib.hid ⟨HP1.out.pe.1, HP1.out.lt, HP1.out.duo.below.size⟩
  have HST := Lib.hid (fun (W' : World) (h : Below w1.drew.heap.size w1.drew W') => (HDU.out.only (T := fun _ => False) ((Only.refl _ w1).drew.trans (Only.of_below h)) (fun _ _ h => h.elim) (E' := fun k => E k ∨ (w1.drew.heap.size ≤ k ∧ k < W'.heap.size)) (fun k h => h)).stW now)
  have h7' : w1.cell? ⟨pb, 7, none⟩ = some (.pointer (some ⟨wq1, 0, none⟩)) := cell_blk HPB.out rfl
  (try clear h7)
  go_wp2
  clear h7'
  refine wp_region_held_drew (S := (fun W' => W'.cell? ⟨pb, 7, none⟩ = some (.pointer (some ⟨wq1, 0, none⟩)) ∧ W'.cell? ⟨pb, 6, none⟩ = some (.pointer (some ⟨mb, 0, none⟩)))) (by kernel_rfl) (keepP (show w1.drew.heap[pb]? = _ from HPB.out) rfl rfl) (fun hHeld => ?_)
  refine wpAnyH_take (i := 0) rfl (by kernel_rfl) (by kernel_rfl) (by kernel_rfl) (fun _ _ _ h => h) (Or.inl ⟨by rfl, by intro w hSw; (skip); (go_simp <;> with_reducible rfl)⟩) (by assumption) ?_
  (try simp only [Act.put, List.setIfInBounds_toArray, List.set_cons_zero, List.set_cons_succ, List.getElem_toArray, List.getElem_cons_zero, List.getElem_cons_succ])
  refine wpAnyH_take (i := 1) rfl (by kernel_rfl) (by kernel_rfl) (by kernel_rfl) (fun _ _ _ h => h) (Or.inl ⟨by rfl, by intro w hSw; (skip); (go_simp <;> with_reducible rfl)⟩) (by assumption) ?_
  (try simp only [Act.put, List.setIfInBounds_toArray, List.set_cons_zero, List.set_cons_succ, List.getElem_toArray, List.getElem_cons_zero, List.getElem_cons_succ])
  refine wpAnyH_take (i := 2) rfl (by kernel_rfl) (by kernel_rfl) (by kernel_rfl) (fun _ _ _ h => h) (Or.inl ⟨by rfl, by intro w hSw; (skip); (go_simp <;> with_reducible rfl)⟩) (by assumption) ?_
  (try simp only [Act.put, List.setIfInBounds_toArray, List.set_cons_zero, List.set_cons_succ, List.getElem_toArray, List.getElem_cons_zero, List.getElem_cons_succ])
  refine wpAnyH_take (i := 3) rfl (by kernel_rfl) (by kernel_rfl) (by kernel_rfl) (fun _ _ _ h => h) (Or.inl ⟨by rfl, by intro w hSw; (skip); (go_simp <;> with_reducible rfl)⟩) (by assumption) ?_
  (try simp only [Act.put, List.setIfInBounds_toArray, List.set_cons_zero, List.set_cons_succ, List.getElem_toArray, List.getElem_cons_zero, List.getElem_cons_succ])
  refine wpAnyH_take (i := 4) rfl (by kernel_rfl) (by kernel_rfl) (by kernel_rfl) (fun _ _ _ h => h) (Or.inl ⟨by rfl, by intro w hSw; (skip); (go_simp <;> with_reducible rfl)⟩) (by assumption) ?_
  (try simp only [Act.put, List.setIfInBounds_toArray, List.set_cons_zero, List.set_cons_succ, List.getElem_toArray, List.getElem_cons_zero, List.getElem_cons_succ])
  refine wpAnyH_take (i := 5) rfl (by kernel_rfl) (by kernel_rfl) (by kernel_rfl) (fun _ _ _ h => h) (Or.inl ⟨by rfl, by intro w hSw; (skip); (go_simp <;> with_reducible rfl)⟩) (by assumption) ?_
  (try simp only [Act.put, List.setIfInBounds_toArray, List.set_cons_zero, List.set_cons_succ, List.getElem_toArray, List.getElem_cons_zero, List.getElem_cons_succ])
  refine wpAnyH_take (i := 6) rfl (by kernel_rfl) (by kernel_rfl) (by kernel_rfl) (fun _ _ _ h => h) (Or.inl ⟨by rfl, by intro w hSw; (skip); (go_simp <;> with_reducible rfl)⟩) (by assumption) ?_
  (try simp only [Act.put, List.setIfInBounds_toArray, List.set_cons_zero, List.set_cons_succ, List.getElem_toArray, List.getElem_cons_zero, List.getElem_cons_succ])
  refine wpAnyH_take (i := 7) rfl (by kernel_rfl) (by kernel_rfl) (by kernel_rfl) (fun _ _ _ h => h) (Or.inl ⟨by rfl, by intro w hSw; (skip); (go_simp <;> with_reducible rfl)⟩) (by assumption) ?_
  (try simp only [Act.put, List.setIfInBounds_toArray, List.set_cons_zero, List.set_cons_succ, List.getElem_toArray, List.getElem_cons_zero, List.getElem_cons_succ])
  refine wpAnyH_take (i := 8) rfl (by kernel_rfl) (by kernel_rfl) (by kernel_rfl) (fun _ _ _ h => h) (Or.inl ⟨by rfl, by intro w hSw; (skip); (go_simp <;> with_reducible rfl)⟩) (by assumption) ?_
  (try simp only [Act.put, List.setIfInBounds_toArray, List.set_cons_zero, List.set_cons_succ, List.getElem_toArray, List.getElem_cons_zero, List.getElem_cons_succ])
  refine wpAnyH_ready (rs := [9, 10]) (by kernel_rfl) (by simp) (AllReadyH.cons rfl (fun K hK => ?_) (AllReadyH.cons rfl (fun K hK => ?_) AllReadyH.nil))
  go_simp
  refine (HST.out _ (Below.refl _ _)).mono ?_
  rintro e w5 ⟨dn, mk, st, bf, s3, ws3, rfl, hq, hd5, ho5⟩
  have HQ := Lib.hid hq
  have hP5 := ho5.at_ (k := pb) (show w1.drew.heap[pb]? = _ from HPB.out) (fun h => h.1 (.inl HPE.out.1))
  clear hq
  refine hK.out _ _ (keepP hP5 rfl rfl) (fun hHeld => ?_)
  clear hK K
  (try simp only [Act.put, List.setIfInBounds_toArray, List.set_cons_zero, List.set_cons_succ, List.getElem_toArray, List.getElem_cons_zero, List.getElem_cons_succ])
  refine wpAnyH_ready (rs := [10]) (by kernel_rfl) (by simp) (AllReadyH.cons rfl (fun K hK => ?_) AllReadyH.nil)
  go_simp
  refine hK.out _ _ (keep_alloc2 hHeld) (fun hHeld => ?_)
  clear hK K
  (try simp only [Act.put, List.setIfInBounds_toArray, List.set_cons_zero, List.set_cons_succ, List.getElem_toArray, List.getElem_cons_zero, List.getElem_cons_succ])
  refine wpAnyH_ready (rs := [11]) (by kernel_rfl) (by simp) (AllReadyH.cons rfl (fun K hK => ?_) AllReadyH.nil)
  have hth := there_at (show (w5.alloc (.cells (didV false 0 (.slice none 0 0) false false false 0) 56)).heap[w5.heap.size]? = some (.cells (didV false 0 (.slice none 0 0) false false false 0) 56 (0, 0)) from heap_alloc_new w5 _) (n := (didV dn 0 (.slice none 0 0) false mk st bf : Array Value).size) rfl
  have hsd : (Tryz.prog.info? 56).map (·.size) = some (didV dn 0 (.slice none 0 0) false mk st bf : Array Value).size := did_size
  rw [if_pos (by rfl)]
  refine wp_store_mid _ _ _ rfl w5.heap.size 0 (didV dn 0 (.slice none 0 0) false mk st bf) rfl rfl hth hsd (by kernel_rfl) ?_
  refine hK.out _ _ (keep_box2 hHeld (by have := ho5.size; have := HPE.out.2.1; show w5.heap.size ≠ pb; have : w1.drew.heap.size = w1.heap.size := rfl; omega)) (fun hHeld => ?_)
  clear hK K
  (try simp only [Act.put, List.setIfInBounds_toArray, List.set_cons_zero, List.set_cons_succ, List.getElem_toArray, List.getElem_cons_zero, List.getElem_cons_succ])
  obtain ⟨X, HX⟩ : ∃ X, Hid (X = (w5.alloc (.cells #[.bool false, .int .i64 0, .slice none 0 0, .bool false, .int .i64 0, .bool false, .bool false, .bool false, .int .i64 0] 56)).setCells w5.heap.size 0 [.bool dn, .int .i64 0, .slice none 0 0, .bool false, .int .i64 0, .bool mk, .bool false, .bool st, .int .i64 bf]) := ⟨_, rfl⟩
  obtain ⟨tb, htb⟩ : ∃ t, t = w5.heap.size := ⟨_, rfl⟩
  have HSD : Hid (Stepped W w1.drew X E pb mb rb N per ws3 (some (wq1, s3)) (atW P1.r rq) tb (didV dn 0 (.slice none 0 0) false mk st bf)) := Lib.hid (by rw [HX.out, htb]; exact Stepped.a (w1 := w1.drew) (vs := [.bool dn, .int .i64 0, .slice none 0 0, .bool false, .int .i64 0, .bool mk, .bool false, .bool st, .int .i64 bf]) HEL.out HPE.out.1 hd5 ho5 rfl)
  refine wpAnyH_done (by kernel_rfl) ?_ _
  rotate_left
  go_simp
  refine hK.out _ _ (keep_alloc2 hHeld) (fun hHeld => ?_)
  clear hK K
  (try simp only [Act.put, List.setIfInBounds_toArray, List.set_cons_zero, List.set_cons_succ, List.getElem_toArray, List.getElem_cons_zero, List.getElem_cons_succ])
  refine wpAnyH_ready (rs := [9]) (by kernel_rfl) (by simp) (AllReadyH.cons rfl (fun K hK => ?_) AllReadyH.nil)
  go_simp
  refine (HST.out _ ((Below.refl _ _).alloc (Nat.le_refl _) _)).mono ?_
  rintro e w5 ⟨dn, mk, st, bf, s3, ws3, rfl, hq, hd5, ho5⟩
  have HQ := Lib.hid hq
  have hP5 := ho5.at_ (k := pb) ((Below.heap_alloc w1.drew _ pb HPE.out.2.1).trans (show w1.drew.heap[pb]? = _ from HPB.out)) (fun h => h.1 (.inl HPE.out.1))
  clear hq
  refine hK.out _ _ (keepP hP5 rfl rfl) (fun hHeld => ?_)
  clear hK K
  (try simp only [Act.put, List.setIfInBounds_toArray, List.set_cons_zero, List.set_cons_succ, List.getElem_toArray, List.getElem_cons_zero, List.getElem_cons_succ])
  refine wpAnyH_ready (rs := [11]) (by kernel_rfl) (by simp) (AllReadyH.cons rfl (fun K hK => ?_) AllReadyH.nil)
  have hth := there_at (show w5.heap[w1.drew.heap.size]? = some (.cells (didV false 0 (.slice none 0 0) false false false 0) 56 (0, 0)) from ho5.at_ (heap_alloc_new w1.drew _) (fun h => h.1 (.inr ⟨Nat.le_refl _, Nat.lt_of_lt_of_eq (Nat.lt_succ_self _) (World.size_alloc _ _).symm⟩))) (n := (didV dn 0 (.slice none 0 0) false mk st bf : Array Value).size) rfl
  have hsd : (Tryz.prog.info? 56).map (·.size) = some (didV dn 0 (.slice none 0 0) false mk st bf : Array Value).size := did_size
  rw [if_pos (by rfl)]
  refine wp_store_mid _ _ _ rfl w1.drew.heap.size 0 (didV dn 0 (.slice none 0 0) false mk st bf) rfl rfl hth hsd (by kernel_rfl) ?_
  refine hK.out _ _ (keep_box2 hHeld (by have := HPE.out.2.1; show w1.drew.heap.size ≠ pb; have : w1.drew.heap.size = w1.heap.size := rfl; omega)) (fun hHeld => ?_)
  clear hK K
  (try simp only [Act.put, List.setIfInBounds_toArray, List.set_cons_zero, List.set_cons_succ, List.getElem_toArray, List.getElem_cons_zero, List.getElem_cons_succ])
  obtain ⟨X, HX⟩ : ∃ X, Hid (X = (w5).setCells w1.drew.heap.size 0 [.bool dn, .int .i64 0, .slice none 0 0, .bool false, .int .i64 0, .bool mk, .bool false, .bool st, .int .i64 bf]) := ⟨_, rfl⟩
  obtain ⟨tb, htb⟩ : ∃ t, t = w1.heap.size := ⟨_, rfl⟩
  have HSD : Hid (Stepped W w1.drew X E pb mb rb N per ws3 (some (wq1, s3)) (atW P1.r rq) tb (didV dn 0 (.slice none 0 0) false mk st bf)) := Lib.hid (by rw [HX.out, htb]; exact Stepped.b (w1 := w1.drew) (vs := [.bool dn, .int .i64 0, .slice none 0 0, .bool false, .int .i64 0, .bool mk, .bool false, .bool st, .int .i64 bf]) HEL.out HPE.out.1 HPE.out.2.2 hd5 ho5 rfl)
  refine wpAnyH_done (by kernel_rfl) ?_ _
  all_goals (rw [← HX.out]; simp only [← htb])
  all_goals skip
  all_goals have HXB : Hid (X.heap[pb]? = some (.cells (pV (x) (mb) ((.pointer (some ⟨wq1, 0, none⟩))) ((pvW P1.r rq)) (P1.n) (P1.written) (P1.marked) (P1.begun) (P1.first) (P1.last) (P1.steps) (P1.own)) 66 (0, 0))) := Lib.hid (HSD.out.at_ HP1.out.pe.1 (show w1.drew.heap[pb]? = _ from HPB.out))
  all_goals clear hHeld
  all_goals obtain ⟨l1, l2, l3, l4, l5, l6⟩ := HP1.out.lim
  all_goals obtain ⟨N1, N2, N3, N4⟩ := HP1.out.nn
  all_goals have hm0 := Int.emod_nonneg P1.n (show (N : Int) ≠ 0 by omega)
  all_goals have hm1 := Int.emod_lt_of_pos P1.n (show (0 : Int) < N by omega)
  all_goals have htm : P1.n.tmod (N : Int) = P1.n % (N : Int) := Int.tmod_eq_emod_of_nonneg l1
  all_goals have hN0 : ¬ ((N : Int) = 0) := by omega
  all_goals have hne1 : tb ≠ pb := HSD.out.ne.1
  all_goals have hne2 : pb ≠ tb := fun e => hne1 e.symm
  all_goals obtain ⟨b, o, hca, hch⟩ := HP1.out.chan
  all_goals have h3 := hch X HSD.out.duo.below
  all_goals have x1 : X.cell? ⟨pb, 1, none⟩ = some (.slice (some ⟨b, o, none⟩) 1 x.cc) := by rw [← hca]; exact cell_blk HXB.out rfl
  all_goals have x7 : X.cell? ⟨pb, 7, none⟩ = some (.pointer (some ⟨wq1, 0, none⟩)) := cell_blk HXB.out rfl
  all_goals have x9 : X.cell? ⟨pb, 9, none⟩ = some (.int .u32 P1.n) := cell_blk HXB.out rfl
  all_goals have x10 : X.cell? ⟨pb, 10, none⟩ = some (.int .u32 P1.written) := cell_blk HXB.out rfl
  all_goals have x11 : X.cell? ⟨pb, 11, none⟩ = some (.int .u32 P1.marked) := cell_blk HXB.out rfl
  all_goals have x15 : X.cell? ⟨pb, 15, none⟩ = some (.int .i64 P1.steps) := cell_blk HXB.out rfl
  all_goals have g7 : X.frozen? ⟨pb, 7, none⟩ = false := blk_frozen 7 HXB.out
  all_goals have g10 : X.frozen? ⟨pb, 10, none⟩ = false := blk_frozen 10 HXB.out
  all_goals have g11 : X.frozen? ⟨pb, 11, none⟩ = false := blk_frozen 11 HXB.out
  all_goals have g15 : X.frozen? ⟨pb, 15, none⟩ = false := blk_frozen 15 HXB.out
  all_goals have d0 : X.cell? ⟨tb, 0, none⟩ = some (.bool dn) := cell_blk HSD.out.box rfl
  all_goals have d1 : X.cell? ⟨tb, 1, none⟩ = some (.int .i64 0) := cell_blk HSD.out.box rfl
  all_goals have d5 : X.cell? ⟨tb, 5, none⟩ = some (.bool mk) := cell_blk HSD.out.box rfl
  all_goals have HCH := Lib.hid hch
  all_goals have HCA := Lib.hid hca
  all_goals clear hch hca htb hth hsd hP5
  all_goals (cases mk <;> cases dn)
  · go_wp2
    go_ret
    obtain ⟨d, e0, e1, e2, e3, e4, e5, -, -⟩ := HQ.out
    rw [HPW.out, wr1_of (k := P1.marked) e0 e1.symm (by rw [← e2]; rfl)]
    have hof : Only (fun k => k = pb) X ((X).setCell ⟨pb, 15, none⟩ (.int .i64 (P1.steps + 1))) := ((Only.refl (fun k => k = pb) X).set (p := ⟨pb, 15, none⟩) rfl _)
    refine ⟨rfl, wq1, ⟨(blk_put (o := 15) (v := .int .i64 (P1.steps + 1)) HXB.out rfl), HSD.out.duo.dropped hof HP1.out.pe (by first | exact .inl rfl | exact .inr rfl) (by first | exact .inl rfl | exact .inr rfl), HP1.out.pe, HP1.out.cfg, HP1.out.nn, ?_⟩, fin_only HO1.out HSD.out.only hof HP1.out.pe.2⟩
    exact ⟨l1, by show P1.n ≤ ((K + 2 : Nat) : Int); omega, by show 0 ≤ P1.steps + 1; omega, by show P1.steps + 1 ≤ ((K + 2 : Nat) : Int); omega, l5, by show P1.own ≤ ((K + 2 : Nat) : Int); omega⟩
  · cases b1 : (P1.steps + 1 == 1 + P1.n % (N : Int) + 6)
    · cases b2 : (P1.marked == P1.n)
      · go_wp2
        obtain ⟨X1, HX1⟩ : ∃ u, Hid (u = ((X).setCell ⟨pb, 15, none⟩ (.int .i64 (P1.steps + 1)))) := ⟨_, rfl⟩
        rw [← HX1.out]
        have HXB1 : Hid (X1.heap[pb]? = some (.cells (pV (x) (mb) ((.pointer (some ⟨wq1, 0, none⟩))) ((pvW P1.r rq)) (P1.n) (P1.written) (P1.marked) (P1.begun) (P1.first) (P1.last) (P1.steps + 1) (P1.own)) 66 (0, 0))) := Lib.hid (by rw [HX1.out]; exact (blk_put (o := 15) (v := .int .i64 (P1.steps + 1)) HXB.out rfl))
        have HO1X : Hid (Only (fun k => k = pb) X X1) := Lib.hid (by rw [HX1.out]; exact ((Only.refl (fun k => k = pb) X).set (p := ⟨pb, 15, none⟩) rfl _))
        have h4 : X1.cell? ⟨b, o + 3, none⟩ = some (.int .i64 (N : Int)) := by
          have := HCH.out X1 (HSD.out.duo.dropped HO1X.out HP1.out.pe (.inl rfl) (.inl rfl)).below
          simpa using this
        have h5 : X1.cell? ⟨tb, 1, none⟩ = some (.int .i64 0) := cell_of_blk (w := X) (cell_blk HSD.out.box rfl) (HO1X.out.block tb (Array.getElem?_eq_some_iff.1 HSD.out.box).1 hne1)
        clear x1 x7 x9 x10 x11 x15 g7 g10 g11 g15 d0 d1 d5 h3
        have q1 : ∀ p : Regrown, (grow (redrawn X1 p.d) p.os).cell? ⟨pb, 1, none⟩ = some (.slice (some ⟨b, o, none⟩) 1 x.cc) := fun p => cell_regrown (by rw [← HCA.out]; exact cell_blk HXB1.out rfl) p.d p.os
        have q9 : ∀ p : Regrown, (grow (redrawn X1 p.d) p.os).cell? ⟨pb, 9, none⟩ = some (.int .u32 P1.n) := fun p => cell_regrown (cell_blk HXB1.out rfl) p.d p.os
        have q11 : ∀ p : Regrown, (grow (redrawn X1 p.d) p.os).cell? ⟨pb, 11, none⟩ = some (.int .u32 P1.marked) := fun p => cell_regrown (cell_blk HXB1.out rfl) p.d p.os
        have q15 : ∀ p : Regrown, (grow (redrawn X1 p.d) p.os).cell? ⟨pb, 15, none⟩ = some (.int .i64 (P1.steps + 1)) := fun p => cell_regrown (cell_blk HXB1.out rfl) p.d p.os
        have q3 : ∀ p : Regrown, (grow (redrawn X1 p.d) p.os).cell? ⟨b, o + 3, none⟩ = some (.int .i64 (N : Int)) := fun p => cell_regrown h4 p.d p.os
        have q4 : ∀ p : Regrown, (grow (redrawn X1 p.d) p.os).cell? ⟨tb, 1, none⟩ = some (.int .i64 0) := fun p => cell_regrown h5 p.d p.os
        have hbc := Below.refl X1.heap.size X1
        clear h4 h5
        with_reducible refine wp_on hbc (by kernel_rfl) (by kernel_rfl) ?_
        (repeat (go_big_quiet_step (fail)))
        with_reducible refine wpQuiet_nil ?_
        intro wc hbc
        have HBC := Lib.hid ((hbc.block pb (Array.getElem?_eq_some_iff.1 HXB1.out).1).trans HXB1.out)
        have HOC := Lib.hid (HO1X.out.trans (Only.of_below (S := fun k => k = pb) hbc))
        have x9 : wc.cell? ⟨pb, 9, none⟩ = some (.int .u32 P1.n) := cell_blk HBC.out rfl
        have x10 : wc.cell? ⟨pb, 10, none⟩ = some (.int .u32 P1.written) := cell_blk HBC.out rfl
        have x7 : wc.cell? ⟨pb, 7, none⟩ = some (.pointer (some ⟨wq1, 0, none⟩)) := cell_blk HBC.out rfl
        have g10 := blk_frozen 10 HBC.out
        have g7 := blk_frozen 7 HBC.out
        clear q1 q9 q11 q15 q3 q4 hbc
        go_wp2
        go_ret
        obtain ⟨d, e0, e1, e2, e3, e4, e5, -, -⟩ := HQ.out
        rw [HPW.out, wr1_end (k := P1.marked) e0 e1.symm e5 (by rw [← e2]; rfl)]
        have hof : Only (fun k => k = pb) X ((((wc).setCell ⟨pb, 10, none⟩ (.int .u32 P1.n))).setCell ⟨pb, 7, none⟩ (.pointer none)) := HOC.out.trans (((Only.refl (fun k => k = pb) wc).set (p := ⟨pb, 10, none⟩) rfl _).set (p := ⟨pb, 7, none⟩) rfl _)
        refine ⟨(by have c1 := ne_of_beq_false b1; have c2 := ne_of_beq_false b2; show Ending.returned (.bool false) = Ending.returned (.bool (decide (P1.steps + 1 = ml N P1.n + 6) && decide (P1.marked = P1.n))); rw [show decide (P1.steps + 1 = ml N P1.n + 6) = false from decide_eq_false c1, show decide (P1.marked = P1.n) = false from decide_eq_false c2]; rfl), wq1, ⟨(blk_put (o := 7) (v := .pointer none) (blk_put (o := 10) (v := .int .u32 P1.n) HBC.out rfl) rfl), HSD.out.duo.dropped hof HP1.out.pe (by first | exact .inl rfl | exact .inr rfl) (by first | exact .inl rfl | exact .inr rfl), HP1.out.pe, HP1.out.cfg, HP1.out.nn, ?_⟩, fin_only HO1.out HSD.out.only hof HP1.out.pe.2⟩
        exact ⟨l1, by show P1.n ≤ ((K + 2 : Nat) : Int); omega, by show 0 ≤ P1.steps + 1; omega, by show P1.steps + 1 ≤ ((K + 2 : Nat) : Int); omega, l5, by show P1.own ≤ ((K + 2 : Nat) : Int); omega⟩
      · go_wp2
        obtain ⟨X1, HX1⟩ : ∃ u, Hid (u = ((X).setCell ⟨pb, 15, none⟩ (.int .i64 (P1.steps + 1)))) := ⟨_, rfl⟩
        rw [← HX1.out]
        have HXB1 : Hid (X1.heap[pb]? = some (.cells (pV (x) (mb) ((.pointer (some ⟨wq1, 0, none⟩))) ((pvW P1.r rq)) (P1.n) (P1.written) (P1.marked) (P1.begun) (P1.first) (P1.last) (P1.steps + 1) (P1.own)) 66 (0, 0))) := Lib.hid (by rw [HX1.out]; exact (blk_put (o := 15) (v := .int .i64 (P1.steps + 1)) HXB.out rfl))
        have HO1X : Hid (Only (fun k => k = pb) X X1) := Lib.hid (by rw [HX1.out]; exact ((Only.refl (fun k => k = pb) X).set (p := ⟨pb, 15, none⟩) rfl _))
        have h4 : X1.cell? ⟨b, o + 3, none⟩ = some (.int .i64 (N : Int)) := by
          have := HCH.out X1 (HSD.out.duo.dropped HO1X.out HP1.out.pe (.inl rfl) (.inl rfl)).below
          simpa using this
        have h5 : X1.cell? ⟨tb, 1, none⟩ = some (.int .i64 0) := cell_of_blk (w := X) (cell_blk HSD.out.box rfl) (HO1X.out.block tb (Array.getElem?_eq_some_iff.1 HSD.out.box).1 hne1)
        clear x1 x7 x9 x10 x11 x15 g7 g10 g11 g15 d0 d1 d5 h3
        have q1 : ∀ p : Regrown, (grow (redrawn X1 p.d) p.os).cell? ⟨pb, 1, none⟩ = some (.slice (some ⟨b, o, none⟩) 1 x.cc) := fun p => cell_regrown (by rw [← HCA.out]; exact cell_blk HXB1.out rfl) p.d p.os
        have q9 : ∀ p : Regrown, (grow (redrawn X1 p.d) p.os).cell? ⟨pb, 9, none⟩ = some (.int .u32 P1.n) := fun p => cell_regrown (cell_blk HXB1.out rfl) p.d p.os
        have q11 : ∀ p : Regrown, (grow (redrawn X1 p.d) p.os).cell? ⟨pb, 11, none⟩ = some (.int .u32 P1.marked) := fun p => cell_regrown (cell_blk HXB1.out rfl) p.d p.os
        have q15 : ∀ p : Regrown, (grow (redrawn X1 p.d) p.os).cell? ⟨pb, 15, none⟩ = some (.int .i64 (P1.steps + 1)) := fun p => cell_regrown (cell_blk HXB1.out rfl) p.d p.os
        have q3 : ∀ p : Regrown, (grow (redrawn X1 p.d) p.os).cell? ⟨b, o + 3, none⟩ = some (.int .i64 (N : Int)) := fun p => cell_regrown h4 p.d p.os
        have q4 : ∀ p : Regrown, (grow (redrawn X1 p.d) p.os).cell? ⟨tb, 1, none⟩ = some (.int .i64 0) := fun p => cell_regrown h5 p.d p.os
        have hbc := Below.refl X1.heap.size X1
        clear h4 h5
        with_reducible refine wp_on hbc (by kernel_rfl) (by kernel_rfl) ?_
        (repeat (go_big_quiet_step (fail)))
        with_reducible refine wpQuiet_nil ?_
        intro wc hbc
        have HBC := Lib.hid ((hbc.block pb (Array.getElem?_eq_some_iff.1 HXB1.out).1).trans HXB1.out)
        have HOC := Lib.hid (HO1X.out.trans (Only.of_below (S := fun k => k = pb) hbc))
        have x9 : wc.cell? ⟨pb, 9, none⟩ = some (.int .u32 P1.n) := cell_blk HBC.out rfl
        have x10 : wc.cell? ⟨pb, 10, none⟩ = some (.int .u32 P1.written) := cell_blk HBC.out rfl
        have x7 : wc.cell? ⟨pb, 7, none⟩ = some (.pointer (some ⟨wq1, 0, none⟩)) := cell_blk HBC.out rfl
        have g10 := blk_frozen 10 HBC.out
        have g7 := blk_frozen 7 HBC.out
        clear q1 q9 q11 q15 q3 q4 hbc
        go_wp2
        go_ret
        obtain ⟨d, e0, e1, e2, e3, e4, e5, -, -⟩ := HQ.out
        rw [HPW.out, wr1_end (k := P1.marked) e0 e1.symm e5 (by rw [← e2]; rfl)]
        have hof : Only (fun k => k = pb) X ((((wc).setCell ⟨pb, 10, none⟩ (.int .u32 P1.n))).setCell ⟨pb, 7, none⟩ (.pointer none)) := HOC.out.trans (((Only.refl (fun k => k = pb) wc).set (p := ⟨pb, 10, none⟩) rfl _).set (p := ⟨pb, 7, none⟩) rfl _)
        refine ⟨(by have c1 := ne_of_beq_false b1; have c2 := eq_of_beq b2; show Ending.returned (.bool false) = Ending.returned (.bool (decide (P1.steps + 1 = ml N P1.n + 6) && decide (P1.marked = P1.n))); rw [show decide (P1.steps + 1 = ml N P1.n + 6) = false from decide_eq_false c1, show decide (P1.marked = P1.n) = true from decide_eq_true c2]; rfl), wq1, ⟨(blk_put (o := 7) (v := .pointer none) (blk_put (o := 10) (v := .int .u32 P1.n) HBC.out rfl) rfl), HSD.out.duo.dropped hof HP1.out.pe (by first | exact .inl rfl | exact .inr rfl) (by first | exact .inl rfl | exact .inr rfl), HP1.out.pe, HP1.out.cfg, HP1.out.nn, ?_⟩, fin_only HO1.out HSD.out.only hof HP1.out.pe.2⟩
        exact ⟨l1, by show P1.n ≤ ((K + 2 : Nat) : Int); omega, by show 0 ≤ P1.steps + 1; omega, by show P1.steps + 1 ≤ ((K + 2 : Nat) : Int); omega, l5, by show P1.own ≤ ((K + 2 : Nat) : Int); omega⟩
    · cases b2 : (P1.marked == P1.n)
      · go_wp2
        obtain ⟨X1, HX1⟩ : ∃ u, Hid (u = ((X).setCell ⟨pb, 15, none⟩ (.int .i64 (P1.steps + 1)))) := ⟨_, rfl⟩
        rw [← HX1.out]
        have HXB1 : Hid (X1.heap[pb]? = some (.cells (pV (x) (mb) ((.pointer (some ⟨wq1, 0, none⟩))) ((pvW P1.r rq)) (P1.n) (P1.written) (P1.marked) (P1.begun) (P1.first) (P1.last) (P1.steps + 1) (P1.own)) 66 (0, 0))) := Lib.hid (by rw [HX1.out]; exact (blk_put (o := 15) (v := .int .i64 (P1.steps + 1)) HXB.out rfl))
        have HO1X : Hid (Only (fun k => k = pb) X X1) := Lib.hid (by rw [HX1.out]; exact ((Only.refl (fun k => k = pb) X).set (p := ⟨pb, 15, none⟩) rfl _))
        have h4 : X1.cell? ⟨b, o + 3, none⟩ = some (.int .i64 (N : Int)) := by
          have := HCH.out X1 (HSD.out.duo.dropped HO1X.out HP1.out.pe (.inl rfl) (.inl rfl)).below
          simpa using this
        have h5 : X1.cell? ⟨tb, 1, none⟩ = some (.int .i64 0) := cell_of_blk (w := X) (cell_blk HSD.out.box rfl) (HO1X.out.block tb (Array.getElem?_eq_some_iff.1 HSD.out.box).1 hne1)
        clear x1 x7 x9 x10 x11 x15 g7 g10 g11 g15 d0 d1 d5 h3
        have q1 : ∀ p : Regrown, (grow (redrawn X1 p.d) p.os).cell? ⟨pb, 1, none⟩ = some (.slice (some ⟨b, o, none⟩) 1 x.cc) := fun p => cell_regrown (by rw [← HCA.out]; exact cell_blk HXB1.out rfl) p.d p.os
        have q9 : ∀ p : Regrown, (grow (redrawn X1 p.d) p.os).cell? ⟨pb, 9, none⟩ = some (.int .u32 P1.n) := fun p => cell_regrown (cell_blk HXB1.out rfl) p.d p.os
        have q11 : ∀ p : Regrown, (grow (redrawn X1 p.d) p.os).cell? ⟨pb, 11, none⟩ = some (.int .u32 P1.marked) := fun p => cell_regrown (cell_blk HXB1.out rfl) p.d p.os
        have q15 : ∀ p : Regrown, (grow (redrawn X1 p.d) p.os).cell? ⟨pb, 15, none⟩ = some (.int .i64 (P1.steps + 1)) := fun p => cell_regrown (cell_blk HXB1.out rfl) p.d p.os
        have q3 : ∀ p : Regrown, (grow (redrawn X1 p.d) p.os).cell? ⟨b, o + 3, none⟩ = some (.int .i64 (N : Int)) := fun p => cell_regrown h4 p.d p.os
        have q4 : ∀ p : Regrown, (grow (redrawn X1 p.d) p.os).cell? ⟨tb, 1, none⟩ = some (.int .i64 0) := fun p => cell_regrown h5 p.d p.os
        have hbc := Below.refl X1.heap.size X1
        clear h4 h5
        with_reducible refine wp_on hbc (by kernel_rfl) (by kernel_rfl) ?_
        (repeat (go_big_quiet_step (fail)))
        with_reducible refine wpQuiet_nil ?_
        intro wc hbc
        have HBC := Lib.hid ((hbc.block pb (Array.getElem?_eq_some_iff.1 HXB1.out).1).trans HXB1.out)
        have HOC := Lib.hid (HO1X.out.trans (Only.of_below (S := fun k => k = pb) hbc))
        have x9 : wc.cell? ⟨pb, 9, none⟩ = some (.int .u32 P1.n) := cell_blk HBC.out rfl
        have x10 : wc.cell? ⟨pb, 10, none⟩ = some (.int .u32 P1.written) := cell_blk HBC.out rfl
        have x7 : wc.cell? ⟨pb, 7, none⟩ = some (.pointer (some ⟨wq1, 0, none⟩)) := cell_blk HBC.out rfl
        have g10 := blk_frozen 10 HBC.out
        have g7 := blk_frozen 7 HBC.out
        clear q1 q9 q11 q15 q3 q4 hbc
        go_wp2
        go_ret
        obtain ⟨d, e0, e1, e2, e3, e4, e5, -, -⟩ := HQ.out
        rw [HPW.out, wr1_end (k := P1.marked) e0 e1.symm e5 (by rw [← e2]; rfl)]
        have hof : Only (fun k => k = pb) X ((((wc).setCell ⟨pb, 10, none⟩ (.int .u32 P1.n))).setCell ⟨pb, 7, none⟩ (.pointer none)) := HOC.out.trans (((Only.refl (fun k => k = pb) wc).set (p := ⟨pb, 10, none⟩) rfl _).set (p := ⟨pb, 7, none⟩) rfl _)
        refine ⟨(by have c1 := eq_of_beq b1; have c2 := ne_of_beq_false b2; show Ending.returned (.bool false) = Ending.returned (.bool (decide (P1.steps + 1 = ml N P1.n + 6) && decide (P1.marked = P1.n))); rw [show decide (P1.steps + 1 = ml N P1.n + 6) = true from decide_eq_true c1, show decide (P1.marked = P1.n) = false from decide_eq_false c2]; rfl), wq1, ⟨(blk_put (o := 7) (v := .pointer none) (blk_put (o := 10) (v := .int .u32 P1.n) HBC.out rfl) rfl), HSD.out.duo.dropped hof HP1.out.pe (by first | exact .inl rfl | exact .inr rfl) (by first | exact .inl rfl | exact .inr rfl), HP1.out.pe, HP1.out.cfg, HP1.out.nn, ?_⟩, fin_only HO1.out HSD.out.only hof HP1.out.pe.2⟩
        exact ⟨l1, by show P1.n ≤ ((K + 2 : Nat) : Int); omega, by show 0 ≤ P1.steps + 1; omega, by show P1.steps + 1 ≤ ((K + 2 : Nat) : Int); omega, l5, by show P1.own ≤ ((K + 2 : Nat) : Int); omega⟩
      · go_wp2
        obtain ⟨X1, HX1⟩ : ∃ u, Hid (u = ((X).setCell ⟨pb, 15, none⟩ (.int .i64 (P1.steps + 1)))) := ⟨_, rfl⟩
        rw [← HX1.out]
        have HXB1 : Hid (X1.heap[pb]? = some (.cells (pV (x) (mb) ((.pointer (some ⟨wq1, 0, none⟩))) ((pvW P1.r rq)) (P1.n) (P1.written) (P1.marked) (P1.begun) (P1.first) (P1.last) (P1.steps + 1) (P1.own)) 66 (0, 0))) := Lib.hid (by rw [HX1.out]; exact (blk_put (o := 15) (v := .int .i64 (P1.steps + 1)) HXB.out rfl))
        have HO1X : Hid (Only (fun k => k = pb) X X1) := Lib.hid (by rw [HX1.out]; exact ((Only.refl (fun k => k = pb) X).set (p := ⟨pb, 15, none⟩) rfl _))
        have h4 : X1.cell? ⟨b, o + 3, none⟩ = some (.int .i64 (N : Int)) := by
          have := HCH.out X1 (HSD.out.duo.dropped HO1X.out HP1.out.pe (.inl rfl) (.inl rfl)).below
          simpa using this
        have h5 : X1.cell? ⟨tb, 1, none⟩ = some (.int .i64 0) := cell_of_blk (w := X) (cell_blk HSD.out.box rfl) (HO1X.out.block tb (Array.getElem?_eq_some_iff.1 HSD.out.box).1 hne1)
        clear x1 x7 x9 x10 x11 x15 g7 g10 g11 g15 d0 d1 d5 h3
        have q1 : ∀ p : Regrown, (grow (redrawn X1 p.d) p.os).cell? ⟨pb, 1, none⟩ = some (.slice (some ⟨b, o, none⟩) 1 x.cc) := fun p => cell_regrown (by rw [← HCA.out]; exact cell_blk HXB1.out rfl) p.d p.os
        have q9 : ∀ p : Regrown, (grow (redrawn X1 p.d) p.os).cell? ⟨pb, 9, none⟩ = some (.int .u32 P1.n) := fun p => cell_regrown (cell_blk HXB1.out rfl) p.d p.os
        have q11 : ∀ p : Regrown, (grow (redrawn X1 p.d) p.os).cell? ⟨pb, 11, none⟩ = some (.int .u32 P1.marked) := fun p => cell_regrown (cell_blk HXB1.out rfl) p.d p.os
        have q15 : ∀ p : Regrown, (grow (redrawn X1 p.d) p.os).cell? ⟨pb, 15, none⟩ = some (.int .i64 (P1.steps + 1)) := fun p => cell_regrown (cell_blk HXB1.out rfl) p.d p.os
        have q3 : ∀ p : Regrown, (grow (redrawn X1 p.d) p.os).cell? ⟨b, o + 3, none⟩ = some (.int .i64 (N : Int)) := fun p => cell_regrown h4 p.d p.os
        have q4 : ∀ p : Regrown, (grow (redrawn X1 p.d) p.os).cell? ⟨tb, 1, none⟩ = some (.int .i64 0) := fun p => cell_regrown h5 p.d p.os
        have hbc := Below.refl X1.heap.size X1
        clear h4 h5
        with_reducible refine wp_on hbc (by kernel_rfl) (by kernel_rfl) ?_
        (repeat (go_big_quiet_step (fail)))
        with_reducible refine wpQuiet_nil ?_
        intro wc hbc
        have HBC := Lib.hid ((hbc.block pb (Array.getElem?_eq_some_iff.1 HXB1.out).1).trans HXB1.out)
        have HOC := Lib.hid (HO1X.out.trans (Only.of_below (S := fun k => k = pb) hbc))
        have x9 : wc.cell? ⟨pb, 9, none⟩ = some (.int .u32 P1.n) := cell_blk HBC.out rfl
        have x10 : wc.cell? ⟨pb, 10, none⟩ = some (.int .u32 P1.written) := cell_blk HBC.out rfl
        have x7 : wc.cell? ⟨pb, 7, none⟩ = some (.pointer (some ⟨wq1, 0, none⟩)) := cell_blk HBC.out rfl
        have g10 := blk_frozen 10 HBC.out
        have g7 := blk_frozen 7 HBC.out
        clear q1 q9 q11 q15 q3 q4 hbc
        go_wp2
        go_ret
        obtain ⟨d, e0, e1, e2, e3, e4, e5, -, -⟩ := HQ.out
        rw [HPW.out, wr1_end (k := P1.marked) e0 e1.symm e5 (by rw [← e2]; rfl)]
        have hof : Only (fun k => k = pb) X ((((wc).setCell ⟨pb, 10, none⟩ (.int .u32 P1.n))).setCell ⟨pb, 7, none⟩ (.pointer none)) := HOC.out.trans (((Only.refl (fun k => k = pb) wc).set (p := ⟨pb, 10, none⟩) rfl _).set (p := ⟨pb, 7, none⟩) rfl _)
        refine ⟨(by have c1 := eq_of_beq b1; have c2 := eq_of_beq b2; show Ending.returned (.bool true) = Ending.returned (.bool (decide (P1.steps + 1 = ml N P1.n + 6) && decide (P1.marked = P1.n))); rw [show decide (P1.steps + 1 = ml N P1.n + 6) = true from decide_eq_true c1, show decide (P1.marked = P1.n) = true from decide_eq_true c2]; rfl), wq1, ⟨(blk_put (o := 7) (v := .pointer none) (blk_put (o := 10) (v := .int .u32 P1.n) HBC.out rfl) rfl), HSD.out.duo.dropped hof HP1.out.pe (by first | exact .inl rfl | exact .inr rfl) (by first | exact .inl rfl | exact .inr rfl), HP1.out.pe, HP1.out.cfg, HP1.out.nn, ?_⟩, fin_only HO1.out HSD.out.only hof HP1.out.pe.2⟩
        exact ⟨l1, by show P1.n ≤ ((K + 2 : Nat) : Int); omega, by show 0 ≤ P1.steps + 1; omega, by show P1.steps + 1 ≤ ((K + 2 : Nat) : Int); omega, l5, by show P1.own ≤ ((K + 2 : Nat) : Int); omega⟩
  · go_wp2
    go_ret
    obtain ⟨d, e0, e1, e2, e3, e4, e5, -, -⟩ := HQ.out
    rw [HPW.out, wr1_of (k := P1.n) e0 e1.symm (by rw [← e2]; rfl)]
    have hof : Only (fun k => k = pb) X ((((X).setCell ⟨pb, 15, none⟩ (.int .i64 (P1.steps + 1)))).setCell ⟨pb, 11, none⟩ (.int .u32 P1.n)) := (((Only.refl (fun k => k = pb) X).set (p := ⟨pb, 15, none⟩) rfl _).set (p := ⟨pb, 11, none⟩) rfl _)
    refine ⟨rfl, wq1, ⟨(blk_put (o := 11) (v := .int .u32 P1.n) (blk_put (o := 15) (v := .int .i64 (P1.steps + 1)) HXB.out rfl) rfl), HSD.out.duo.dropped hof HP1.out.pe (by first | exact .inl rfl | exact .inr rfl) (by first | exact .inl rfl | exact .inr rfl), HP1.out.pe, HP1.out.cfg, HP1.out.nn, ?_⟩, fin_only HO1.out HSD.out.only hof HP1.out.pe.2⟩
    exact ⟨l1, by show P1.n ≤ ((K + 2 : Nat) : Int); omega, by show 0 ≤ P1.steps + 1; omega, by show P1.steps + 1 ≤ ((K + 2 : Nat) : Int); omega, l5, by show P1.own ≤ ((K + 2 : Nat) : Int); omega⟩
  · cases b1 : (P1.steps + 1 == 1 + P1.n % (N : Int) + 6)
    · go_wp2
      obtain ⟨X1, HX1⟩ : ∃ u, Hid (u = ((((X).setCell ⟨pb, 15, none⟩ (.int .i64 (P1.steps + 1)))).setCell ⟨pb, 11, none⟩ (.int .u32 P1.n))) := ⟨_, rfl⟩
      rw [← HX1.out]
      have HXB1 : Hid (X1.heap[pb]? = some (.cells (pV (x) (mb) ((.pointer (some ⟨wq1, 0, none⟩))) ((pvW P1.r rq)) (P1.n) (P1.written) (P1.n) (P1.begun) (P1.first) (P1.last) (P1.steps + 1) (P1.own)) 66 (0, 0))) := Lib.hid (by rw [HX1.out]; exact (blk_put (o := 11) (v := .int .u32 P1.n) (blk_put (o := 15) (v := .int .i64 (P1.steps + 1)) HXB.out rfl) rfl))
      have HO1X : Hid (Only (fun k => k = pb) X X1) := Lib.hid (by rw [HX1.out]; exact (((Only.refl (fun k => k = pb) X).set (p := ⟨pb, 15, none⟩) rfl _).set (p := ⟨pb, 11, none⟩) rfl _))
      have h4 : X1.cell? ⟨b, o + 3, none⟩ = some (.int .i64 (N : Int)) := by
        have := HCH.out X1 (HSD.out.duo.dropped HO1X.out HP1.out.pe (.inl rfl) (.inl rfl)).below
        simpa using this
      have h5 : X1.cell? ⟨tb, 1, none⟩ = some (.int .i64 0) := cell_of_blk (w := X) (cell_blk HSD.out.box rfl) (HO1X.out.block tb (Array.getElem?_eq_some_iff.1 HSD.out.box).1 hne1)
      clear x1 x7 x9 x10 x11 x15 g7 g10 g11 g15 d0 d1 d5 h3
      have q1 : ∀ p : Regrown, (grow (redrawn X1 p.d) p.os).cell? ⟨pb, 1, none⟩ = some (.slice (some ⟨b, o, none⟩) 1 x.cc) := fun p => cell_regrown (by rw [← HCA.out]; exact cell_blk HXB1.out rfl) p.d p.os
      have q9 : ∀ p : Regrown, (grow (redrawn X1 p.d) p.os).cell? ⟨pb, 9, none⟩ = some (.int .u32 P1.n) := fun p => cell_regrown (cell_blk HXB1.out rfl) p.d p.os
      have q11 : ∀ p : Regrown, (grow (redrawn X1 p.d) p.os).cell? ⟨pb, 11, none⟩ = some (.int .u32 P1.n) := fun p => cell_regrown (cell_blk HXB1.out rfl) p.d p.os
      have q15 : ∀ p : Regrown, (grow (redrawn X1 p.d) p.os).cell? ⟨pb, 15, none⟩ = some (.int .i64 (P1.steps + 1)) := fun p => cell_regrown (cell_blk HXB1.out rfl) p.d p.os
      have q3 : ∀ p : Regrown, (grow (redrawn X1 p.d) p.os).cell? ⟨b, o + 3, none⟩ = some (.int .i64 (N : Int)) := fun p => cell_regrown h4 p.d p.os
      have q4 : ∀ p : Regrown, (grow (redrawn X1 p.d) p.os).cell? ⟨tb, 1, none⟩ = some (.int .i64 0) := fun p => cell_regrown h5 p.d p.os
      have hbc := Below.refl X1.heap.size X1
      clear h4 h5
      with_reducible refine wp_on hbc (by kernel_rfl) (by kernel_rfl) ?_
      (repeat (go_big_quiet_step (fail)))
      with_reducible refine wpQuiet_nil ?_
      intro wc hbc
      have HBC := Lib.hid ((hbc.block pb (Array.getElem?_eq_some_iff.1 HXB1.out).1).trans HXB1.out)
      have HOC := Lib.hid (HO1X.out.trans (Only.of_below (S := fun k => k = pb) hbc))
      have x9 : wc.cell? ⟨pb, 9, none⟩ = some (.int .u32 P1.n) := cell_blk HBC.out rfl
      have x10 : wc.cell? ⟨pb, 10, none⟩ = some (.int .u32 P1.written) := cell_blk HBC.out rfl
      have x7 : wc.cell? ⟨pb, 7, none⟩ = some (.pointer (some ⟨wq1, 0, none⟩)) := cell_blk HBC.out rfl
      have g10 := blk_frozen 10 HBC.out
      have g7 := blk_frozen 7 HBC.out
      clear q1 q9 q11 q15 q3 q4 hbc
      go_wp2
      go_ret
      obtain ⟨d, e0, e1, e2, e3, e4, e5, -, -⟩ := HQ.out
      rw [HPW.out, wr1_end (k := P1.n) e0 e1.symm e5 (by rw [← e2]; rfl)]
      have hof : Only (fun k => k = pb) X ((((wc).setCell ⟨pb, 10, none⟩ (.int .u32 P1.n))).setCell ⟨pb, 7, none⟩ (.pointer none)) := HOC.out.trans (((Only.refl (fun k => k = pb) wc).set (p := ⟨pb, 10, none⟩) rfl _).set (p := ⟨pb, 7, none⟩) rfl _)
      refine ⟨(by have c1 := ne_of_beq_false b1; show Ending.returned (.bool false) = Ending.returned (.bool (decide (P1.steps + 1 = ml N P1.n + 6) && decide (P1.n = P1.n))); rw [show decide (P1.steps + 1 = ml N P1.n + 6) = false from decide_eq_false c1, show decide (P1.n = P1.n) = true from decide_eq_true rfl]; rfl), wq1, ⟨(blk_put (o := 7) (v := .pointer none) (blk_put (o := 10) (v := .int .u32 P1.n) HBC.out rfl) rfl), HSD.out.duo.dropped hof HP1.out.pe (by first | exact .inl rfl | exact .inr rfl) (by first | exact .inl rfl | exact .inr rfl), HP1.out.pe, HP1.out.cfg, HP1.out.nn, ?_⟩, fin_only HO1.out HSD.out.only hof HP1.out.pe.2⟩
      exact ⟨l1, by show P1.n ≤ ((K + 2 : Nat) : Int); omega, by show 0 ≤ P1.steps + 1; omega, by show P1.steps + 1 ≤ ((K + 2 : Nat) : Int); omega, l5, by show P1.own ≤ ((K + 2 : Nat) : Int); omega⟩
    · go_wp2
      obtain ⟨X1, HX1⟩ : ∃ u, Hid (u = ((((X).setCell ⟨pb, 15, none⟩ (.int .i64 (P1.steps + 1)))).setCell ⟨pb, 11, none⟩ (.int .u32 P1.n))) := ⟨_, rfl⟩
      rw [← HX1.out]
      have HXB1 : Hid (X1.heap[pb]? = some (.cells (pV (x) (mb) ((.pointer (some ⟨wq1, 0, none⟩))) ((pvW P1.r rq)) (P1.n) (P1.written) (P1.n) (P1.begun) (P1.first) (P1.last) (P1.steps + 1) (P1.own)) 66 (0, 0))) := Lib.hid (by rw [HX1.out]; exact (blk_put (o := 11) (v := .int .u32 P1.n) (blk_put (o := 15) (v := .int .i64 (P1.steps + 1)) HXB.out rfl) rfl))
      have HO1X : Hid (Only (fun k => k = pb) X X1) := Lib.hid (by rw [HX1.out]; exact (((Only.refl (fun k => k = pb) X).set (p := ⟨pb, 15, none⟩) rfl _).set (p := ⟨pb, 11, none⟩) rfl _))
      have h4 : X1.cell? ⟨b, o + 3, none⟩ = some (.int .i64 (N : Int)) := by
        have := HCH.out X1 (HSD.out.duo.dropped HO1X.out HP1.out.pe (.inl rfl) (.inl rfl)).below
        simpa using this
      have h5 : X1.cell? ⟨tb, 1, none⟩ = some (.int .i64 0) := cell_of_blk (w := X) (cell_blk HSD.out.box rfl) (HO1X.out.block tb (Array.getElem?_eq_some_iff.1 HSD.out.box).1 hne1)
      clear x1 x7 x9 x10 x11 x15 g7 g10 g11 g15 d0 d1 d5 h3
      have q1 : ∀ p : Regrown, (grow (redrawn X1 p.d) p.os).cell? ⟨pb, 1, none⟩ = some (.slice (some ⟨b, o, none⟩) 1 x.cc) := fun p => cell_regrown (by rw [← HCA.out]; exact cell_blk HXB1.out rfl) p.d p.os
      have q9 : ∀ p : Regrown, (grow (redrawn X1 p.d) p.os).cell? ⟨pb, 9, none⟩ = some (.int .u32 P1.n) := fun p => cell_regrown (cell_blk HXB1.out rfl) p.d p.os
      have q11 : ∀ p : Regrown, (grow (redrawn X1 p.d) p.os).cell? ⟨pb, 11, none⟩ = some (.int .u32 P1.n) := fun p => cell_regrown (cell_blk HXB1.out rfl) p.d p.os
      have q15 : ∀ p : Regrown, (grow (redrawn X1 p.d) p.os).cell? ⟨pb, 15, none⟩ = some (.int .i64 (P1.steps + 1)) := fun p => cell_regrown (cell_blk HXB1.out rfl) p.d p.os
      have q3 : ∀ p : Regrown, (grow (redrawn X1 p.d) p.os).cell? ⟨b, o + 3, none⟩ = some (.int .i64 (N : Int)) := fun p => cell_regrown h4 p.d p.os
      have q4 : ∀ p : Regrown, (grow (redrawn X1 p.d) p.os).cell? ⟨tb, 1, none⟩ = some (.int .i64 0) := fun p => cell_regrown h5 p.d p.os
      have hbc := Below.refl X1.heap.size X1
      clear h4 h5
      with_reducible refine wp_on hbc (by kernel_rfl) (by kernel_rfl) ?_
      (repeat (go_big_quiet_step (fail)))
      with_reducible refine wpQuiet_nil ?_
      intro wc hbc
      have HBC := Lib.hid ((hbc.block pb (Array.getElem?_eq_some_iff.1 HXB1.out).1).trans HXB1.out)
      have HOC := Lib.hid (HO1X.out.trans (Only.of_below (S := fun k => k = pb) hbc))
      have x9 : wc.cell? ⟨pb, 9, none⟩ = some (.int .u32 P1.n) := cell_blk HBC.out rfl
      have x10 : wc.cell? ⟨pb, 10, none⟩ = some (.int .u32 P1.written) := cell_blk HBC.out rfl
      have x7 : wc.cell? ⟨pb, 7, none⟩ = some (.pointer (some ⟨wq1, 0, none⟩)) := cell_blk HBC.out rfl
      have g10 := blk_frozen 10 HBC.out
      have g7 := blk_frozen 7 HBC.out
      clear q1 q9 q11 q15 q3 q4 hbc
      go_wp2
      go_ret
      obtain ⟨d, e0, e1, e2, e3, e4, e5, -, -⟩ := HQ.out
      rw [HPW.out, wr1_end (k := P1.n) e0 e1.symm e5 (by rw [← e2]; rfl)]
      have hof : Only (fun k => k = pb) X ((((wc).setCell ⟨pb, 10, none⟩ (.int .u32 P1.n))).setCell ⟨pb, 7, none⟩ (.pointer none)) := HOC.out.trans (((Only.refl (fun k => k = pb) wc).set (p := ⟨pb, 10, none⟩) rfl _).set (p := ⟨pb, 7, none⟩) rfl _)
      refine ⟨(by have c1 := eq_of_beq b1; show Ending.returned (.bool true) = Ending.returned (.bool (decide (P1.steps + 1 = ml N P1.n + 6) && decide (P1.n = P1.n))); rw [show decide (P1.steps + 1 = ml N P1.n + 6) = true from decide_eq_true c1, show decide (P1.n = P1.n) = true from decide_eq_true rfl]; rfl), wq1, ⟨(blk_put (o := 7) (v := .pointer none) (blk_put (o := 10) (v := .int .u32 P1.n) HBC.out rfl) rfl), HSD.out.duo.dropped hof HP1.out.pe (by first | exact .inl rfl | exact .inr rfl) (by first | exact .inl rfl | exact .inr rfl), HP1.out.pe, HP1.out.cfg, HP1.out.nn, ?_⟩, fin_only HO1.out HSD.out.only hof HP1.out.pe.2⟩
      exact ⟨l1, by show P1.n ≤ ((K + 2 : Nat) : Int); omega, by show 0 ≤ P1.steps + 1; omega, by show P1.steps + 1 ≤ ((K + 2 : Nat) : Int); omega, l5, by show P1.own ≤ ((K + 2 : Nat) : Int); omega⟩
  · go_wp2
    go_ret
    obtain ⟨d, e0, e1, e2, e3, e4, e5, -, -⟩ := HQ.out
    rw [HPW.out, wr1_of (k := P1.marked) e0 e1.symm (by rw [← e2]; rfl)]
    have hof : Only (fun k => k = pb) X ((X).setCell ⟨pb, 15, none⟩ (.int .i64 (P1.steps + 1))) := ((Only.refl (fun k => k = pb) X).set (p := ⟨pb, 15, none⟩) rfl _)
    refine ⟨rfl, wq1, ⟨(blk_put (o := 15) (v := .int .i64 (P1.steps + 1)) HXB.out rfl), HSD.out.duo.dropped hof HP1.out.pe (by first | exact .inl rfl | exact .inr rfl) (by first | exact .inl rfl | exact .inr rfl), HP1.out.pe, HP1.out.cfg, HP1.out.nn, ?_⟩, fin_only HO1.out HSD.out.only hof HP1.out.pe.2⟩
    exact ⟨l1, by show P1.n ≤ ((K + 2 : Nat) : Int); omega, by show 0 ≤ P1.steps + 1; omega, by show P1.steps + 1 ≤ ((K + 2 : Nat) : Int); omega, l5, by show P1.own ≤ ((K + 2 : Nat) : Int); omega⟩
  · cases b1 : (P1.steps + 1 == 1 + P1.n % (N : Int) + 6)
    · cases b2 : (P1.marked == P1.n)
      · go_wp2
        obtain ⟨X1, HX1⟩ : ∃ u, Hid (u = ((X).setCell ⟨pb, 15, none⟩ (.int .i64 (P1.steps + 1)))) := ⟨_, rfl⟩
        rw [← HX1.out]
        have HXB1 : Hid (X1.heap[pb]? = some (.cells (pV (x) (mb) ((.pointer (some ⟨wq1, 0, none⟩))) ((pvW P1.r rq)) (P1.n) (P1.written) (P1.marked) (P1.begun) (P1.first) (P1.last) (P1.steps + 1) (P1.own)) 66 (0, 0))) := Lib.hid (by rw [HX1.out]; exact (blk_put (o := 15) (v := .int .i64 (P1.steps + 1)) HXB.out rfl))
        have HO1X : Hid (Only (fun k => k = pb) X X1) := Lib.hid (by rw [HX1.out]; exact ((Only.refl (fun k => k = pb) X).set (p := ⟨pb, 15, none⟩) rfl _))
        have h4 : X1.cell? ⟨b, o + 3, none⟩ = some (.int .i64 (N : Int)) := by
          have := HCH.out X1 (HSD.out.duo.dropped HO1X.out HP1.out.pe (.inl rfl) (.inl rfl)).below
          simpa using this
        have h5 : X1.cell? ⟨tb, 1, none⟩ = some (.int .i64 0) := cell_of_blk (w := X) (cell_blk HSD.out.box rfl) (HO1X.out.block tb (Array.getElem?_eq_some_iff.1 HSD.out.box).1 hne1)
        clear x1 x7 x9 x10 x11 x15 g7 g10 g11 g15 d0 d1 d5 h3
        have q1 : ∀ p : Regrown, (grow (redrawn X1 p.d) p.os).cell? ⟨pb, 1, none⟩ = some (.slice (some ⟨b, o, none⟩) 1 x.cc) := fun p => cell_regrown (by rw [← HCA.out]; exact cell_blk HXB1.out rfl) p.d p.os
        have q9 : ∀ p : Regrown, (grow (redrawn X1 p.d) p.os).cell? ⟨pb, 9, none⟩ = some (.int .u32 P1.n) := fun p => cell_regrown (cell_blk HXB1.out rfl) p.d p.os
        have q11 : ∀ p : Regrown, (grow (redrawn X1 p.d) p.os).cell? ⟨pb, 11, none⟩ = some (.int .u32 P1.marked) := fun p => cell_regrown (cell_blk HXB1.out rfl) p.d p.os
        have q15 : ∀ p : Regrown, (grow (redrawn X1 p.d) p.os).cell? ⟨pb, 15, none⟩ = some (.int .i64 (P1.steps + 1)) := fun p => cell_regrown (cell_blk HXB1.out rfl) p.d p.os
        have q3 : ∀ p : Regrown, (grow (redrawn X1 p.d) p.os).cell? ⟨b, o + 3, none⟩ = some (.int .i64 (N : Int)) := fun p => cell_regrown h4 p.d p.os
        have q4 : ∀ p : Regrown, (grow (redrawn X1 p.d) p.os).cell? ⟨tb, 1, none⟩ = some (.int .i64 0) := fun p => cell_regrown h5 p.d p.os
        have hbc := Below.refl X1.heap.size X1
        clear h4 h5
        with_reducible refine wp_on hbc (by kernel_rfl) (by kernel_rfl) ?_
        (repeat (go_big_quiet_step (fail)))
        with_reducible refine wpQuiet_nil ?_
        intro wc hbc
        have HBC := Lib.hid ((hbc.block pb (Array.getElem?_eq_some_iff.1 HXB1.out).1).trans HXB1.out)
        have HOC := Lib.hid (HO1X.out.trans (Only.of_below (S := fun k => k = pb) hbc))
        have x9 : wc.cell? ⟨pb, 9, none⟩ = some (.int .u32 P1.n) := cell_blk HBC.out rfl
        have x10 : wc.cell? ⟨pb, 10, none⟩ = some (.int .u32 P1.written) := cell_blk HBC.out rfl
        have x7 : wc.cell? ⟨pb, 7, none⟩ = some (.pointer (some ⟨wq1, 0, none⟩)) := cell_blk HBC.out rfl
        have g10 := blk_frozen 10 HBC.out
        have g7 := blk_frozen 7 HBC.out
        clear q1 q9 q11 q15 q3 q4 hbc
        go_wp2
        go_ret
        obtain ⟨d, e0, e1, e2, e3, e4, e5, -, -⟩ := HQ.out
        rw [HPW.out, wr1_end (k := P1.marked) e0 e1.symm e5 (by rw [← e2]; rfl)]
        have hof : Only (fun k => k = pb) X ((((wc).setCell ⟨pb, 10, none⟩ (.int .u32 P1.n))).setCell ⟨pb, 7, none⟩ (.pointer none)) := HOC.out.trans (((Only.refl (fun k => k = pb) wc).set (p := ⟨pb, 10, none⟩) rfl _).set (p := ⟨pb, 7, none⟩) rfl _)
        refine ⟨(by have c1 := ne_of_beq_false b1; have c2 := ne_of_beq_false b2; show Ending.returned (.bool false) = Ending.returned (.bool (decide (P1.steps + 1 = ml N P1.n + 6) && decide (P1.marked = P1.n))); rw [show decide (P1.steps + 1 = ml N P1.n + 6) = false from decide_eq_false c1, show decide (P1.marked = P1.n) = false from decide_eq_false c2]; rfl), wq1, ⟨(blk_put (o := 7) (v := .pointer none) (blk_put (o := 10) (v := .int .u32 P1.n) HBC.out rfl) rfl), HSD.out.duo.dropped hof HP1.out.pe (by first | exact .inl rfl | exact .inr rfl) (by first | exact .inl rfl | exact .inr rfl), HP1.out.pe, HP1.out.cfg, HP1.out.nn, ?_⟩, fin_only HO1.out HSD.out.only hof HP1.out.pe.2⟩
        exact ⟨l1, by show P1.n ≤ ((K + 2 : Nat) : Int); omega, by show 0 ≤ P1.steps + 1; omega, by show P1.steps + 1 ≤ ((K + 2 : Nat) : Int); omega, l5, by show P1.own ≤ ((K + 2 : Nat) : Int); omega⟩
      · go_wp2
        obtain ⟨X1, HX1⟩ : ∃ u, Hid (u = ((X).setCell ⟨pb, 15, none⟩ (.int .i64 (P1.steps + 1)))) := ⟨_, rfl⟩
        rw [← HX1.out]
        have HXB1 : Hid (X1.heap[pb]? = some (.cells (pV (x) (mb) ((.pointer (some ⟨wq1, 0, none⟩))) ((pvW P1.r rq)) (P1.n) (P1.written) (P1.marked) (P1.begun) (P1.first) (P1.last) (P1.steps + 1) (P1.own)) 66 (0, 0))) := Lib.hid (by rw [HX1.out]; exact (blk_put (o := 15) (v := .int .i64 (P1.steps + 1)) HXB.out rfl))
        have HO1X : Hid (Only (fun k => k = pb) X X1) := Lib.hid (by rw [HX1.out]; exact ((Only.refl (fun k => k = pb) X).set (p := ⟨pb, 15, none⟩) rfl _))
        have h4 : X1.cell? ⟨b, o + 3, none⟩ = some (.int .i64 (N : Int)) := by
          have := HCH.out X1 (HSD.out.duo.dropped HO1X.out HP1.out.pe (.inl rfl) (.inl rfl)).below
          simpa using this
        have h5 : X1.cell? ⟨tb, 1, none⟩ = some (.int .i64 0) := cell_of_blk (w := X) (cell_blk HSD.out.box rfl) (HO1X.out.block tb (Array.getElem?_eq_some_iff.1 HSD.out.box).1 hne1)
        clear x1 x7 x9 x10 x11 x15 g7 g10 g11 g15 d0 d1 d5 h3
        have q1 : ∀ p : Regrown, (grow (redrawn X1 p.d) p.os).cell? ⟨pb, 1, none⟩ = some (.slice (some ⟨b, o, none⟩) 1 x.cc) := fun p => cell_regrown (by rw [← HCA.out]; exact cell_blk HXB1.out rfl) p.d p.os
        have q9 : ∀ p : Regrown, (grow (redrawn X1 p.d) p.os).cell? ⟨pb, 9, none⟩ = some (.int .u32 P1.n) := fun p => cell_regrown (cell_blk HXB1.out rfl) p.d p.os
        have q11 : ∀ p : Regrown, (grow (redrawn X1 p.d) p.os).cell? ⟨pb, 11, none⟩ = some (.int .u32 P1.marked) := fun p => cell_regrown (cell_blk HXB1.out rfl) p.d p.os
        have q15 : ∀ p : Regrown, (grow (redrawn X1 p.d) p.os).cell? ⟨pb, 15, none⟩ = some (.int .i64 (P1.steps + 1)) := fun p => cell_regrown (cell_blk HXB1.out rfl) p.d p.os
        have q3 : ∀ p : Regrown, (grow (redrawn X1 p.d) p.os).cell? ⟨b, o + 3, none⟩ = some (.int .i64 (N : Int)) := fun p => cell_regrown h4 p.d p.os
        have q4 : ∀ p : Regrown, (grow (redrawn X1 p.d) p.os).cell? ⟨tb, 1, none⟩ = some (.int .i64 0) := fun p => cell_regrown h5 p.d p.os
        have hbc := Below.refl X1.heap.size X1
        clear h4 h5
        with_reducible refine wp_on hbc (by kernel_rfl) (by kernel_rfl) ?_
        (repeat (go_big_quiet_step (fail)))
        with_reducible refine wpQuiet_nil ?_
        intro wc hbc
        have HBC := Lib.hid ((hbc.block pb (Array.getElem?_eq_some_iff.1 HXB1.out).1).trans HXB1.out)
        have HOC := Lib.hid (HO1X.out.trans (Only.of_below (S := fun k => k = pb) hbc))
        have x9 : wc.cell? ⟨pb, 9, none⟩ = some (.int .u32 P1.n) := cell_blk HBC.out rfl
        have x10 : wc.cell? ⟨pb, 10, none⟩ = some (.int .u32 P1.written) := cell_blk HBC.out rfl
        have x7 : wc.cell? ⟨pb, 7, none⟩ = some (.pointer (some ⟨wq1, 0, none⟩)) := cell_blk HBC.out rfl
        have g10 := blk_frozen 10 HBC.out
        have g7 := blk_frozen 7 HBC.out
        clear q1 q9 q11 q15 q3 q4 hbc
        go_wp2
        go_ret
        obtain ⟨d, e0, e1, e2, e3, e4, e5, -, -⟩ := HQ.out
        rw [HPW.out, wr1_end (k := P1.marked) e0 e1.symm e5 (by rw [← e2]; rfl)]
        have hof : Only (fun k => k = pb) X ((((wc).setCell ⟨pb, 10, none⟩ (.int .u32 P1.n))).setCell ⟨pb, 7, none⟩ (.pointer none)) := HOC.out.trans (((Only.refl (fun k => k = pb) wc).set (p := ⟨pb, 10, none⟩) rfl _).set (p := ⟨pb, 7, none⟩) rfl _)
        refine ⟨(by have c1 := ne_of_beq_false b1; have c2 := eq_of_beq b2; show Ending.returned (.bool false) = Ending.returned (.bool (decide (P1.steps + 1 = ml N P1.n + 6) && decide (P1.marked = P1.n))); rw [show decide (P1.steps + 1 = ml N P1.n + 6) = false from decide_eq_false c1, show decide (P1.marked = P1.n) = true from decide_eq_true c2]; rfl), wq1, ⟨(blk_put (o := 7) (v := .pointer none) (blk_put (o := 10) (v := .int .u32 P1.n) HBC.out rfl) rfl), HSD.out.duo.dropped hof HP1.out.pe (by first | exact .inl rfl | exact .inr rfl) (by first | exact .inl rfl | exact .inr rfl), HP1.out.pe, HP1.out.cfg, HP1.out.nn, ?_⟩, fin_only HO1.out HSD.out.only hof HP1.out.pe.2⟩
        exact ⟨l1, by show P1.n ≤ ((K + 2 : Nat) : Int); omega, by show 0 ≤ P1.steps + 1; omega, by show P1.steps + 1 ≤ ((K + 2 : Nat) : Int); omega, l5, by show P1.own ≤ ((K + 2 : Nat) : Int); omega⟩
    · cases b2 : (P1.marked == P1.n)
      · go_wp2
        obtain ⟨X1, HX1⟩ : ∃ u, Hid (u = ((X).setCell ⟨pb, 15, none⟩ (.int .i64 (P1.steps + 1)))) := ⟨_, rfl⟩
        rw [← HX1.out]
        have HXB1 : Hid (X1.heap[pb]? = some (.cells (pV (x) (mb) ((.pointer (some ⟨wq1, 0, none⟩))) ((pvW P1.r rq)) (P1.n) (P1.written) (P1.marked) (P1.begun) (P1.first) (P1.last) (P1.steps + 1) (P1.own)) 66 (0, 0))) := Lib.hid (by rw [HX1.out]; exact (blk_put (o := 15) (v := .int .i64 (P1.steps + 1)) HXB.out rfl))
        have HO1X : Hid (Only (fun k => k = pb) X X1) := Lib.hid (by rw [HX1.out]; exact ((Only.refl (fun k => k = pb) X).set (p := ⟨pb, 15, none⟩) rfl _))
        have h4 : X1.cell? ⟨b, o + 3, none⟩ = some (.int .i64 (N : Int)) := by
          have := HCH.out X1 (HSD.out.duo.dropped HO1X.out HP1.out.pe (.inl rfl) (.inl rfl)).below
          simpa using this
        have h5 : X1.cell? ⟨tb, 1, none⟩ = some (.int .i64 0) := cell_of_blk (w := X) (cell_blk HSD.out.box rfl) (HO1X.out.block tb (Array.getElem?_eq_some_iff.1 HSD.out.box).1 hne1)
        clear x1 x7 x9 x10 x11 x15 g7 g10 g11 g15 d0 d1 d5 h3
        have q1 : ∀ p : Regrown, (grow (redrawn X1 p.d) p.os).cell? ⟨pb, 1, none⟩ = some (.slice (some ⟨b, o, none⟩) 1 x.cc) := fun p => cell_regrown (by rw [← HCA.out]; exact cell_blk HXB1.out rfl) p.d p.os
        have q9 : ∀ p : Regrown, (grow (redrawn X1 p.d) p.os).cell? ⟨pb, 9, none⟩ = some (.int .u32 P1.n) := fun p => cell_regrown (cell_blk HXB1.out rfl) p.d p.os
        have q11 : ∀ p : Regrown, (grow (redrawn X1 p.d) p.os).cell? ⟨pb, 11, none⟩ = some (.int .u32 P1.marked) := fun p => cell_regrown (cell_blk HXB1.out rfl) p.d p.os
        have q15 : ∀ p : Regrown, (grow (redrawn X1 p.d) p.os).cell? ⟨pb, 15, none⟩ = some (.int .i64 (P1.steps + 1)) := fun p => cell_regrown (cell_blk HXB1.out rfl) p.d p.os
        have q3 : ∀ p : Regrown, (grow (redrawn X1 p.d) p.os).cell? ⟨b, o + 3, none⟩ = some (.int .i64 (N : Int)) := fun p => cell_regrown h4 p.d p.os
        have q4 : ∀ p : Regrown, (grow (redrawn X1 p.d) p.os).cell? ⟨tb, 1, none⟩ = some (.int .i64 0) := fun p => cell_regrown h5 p.d p.os
        have hbc := Below.refl X1.heap.size X1
        clear h4 h5
        with_reducible refine wp_on hbc (by kernel_rfl) (by kernel_rfl) ?_
        (repeat (go_big_quiet_step (fail)))
        with_reducible refine wpQuiet_nil ?_
        intro wc hbc
        have HBC := Lib.hid ((hbc.block pb (Array.getElem?_eq_some_iff.1 HXB1.out).1).trans HXB1.out)
        have HOC := Lib.hid (HO1X.out.trans (Only.of_below (S := fun k => k = pb) hbc))
        have x9 : wc.cell? ⟨pb, 9, none⟩ = some (.int .u32 P1.n) := cell_blk HBC.out rfl
        have x10 : wc.cell? ⟨pb, 10, none⟩ = some (.int .u32 P1.written) := cell_blk HBC.out rfl
        have x7 : wc.cell? ⟨pb, 7, none⟩ = some (.pointer (some ⟨wq1, 0, none⟩)) := cell_blk HBC.out rfl
        have g10 := blk_frozen 10 HBC.out
        have g7 := blk_frozen 7 HBC.out
        clear q1 q9 q11 q15 q3 q4 hbc
        go_wp2
        go_ret
        obtain ⟨d, e0, e1, e2, e3, e4, e5, -, -⟩ := HQ.out
        rw [HPW.out, wr1_end (k := P1.marked) e0 e1.symm e5 (by rw [← e2]; rfl)]
        have hof : Only (fun k => k = pb) X ((((wc).setCell ⟨pb, 10, none⟩ (.int .u32 P1.n))).setCell ⟨pb, 7, none⟩ (.pointer none)) := HOC.out.trans (((Only.refl (fun k => k = pb) wc).set (p := ⟨pb, 10, none⟩) rfl _).set (p := ⟨pb, 7, none⟩) rfl _)
        refine ⟨(by have c1 := eq_of_beq b1; have c2 := ne_of_beq_false b2; show Ending.returned (.bool false) = Ending.returned (.bool (decide (P1.steps + 1 = ml N P1.n + 6) && decide (P1.marked = P1.n))); rw [show decide (P1.steps + 1 = ml N P1.n + 6) = true from decide_eq_true c1, show decide (P1.marked = P1.n) = false from decide_eq_false c2]; rfl), wq1, ⟨(blk_put (o := 7) (v := .pointer none) (blk_put (o := 10) (v := .int .u32 P1.n) HBC.out rfl) rfl), HSD.out.duo.dropped hof HP1.out.pe (by first | exact .inl rfl | exact .inr rfl) (by first | exact .inl rfl | exact .inr rfl), HP1.out.pe, HP1.out.cfg, HP1.out.nn, ?_⟩, fin_only HO1.out HSD.out.only hof HP1.out.pe.2⟩
        exact ⟨l1, by show P1.n ≤ ((K + 2 : Nat) : Int); omega, by show 0 ≤ P1.steps + 1; omega, by show P1.steps + 1 ≤ ((K + 2 : Nat) : Int); omega, l5, by show P1.own ≤ ((K + 2 : Nat) : Int); omega⟩
      · go_wp2
        obtain ⟨X1, HX1⟩ : ∃ u, Hid (u = ((X).setCell ⟨pb, 15, none⟩ (.int .i64 (P1.steps + 1)))) := ⟨_, rfl⟩
        rw [← HX1.out]
        have HXB1 : Hid (X1.heap[pb]? = some (.cells (pV (x) (mb) ((.pointer (some ⟨wq1, 0, none⟩))) ((pvW P1.r rq)) (P1.n) (P1.written) (P1.marked) (P1.begun) (P1.first) (P1.last) (P1.steps + 1) (P1.own)) 66 (0, 0))) := Lib.hid (by rw [HX1.out]; exact (blk_put (o := 15) (v := .int .i64 (P1.steps + 1)) HXB.out rfl))
        have HO1X : Hid (Only (fun k => k = pb) X X1) := Lib.hid (by rw [HX1.out]; exact ((Only.refl (fun k => k = pb) X).set (p := ⟨pb, 15, none⟩) rfl _))
        have h4 : X1.cell? ⟨b, o + 3, none⟩ = some (.int .i64 (N : Int)) := by
          have := HCH.out X1 (HSD.out.duo.dropped HO1X.out HP1.out.pe (.inl rfl) (.inl rfl)).below
          simpa using this
        have h5 : X1.cell? ⟨tb, 1, none⟩ = some (.int .i64 0) := cell_of_blk (w := X) (cell_blk HSD.out.box rfl) (HO1X.out.block tb (Array.getElem?_eq_some_iff.1 HSD.out.box).1 hne1)
        clear x1 x7 x9 x10 x11 x15 g7 g10 g11 g15 d0 d1 d5 h3
        have q1 : ∀ p : Regrown, (grow (redrawn X1 p.d) p.os).cell? ⟨pb, 1, none⟩ = some (.slice (some ⟨b, o, none⟩) 1 x.cc) := fun p => cell_regrown (by rw [← HCA.out]; exact cell_blk HXB1.out rfl) p.d p.os
        have q9 : ∀ p : Regrown, (grow (redrawn X1 p.d) p.os).cell? ⟨pb, 9, none⟩ = some (.int .u32 P1.n) := fun p => cell_regrown (cell_blk HXB1.out rfl) p.d p.os
        have q11 : ∀ p : Regrown, (grow (redrawn X1 p.d) p.os).cell? ⟨pb, 11, none⟩ = some (.int .u32 P1.marked) := fun p => cell_regrown (cell_blk HXB1.out rfl) p.d p.os
        have q15 : ∀ p : Regrown, (grow (redrawn X1 p.d) p.os).cell? ⟨pb, 15, none⟩ = some (.int .i64 (P1.steps + 1)) := fun p => cell_regrown (cell_blk HXB1.out rfl) p.d p.os
        have q3 : ∀ p : Regrown, (grow (redrawn X1 p.d) p.os).cell? ⟨b, o + 3, none⟩ = some (.int .i64 (N : Int)) := fun p => cell_regrown h4 p.d p.os
        have q4 : ∀ p : Regrown, (grow (redrawn X1 p.d) p.os).cell? ⟨tb, 1, none⟩ = some (.int .i64 0) := fun p => cell_regrown h5 p.d p.os
        have hbc := Below.refl X1.heap.size X1
        clear h4 h5
        with_reducible refine wp_on hbc (by kernel_rfl) (by kernel_rfl) ?_
        (repeat (go_big_quiet_step (fail)))
        with_reducible refine wpQuiet_nil ?_
        intro wc hbc
        have HBC := Lib.hid ((hbc.block pb (Array.getElem?_eq_some_iff.1 HXB1.out).1).trans HXB1.out)
        have HOC := Lib.hid (HO1X.out.trans (Only.of_below (S := fun k => k = pb) hbc))
        have x9 : wc.cell? ⟨pb, 9, none⟩ = some (.int .u32 P1.n) := cell_blk HBC.out rfl
        have x10 : wc.cell? ⟨pb, 10, none⟩ = some (.int .u32 P1.written) := cell_blk HBC.out rfl
        have x7 : wc.cell? ⟨pb, 7, none⟩ = some (.pointer (some ⟨wq1, 0, none⟩)) := cell_blk HBC.out rfl
        have g10 := blk_frozen 10 HBC.out
        have g7 := blk_frozen 7 HBC.out
        clear q1 q9 q11 q15 q3 q4 hbc
        go_wp2
        go_ret
        obtain ⟨d, e0, e1, e2, e3, e4, e5, -, -⟩ := HQ.out
        rw [HPW.out, wr1_end (k := P1.marked) e0 e1.symm e5 (by rw [← e2]; rfl)]
        have hof : Only (fun k => k = pb) X ((((wc).setCell ⟨pb, 10, none⟩ (.int .u32 P1.n))).setCell ⟨pb, 7, none⟩ (.pointer none)) := HOC.out.trans (((Only.refl (fun k => k = pb) wc).set (p := ⟨pb, 10, none⟩) rfl _).set (p := ⟨pb, 7, none⟩) rfl _)
        refine ⟨(by have c1 := eq_of_beq b1; have c2 := eq_of_beq b2; show Ending.returned (.bool true) = Ending.returned (.bool (decide (P1.steps + 1 = ml N P1.n + 6) && decide (P1.marked = P1.n))); rw [show decide (P1.steps + 1 = ml N P1.n + 6) = true from decide_eq_true c1, show decide (P1.marked = P1.n) = true from decide_eq_true c2]; rfl), wq1, ⟨(blk_put (o := 7) (v := .pointer none) (blk_put (o := 10) (v := .int .u32 P1.n) HBC.out rfl) rfl), HSD.out.duo.dropped hof HP1.out.pe (by first | exact .inl rfl | exact .inr rfl) (by first | exact .inl rfl | exact .inr rfl), HP1.out.pe, HP1.out.cfg, HP1.out.nn, ?_⟩, fin_only HO1.out HSD.out.only hof HP1.out.pe.2⟩
        exact ⟨l1, by show P1.n ≤ ((K + 2 : Nat) : Int); omega, by show 0 ≤ P1.steps + 1; omega, by show P1.steps + 1 ≤ ((K + 2 : Nat) : Int); omega, l5, by show P1.own ≤ ((K + 2 : Nat) : Int); omega⟩
  · go_wp2
    go_ret
    obtain ⟨d, e0, e1, e2, e3, e4, e5, -, -⟩ := HQ.out
    rw [HPW.out, wr1_of (k := P1.n) e0 e1.symm (by rw [← e2]; rfl)]
    have hof : Only (fun k => k = pb) X ((((X).setCell ⟨pb, 15, none⟩ (.int .i64 (P1.steps + 1)))).setCell ⟨pb, 11, none⟩ (.int .u32 P1.n)) := (((Only.refl (fun k => k = pb) X).set (p := ⟨pb, 15, none⟩) rfl _).set (p := ⟨pb, 11, none⟩) rfl _)
    refine ⟨rfl, wq1, ⟨(blk_put (o := 11) (v := .int .u32 P1.n) (blk_put (o := 15) (v := .int .i64 (P1.steps + 1)) HXB.out rfl) rfl), HSD.out.duo.dropped hof HP1.out.pe (by first | exact .inl rfl | exact .inr rfl) (by first | exact .inl rfl | exact .inr rfl), HP1.out.pe, HP1.out.cfg, HP1.out.nn, ?_⟩, fin_only HO1.out HSD.out.only hof HP1.out.pe.2⟩
    exact ⟨l1, by show P1.n ≤ ((K + 2 : Nat) : Int); omega, by show 0 ≤ P1.steps + 1; omega, by show P1.steps + 1 ≤ ((K + 2 : Nat) : Int); omega, l5, by show P1.own ≤ ((K + 2 : Nat) : Int); omega⟩
  · cases b1 : (P1.steps + 1 == 1 + P1.n % (N : Int) + 6)
    · go_wp2
      obtain ⟨X1, HX1⟩ : ∃ u, Hid (u = ((((X).setCell ⟨pb, 15, none⟩ (.int .i64 (P1.steps + 1)))).setCell ⟨pb, 11, none⟩ (.int .u32 P1.n))) := ⟨_, rfl⟩
      rw [← HX1.out]
      have HXB1 : Hid (X1.heap[pb]? = some (.cells (pV (x) (mb) ((.pointer (some ⟨wq1, 0, none⟩))) ((pvW P1.r rq)) (P1.n) (P1.written) (P1.n) (P1.begun) (P1.first) (P1.last) (P1.steps + 1) (P1.own)) 66 (0, 0))) := Lib.hid (by rw [HX1.out]; exact (blk_put (o := 11) (v := .int .u32 P1.n) (blk_put (o := 15) (v := .int .i64 (P1.steps + 1)) HXB.out rfl) rfl))
      have HO1X : Hid (Only (fun k => k = pb) X X1) := Lib.hid (by rw [HX1.out]; exact (((Only.refl (fun k => k = pb) X).set (p := ⟨pb, 15, none⟩) rfl _).set (p := ⟨pb, 11, none⟩) rfl _))
      have h4 : X1.cell? ⟨b, o + 3, none⟩ = some (.int .i64 (N : Int)) := by
        have := HCH.out X1 (HSD.out.duo.dropped HO1X.out HP1.out.pe (.inl rfl) (.inl rfl)).below
        simpa using this
      have h5 : X1.cell? ⟨tb, 1, none⟩ = some (.int .i64 0) := cell_of_blk (w := X) (cell_blk HSD.out.box rfl) (HO1X.out.block tb (Array.getElem?_eq_some_iff.1 HSD.out.box).1 hne1)
      clear x1 x7 x9 x10 x11 x15 g7 g10 g11 g15 d0 d1 d5 h3
      have q1 : ∀ p : Regrown, (grow (redrawn X1 p.d) p.os).cell? ⟨pb, 1, none⟩ = some (.slice (some ⟨b, o, none⟩) 1 x.cc) := fun p => cell_regrown (by rw [← HCA.out]; exact cell_blk HXB1.out rfl) p.d p.os
      have q9 : ∀ p : Regrown, (grow (redrawn X1 p.d) p.os).cell? ⟨pb, 9, none⟩ = some (.int .u32 P1.n) := fun p => cell_regrown (cell_blk HXB1.out rfl) p.d p.os
      have q11 : ∀ p : Regrown, (grow (redrawn X1 p.d) p.os).cell? ⟨pb, 11, none⟩ = some (.int .u32 P1.n) := fun p => cell_regrown (cell_blk HXB1.out rfl) p.d p.os
      have q15 : ∀ p : Regrown, (grow (redrawn X1 p.d) p.os).cell? ⟨pb, 15, none⟩ = some (.int .i64 (P1.steps + 1)) := fun p => cell_regrown (cell_blk HXB1.out rfl) p.d p.os
      have q3 : ∀ p : Regrown, (grow (redrawn X1 p.d) p.os).cell? ⟨b, o + 3, none⟩ = some (.int .i64 (N : Int)) := fun p => cell_regrown h4 p.d p.os
      have q4 : ∀ p : Regrown, (grow (redrawn X1 p.d) p.os).cell? ⟨tb, 1, none⟩ = some (.int .i64 0) := fun p => cell_regrown h5 p.d p.os
      have hbc := Below.refl X1.heap.size X1
      clear h4 h5
      with_reducible refine wp_on hbc (by kernel_rfl) (by kernel_rfl) ?_
      (repeat (go_big_quiet_step (fail)))
      with_reducible refine wpQuiet_nil ?_
      intro wc hbc
      have HBC := Lib.hid ((hbc.block pb (Array.getElem?_eq_some_iff.1 HXB1.out).1).trans HXB1.out)
      have HOC := Lib.hid (HO1X.out.trans (Only.of_below (S := fun k => k = pb) hbc))
      have x9 : wc.cell? ⟨pb, 9, none⟩ = some (.int .u32 P1.n) := cell_blk HBC.out rfl
      have x10 : wc.cell? ⟨pb, 10, none⟩ = some (.int .u32 P1.written) := cell_blk HBC.out rfl
      have x7 : wc.cell? ⟨pb, 7, none⟩ = some (.pointer (some ⟨wq1, 0, none⟩)) := cell_blk HBC.out rfl
      have g10 := blk_frozen 10 HBC.out
      have g7 := blk_frozen 7 HBC.out
      clear q1 q9 q11 q15 q3 q4 hbc
      go_wp2
      go_ret
      obtain ⟨d, e0, e1, e2, e3, e4, e5, -, -⟩ := HQ.out
      rw [HPW.out, wr1_end (k := P1.n) e0 e1.symm e5 (by rw [← e2]; rfl)]
      have hof : Only (fun k => k = pb) X ((((wc).setCell ⟨pb, 10, none⟩ (.int .u32 P1.n))).setCell ⟨pb, 7, none⟩ (.pointer none)) := HOC.out.trans (((Only.refl (fun k => k = pb) wc).set (p := ⟨pb, 10, none⟩) rfl _).set (p := ⟨pb, 7, none⟩) rfl _)
      refine ⟨(by have c1 := ne_of_beq_false b1; show Ending.returned (.bool false) = Ending.returned (.bool (decide (P1.steps + 1 = ml N P1.n + 6) && decide (P1.n = P1.n))); rw [show decide (P1.steps + 1 = ml N P1.n + 6) = false from decide_eq_false c1, show decide (P1.n = P1.n) = true from decide_eq_true rfl]; rfl), wq1, ⟨(blk_put (o := 7) (v := .pointer none) (blk_put (o := 10) (v := .int .u32 P1.n) HBC.out rfl) rfl), HSD.out.duo.dropped hof HP1.out.pe (by first | exact .inl rfl | exact .inr rfl) (by first | exact .inl rfl | exact .inr rfl), HP1.out.pe, HP1.out.cfg, HP1.out.nn, ?_⟩, fin_only HO1.out HSD.out.only hof HP1.out.pe.2⟩
      exact ⟨l1, by show P1.n ≤ ((K + 2 : Nat) : Int); omega, by show 0 ≤ P1.steps + 1; omega, by show P1.steps + 1 ≤ ((K + 2 : Nat) : Int); omega, l5, by show P1.own ≤ ((K + 2 : Nat) : Int); omega⟩
    · go_wp2
      obtain ⟨X1, HX1⟩ : ∃ u, Hid (u = ((((X).setCell ⟨pb, 15, none⟩ (.int .i64 (P1.steps + 1)))).setCell ⟨pb, 11, none⟩ (.int .u32 P1.n))) := ⟨_, rfl⟩
      rw [← HX1.out]
      have HXB1 : Hid (X1.heap[pb]? = some (.cells (pV (x) (mb) ((.pointer (some ⟨wq1, 0, none⟩))) ((pvW P1.r rq)) (P1.n) (P1.written) (P1.n) (P1.begun) (P1.first) (P1.last) (P1.steps + 1) (P1.own)) 66 (0, 0))) := Lib.hid (by rw [HX1.out]; exact (blk_put (o := 11) (v := .int .u32 P1.n) (blk_put (o := 15) (v := .int .i64 (P1.steps + 1)) HXB.out rfl) rfl))
      have HO1X : Hid (Only (fun k => k = pb) X X1) := Lib.hid (by rw [HX1.out]; exact (((Only.refl (fun k => k = pb) X).set (p := ⟨pb, 15, none⟩) rfl _).set (p := ⟨pb, 11, none⟩) rfl _))
      have h4 : X1.cell? ⟨b, o + 3, none⟩ = some (.int .i64 (N : Int)) := by
        have := HCH.out X1 (HSD.out.duo.dropped HO1X.out HP1.out.pe (.inl rfl) (.inl rfl)).below
        simpa using this
      have h5 : X1.cell? ⟨tb, 1, none⟩ = some (.int .i64 0) := cell_of_blk (w := X) (cell_blk HSD.out.box rfl) (HO1X.out.block tb (Array.getElem?_eq_some_iff.1 HSD.out.box).1 hne1)
      clear x1 x7 x9 x10 x11 x15 g7 g10 g11 g15 d0 d1 d5 h3
      have q1 : ∀ p : Regrown, (grow (redrawn X1 p.d) p.os).cell? ⟨pb, 1, none⟩ = some (.slice (some ⟨b, o, none⟩) 1 x.cc) := fun p => cell_regrown (by rw [← HCA.out]; exact cell_blk HXB1.out rfl) p.d p.os
      have q9 : ∀ p : Regrown, (grow (redrawn X1 p.d) p.os).cell? ⟨pb, 9, none⟩ = some (.int .u32 P1.n) := fun p => cell_regrown (cell_blk HXB1.out rfl) p.d p.os
      have q11 : ∀ p : Regrown, (grow (redrawn X1 p.d) p.os).cell? ⟨pb, 11, none⟩ = some (.int .u32 P1.n) := fun p => cell_regrown (cell_blk HXB1.out rfl) p.d p.os
      have q15 : ∀ p : Regrown, (grow (redrawn X1 p.d) p.os).cell? ⟨pb, 15, none⟩ = some (.int .i64 (P1.steps + 1)) := fun p => cell_regrown (cell_blk HXB1.out rfl) p.d p.os
      have q3 : ∀ p : Regrown, (grow (redrawn X1 p.d) p.os).cell? ⟨b, o + 3, none⟩ = some (.int .i64 (N : Int)) := fun p => cell_regrown h4 p.d p.os
      have q4 : ∀ p : Regrown, (grow (redrawn X1 p.d) p.os).cell? ⟨tb, 1, none⟩ = some (.int .i64 0) := fun p => cell_regrown h5 p.d p.os
      have hbc := Below.refl X1.heap.size X1
      clear h4 h5
      with_reducible refine wp_on hbc (by kernel_rfl) (by kernel_rfl) ?_
      (repeat (go_big_quiet_step (fail)))
      with_reducible refine wpQuiet_nil ?_
      intro wc hbc
      have HBC := Lib.hid ((hbc.block pb (Array.getElem?_eq_some_iff.1 HXB1.out).1).trans HXB1.out)
      have HOC := Lib.hid (HO1X.out.trans (Only.of_below (S := fun k => k = pb) hbc))
      have x9 : wc.cell? ⟨pb, 9, none⟩ = some (.int .u32 P1.n) := cell_blk HBC.out rfl
      have x10 : wc.cell? ⟨pb, 10, none⟩ = some (.int .u32 P1.written) := cell_blk HBC.out rfl
      have x7 : wc.cell? ⟨pb, 7, none⟩ = some (.pointer (some ⟨wq1, 0, none⟩)) := cell_blk HBC.out rfl
      have g10 := blk_frozen 10 HBC.out
      have g7 := blk_frozen 7 HBC.out
      clear q1 q9 q11 q15 q3 q4 hbc
      go_wp2
      go_ret
      obtain ⟨d, e0, e1, e2, e3, e4, e5, -, -⟩ := HQ.out
      rw [HPW.out, wr1_end (k := P1.n) e0 e1.symm e5 (by rw [← e2]; rfl)]
      have hof : Only (fun k => k = pb) X ((((wc).setCell ⟨pb, 10, none⟩ (.int .u32 P1.n))).setCell ⟨pb, 7, none⟩ (.pointer none)) := HOC.out.trans (((Only.refl (fun k => k = pb) wc).set (p := ⟨pb, 10, none⟩) rfl _).set (p := ⟨pb, 7, none⟩) rfl _)
      refine ⟨(by have c1 := eq_of_beq b1; show Ending.returned (.bool true) = Ending.returned (.bool (decide (P1.steps + 1 = ml N P1.n + 6) && decide (P1.n = P1.n))); rw [show decide (P1.steps + 1 = ml N P1.n + 6) = true from decide_eq_true c1, show decide (P1.n = P1.n) = true from decide_eq_true rfl]; rfl), wq1, ⟨(blk_put (o := 7) (v := .pointer none) (blk_put (o := 10) (v := .int .u32 P1.n) HBC.out rfl) rfl), HSD.out.duo.dropped hof HP1.out.pe (by first | exact .inl rfl | exact .inr rfl) (by first | exact .inl rfl | exact .inr rfl), HP1.out.pe, HP1.out.cfg, HP1.out.nn, ?_⟩, fin_only HO1.out HSD.out.only hof HP1.out.pe.2⟩
      exact ⟨l1, by show P1.n ≤ ((K + 2 : Nat) : Int); omega, by show 0 ≤ P1.steps + 1; omega, by show P1.steps + 1 ≤ ((K + 2 : Nat) : Int); omega, l5, by show P1.own ≤ ((K + 2 : Nat) : Int); omega⟩
end
end Go.Proofs.YtocdidkfnbkkhaaGreat
