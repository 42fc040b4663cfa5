/- Texts of the ring, joined, what is used of them. No condition but those in the statements. -/
import Derived.BigQuiet
import Derived.BigRegion
import Derived.Deep.MidRow
import Derived.Deep.RegionHeld3
import Derived.Deep.Upon
import Derived.IntWalk
import Derived.Shelf.Abstract
import Derived.Test.YtfdgokkngejbhaaGreatQgG
namespace Go.Proofs.YtfdgokkngejbhaaGreat
open Go.RowKit Go.Sort
set_option linter.unusedVariables false
set_option linter.unusedSimpArgs false
set_option linter.unusedVariables false
set_option linter.unusedSimpArgs false
open Go.Proofs.YtfdgokkngejbhaaGreat.Simp
set_option maxRecDepth 100000
set_option maxHeartbeats 12800000
/-- The words of a message under way: the first k are there. -/
def halfQ (L k : Nat) (n : Int) : List Int := List.replicate k n ++ List.replicate (L - k) 0
theorem halfQ_len {L k : Nat} {n : Int} (h : k ≤ L) : (halfQ L k n).length = L := by unfold halfQ; simp; omega
theorem halfQ_zero (L : Nat) (n : Int) : halfQ L 0 n = List.replicate L 0 := by unfold halfQ; simp
theorem halfQ_full (L : Nat) (n : Int) : halfQ L L n = List.replicate L n := by unfold halfQ; simp
theorem halfQ_set {L k : Nat} {n : Int} (h : k < L) : (halfQ L k n).set k n = halfQ L (k + 1) n := by
  unfold halfQ
  apply List.ext_getElem
  · simp; omega
  · intro i h1 h2
    rw [List.getElem_set]
    split
    · subst_vars; rw [List.getElem_append_left (by simp)]; simp
    · by_cases hi : i < k
      · rw [List.getElem_append_left (by simp; omega), List.getElem_append_left (by simp; omega)]; simp
      · rw [List.getElem_append_right (by simp; omega), List.getElem_append_right (by simp; omega)]; simp
section
variable {W w w' : World} {E : Nat → Prop} {pb mb rb bb br N D K sq rq : Nat} {boot : Int} {x : CfgAt} {P : Ql}
theorem Quo.drewQ {B be : Nat} {F : Qr} {ws : List Int} {bs : List Bool} {os og : Option (Nat × QS)} (h : Quo W w B E mb rb bb br F be ws bs os og) : Quo W w.drew B E mb rb bb br F be ws bs os og := h.only (T := fun _ => False) (Only.refl _ w).drew (fun _ _ h => h.elim) (fun k h => .inl h)
theorem sendN_b (h : PQAt W w E pb mb rb bb br N D boot x (K) (P) sq rq) (hK : K ≤ 90000) (hok : (playS N D P).2 = true) (hw : P.s = none) : Calls Tryz.prog 30 #[.pointer (some ⟨pb, 0, none⟩)] w fun e w' => e = .returned (.bool true) ∧ ∃ sq', PQAt W w' E pb mb rb bb br N D boot x (K + 1) ((playS N D P).1) sq' rq ∧ Only (fun k => (¬ E k ∨ k = pb) ∧ W.heap.size ≤ k) w w' := by
  obtain ⟨i0, hi, hz0, hz1, hz2⟩ := info_parts Tryz.infoW
  obtain ⟨b, o, hca, hch⟩ := chanQ h.cfg h.wf
  obtain ⟨l1, l2, l3, l4, l5, l6, l7, l8, l9, l10⟩ := h.lim
  obtain ⟨⟨N1, N2⟩, N3, N4, N5⟩ := h.nn
  have hml := ml_in (N := N) N1 P.n
  obtain ⟨L, hL⟩ : ∃ L : Nat, ml N P.n = (L : Int) := ⟨(ml N P.n).toNat, by omega⟩
  have g8 : w.cell? ⟨pb, 8, none⟩ = some (pqW P.s sq) := cell_blk h.blk rfl
  rw [hw] at g8
  have x8 : w.cell? ⟨pb, 8, none⟩ = some (.pointer none) := g8
  have x14 : w.cell? ⟨pb, 14, none⟩ = some (.int .i64 P.n) := cell_blk h.blk rfl
  have hsz := sizeQ_b N x.cc pb b o P.n w (by omega) (by omega) (by rw [← hca]; exact cell_blk h.blk rfl) (hch w h.below).1
  rw [hL] at hsz
  have HSZ := Lib.hid hsz
  have hmk := fun (w : World) => run_make_row (P := Tryz.prog) 30 34 i0 (.int .u32 0) Tryz.underlying30 hi hz0 hz1 rfl .i64 .i64 L (by rw [hz2]; omega) (by omega) w
  have hpw : playS N D P = sd1 N D { P with s := some (startQ (msg N P.n) P.tail), steps := 0 } (startQ (msg N P.n) P.tail) := by unfold playS; rw [hw]
  have HP := Lib.hid h; have HPW0 := Lib.hid hpw; have HOK0 := Lib.hid hok; have HCA := Lib.hid hca; have HLL := Lib.hid hL; have HSN := Lib.hid hw; have HML := Lib.hid hml
  have hLm : 1 ≤ L ∧ L ≤ 16 := by omega
  obtain ⟨n1, hn1⟩ : ∃ n1, P.n = n1 := ⟨_, rfl⟩
  have HN1 := Lib.hid hn1
  rw [hn1] at x14 l1 l2
  have hv0 : IntKind.u32.wrap n1 = n1 := by rw [IntKind.wrap_u32]; omega
  clear h g8 hsz hpw hok hca hch hw hL hml hn1
  go_enter Tryz.func30, Tryz.ntmps30
  go_wp2_with fail
  rw [HN1.out] at HSZ
  refine HSZ.out.mono ?_
  rintro e wz ⟨rfl, rfl⟩
  clear x8 x14
  go_wp2
  obtain ⟨w3, HW3⟩ : ∃ u, Hid (u = (wz.alloc (.cells (madeCells #[Value.int .u32 0] L) 34))) := ⟨_, rfl⟩
  rw [← HW3.out]
  obtain ⟨db, hdb⟩ : ∃ d, d = wz.heap.size := ⟨_, rfl⟩
  simp only [← hdb]
  have HB23 : Hid (Below wz.heap.size wz w3) := Lib.hid (by rw [HW3.out]; exact (Below.refl _ _).alloc (Nat.le_refl _) _)
  have HZ3 : Hid (WordsAt w3 db (halfQ L 0 n1)) := Lib.hid (by rw [HW3.out, hdb, halfQ_zero]; unfold WordsAt; rw [← made_words]; exact heap_alloc_new wz _)
  have HDB := Lib.hid hdb
  have HBP3 := Lib.hid ((HB23.out.block pb HP.out.lt).trans HP.out.blk)
  have hne : pb ≠ db := by have := HP.out.lt; omega
  have HNE := Lib.hid hne
  clear hdb hne hmk
  go_loopw [21] (fun ix wr => ∃ k : Nat, k ≤ L ∧ ix = .int .i64 k ∧ WordsAt wr db (halfQ L k n1) ∧ Only (fun k => k = db) w3 wr) (fun ix _ => L - (intOf ix).toNat)
  case atStart => exact ⟨0, Nat.zero_le _, rfl, HZ3.out, Only.refl _ _⟩
  case round =>
    obtain ⟨k, hk, rfl, hwd, hor⟩ := hrel
    have hB := hor.at_ HBP3.out HNE.out
    by_cases hkl : k < L
    · have h14 : wr.cell? ⟨pb, 14, none⟩ = some (.int .i64 n1) := by rw [← HN1.out]; exact cell_blk hB rfl
      have hc := hwd.cell (k := k) (by rw [halfQ_len hk]; exact hkl)
      have hf := hwd.frozen k
      have HWD : Hid (WordsAt (wr.setCell ⟨db, k, none⟩ (.int .u32 n1)) db (halfQ L (k + 1) n1)) := Lib.hid (by rw [← halfQ_set hkl]; exact hwd.set k n1)
      have HOR : Hid (Only (fun k => k = db) w3 (wr.setCell ⟨db, k, none⟩ (.int .u32 n1))) := Lib.hid (hor.trans (Only.setCell wr ⟨db, k, none⟩ _))
      have HKL := Lib.hid hkl
      obtain ⟨y, hy⟩ : ∃ y, (halfQ L k n1).getD k 0 = y := ⟨_, rfl⟩
      rw [hy] at hc
      clear hy hwd hor hB
      go_wp2
      go_roundw
      case rel => exact ⟨k + 1, by omega, by go_num, HWD.out, HOR.out⟩
      case measure => simp [intOf]; omega
    · obtain rfl : k = L := by omega
      rw [halfQ_full] at hwd
      obtain ⟨bs, hqu, hbl, hbb⟩ := HP.out.quo
      have hq4 := (hqu.only (T := fun _ => False) (Only.of_below HB23.out) (fun _ _ h => h.elim) (E' := fun k => E k ∨ k = db) (fun k h => h.imp id (fun e => ⟨by have := HDB.out; omega, by rw [e]; exact HZ3.out.lt⟩))).only hor (fun i _ e => ⟨.inr e, by have := hqu.below.size; have := HDB.out; omega⟩) (E' := fun k => E k ∨ k = db) (fun k h => .inl h)
      have hBd : wr.drew.heap[pb]? = _ := hB
      obtain ⟨c0, c1, c2, c3, c4, c5, c10⟩ : wr.cell? ⟨pb, 0, none⟩ = some (.slice x.pa 2 x.pc) ∧ wr.cell? ⟨pb, 1, none⟩ = some (.slice x.ca 1 x.cc) ∧ wr.cell? ⟨pb, 2, none⟩ = some (.int .i64 1) ∧ wr.cell? ⟨pb, 3, none⟩ = some (.slice x.aa 1 x.ac) ∧ wr.cell? ⟨pb, 4, none⟩ = some (.int .i64 1) ∧ wr.cell? ⟨pb, 5, none⟩ = some (.slice x.ba 1 x.bc) ∧ wr.cell? ⟨pb, 10, none⟩ = some (.int .u32 P.tail) :=
        ⟨cell_blk hB rfl, cell_blk hB rfl, cell_blk hB rfl, cell_blk hB rfl, cell_blk hB rfl, cell_blk hB rfl, cell_blk hB rfl⟩
      have hns := callsIn_wide.1 (newS_in (cfgQ N D boot) x 0 (qr2 N D) P.tail (List.replicate k n1) db 0 k wr.drew (HP.out.cfg.later hq4.below.drew) HP.out.wf (cfgQ_few N D boot) HP.out.qrOf ⟨HP.out.u32.1, HP.out.u32.2.1⟩
        ⟨_, _, (show wr.heap[db]? = _ from hwd), fun j hj => by
          have hj : j < k := by simpa using hj
          unfold wcells; simp [List.getD_eq_getElem?_getD, List.getElem?_replicate, hj]⟩ (by rw [List.length_replicate]; exact ⟨by omega, by show k ≤ N; have := HLL.out; have := HML.out; omega⟩))
      rw [List.length_replicate] at hns
      obtain ⟨f1, f2, f3, f4, f5, f6⟩ := cfgQ_len N D boot
      simp only [cfgCells, f1, f2, f3, f4, f5, f6] at hns
      have HNS := Lib.hid hns; have HQ4 := Lib.hid hq4; have HB4 := Lib.hid hB; have HOR := Lib.hid hor; have HBS := Lib.hid (And.intro hbl hbb)
      have hpl : pb < wr.drew.heap.size := (Array.getElem?_eq_some_iff.1 hB).1
      clear hns hq4 hB hwd hor hkl hqu hbl hbb hBd f1 f2 f3 f4 f5 f6
      go_wp2
      refine wp_region_held_drew (S := (fun W' => W'.cell? ⟨pb, 0, none⟩ = some (.slice x.pa 2 x.pc) ∧ W'.cell? ⟨pb, 1, none⟩ = some (.slice x.ca 1 x.cc) ∧ W'.cell? ⟨pb, 2, none⟩ = some (.int .i64 1) ∧ W'.cell? ⟨pb, 3, none⟩ = some (.slice x.aa 1 x.ac) ∧ W'.cell? ⟨pb, 4, none⟩ = some (.int .i64 1) ∧ W'.cell? ⟨pb, 5, none⟩ = some (.slice x.ba 1 x.bc) ∧ W'.cell? ⟨pb, 10, none⟩ = some (.int .u32 P.tail))) (by kernel_rfl) (by exact ⟨c0, c1, c2, c3, c4, c5, c10⟩) (fun hHeld => ?_)
      refine wpAnyH_take (i := 0) rfl (by kernel_rfl) (by kernel_rfl) (by kernel_rfl) (fun _ _ _ h => h) (Or.inl ⟨by rfl, by intro w hSw; (have z0 := hSw.1; have z1 := hSw.2.1; have z2 := hSw.2.2.1; have z3 := hSw.2.2.2.1; have z4 := hSw.2.2.2.2.1; have z5 := hSw.2.2.2.2.2.1; have z6 := hSw.2.2.2.2.2.2); (go_simp <;> with_reducible rfl)⟩) (by assumption) ?_
      (try simp only [Act.put, List.setIfInBounds_toArray, List.set_cons_zero, List.set_cons_succ, List.getElem_toArray, List.getElem_cons_zero, List.getElem_cons_succ])
      refine wpAnyH_take (i := 1) rfl (by kernel_rfl) (by kernel_rfl) (by kernel_rfl) (fun _ _ _ h => h) (Or.inl ⟨by rfl, by intro w hSw; (have z0 := hSw.1; have z1 := hSw.2.1; have z2 := hSw.2.2.1; have z3 := hSw.2.2.2.1; have z4 := hSw.2.2.2.2.1; have z5 := hSw.2.2.2.2.2.1; have z6 := hSw.2.2.2.2.2.2); (go_simp <;> with_reducible rfl)⟩) (by assumption) ?_
      (try simp only [Act.put, List.setIfInBounds_toArray, List.set_cons_zero, List.set_cons_succ, List.getElem_toArray, List.getElem_cons_zero, List.getElem_cons_succ])
      refine wpAnyH_take (i := 2) rfl (by kernel_rfl) (by kernel_rfl) (by kernel_rfl) (fun _ _ _ h => h) (Or.inl ⟨by rfl, by intro w hSw; (have z0 := hSw.1; have z1 := hSw.2.1; have z2 := hSw.2.2.1; have z3 := hSw.2.2.2.1; have z4 := hSw.2.2.2.2.1; have z5 := hSw.2.2.2.2.2.1; have z6 := hSw.2.2.2.2.2.2); (go_simp <;> with_reducible rfl)⟩) (by assumption) ?_
      (try simp only [Act.put, List.setIfInBounds_toArray, List.set_cons_zero, List.set_cons_succ, List.getElem_toArray, List.getElem_cons_zero, List.getElem_cons_succ])
      refine wpAnyH_take (i := 3) rfl (by kernel_rfl) (by kernel_rfl) (by kernel_rfl) (fun _ _ _ h => h) (Or.inl ⟨by rfl, by intro w hSw; (have z0 := hSw.1; have z1 := hSw.2.1; have z2 := hSw.2.2.1; have z3 := hSw.2.2.2.1; have z4 := hSw.2.2.2.2.1; have z5 := hSw.2.2.2.2.2.1; have z6 := hSw.2.2.2.2.2.2); (go_simp <;> with_reducible rfl)⟩) (by assumption) ?_
      (try simp only [Act.put, List.setIfInBounds_toArray, List.set_cons_zero, List.set_cons_succ, List.getElem_toArray, List.getElem_cons_zero, List.getElem_cons_succ])
      refine wpAnyH_take (i := 4) rfl (by kernel_rfl) (by kernel_rfl) (by kernel_rfl) (fun _ _ _ h => h) (Or.inl ⟨by rfl, by intro w hSw; (have z0 := hSw.1; have z1 := hSw.2.1; have z2 := hSw.2.2.1; have z3 := hSw.2.2.2.1; have z4 := hSw.2.2.2.2.1; have z5 := hSw.2.2.2.2.2.1; have z6 := hSw.2.2.2.2.2.2); (go_simp <;> with_reducible rfl)⟩) (by assumption) ?_
      (try simp only [Act.put, List.setIfInBounds_toArray, List.set_cons_zero, List.set_cons_succ, List.getElem_toArray, List.getElem_cons_zero, List.getElem_cons_succ])
      refine wpAnyH_take (i := 5) rfl (by kernel_rfl) (by kernel_rfl) (by kernel_rfl) (fun _ _ _ h => h) (Or.inl ⟨by rfl, by intro w hSw; (have z0 := hSw.1; have z1 := hSw.2.1; have z2 := hSw.2.2.1; have z3 := hSw.2.2.2.1; have z4 := hSw.2.2.2.2.1; have z5 := hSw.2.2.2.2.2.1; have z6 := hSw.2.2.2.2.2.2); (go_simp <;> with_reducible rfl)⟩) (by assumption) ?_
      (try simp only [Act.put, List.setIfInBounds_toArray, List.set_cons_zero, List.set_cons_succ, List.getElem_toArray, List.getElem_cons_zero, List.getElem_cons_succ])
      refine wpAnyH_take (i := 6) rfl (by kernel_rfl) (by kernel_rfl) (by kernel_rfl) (fun _ _ _ h => h) (Or.inl ⟨by rfl, by intro w hSw; (have z0 := hSw.1; have z1 := hSw.2.1; have z2 := hSw.2.2.1; have z3 := hSw.2.2.2.1; have z4 := hSw.2.2.2.2.1; have z5 := hSw.2.2.2.2.2.1; have z6 := hSw.2.2.2.2.2.2); (go_simp <;> with_reducible rfl)⟩) (by assumption) ?_
      (try simp only [Act.put, List.setIfInBounds_toArray, List.set_cons_zero, List.set_cons_succ, List.getElem_toArray, List.getElem_cons_zero, List.getElem_cons_succ])
      refine wpAnyH_take (i := 7) rfl (by kernel_rfl) (by kernel_rfl) (by kernel_rfl) (fun _ _ _ h => h) (Or.inl ⟨by rfl, by intro w hSw; (have z0 := hSw.1; have z1 := hSw.2.1; have z2 := hSw.2.2.1; have z3 := hSw.2.2.2.1; have z4 := hSw.2.2.2.2.1; have z5 := hSw.2.2.2.2.2.1; have z6 := hSw.2.2.2.2.2.2); (go_simp <;> with_reducible rfl)⟩) (by assumption) ?_
      (try simp only [Act.put, List.setIfInBounds_toArray, List.set_cons_zero, List.set_cons_succ, List.getElem_toArray, List.getElem_cons_zero, List.getElem_cons_succ])
      refine wpAnyH_take (i := 8) rfl (by kernel_rfl) (by kernel_rfl) (by kernel_rfl) (fun _ _ _ h => h) (Or.inl ⟨by rfl, by intro w hSw; (have z0 := hSw.1; have z1 := hSw.2.1; have z2 := hSw.2.2.1; have z3 := hSw.2.2.2.1; have z4 := hSw.2.2.2.2.1; have z5 := hSw.2.2.2.2.2.1; have z6 := hSw.2.2.2.2.2.2); (go_simp <;> with_reducible rfl)⟩) (by assumption) ?_
      (try simp only [Act.put, List.setIfInBounds_toArray, List.set_cons_zero, List.set_cons_succ, List.getElem_toArray, List.getElem_cons_zero, List.getElem_cons_succ])
      refine wpAnyH_take (i := 9) rfl (by kernel_rfl) (by kernel_rfl) (by kernel_rfl) (fun _ _ _ h => h) (Or.inl ⟨by rfl, by intro w hSw; (have z0 := hSw.1; have z1 := hSw.2.1; have z2 := hSw.2.2.1; have z3 := hSw.2.2.2.1; have z4 := hSw.2.2.2.2.1; have z5 := hSw.2.2.2.2.2.1; have z6 := hSw.2.2.2.2.2.2); (go_simp <;> with_reducible rfl)⟩) (by assumption) ?_
      (try simp only [Act.put, List.setIfInBounds_toArray, List.set_cons_zero, List.set_cons_succ, List.getElem_toArray, List.getElem_cons_zero, List.getElem_cons_succ])
      refine wpAnyH_ready (rs := [10]) (by kernel_rfl) (by simp) (AllReadyH.cons rfl (fun K hK => ?_) AllReadyH.nil)
      go_simp
      refine HNS.out.mono ?_
      rintro e v5 ⟨sq1, S5, rfl, hat, hS5, hb5⟩
      have hB5 := (hb5.block pb hpl).trans (show wr.drew.heap[pb]? = _ from HB4.out)
      have x8 : v5.cell? ⟨pb, 8, none⟩ = some (.pointer none) := by have q := cell_blk hB5 (i := 8) rfl; rw [HSN.out] at q; exact q
      have g8 := blk_frozen 8 hB5
      refine hK.out _ _ (by exact ⟨cell_blk hB5 rfl, cell_blk hB5 rfl, cell_blk hB5 rfl, cell_blk hB5 rfl, cell_blk hB5 rfl, cell_blk hB5 rfl, cell_blk hB5 rfl⟩) (fun hHeld => ?_)
      clear hK K
      (try simp only [Act.put, List.setIfInBounds_toArray, List.set_cons_zero, List.set_cons_succ, List.getElem_toArray, List.getElem_cons_zero, List.getElem_cons_succ])
      refine wpAnyH_take (i := 11) rfl (by kernel_rfl) (by kernel_rfl) (by kernel_rfl) (fun _ _ _ h => h) (Or.inl ⟨by rfl, by intro w hSw; (have z0 := hSw.1; have z1 := hSw.2.1; have z2 := hSw.2.2.1; have z3 := hSw.2.2.2.1; have z4 := hSw.2.2.2.2.1; have z5 := hSw.2.2.2.2.2.1; have z6 := hSw.2.2.2.2.2.2); (go_simp <;> with_reducible rfl)⟩) (by assumption) ?_
      (try simp only [Act.put, List.setIfInBounds_toArray, List.set_cons_zero, List.set_cons_succ, List.getElem_toArray, List.getElem_cons_zero, List.getElem_cons_succ])
      refine wpAnyH_take (i := 12) rfl (by kernel_rfl) (by kernel_rfl) (by kernel_rfl) (fun _ _ _ h => h) (Or.inl ⟨by rfl, by intro w hSw; (have z0 := hSw.1; have z1 := hSw.2.1; have z2 := hSw.2.2.1; have z3 := hSw.2.2.2.1; have z4 := hSw.2.2.2.2.1; have z5 := hSw.2.2.2.2.2.1; have z6 := hSw.2.2.2.2.2.2); (go_simp <;> with_reducible rfl)⟩) (by assumption) ?_
      (try simp only [Act.put, List.setIfInBounds_toArray, List.set_cons_zero, List.set_cons_succ, List.getElem_toArray, List.getElem_cons_zero, List.getElem_cons_succ])
      refine wpAnyH_ready (rs := [13]) (by kernel_rfl) (by simp) (AllReadyH.cons rfl (fun K hK => ?_) AllReadyH.nil)
      go_simp
      have hB6 := blk_put (o := 8) (v := .pointer (some ⟨sq1, 0, none⟩)) hB5 rfl
      refine hK.out _ _ (by exact ⟨cell_blk hB6 rfl, cell_blk hB6 rfl, cell_blk hB6 rfl, cell_blk hB6 rfl, cell_blk hB6 rfl, cell_blk hB6 rfl, cell_blk hB6 rfl⟩) (fun hHeld => ?_)
      clear hK K
      (try simp only [Act.put, List.setIfInBounds_toArray, List.set_cons_zero, List.set_cons_succ, List.getElem_toArray, List.getElem_cons_zero, List.getElem_cons_succ])
      refine wpAnyH_done (by kernel_rfl) ?_ _
      have y15 : (v5.setCell ⟨pb, 8, none⟩ (.pointer (some ⟨sq1, 0, none⟩))).cell? ⟨pb, 15, none⟩ = some (.int .i64 P.steps) := cell_blk hB6 rfl
      have h15 := blk_frozen 15 hB6
      have HB6 := Lib.hid hB6
      have HQ5 := Lib.hid (HQ4.out.drewQ.newS hat hS5 hb5 (show WQ (startQ (List.replicate k n1) P.tail) from ⟨w32_of (fun y hy => by have := (List.mem_replicate.1 hy).2; subst this; omega), HP.out.u32.1, HP.out.u32.2.1⟩))
      have HO5 := Lib.hid hb5
      clear hat hS5 hb5 hB5 hB6 hHeld c0 c1 c2 c3 c4 c5 c10 x8 g8
      go_wp2
      obtain ⟨w1, HW1⟩ : ∃ u, Hid (u = (v5.setCell ⟨pb, 8, none⟩ (.pointer (some ⟨sq1, 0, none⟩))).setCell ⟨pb, 15, none⟩ (.int .i64 0)) := ⟨_, rfl⟩
      rw [← HW1.out]
      obtain ⟨P1, hP1⟩ : ∃ Q : Ql, { P with s := some (startQ (msg N P.n) P.tail), steps := 0 } = Q := ⟨_, rfl⟩
      obtain ⟨s, hs⟩ : ∃ s, startQ (msg N P.n) P.tail = s := ⟨_, rfl⟩
      have hmsg : startQ (List.replicate k n1) P.tail = s := by rw [← hs]; unfold msg; rw [HLL.out, HN1.out, Int.toNat_natCast]
      have hd1 : Only (fun k => k = pb) v5 w1 := by rw [HW1.out]; exact (Only.setCell v5 ⟨pb, 8, none⟩ _).trans (Only.setCell _ ⟨pb, 15, none⟩ _)
      have hb1 : w1.heap[pb]? = some (.cells (qpV (x) (mb) (bb) (.pointer (some ⟨sq1, 0, none⟩)) ((pqW P.r rq)) (P.tail) (P.head) (P.sent) (P.got) (P.n) (0) (P.own)) 75 (0, 0)) := by rw [HW1.out]; exact blk_put (o := 15) (v := .int .i64 0) HB6.out rfl
      have hq5 := HQ5.out
      rw [hmsg] at hq5
      have hq1 := hq5.only hd1 (fun k _ e => by subst e; exact ⟨.inl HP.out.pe.1, HP.out.pe.2⟩) (E' := E) (fun k h => .inl (.inl h))
      have hp1 : PQAt W w1 E pb mb rb bb br N D boot x K P1 sq1 rq := by
        rw [← hP1]
        obtain ⟨l1, l2, l3, l4, l5, l6, l7, l8, l9, l10⟩ := HP.out.lim
        rw [← hs] at hq1
        exact ⟨hb1, ⟨_, hq1, HBS.out.1, HBS.out.2⟩, HP.out.pe, HP.out.cfg, HP.out.nn, ⟨l1, l2, Int.le_refl _, by show (0 : Int) ≤ K; omega, l5, l6, l7, l8, l9, l10⟩, HP.out.u32⟩
      have hs1 : P1.s = some s := by rw [← hP1, ← hs]
      have HPW : Hid (playS N D P = sd1 N D P1 s) := Lib.hid (by rw [← hP1, ← hs]; exact HPW0.out)
      have HOK : Hid ((sd1 N D P1 s).2 = true) := Lib.hid (by rw [← HPW.out]; exact HOK0.out)
      have HDU : Hid (Quo W w1 W.heap.size E mb rb bb br (qr2 N D) 1 P1.m bs (some (sq1, s)) (atQ P1.r rq)) := Lib.hid (by rw [← hP1]; exact hq1)
      have HBS : Hid (bs.length = 2 ∧ bs.getD 1 false = P1.bell) := Lib.hid (by rw [← hP1]; exact HBS.out)
      have HP1 := Lib.hid hp1; have HS1 := Lib.hid hs1
      have HO1 : Hid (Only (fun k => (¬ E k ∨ k = pb) ∧ W.heap.size ≤ k) wz w1) := Lib.hid ((Only.old (S := fun k => k = pb) (((((Only.of_below (S := fun _ => False) HB23.out).mono fun k _ e => e.elim).trans (HOR.out.mono fun k _ e => .inl (by have := HDB.out; omega))).drew.trans ((Only.of_below (S := fun _ => False) HO5.out).mono fun k _ e => e.elim)).trans (hd1.mono fun k _ e => .inr e))).mono (fun k _ e => by subst e; exact ⟨.inr rfl, HP.out.pe.2⟩))
      clear y15 h15 hd1 hb1 hq5 hq1 hp1 hs1 hs hP1 hmsg hpl
      have HPB : Hid (w1.heap[pb]? = some (.cells (qpV (x) (mb) (bb) ((.pointer (some ⟨sq1, 0, none⟩))) ((pqW P1.r rq)) (P1.tail) (P1.head) (P1.sent) (P1.got) (P1.n) (P1.steps) (P1.own)) 75 (0, 0))) := Lib.hid (by have q := HP1.out.blk; rw [HS1.out] at q; exact q)
      have HEL : Hid (∀ k, E k → k < w1.drew.heap.size) := Lib.hid (fun k hk => by obtain ⟨_, _, _, _, h3, _⟩ := HDU.out.two; exact (h3 k hk).2.2.2)
      have HPE : Hid (E pb ∧ pb < w1.drew.heap.size ∧ W.heap.size ≤ w1.drew.heap.size) := Lib.hid ⟨HP1.out.pe.1, HP1.out.lt, HDU.out.below.size⟩
      have HST := Lib.hid (fun (W' : World) (h : Below w1.drew.heap.size w1.drew W') => (HDU.out.only (T := fun _ => False) ((Only.refl _ w1).drew.trans (Only.of_below h)) (fun _ _ h => h.elim) (E' := fun k => E k ∨ (w1.drew.heap.size ≤ k ∧ k < W'.heap.size)) (fun k h => h)).stS 0)
      have h8' : w1.cell? ⟨pb, 8, none⟩ = some (.pointer (some ⟨sq1, 0, none⟩)) := cell_blk HPB.out rfl
      (try clear h8)
      (try go_wp2)
      clear h8'
      refine wp_region_held_drew (S := (fun W' => W'.cell? ⟨pb, 8, none⟩ = some (.pointer (some ⟨sq1, 0, none⟩)) ∧ W'.cell? ⟨pb, 6, none⟩ = some (.pointer (some ⟨mb, 0, none⟩)) ∧ W'.cell? ⟨pb, 7, none⟩ = some (.pointer (some ⟨bb, 0, none⟩)))) (by kernel_rfl) (keepP3 (show w1.drew.heap[pb]? = _ from HPB.out) rfl rfl rfl) (fun hHeld => ?_)
      refine wpAnyH_take (i := 0) rfl (by kernel_rfl) (by kernel_rfl) (by kernel_rfl) (fun _ _ _ h => h) (Or.inl ⟨by rfl, by intro w hSw; (skip); (go_simp <;> with_reducible rfl)⟩) (by assumption) ?_
      (try simp only [Act.put, List.setIfInBounds_toArray, List.set_cons_zero, List.set_cons_succ, List.getElem_toArray, List.getElem_cons_zero, List.getElem_cons_succ])
      refine wpAnyH_take (i := 1) rfl (by kernel_rfl) (by kernel_rfl) (by kernel_rfl) (fun _ _ _ h => h) (Or.inl ⟨by rfl, by intro w hSw; (skip); (go_simp <;> with_reducible rfl)⟩) (by assumption) ?_
      (try simp only [Act.put, List.setIfInBounds_toArray, List.set_cons_zero, List.set_cons_succ, List.getElem_toArray, List.getElem_cons_zero, List.getElem_cons_succ])
      refine wpAnyH_take (i := 2) rfl (by kernel_rfl) (by kernel_rfl) (by kernel_rfl) (fun _ _ _ h => h) (Or.inl ⟨by rfl, by intro w hSw; (skip); (go_simp <;> with_reducible rfl)⟩) (by assumption) ?_
      (try simp only [Act.put, List.setIfInBounds_toArray, List.set_cons_zero, List.set_cons_succ, List.getElem_toArray, List.getElem_cons_zero, List.getElem_cons_succ])
      refine wpAnyH_take (i := 3) rfl (by kernel_rfl) (by kernel_rfl) (by kernel_rfl) (fun _ _ _ h => h) (Or.inl ⟨by rfl, by intro w hSw; (skip); (go_simp <;> with_reducible rfl)⟩) (by assumption) ?_
      (try simp only [Act.put, List.setIfInBounds_toArray, List.set_cons_zero, List.set_cons_succ, List.getElem_toArray, List.getElem_cons_zero, List.getElem_cons_succ])
      refine wpAnyH_take (i := 4) rfl (by kernel_rfl) (by kernel_rfl) (by kernel_rfl) (fun _ _ _ h => h) (Or.inl ⟨by rfl, by intro w hSw; (skip); (go_simp <;> with_reducible rfl)⟩) (by assumption) ?_
      (try simp only [Act.put, List.setIfInBounds_toArray, List.set_cons_zero, List.set_cons_succ, List.getElem_toArray, List.getElem_cons_zero, List.getElem_cons_succ])
      refine wpAnyH_take (i := 5) rfl (by kernel_rfl) (by kernel_rfl) (by kernel_rfl) (fun _ _ _ h => h) (Or.inl ⟨by rfl, by intro w hSw; (skip); (go_simp <;> with_reducible rfl)⟩) (by assumption) ?_
      (try simp only [Act.put, List.setIfInBounds_toArray, List.set_cons_zero, List.set_cons_succ, List.getElem_toArray, List.getElem_cons_zero, List.getElem_cons_succ])
      refine wpAnyH_take (i := 6) rfl (by kernel_rfl) (by kernel_rfl) (by kernel_rfl) (fun _ _ _ h => h) (Or.inl ⟨by rfl, by intro w hSw; (skip); (go_simp <;> with_reducible rfl)⟩) (by assumption) ?_
      (try simp only [Act.put, List.setIfInBounds_toArray, List.set_cons_zero, List.set_cons_succ, List.getElem_toArray, List.getElem_cons_zero, List.getElem_cons_succ])
      refine wpAnyH_take (i := 7) rfl (by kernel_rfl) (by kernel_rfl) (by kernel_rfl) (fun _ _ _ h => h) (Or.inl ⟨by rfl, by intro w hSw; (skip); (go_simp <;> with_reducible rfl)⟩) (by assumption) ?_
      (try simp only [Act.put, List.setIfInBounds_toArray, List.set_cons_zero, List.set_cons_succ, List.getElem_toArray, List.getElem_cons_zero, List.getElem_cons_succ])
      refine wpAnyH_take (i := 8) rfl (by kernel_rfl) (by kernel_rfl) (by kernel_rfl) (fun _ _ _ h => h) (Or.inl ⟨by rfl, by intro w hSw; (skip); (go_simp <;> with_reducible rfl)⟩) (by assumption) ?_
      (try simp only [Act.put, List.setIfInBounds_toArray, List.set_cons_zero, List.set_cons_succ, List.getElem_toArray, List.getElem_cons_zero, List.getElem_cons_succ])
      refine wpAnyH_take (i := 9) rfl (by kernel_rfl) (by kernel_rfl) (by kernel_rfl) (fun _ _ _ h => h) (Or.inl ⟨by rfl, by intro w hSw; (skip); (go_simp <;> with_reducible rfl)⟩) (by assumption) ?_
      (try simp only [Act.put, List.setIfInBounds_toArray, List.set_cons_zero, List.set_cons_succ, List.getElem_toArray, List.getElem_cons_zero, List.getElem_cons_succ])
      refine wpAnyH_take (i := 10) rfl (by kernel_rfl) (by kernel_rfl) (by kernel_rfl) (fun _ _ _ h => h) (Or.inl ⟨by rfl, by intro w hSw; (skip); (go_simp <;> with_reducible rfl)⟩) (by assumption) ?_
      (try simp only [Act.put, List.setIfInBounds_toArray, List.set_cons_zero, List.set_cons_succ, List.getElem_toArray, List.getElem_cons_zero, List.getElem_cons_succ])
      refine wpAnyH_take (i := 11) rfl (by kernel_rfl) (by kernel_rfl) (by kernel_rfl) (fun _ _ _ h => h) (Or.inl ⟨by rfl, by intro w hSw; (skip); (go_simp <;> with_reducible rfl)⟩) (by assumption) ?_
      (try simp only [Act.put, List.setIfInBounds_toArray, List.set_cons_zero, List.set_cons_succ, List.getElem_toArray, List.getElem_cons_zero, List.getElem_cons_succ])
      refine wpAnyH_ready (rs := [12, 13]) (by kernel_rfl) (by simp) (AllReadyH.cons rfl (fun K hK => ?_) (AllReadyH.cons rfl (fun K hK => ?_) AllReadyH.nil))
      go_simp
      refine (HST.out _ (Below.refl _ _)).mono ?_
      rintro e w5 ⟨dn, cd, mk, rg, s3, ws3, rfl, hq, hd5, hw5, ho5⟩
      have HQ := Lib.hid hq; have HW5 := Lib.hid hw5
      have hP5 := ho5.at_ (k := pb) (show w1.drew.heap[pb]? = _ from HPB.out) (fun h => h.1 (.inl HPE.out.1))
      clear hq hw5
      refine hK.out _ _ (keepP3 hP5 rfl rfl rfl) (fun hHeld => ?_)
      clear hK K
      (try simp only [Act.put, List.setIfInBounds_toArray, List.set_cons_zero, List.set_cons_succ, List.getElem_toArray, List.getElem_cons_zero, List.getElem_cons_succ])
      refine wpAnyH_ready (rs := [13]) (by kernel_rfl) (by simp) (AllReadyH.cons rfl (fun K hK => ?_) AllReadyH.nil)
      go_simp
      refine hK.out _ _ (keep_alloc3 hHeld) (fun hHeld => ?_)
      clear hK K
      (try simp only [Act.put, List.setIfInBounds_toArray, List.set_cons_zero, List.set_cons_succ, List.getElem_toArray, List.getElem_cons_zero, List.getElem_cons_succ])
      refine wpAnyH_ready (rs := [14]) (by kernel_rfl) (by simp) (AllReadyH.cons rfl (fun K hK => ?_) AllReadyH.nil)
      have hth := there_at (show (w5.alloc (.cells (didV false 0 (.slice none 0 0) false false false 0) 63)).heap[w5.heap.size]? = some (.cells (didV false 0 (.slice none 0 0) false false false 0) 63 (0, 0)) from heap_alloc_new w5 _) (n := (qdV dn cd (.slice none 0 0) 0 mk rg : Array Value).size) rfl
      have hsd : (Tryz.prog.info? 63).map (·.size) = some (qdV dn cd (.slice none 0 0) 0 mk rg : Array Value).size := did_size
      rw [if_pos (by rfl)]
      refine wp_store_mid _ _ _ rfl w5.heap.size 0 (qdV dn cd (.slice none 0 0) 0 mk rg) rfl rfl hth hsd (by kernel_rfl) ?_
      refine hK.out _ _ (keep_box3 hHeld (by have := ho5.size; have := HPE.out.2.1; show w5.heap.size ≠ pb; have : w1.drew.heap.size = w1.heap.size := rfl; omega)) (fun hHeld => ?_)
      clear hK K
      (try simp only [Act.put, List.setIfInBounds_toArray, List.set_cons_zero, List.set_cons_succ, List.getElem_toArray, List.getElem_cons_zero, List.getElem_cons_succ])
      obtain ⟨X, HX⟩ : ∃ X, Hid (X = (w5.alloc (.cells #[.bool false, .int .i64 0, .slice none 0 0, .bool false, .int .i64 0, .bool false, .bool false, .bool false, .int .i64 0] 63)).setCells w5.heap.size 0 [.bool dn, .int .i64 cd, .slice none 0 0, .bool false, .int .i64 0, .bool mk, .bool rg, .bool false, .int .i64 0]) := ⟨_, rfl⟩
      obtain ⟨tb, htb⟩ : ∃ t, t = w5.heap.size := ⟨_, rfl⟩
      have HSD : Hid (SteppedQ W w1.drew X E pb mb rb bb br N D ws3 (ringB12 rg 1 bs) (some (sq1, s3)) (atQ P1.r rq) tb (qdV dn cd (.slice none 0 0) 0 mk rg)) := Lib.hid (by rw [HX.out, htb]; exact SteppedQ.a (w1 := w1.drew) (vs := [.bool dn, .int .i64 cd, .slice none 0 0, .bool false, .int .i64 0, .bool mk, .bool rg, .bool false, .int .i64 0]) HEL.out HPE.out.1 hd5 ho5 rfl)
      refine wpAnyH_done (by kernel_rfl) ?_ _
      rotate_left
      go_simp
      refine hK.out _ _ (keep_alloc3 hHeld) (fun hHeld => ?_)
      clear hK K
      (try simp only [Act.put, List.setIfInBounds_toArray, List.set_cons_zero, List.set_cons_succ, List.getElem_toArray, List.getElem_cons_zero, List.getElem_cons_succ])
      refine wpAnyH_ready (rs := [12]) (by kernel_rfl) (by simp) (AllReadyH.cons rfl (fun K hK => ?_) AllReadyH.nil)
      go_simp
      refine (HST.out _ ((Below.refl _ _).alloc (Nat.le_refl _) _)).mono ?_
      rintro e w5 ⟨dn, cd, mk, rg, s3, ws3, rfl, hq, hd5, hw5, ho5⟩
      have HQ := Lib.hid hq; have HW5 := Lib.hid hw5
      have hP5 := ho5.at_ (k := pb) ((Below.heap_alloc w1.drew _ pb HPE.out.2.1).trans (show w1.drew.heap[pb]? = _ from HPB.out)) (fun h => h.1 (.inl HPE.out.1))
      clear hq hw5
      refine hK.out _ _ (keepP3 hP5 rfl rfl rfl) (fun hHeld => ?_)
      clear hK K
      (try simp only [Act.put, List.setIfInBounds_toArray, List.set_cons_zero, List.set_cons_succ, List.getElem_toArray, List.getElem_cons_zero, List.getElem_cons_succ])
      refine wpAnyH_ready (rs := [14]) (by kernel_rfl) (by simp) (AllReadyH.cons rfl (fun K hK => ?_) AllReadyH.nil)
      have hth := there_at (show w5.heap[w1.drew.heap.size]? = some (.cells (didV false 0 (.slice none 0 0) false false false 0) 63 (0, 0)) from ho5.at_ (heap_alloc_new w1.drew _) (fun h => h.1 (.inr ⟨Nat.le_refl _, Nat.lt_of_lt_of_eq (Nat.lt_succ_self _) (World.size_alloc _ _).symm⟩))) (n := (qdV dn cd (.slice none 0 0) 0 mk rg : Array Value).size) rfl
      have hsd : (Tryz.prog.info? 63).map (·.size) = some (qdV dn cd (.slice none 0 0) 0 mk rg : Array Value).size := did_size
      rw [if_pos (by rfl)]
      refine wp_store_mid _ _ _ rfl w1.drew.heap.size 0 (qdV dn cd (.slice none 0 0) 0 mk rg) rfl rfl hth hsd (by kernel_rfl) ?_
      refine hK.out _ _ (keep_box3 hHeld (by have := HPE.out.2.1; show w1.drew.heap.size ≠ pb; have : w1.drew.heap.size = w1.heap.size := rfl; omega)) (fun hHeld => ?_)
      clear hK K
      (try simp only [Act.put, List.setIfInBounds_toArray, List.set_cons_zero, List.set_cons_succ, List.getElem_toArray, List.getElem_cons_zero, List.getElem_cons_succ])
      obtain ⟨X, HX⟩ : ∃ X, Hid (X = (w5).setCells w1.drew.heap.size 0 [.bool dn, .int .i64 cd, .slice none 0 0, .bool false, .int .i64 0, .bool mk, .bool rg, .bool false, .int .i64 0]) := ⟨_, rfl⟩
      obtain ⟨tb, htb⟩ : ∃ t, t = w1.heap.size := ⟨_, rfl⟩
      have HSD : Hid (SteppedQ W w1.drew X E pb mb rb bb br N D ws3 (ringB12 rg 1 bs) (some (sq1, s3)) (atQ P1.r rq) tb (qdV dn cd (.slice none 0 0) 0 mk rg)) := Lib.hid (by rw [HX.out, htb]; exact SteppedQ.b (w1 := w1.drew) (vs := [.bool dn, .int .i64 cd, .slice none 0 0, .bool false, .int .i64 0, .bool mk, .bool rg, .bool false, .int .i64 0]) HEL.out HPE.out.1 HPE.out.2.2 hd5 ho5 rfl)
      refine wpAnyH_done (by kernel_rfl) ?_ _
      all_goals (rw [← HX.out]; simp only [← htb])
      all_goals (
        have HXB : Hid (X.heap[pb]? = some (.cells (qpV (x) (mb) (bb) ((.pointer (some ⟨sq1, 0, none⟩))) ((pqW P1.r rq)) (P1.tail) (P1.head) (P1.sent) (P1.got) (P1.n) (P1.steps) (P1.own)) 75 (0, 0))) := Lib.hid (HSD.out.at_ HP1.out.pe.1 (show w1.drew.heap[pb]? = _ from HPB.out))
        clear hHeld
        obtain ⟨l1, l2, l3, l4, l5, l6, l7, l8, l9, l10⟩ := HP1.out.lim
        obtain ⟨⟨N1, N2⟩, N3, N4, N5⟩ := HP1.out.nn
        have hne1 : tb ≠ pb := HSD.out.ne.1
        have hne2 : pb ≠ tb := fun e => hne1 e.symm
        obtain ⟨b, o, hca, hch⟩ := chanQ HP1.out.cfg HP1.out.wf
        have HCH : Hid (∀ W' : World, Below W.heap.size W W' → W'.cell? ⟨b, o + 3, none⟩ = some (.int .i64 (N : Int)) ∧ W'.cell? ⟨b, o + 4, none⟩ = some (.int .i64 (D : Int))) := Lib.hid (fun W' h => by have q := hch W' h; exact ⟨by simpa using q.1, by simpa using q.2.1⟩)
        have HCA := Lib.hid hca
        have x8 : X.cell? ⟨pb, 8, none⟩ = some (.pointer (some ⟨sq1, 0, none⟩)) := cell_blk HXB.out rfl
        have x10 : X.cell? ⟨pb, 10, none⟩ = some (.int .u32 P1.tail) := cell_blk HXB.out rfl
        have x12 : X.cell? ⟨pb, 12, none⟩ = some (.int .i64 P1.sent) := cell_blk HXB.out rfl
        have x13 : X.cell? ⟨pb, 13, none⟩ = some (.int .i64 P1.got) := cell_blk HXB.out rfl
        have x14 : X.cell? ⟨pb, 14, none⟩ = some (.int .i64 P1.n) := cell_blk HXB.out rfl
        have x15 : X.cell? ⟨pb, 15, none⟩ = some (.int .i64 P1.steps) := cell_blk HXB.out rfl
        have g8 := blk_frozen 8 HXB.out
        have g10 := blk_frozen 10 HXB.out
        have g12 := blk_frozen 12 HXB.out
        have g14 := blk_frozen 14 HXB.out
        have g15 := blk_frozen 15 HXB.out
        have d0 : X.cell? ⟨tb, 0, none⟩ = some (.bool dn) := cell_blk HSD.out.box rfl
        have d1 : X.cell? ⟨tb, 1, none⟩ = some (.int .i64 cd) := cell_blk HSD.out.box rfl
        have d5 : X.cell? ⟨tb, 5, none⟩ = some (.bool mk) := cell_blk HSD.out.box rfl
        have d6 : X.cell? ⟨tb, 6, none⟩ = some (.bool rg) := cell_blk HSD.out.box rfl
        have HOWN := Lib.hid (fun (W' : World) (h : Only (fun k => k = pb) X W') => (show Calls Tryz.prog 25 #[.pointer (some ⟨sq1, 0, none⟩)] W' fun e w' => e = .returned (.int .u32 s3.own) ∧ w' = W' from by
          obtain ⟨ce, sv, hob⟩ := (HSD.out.quo.dropped h HP1.out.pe (.inl rfl) (.inl rfl)).ownS
          exact own_b _ _ _ _ _ _ _ _ _ _ hob))
        obtain ⟨d, e0, e1, e2, e3, e4⟩ := HQ.out
        have hc := sd1_cases e0 HOK.out
        clear hch hca htb hth hsd hP5
        rcases hc with hc | hc | hc)
      · obtain ⟨c1, c2, c3⟩ := hc
        obtain rfl : dn = false := e1.trans c1
        have HC2 := Lib.hid c2
        have c40 : decide (P1.steps + 1 < 40) = true := decide_eq_true c3
        rw [← e3, ← e4] at HC2
        clear c1 c2 c3 e1 e0 e2 e3 e4
        cases mk
        · go_wp2
          go_ret
          have hof : Only (fun k => k = pb) X ((X).setCell ⟨pb, 15, none⟩ (.int .i64 (P1.steps + 1))) := ((Only.refl (fun k => k = pb) X).set (p := ⟨pb, 15, none⟩) rfl _)
          first | refine ⟨rfl, sq1, ?_, fin_onlyQ HO1.out HSD.out.only hof HP1.out.pe.2⟩ | refine ⟨rfl, ⟨sq1, ?_⟩, fin_onlyQ HO1.out HSD.out.only hof HP1.out.pe.2⟩
          rw [HPW.out, HC2.out]
          exact ⟨(blk_put (o := 15) (v := .int .i64 (P1.steps + 1)) HXB.out rfl), ⟨_, HSD.out.quo.dropped hof HP1.out.pe (.inl rfl) (.inl rfl), by rw [ringB12_len]; exact HBS.out.1, by rw [ringB12_get HBS.out.1 HBS.out.2]⟩, HP1.out.pe, HP1.out.cfg, HP1.out.nn, (by show 0 ≤ P1.n ∧ P1.n ≤ ((K + 1 : Nat) : Int) ∧ 0 ≤ P1.steps + 1 ∧ P1.steps + 1 ≤ ((K + 1 : Nat) : Int) ∧ 0 ≤ P1.own ∧ P1.own ≤ ((K + 1 : Nat) : Int) ∧ 0 ≤ P1.sent ∧ P1.sent ≤ ((K + 1 : Nat) : Int) ∧ 0 ≤ P1.got ∧ P1.got ≤ ((K + 1 : Nat) : Int); omega), HP1.out.u32⟩
        · go_wp2
          go_ret
          have hof : Only (fun k => k = pb) X ((((X).setCell ⟨pb, 15, none⟩ (.int .i64 (P1.steps + 1)))).setCell ⟨pb, 12, none⟩ (.int .i64 (P1.sent + 1))) := (((Only.refl (fun k => k = pb) X).set (p := ⟨pb, 15, none⟩) rfl _).set (p := ⟨pb, 12, none⟩) rfl _)
          first | refine ⟨rfl, sq1, ?_, fin_onlyQ HO1.out HSD.out.only hof HP1.out.pe.2⟩ | refine ⟨rfl, ⟨sq1, ?_⟩, fin_onlyQ HO1.out HSD.out.only hof HP1.out.pe.2⟩
          rw [HPW.out, HC2.out]
          exact ⟨(blk_put (o := 12) (v := .int .i64 (P1.sent + 1)) (blk_put (o := 15) (v := .int .i64 (P1.steps + 1)) HXB.out rfl) rfl), ⟨_, HSD.out.quo.dropped hof HP1.out.pe (.inl rfl) (.inl rfl), by rw [ringB12_len]; exact HBS.out.1, by rw [ringB12_get HBS.out.1 HBS.out.2]⟩, HP1.out.pe, HP1.out.cfg, HP1.out.nn, (by show 0 ≤ P1.n ∧ P1.n ≤ ((K + 1 : Nat) : Int) ∧ 0 ≤ P1.steps + 1 ∧ P1.steps + 1 ≤ ((K + 1 : Nat) : Int) ∧ 0 ≤ P1.own ∧ P1.own ≤ ((K + 1 : Nat) : Int) ∧ 0 ≤ P1.sent + 1 ∧ P1.sent + 1 ≤ ((K + 1 : Nat) : Int) ∧ 0 ≤ P1.got ∧ P1.got ≤ ((K + 1 : Nat) : Int); omega), HP1.out.u32⟩
      · obtain ⟨c1, c2, c3, c4, c5, c6⟩ := hc
        obtain rfl : dn = true := e1.trans c1
        obtain rfl : cd = 2 := e2.trans c2
        obtain rfl : rg = false := e4.trans c3
        have HC2 := Lib.hid c4
        rw [← e4] at HC2
        have HST1 := Lib.hid c5
        have n7 : IntKind.i64.wrap (P1.sent - P1.got) = (D : Int) := by rw [c6]; exact IntWalk.i64_in _ (by omega)
        clear c1 c2 c3 c4 c5 c6 e1 e0 e2 e3 e4
        cases mk
        all_goals
          go_wp2_with fail
          refine (HOWN.out _ (((Only.refl (fun k => k = pb) X).set (p := ⟨pb, 15, none⟩) rfl _))).mono ?_
          rintro e wz ⟨rfl, rfl⟩
          go_wp2
          obtain ⟨X1, HX1⟩ : ∃ u, Hid (u = ((((((X).setCell ⟨pb, 15, none⟩ (.int .i64 (P1.steps + 1)))).setCell ⟨pb, 10, none⟩ (.int .u32 s3.own))).setCell ⟨pb, 8, none⟩ (.pointer none))) := ⟨_, rfl⟩
          rw [← HX1.out]
          have HXB1 : Hid (X1.heap[pb]? = some (.cells (qpV (x) (mb) (bb) (.pointer none) ((pqW P1.r rq)) (s3.own) (P1.head) (P1.sent) (P1.got) (P1.n) (P1.steps + 1) (P1.own)) 75 (0, 0))) := Lib.hid (by rw [HX1.out]; exact (blk_put (o := 8) (v := .pointer none) (blk_put (o := 10) (v := .int .u32 s3.own) (blk_put (o := 15) (v := .int .i64 (P1.steps + 1)) HXB.out rfl) rfl) rfl))
          have HO1X : Hid (Only (fun k => k = pb) X X1) := Lib.hid (by rw [HX1.out]; exact ((((Only.refl (fun k => k = pb) X).set (p := ⟨pb, 15, none⟩) rfl _).set (p := ⟨pb, 10, none⟩) rfl _).set (p := ⟨pb, 8, none⟩) rfl _))
          have HQ1 := Lib.hid (HSD.out.quo.dropped (os' := none) HO1X.out HP1.out.pe (.inr rfl) (.inl rfl))
          have h4 := HCH.out X1 HQ1.out.below
          have h1 : X1.cell? ⟨tb, 1, none⟩ = some (.int .i64 2) := cell_of_blk (w := X) (cell_blk HSD.out.box rfl) (HO1X.out.block tb (Array.getElem?_eq_some_iff.1 HSD.out.box).1 hne1)
          have h6 : X1.cell? ⟨tb, 6, none⟩ = some (.bool false) := cell_of_blk (w := X) (cell_blk HSD.out.box rfl) (HO1X.out.block tb (Array.getElem?_eq_some_iff.1 HSD.out.box).1 hne1)
          clear x8 x10 x12 x13 x14 x15 d0 d1 d5 d6 g14
          have q1 : ∀ p : Regrown, (grow (redrawn X1 p.d) p.os).cell? ⟨pb, 1, none⟩ = some (.slice (some ⟨b, o, none⟩) 1 x.cc) := fun p => cell_regrown (by rw [← HCA.out]; exact cell_blk HXB1.out rfl) p.d p.os
          have q7 : ∀ p : Regrown, (grow (redrawn X1 p.d) p.os).cell? ⟨pb, 7, none⟩ = some (.pointer (some ⟨bb, 0, none⟩)) := fun p => cell_regrown (cell_blk HXB1.out rfl) p.d p.os
          have q12 : ∀ p : Regrown, (grow (redrawn X1 p.d) p.os).cell? ⟨pb, 12, none⟩ = some (.int .i64 P1.sent) := fun p => cell_regrown (cell_blk HXB1.out rfl) p.d p.os
          have q13 : ∀ p : Regrown, (grow (redrawn X1 p.d) p.os).cell? ⟨pb, 13, none⟩ = some (.int .i64 P1.got) := fun p => cell_regrown (cell_blk HXB1.out rfl) p.d p.os
          have q14 : ∀ p : Regrown, (grow (redrawn X1 p.d) p.os).cell? ⟨pb, 14, none⟩ = some (.int .i64 P1.n) := fun p => cell_regrown (cell_blk HXB1.out rfl) p.d p.os
          have q15 : ∀ p : Regrown, (grow (redrawn X1 p.d) p.os).cell? ⟨pb, 15, none⟩ = some (.int .i64 1) := fun p => cell_regrown (by have q := cell_blk HXB1.out (i := 15) rfl; rw [HST1.out] at q; exact q) p.d p.os
          have q20 : ∀ p : Regrown, (grow (redrawn X1 p.d) p.os).cell? ⟨b, o + 3, none⟩ = some (.int .i64 (N : Int)) := fun p => cell_regrown h4.1 p.d p.os
          have q21 : ∀ p : Regrown, (grow (redrawn X1 p.d) p.os).cell? ⟨b, o + 4, none⟩ = some (.int .i64 (D : Int)) := fun p => cell_regrown h4.2 p.d p.os
          have q22 : ∀ p : Regrown, (grow (redrawn X1 p.d) p.os).cell? ⟨tb, 1, none⟩ = some (.int .i64 2) := fun p => cell_regrown h1 p.d p.os
          have q23 : ∀ p : Regrown, (grow (redrawn X1 p.d) p.os).cell? ⟨tb, 6, none⟩ = some (.bool false) := fun p => cell_regrown h6 p.d p.os
          have hbc := Below.refl X1.heap.size X1
          with_reducible refine wp_on hbc (by kernel_rfl) (by kernel_rfl) ?_
          (repeat (go_big_quiet_step (fail)))
          with_reducible refine wpQuiet_nil ?_
          intro wc hbc
          clear q1 q7 q12 q13 q14 q15 q20 q21 q22 q23
          go_wp2
          go_ret
          have HBC := (hbc.block pb (Array.getElem?_eq_some_iff.1 HXB1.out).1).trans HXB1.out
          have hof : Only (fun k => k = pb) X wc := HO1X.out.trans (Only.of_below (S := fun k => k = pb) hbc)
          first | refine ⟨rfl, sq1, ?_, fin_onlyQ HO1.out HSD.out.only hof HP1.out.pe.2⟩ | refine ⟨rfl, ⟨sq1, ?_⟩, fin_onlyQ HO1.out HSD.out.only hof HP1.out.pe.2⟩
          rw [HPW.out, HC2.out]
          exact ⟨HBC, ⟨_, HSD.out.quo.dropped hof HP1.out.pe (.inr rfl) (.inl rfl), by rw [ringB12_len]; exact HBS.out.1, by rw [ringB12_get HBS.out.1 HBS.out.2]⟩, HP1.out.pe, HP1.out.cfg, HP1.out.nn, (by show 0 ≤ P1.n ∧ P1.n ≤ ((K + 1 : Nat) : Int) ∧ 0 ≤ P1.steps + 1 ∧ P1.steps + 1 ≤ ((K + 1 : Nat) : Int) ∧ 0 ≤ P1.own ∧ P1.own ≤ ((K + 1 : Nat) : Int) ∧ 0 ≤ P1.sent ∧ P1.sent ≤ ((K + 1 : Nat) : Int) ∧ 0 ≤ P1.got ∧ P1.got ≤ ((K + 1 : Nat) : Int); omega), ⟨HW5.out.2.1, HW5.out.2.2, HP1.out.u32.2.2⟩⟩
      · obtain ⟨c1, c2, c3, c4, c5, c6⟩ := hc
        obtain rfl : dn = true := e1.trans c1
        obtain rfl : cd = 0 := e2.trans c2
        obtain rfl : rg = true := e4.trans c3
        obtain ⟨mlv, hml⟩ : ∃ v, ml N P1.n = v := ⟨_, rfl⟩
        have hmb := ml_in (N := N) N1 P1.n
        rw [hml] at c5 hmb
        have HML := Lib.hid hml
        have HC2 := Lib.hid c4
        rw [← e4] at HC2
        have HST1 := Lib.hid c5; have HSN1 := Lib.hid c6
        have HGB : Hid ((ringB12 true 1 bs).getD 1 false = true) := Lib.hid (by rw [ringB12_get HBS.out.1 HBS.out.2, Bool.or_true])
        clear c1 c2 c3 c4 c5 c6 e1 e0 e2 e3 e4 hml
        cases mk
        all_goals
          go_wp2_with fail
          refine (HOWN.out _ (((Only.refl (fun k => k = pb) X).set (p := ⟨pb, 15, none⟩) rfl _))).mono ?_
          rintro e wz ⟨rfl, rfl⟩
          go_wp2
          obtain ⟨X1, HX1⟩ : ∃ u, Hid (u = ((((((X).setCell ⟨pb, 15, none⟩ (.int .i64 (P1.steps + 1)))).setCell ⟨pb, 10, none⟩ (.int .u32 s3.own))).setCell ⟨pb, 8, none⟩ (.pointer none))) := ⟨_, rfl⟩
          rw [← HX1.out]
          have HXB1 : Hid (X1.heap[pb]? = some (.cells (qpV (x) (mb) (bb) (.pointer none) ((pqW P1.r rq)) (s3.own) (P1.head) (P1.sent) (P1.got) (P1.n) (P1.steps + 1) (P1.own)) 75 (0, 0))) := Lib.hid (by rw [HX1.out]; exact (blk_put (o := 8) (v := .pointer none) (blk_put (o := 10) (v := .int .u32 s3.own) (blk_put (o := 15) (v := .int .i64 (P1.steps + 1)) HXB.out rfl) rfl) rfl))
          have HO1X : Hid (Only (fun k => k = pb) X X1) := Lib.hid (by rw [HX1.out]; exact ((((Only.refl (fun k => k = pb) X).set (p := ⟨pb, 15, none⟩) rfl _).set (p := ⟨pb, 10, none⟩) rfl _).set (p := ⟨pb, 8, none⟩) rfl _))
          have HQ1 := Lib.hid (HSD.out.quo.dropped (os' := none) HO1X.out HP1.out.pe (.inr rfl) (.inl rfl))
          have h4 := HCH.out X1 HQ1.out.below
          have h1 : X1.cell? ⟨tb, 1, none⟩ = some (.int .i64 0) := cell_of_blk (w := X) (cell_blk HSD.out.box rfl) (HO1X.out.block tb (Array.getElem?_eq_some_iff.1 HSD.out.box).1 hne1)
          have h6 : X1.cell? ⟨tb, 6, none⟩ = some (.bool true) := cell_of_blk (w := X) (cell_blk HSD.out.box rfl) (HO1X.out.block tb (Array.getElem?_eq_some_iff.1 HSD.out.box).1 hne1)
          clear x8 x10 x12 x13 x14 x15 d0 d1 d5 d6 g14
          have q1 : ∀ p : Regrown, (grow (redrawn X1 p.d) p.os).cell? ⟨pb, 1, none⟩ = some (.slice (some ⟨b, o, none⟩) 1 x.cc) := fun p => cell_regrown (by rw [← HCA.out]; exact cell_blk HXB1.out rfl) p.d p.os
          have q7 : ∀ p : Regrown, (grow (redrawn X1 p.d) p.os).cell? ⟨pb, 7, none⟩ = some (.pointer (some ⟨bb, 0, none⟩)) := fun p => cell_regrown (cell_blk HXB1.out rfl) p.d p.os
          have q12 : ∀ p : Regrown, (grow (redrawn X1 p.d) p.os).cell? ⟨pb, 12, none⟩ = some (.int .i64 (P1.n + 1)) := fun p => cell_regrown (by have q := cell_blk HXB1.out (i := 12) rfl; rw [HSN1.out] at q; exact q) p.d p.os
          have q13 : ∀ p : Regrown, (grow (redrawn X1 p.d) p.os).cell? ⟨pb, 13, none⟩ = some (.int .i64 P1.got) := fun p => cell_regrown (cell_blk HXB1.out rfl) p.d p.os
          have q14 : ∀ p : Regrown, (grow (redrawn X1 p.d) p.os).cell? ⟨pb, 14, none⟩ = some (.int .i64 P1.n) := fun p => cell_regrown (cell_blk HXB1.out rfl) p.d p.os
          have q15 : ∀ p : Regrown, (grow (redrawn X1 p.d) p.os).cell? ⟨pb, 15, none⟩ = some (.int .i64 (mlv + 4)) := fun p => cell_regrown (by have q := cell_blk HXB1.out (i := 15) rfl; rw [HST1.out] at q; exact q) p.d p.os
          have q20 : ∀ p : Regrown, (grow (redrawn X1 p.d) p.os).cell? ⟨b, o + 3, none⟩ = some (.int .i64 (N : Int)) := fun p => cell_regrown h4.1 p.d p.os
          have q21 : ∀ p : Regrown, (grow (redrawn X1 p.d) p.os).cell? ⟨b, o + 4, none⟩ = some (.int .i64 (D : Int)) := fun p => cell_regrown h4.2 p.d p.os
          have q22 : ∀ p : Regrown, (grow (redrawn X1 p.d) p.os).cell? ⟨tb, 1, none⟩ = some (.int .i64 0) := fun p => cell_regrown h1 p.d p.os
          have q23 : ∀ p : Regrown, (grow (redrawn X1 p.d) p.os).cell? ⟨tb, 6, none⟩ = some (.bool true) := fun p => cell_regrown h6 p.d p.os
          have hbc := Below.refl X1.heap.size X1
          have HSZ := Lib.hid (fun (d : Nat) (os : Array Obj) => Calls.regrown_of (((sizeQ_b N x.cc pb b o P1.n (grow (redrawn X1 d) os) (by omega) (by omega) (q1 ⟨d, os⟩) (by have := q20 ⟨d, os⟩; simpa using this))).mono (fun e w' h => ⟨h.1, by rw [h.2]; exact Below.refl _ _⟩)))
          have HHS := Lib.hid (fun (d : Nat) (os : Array Obj) => Calls.regrown_of ((Bel.has_in bb br (ringB12 true 1 bs) 1 (grow (redrawn X1 d) os) (HQ1.out.bel.below (below_regrown X1 d os)) HQ1.out.belt).mono (fun e w' h => ⟨h.1, by rw [← h.2]; exact Below.refl _ _⟩)))
          rw [HML.out] at HSZ
          rw [HGB.out] at HHS
          with_reducible refine wp_on hbc (by kernel_rfl) (by kernel_rfl) ?_
          (repeat (go_big_quiet_step (first | exact HSZ.out _ _ | exact HHS.out _ _)))
          with_reducible refine wpQuiet_nil ?_
          intro wc hbc
          have HBC := Lib.hid ((hbc.block pb (Array.getElem?_eq_some_iff.1 HXB1.out).1).trans HXB1.out)
          have HOC : Hid (Only (fun k => k = pb) X wc) := Lib.hid (HO1X.out.trans (Only.of_below (S := fun k => k = pb) hbc))
          have x14 : wc.cell? ⟨pb, 14, none⟩ = some (.int .i64 P1.n) := cell_blk HBC.out rfl
          have g14 := blk_frozen 14 HBC.out
          clear q1 q7 q12 q13 q14 q15 q20 q21 q22 q23 hbc h4 h1 h6
          go_wp2
          go_ret
          have hof : Only (fun k => k = pb) X ((wc).setCell ⟨pb, 14, none⟩ (.int .i64 (P1.n + 1))) := HOC.out.trans ((Only.refl (fun k => k = pb) wc).set (p := ⟨pb, 14, none⟩) rfl _)
          first | refine ⟨rfl, sq1, ?_, fin_onlyQ HO1.out HSD.out.only hof HP1.out.pe.2⟩ | refine ⟨rfl, ⟨sq1, ?_⟩, fin_onlyQ HO1.out HSD.out.only hof HP1.out.pe.2⟩
          rw [HPW.out, HC2.out]
          exact ⟨(blk_put (o := 14) (v := .int .i64 (P1.n + 1)) HBC.out rfl), ⟨_, HSD.out.quo.dropped hof HP1.out.pe (.inr rfl) (.inl rfl), by rw [ringB12_len]; exact HBS.out.1, by rw [ringB12_get HBS.out.1 HBS.out.2]⟩, HP1.out.pe, HP1.out.cfg, HP1.out.nn, (by show 0 ≤ P1.n + 1 ∧ P1.n + 1 ≤ ((K + 1 : Nat) : Int) ∧ 0 ≤ P1.steps + 1 ∧ P1.steps + 1 ≤ ((K + 1 : Nat) : Int) ∧ 0 ≤ P1.own ∧ P1.own ≤ ((K + 1 : Nat) : Int) ∧ 0 ≤ P1.sent ∧ P1.sent ≤ ((K + 1 : Nat) : Int) ∧ 0 ≤ P1.got ∧ P1.got ≤ ((K + 1 : Nat) : Int); omega), ⟨HW5.out.2.1, HW5.out.2.2, HP1.out.u32.2.2⟩⟩
      · obtain ⟨c1, c2, c3⟩ := hc
        obtain rfl : dn = false := e1.trans c1
        have HC2 := Lib.hid c2
        have c40 : decide (P1.steps + 1 < 40) = true := decide_eq_true c3
        rw [← e3, ← e4] at HC2
        clear c1 c2 c3 e1 e0 e2 e3 e4
        cases mk
        · go_wp2
          go_ret
          have hof : Only (fun k => k = pb) X ((X).setCell ⟨pb, 15, none⟩ (.int .i64 (P1.steps + 1))) := ((Only.refl (fun k => k = pb) X).set (p := ⟨pb, 15, none⟩) rfl _)
          first | refine ⟨rfl, sq1, ?_, fin_onlyQ HO1.out HSD.out.only hof HP1.out.pe.2⟩ | refine ⟨rfl, ⟨sq1, ?_⟩, fin_onlyQ HO1.out HSD.out.only hof HP1.out.pe.2⟩
          rw [HPW.out, HC2.out]
          exact ⟨(blk_put (o := 15) (v := .int .i64 (P1.steps + 1)) HXB.out rfl), ⟨_, HSD.out.quo.dropped hof HP1.out.pe (.inl rfl) (.inl rfl), by rw [ringB12_len]; exact HBS.out.1, by rw [ringB12_get HBS.out.1 HBS.out.2]⟩, HP1.out.pe, HP1.out.cfg, HP1.out.nn, (by show 0 ≤ P1.n ∧ P1.n ≤ ((K + 1 : Nat) : Int) ∧ 0 ≤ P1.steps + 1 ∧ P1.steps + 1 ≤ ((K + 1 : Nat) : Int) ∧ 0 ≤ P1.own ∧ P1.own ≤ ((K + 1 : Nat) : Int) ∧ 0 ≤ P1.sent ∧ P1.sent ≤ ((K + 1 : Nat) : Int) ∧ 0 ≤ P1.got ∧ P1.got ≤ ((K + 1 : Nat) : Int); omega), HP1.out.u32⟩
        · go_wp2
          go_ret
          have hof : Only (fun k => k = pb) X ((((X).setCell ⟨pb, 15, none⟩ (.int .i64 (P1.steps + 1)))).setCell ⟨pb, 12, none⟩ (.int .i64 (P1.sent + 1))) := (((Only.refl (fun k => k = pb) X).set (p := ⟨pb, 15, none⟩) rfl _).set (p := ⟨pb, 12, none⟩) rfl _)
          first | refine ⟨rfl, sq1, ?_, fin_onlyQ HO1.out HSD.out.only hof HP1.out.pe.2⟩ | refine ⟨rfl, ⟨sq1, ?_⟩, fin_onlyQ HO1.out HSD.out.only hof HP1.out.pe.2⟩
          rw [HPW.out, HC2.out]
          exact ⟨(blk_put (o := 12) (v := .int .i64 (P1.sent + 1)) (blk_put (o := 15) (v := .int .i64 (P1.steps + 1)) HXB.out rfl) rfl), ⟨_, HSD.out.quo.dropped hof HP1.out.pe (.inl rfl) (.inl rfl), by rw [ringB12_len]; exact HBS.out.1, by rw [ringB12_get HBS.out.1 HBS.out.2]⟩, HP1.out.pe, HP1.out.cfg, HP1.out.nn, (by show 0 ≤ P1.n ∧ P1.n ≤ ((K + 1 : Nat) : Int) ∧ 0 ≤ P1.steps + 1 ∧ P1.steps + 1 ≤ ((K + 1 : Nat) : Int) ∧ 0 ≤ P1.own ∧ P1.own ≤ ((K + 1 : Nat) : Int) ∧ 0 ≤ P1.sent + 1 ∧ P1.sent + 1 ≤ ((K + 1 : Nat) : Int) ∧ 0 ≤ P1.got ∧ P1.got ≤ ((K + 1 : Nat) : Int); omega), HP1.out.u32⟩
      · obtain ⟨c1, c2, c3, c4, c5, c6⟩ := hc
        obtain rfl : dn = true := e1.trans c1
        obtain rfl : cd = 2 := e2.trans c2
        obtain rfl : rg = false := e4.trans c3
        have HC2 := Lib.hid c4
        rw [← e4] at HC2
        have HST1 := Lib.hid c5
        have n7 : IntKind.i64.wrap (P1.sent - P1.got) = (D : Int) := by rw [c6]; exact IntWalk.i64_in _ (by omega)
        clear c1 c2 c3 c4 c5 c6 e1 e0 e2 e3 e4
        cases mk
        all_goals
          go_wp2_with fail
          refine (HOWN.out _ (((Only.refl (fun k => k = pb) X).set (p := ⟨pb, 15, none⟩) rfl _))).mono ?_
          rintro e wz ⟨rfl, rfl⟩
          go_wp2
          obtain ⟨X1, HX1⟩ : ∃ u, Hid (u = ((((((X).setCell ⟨pb, 15, none⟩ (.int .i64 (P1.steps + 1)))).setCell ⟨pb, 10, none⟩ (.int .u32 s3.own))).setCell ⟨pb, 8, none⟩ (.pointer none))) := ⟨_, rfl⟩
          rw [← HX1.out]
          have HXB1 : Hid (X1.heap[pb]? = some (.cells (qpV (x) (mb) (bb) (.pointer none) ((pqW P1.r rq)) (s3.own) (P1.head) (P1.sent) (P1.got) (P1.n) (P1.steps + 1) (P1.own)) 75 (0, 0))) := Lib.hid (by rw [HX1.out]; exact (blk_put (o := 8) (v := .pointer none) (blk_put (o := 10) (v := .int .u32 s3.own) (blk_put (o := 15) (v := .int .i64 (P1.steps + 1)) HXB.out rfl) rfl) rfl))
          have HO1X : Hid (Only (fun k => k = pb) X X1) := Lib.hid (by rw [HX1.out]; exact ((((Only.refl (fun k => k = pb) X).set (p := ⟨pb, 15, none⟩) rfl _).set (p := ⟨pb, 10, none⟩) rfl _).set (p := ⟨pb, 8, none⟩) rfl _))
          have HQ1 := Lib.hid (HSD.out.quo.dropped (os' := none) HO1X.out HP1.out.pe (.inr rfl) (.inl rfl))
          have h4 := HCH.out X1 HQ1.out.below
          have h1 : X1.cell? ⟨tb, 1, none⟩ = some (.int .i64 2) := cell_of_blk (w := X) (cell_blk HSD.out.box rfl) (HO1X.out.block tb (Array.getElem?_eq_some_iff.1 HSD.out.box).1 hne1)
          have h6 : X1.cell? ⟨tb, 6, none⟩ = some (.bool false) := cell_of_blk (w := X) (cell_blk HSD.out.box rfl) (HO1X.out.block tb (Array.getElem?_eq_some_iff.1 HSD.out.box).1 hne1)
          clear x8 x10 x12 x13 x14 x15 d0 d1 d5 d6 g14
          have q1 : ∀ p : Regrown, (grow (redrawn X1 p.d) p.os).cell? ⟨pb, 1, none⟩ = some (.slice (some ⟨b, o, none⟩) 1 x.cc) := fun p => cell_regrown (by rw [← HCA.out]; exact cell_blk HXB1.out rfl) p.d p.os
          have q7 : ∀ p : Regrown, (grow (redrawn X1 p.d) p.os).cell? ⟨pb, 7, none⟩ = some (.pointer (some ⟨bb, 0, none⟩)) := fun p => cell_regrown (cell_blk HXB1.out rfl) p.d p.os
          have q12 : ∀ p : Regrown, (grow (redrawn X1 p.d) p.os).cell? ⟨pb, 12, none⟩ = some (.int .i64 P1.sent) := fun p => cell_regrown (cell_blk HXB1.out rfl) p.d p.os
          have q13 : ∀ p : Regrown, (grow (redrawn X1 p.d) p.os).cell? ⟨pb, 13, none⟩ = some (.int .i64 P1.got) := fun p => cell_regrown (cell_blk HXB1.out rfl) p.d p.os
          have q14 : ∀ p : Regrown, (grow (redrawn X1 p.d) p.os).cell? ⟨pb, 14, none⟩ = some (.int .i64 P1.n) := fun p => cell_regrown (cell_blk HXB1.out rfl) p.d p.os
          have q15 : ∀ p : Regrown, (grow (redrawn X1 p.d) p.os).cell? ⟨pb, 15, none⟩ = some (.int .i64 1) := fun p => cell_regrown (by have q := cell_blk HXB1.out (i := 15) rfl; rw [HST1.out] at q; exact q) p.d p.os
          have q20 : ∀ p : Regrown, (grow (redrawn X1 p.d) p.os).cell? ⟨b, o + 3, none⟩ = some (.int .i64 (N : Int)) := fun p => cell_regrown h4.1 p.d p.os
          have q21 : ∀ p : Regrown, (grow (redrawn X1 p.d) p.os).cell? ⟨b, o + 4, none⟩ = some (.int .i64 (D : Int)) := fun p => cell_regrown h4.2 p.d p.os
          have q22 : ∀ p : Regrown, (grow (redrawn X1 p.d) p.os).cell? ⟨tb, 1, none⟩ = some (.int .i64 2) := fun p => cell_regrown h1 p.d p.os
          have q23 : ∀ p : Regrown, (grow (redrawn X1 p.d) p.os).cell? ⟨tb, 6, none⟩ = some (.bool false) := fun p => cell_regrown h6 p.d p.os
          have hbc := Below.refl X1.heap.size X1
          with_reducible refine wp_on hbc (by kernel_rfl) (by kernel_rfl) ?_
          (repeat (go_big_quiet_step (fail)))
          with_reducible refine wpQuiet_nil ?_
          intro wc hbc
          clear q1 q7 q12 q13 q14 q15 q20 q21 q22 q23
          go_wp2
          go_ret
          have HBC := (hbc.block pb (Array.getElem?_eq_some_iff.1 HXB1.out).1).trans HXB1.out
          have hof : Only (fun k => k = pb) X wc := HO1X.out.trans (Only.of_below (S := fun k => k = pb) hbc)
          first | refine ⟨rfl, sq1, ?_, fin_onlyQ HO1.out HSD.out.only hof HP1.out.pe.2⟩ | refine ⟨rfl, ⟨sq1, ?_⟩, fin_onlyQ HO1.out HSD.out.only hof HP1.out.pe.2⟩
          rw [HPW.out, HC2.out]
          exact ⟨HBC, ⟨_, HSD.out.quo.dropped hof HP1.out.pe (.inr rfl) (.inl rfl), by rw [ringB12_len]; exact HBS.out.1, by rw [ringB12_get HBS.out.1 HBS.out.2]⟩, HP1.out.pe, HP1.out.cfg, HP1.out.nn, (by show 0 ≤ P1.n ∧ P1.n ≤ ((K + 1 : Nat) : Int) ∧ 0 ≤ P1.steps + 1 ∧ P1.steps + 1 ≤ ((K + 1 : Nat) : Int) ∧ 0 ≤ P1.own ∧ P1.own ≤ ((K + 1 : Nat) : Int) ∧ 0 ≤ P1.sent ∧ P1.sent ≤ ((K + 1 : Nat) : Int) ∧ 0 ≤ P1.got ∧ P1.got ≤ ((K + 1 : Nat) : Int); omega), ⟨HW5.out.2.1, HW5.out.2.2, HP1.out.u32.2.2⟩⟩
      · obtain ⟨c1, c2, c3, c4, c5, c6⟩ := hc
        obtain rfl : dn = true := e1.trans c1
        obtain rfl : cd = 0 := e2.trans c2
        obtain rfl : rg = true := e4.trans c3
        obtain ⟨mlv, hml⟩ : ∃ v, ml N P1.n = v := ⟨_, rfl⟩
        have hmb := ml_in (N := N) N1 P1.n
        rw [hml] at c5 hmb
        have HML := Lib.hid hml
        have HC2 := Lib.hid c4
        rw [← e4] at HC2
        have HST1 := Lib.hid c5; have HSN1 := Lib.hid c6
        have HGB : Hid ((ringB12 true 1 bs).getD 1 false = true) := Lib.hid (by rw [ringB12_get HBS.out.1 HBS.out.2, Bool.or_true])
        clear c1 c2 c3 c4 c5 c6 e1 e0 e2 e3 e4 hml
        cases mk
        all_goals
          go_wp2_with fail
          refine (HOWN.out _ (((Only.refl (fun k => k = pb) X).set (p := ⟨pb, 15, none⟩) rfl _))).mono ?_
          rintro e wz ⟨rfl, rfl⟩
          go_wp2
          obtain ⟨X1, HX1⟩ : ∃ u, Hid (u = ((((((X).setCell ⟨pb, 15, none⟩ (.int .i64 (P1.steps + 1)))).setCell ⟨pb, 10, none⟩ (.int .u32 s3.own))).setCell ⟨pb, 8, none⟩ (.pointer none))) := ⟨_, rfl⟩
          rw [← HX1.out]
          have HXB1 : Hid (X1.heap[pb]? = some (.cells (qpV (x) (mb) (bb) (.pointer none) ((pqW P1.r rq)) (s3.own) (P1.head) (P1.sent) (P1.got) (P1.n) (P1.steps + 1) (P1.own)) 75 (0, 0))) := Lib.hid (by rw [HX1.out]; exact (blk_put (o := 8) (v := .pointer none) (blk_put (o := 10) (v := .int .u32 s3.own) (blk_put (o := 15) (v := .int .i64 (P1.steps + 1)) HXB.out rfl) rfl) rfl))
          have HO1X : Hid (Only (fun k => k = pb) X X1) := Lib.hid (by rw [HX1.out]; exact ((((Only.refl (fun k => k = pb) X).set (p := ⟨pb, 15, none⟩) rfl _).set (p := ⟨pb, 10, none⟩) rfl _).set (p := ⟨pb, 8, none⟩) rfl _))
          have HQ1 := Lib.hid (HSD.out.quo.dropped (os' := none) HO1X.out HP1.out.pe (.inr rfl) (.inl rfl))
          have h4 := HCH.out X1 HQ1.out.below
          have h1 : X1.cell? ⟨tb, 1, none⟩ = some (.int .i64 0) := cell_of_blk (w := X) (cell_blk HSD.out.box rfl) (HO1X.out.block tb (Array.getElem?_eq_some_iff.1 HSD.out.box).1 hne1)
          have h6 : X1.cell? ⟨tb, 6, none⟩ = some (.bool true) := cell_of_blk (w := X) (cell_blk HSD.out.box rfl) (HO1X.out.block tb (Array.getElem?_eq_some_iff.1 HSD.out.box).1 hne1)
          clear x8 x10 x12 x13 x14 x15 d0 d1 d5 d6 g14
          have q1 : ∀ p : Regrown, (grow (redrawn X1 p.d) p.os).cell? ⟨pb, 1, none⟩ = some (.slice (some ⟨b, o, none⟩) 1 x.cc) := fun p => cell_regrown (by rw [← HCA.out]; exact cell_blk HXB1.out rfl) p.d p.os
          have q7 : ∀ p : Regrown, (grow (redrawn X1 p.d) p.os).cell? ⟨pb, 7, none⟩ = some (.pointer (some ⟨bb, 0, none⟩)) := fun p => cell_regrown (cell_blk HXB1.out rfl) p.d p.os
          have q12 : ∀ p : Regrown, (grow (redrawn X1 p.d) p.os).cell? ⟨pb, 12, none⟩ = some (.int .i64 (P1.n + 1)) := fun p => cell_regrown (by have q := cell_blk HXB1.out (i := 12) rfl; rw [HSN1.out] at q; exact q) p.d p.os
          have q13 : ∀ p : Regrown, (grow (redrawn X1 p.d) p.os).cell? ⟨pb, 13, none⟩ = some (.int .i64 P1.got) := fun p => cell_regrown (cell_blk HXB1.out rfl) p.d p.os
          have q14 : ∀ p : Regrown, (grow (redrawn X1 p.d) p.os).cell? ⟨pb, 14, none⟩ = some (.int .i64 P1.n) := fun p => cell_regrown (cell_blk HXB1.out rfl) p.d p.os
          have q15 : ∀ p : Regrown, (grow (redrawn X1 p.d) p.os).cell? ⟨pb, 15, none⟩ = some (.int .i64 (mlv + 4)) := fun p => cell_regrown (by have q := cell_blk HXB1.out (i := 15) rfl; rw [HST1.out] at q; exact q) p.d p.os
          have q20 : ∀ p : Regrown, (grow (redrawn X1 p.d) p.os).cell? ⟨b, o + 3, none⟩ = some (.int .i64 (N : Int)) := fun p => cell_regrown h4.1 p.d p.os
          have q21 : ∀ p : Regrown, (grow (redrawn X1 p.d) p.os).cell? ⟨b, o + 4, none⟩ = some (.int .i64 (D : Int)) := fun p => cell_regrown h4.2 p.d p.os
          have q22 : ∀ p : Regrown, (grow (redrawn X1 p.d) p.os).cell? ⟨tb, 1, none⟩ = some (.int .i64 0) := fun p => cell_regrown h1 p.d p.os
          have q23 : ∀ p : Regrown, (grow (redrawn X1 p.d) p.os).cell? ⟨tb, 6, none⟩ = some (.bool true) := fun p => cell_regrown h6 p.d p.os
          have hbc := Below.refl X1.heap.size X1
          have HSZ := Lib.hid (fun (d : Nat) (os : Array Obj) => Calls.regrown_of (((sizeQ_b N x.cc pb b o P1.n (grow (redrawn X1 d) os) (by omega) (by omega) (q1 ⟨d, os⟩) (by have := q20 ⟨d, os⟩; simpa using this))).mono (fun e w' h => ⟨h.1, by rw [h.2]; exact Below.refl _ _⟩)))
          have HHS := Lib.hid (fun (d : Nat) (os : Array Obj) => Calls.regrown_of ((Bel.has_in bb br (ringB12 true 1 bs) 1 (grow (redrawn X1 d) os) (HQ1.out.bel.below (below_regrown X1 d os)) HQ1.out.belt).mono (fun e w' h => ⟨h.1, by rw [← h.2]; exact Below.refl _ _⟩)))
          rw [HML.out] at HSZ
          rw [HGB.out] at HHS
          with_reducible refine wp_on hbc (by kernel_rfl) (by kernel_rfl) ?_
          (repeat (go_big_quiet_step (first | exact HSZ.out _ _ | exact HHS.out _ _)))
          with_reducible refine wpQuiet_nil ?_
          intro wc hbc
          have HBC := Lib.hid ((hbc.block pb (Array.getElem?_eq_some_iff.1 HXB1.out).1).trans HXB1.out)
          have HOC : Hid (Only (fun k => k = pb) X wc) := Lib.hid (HO1X.out.trans (Only.of_below (S := fun k => k = pb) hbc))
          have x14 : wc.cell? ⟨pb, 14, none⟩ = some (.int .i64 P1.n) := cell_blk HBC.out rfl
          have g14 := blk_frozen 14 HBC.out
          clear q1 q7 q12 q13 q14 q15 q20 q21 q22 q23 hbc h4 h1 h6
          go_wp2
          go_ret
          have hof : Only (fun k => k = pb) X ((wc).setCell ⟨pb, 14, none⟩ (.int .i64 (P1.n + 1))) := HOC.out.trans ((Only.refl (fun k => k = pb) wc).set (p := ⟨pb, 14, none⟩) rfl _)
          first | refine ⟨rfl, sq1, ?_, fin_onlyQ HO1.out HSD.out.only hof HP1.out.pe.2⟩ | refine ⟨rfl, ⟨sq1, ?_⟩, fin_onlyQ HO1.out HSD.out.only hof HP1.out.pe.2⟩
          rw [HPW.out, HC2.out]
          exact ⟨(blk_put (o := 14) (v := .int .i64 (P1.n + 1)) HBC.out rfl), ⟨_, HSD.out.quo.dropped hof HP1.out.pe (.inr rfl) (.inl rfl), by rw [ringB12_len]; exact HBS.out.1, by rw [ringB12_get HBS.out.1 HBS.out.2]⟩, HP1.out.pe, HP1.out.cfg, HP1.out.nn, (by show 0 ≤ P1.n + 1 ∧ P1.n + 1 ≤ ((K + 1 : Nat) : Int) ∧ 0 ≤ P1.steps + 1 ∧ P1.steps + 1 ≤ ((K + 1 : Nat) : Int) ∧ 0 ≤ P1.own ∧ P1.own ≤ ((K + 1 : Nat) : Int) ∧ 0 ≤ P1.sent ∧ P1.sent ≤ ((K + 1 : Nat) : Int) ∧ 0 ≤ P1.got ∧ P1.got ≤ ((K + 1 : Nat) : Int); omega), ⟨HW5.out.2.1, HW5.out.2.2, HP1.out.u32.2.2⟩⟩
end
end Go.Proofs.YtfdgokkngejbhaaGreat
