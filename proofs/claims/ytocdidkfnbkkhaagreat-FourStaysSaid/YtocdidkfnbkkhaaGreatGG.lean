/- The law's play, as it lies in memory. No condition but those in the statements. A message begins. No condition but those in the statements. The play: the worlds of a step. No condition but those in the statements. The play: what a step leaves. No condition but those in the statements. The play: a read, its cases. No condition but those in the statements. -/
import Derived.Test.YtocdidkfnbkkhaaGreatGF
import Derived.Test.YtocdidkfnbkkhaaGreatGP
import Derived.BigQuiet
import Derived.IntWalk
import Derived.Deep.MidRow
import Derived.Deep.Upon
import Derived.BigRegion
import Derived.Shelf.Abstract
import Derived.Deep.OwnRows
import Derived.Deep.RegionHeld3
namespace Go.Proofs.YtocdidkfnbkkhaaGreat
open Go.RowKit Go.Sort
set_option linter.unusedVariables false
set_option linter.unusedSimpArgs false
set_option linter.unusedVariables false
set_option linter.unusedSimpArgs false

open Go.Proofs.YtocdidkfnbkkhaaGreat.Simp
set_option maxRecDepth 100000
set_option maxHeartbeats 3200000
@[reducible] def pV (x : CfgAt) (mb : Nat) (wv rv : Value) (n written marked begun first last steps own : Int) : Array Value := #[.slice x.pa 2 x.pc, .slice x.ca 1 x.cc, .int .i64 1, .slice x.aa 1 x.ac, .int .i64 1, .slice x.ba 1 x.bc, .pointer (some ⟨mb, 0, none⟩), wv, rv, .int .u32 n, .int .u32 written, .int .u32 marked, .int .u32 begun, .int .u32 first, .int .u32 last, .int .i64 steps, .int .i64 own]
/-- A pointer to what is under way, or none. -/
def pvW (o : Option FS) (q : Nat) : Value := match o with | none => .pointer none | some _ => .pointer (some ⟨q, 0, none⟩)
def atW (o : Option FS) (q : Nat) : Option (Nat × FS) := match o with | none => none | some s => some (q, s)
/-- The play lies in block pb; K: no number is greater. -/
structure PAt (W w : World) (E : Nat → Prop) (pb mb rb N : Nat) (per : Int) (x : CfgAt) (K : Nat) (P : Pl) (wq rq : Nat) : Prop where
  blk : w.heap[pb]? = some (.cells (pV (x) (mb) ((pvW P.w wq)) ((pvW P.r rq)) (P.n) (P.written) (P.marked) (P.begun) (P.first) (P.last) (P.steps) (P.own)) 66 (0, 0))
  duo : Duo W w W.heap.size E mb rb (fr2 N per) P.m (atW P.w wq) (atW P.r rq)
  pe : E pb ∧ W.heap.size ≤ pb
  cfg : CfgIn W W.heap.size (cfg2 N per) x
  nn : 1 ≤ N ∧ N ≤ 4 ∧ 0 ≤ per ∧ per ≤ 1048576
  lim : 0 ≤ P.n ∧ P.n ≤ K ∧ 0 ≤ P.steps ∧ P.steps ≤ K ∧ 0 ≤ P.own ∧ P.own ≤ K
section
variable {W w w' : World} {E : Nat → Prop} {pb mb rb N K wq rq : Nat} {per : Int} {x : CfgAt} {P : Pl}
theorem PAt.lt (h : PAt W w E pb mb rb N per x (K) (P) wq rq) : pb < w.heap.size := (Array.getElem?_eq_some_iff.1 h.blk).1
theorem PAt.wf (h : PAt W w E pb mb rb N per x (K) (P) wq rq) : CfgWf (cfg2 N per) := by
  obtain ⟨h1, h2, h3, h4⟩ := h.nn
  exact cfg2_wf (i64_of (by omega)) (i64_of (by omega))
theorem PAt.frOf (h : PAt W w E pb mb rb N per x (K) (P) wq rq) : FrOf (cfg2 N per) 0 (fr2 N per) := by
  obtain ⟨h1, h2, h3, h4⟩ := h.nn
  exact frOf2 h1 (by omega) h3 h4
/-- The channel's words, in memory. -/
theorem PAt.chan (h : PAt W w E pb mb rb N per x (K) (P) wq rq) : ∃ b o, x.ca = some ⟨b, o, none⟩ ∧ ∀ w', Below W.heap.size W w' → w'.cell? ⟨b, o + 0 * 7 + 3, none⟩ = some (.int .i64 (N : Int)) := by
  obtain ⟨b, o, x0, x1, x2, x3, x4, x5, x6, e0, -, e1, -, hrw⟩ := h.cfg.rc.at7 h.wf.wc (i := 0) (by show 0 < 1; omega)
  have e2 : [(1 : Int), 0, 1, N, 0, per, 0] = [x0, x1, x2, x3, x4, x5, x6] := by simpa [cfg2] using e1
  simp at e2
  obtain ⟨-, -, -, rfl, -⟩ := e2
  exact ⟨b, o, e0, fun w' hb => (hrw w' hb).2.2.2.1⟩
end
/-- The words of a message under way: the first k are there. -/
def half (L k : Nat) (n : Int) : List Int := List.replicate k n ++ List.replicate (L - k) 0
theorem half_len {L k : Nat} {n : Int} (h : k ≤ L) : (half L k n).length = L := by unfold half; simp; omega
theorem half_zero (L : Nat) (n : Int) : half L 0 n = List.replicate L 0 := by unfold half; simp
theorem half_full (L : Nat) (n : Int) : half L L n = List.replicate L n := by unfold half; simp
theorem half_set {L k : Nat} {n : Int} (h : k < L) : (half L k n).set k n = half L (k + 1) n := by
  unfold half
  apply List.ext_getElem
  · simp; omega
  · intro i h1 h2
    rw [List.getElem_set]
    split
    · subst_vars; rw [List.getElem_append_left (by simp)]; simp
    · by_cases hi : i < k
      · rw [List.getElem_append_left (by simp; omega), List.getElem_append_left (by simp; omega)]; simp
      · rw [List.getElem_append_right (by simp; omega), List.getElem_append_right (by simp; omega)]; simp
end Go.Proofs.YtocdidkfnbkkhaaGreat

namespace Go.Proofs.YtocdidkfnbkkhaaGreat
open Go.RowKit Go.Sort
set_option linter.unusedVariables false
set_option linter.unusedSimpArgs false
set_option linter.unusedVariables false
set_option linter.unusedSimpArgs false

open Go.Proofs.YtocdidkfnbkkhaaGreat.Simp
set_option maxRecDepth 100000
set_option maxHeartbeats 3200000
section
variable {W w w' : World} {E : Nat → Prop} {pb mb rb N K wq rq : Nat} {per : Int} {x : CfgAt} {P : Pl}
theorem begin_b (h : PAt W w E pb mb rb N per x (K) (P) wq rq) (hw : P.w = none) (hK : K ≤ 100000) : Calls Tryz.prog 36 #[.pointer (some ⟨pb, 0, none⟩)] w fun e w' => e = .returned (.tuple #[]) ∧ ∃ wq', PAt W w' E pb mb rb N per x (K + 1) (begin_ N P) wq' rq ∧ Only (fun k => (¬ E k ∨ k = pb) ∧ W.heap.size ≤ k) w w' := by
  obtain ⟨i0, hi, hz0, hz1, hz2⟩ := info_parts Tryz.infoW
  obtain ⟨b, o, hca, hch⟩ := h.chan
  obtain ⟨l1, l2, l3, l4, l5, l6⟩ := h.lim
  obtain ⟨N1, N2, N3, N4⟩ := h.nn
  obtain ⟨n1, hn1⟩ : ∃ n1, P.n + 1 = n1 := ⟨_, rfl⟩
  have hml := ml_in (N := N) N1 n1
  obtain ⟨L, hL⟩ : ∃ L : Nat, ml N n1 = (L : Int) := ⟨(ml N n1).toNat, by omega⟩
  have hv0 : IntKind.u32.wrap (P.n + 1) = n1 := by rw [IntKind.wrap_u32]; omega
  have htm : n1.tmod (N : Int) = n1 % (N : Int) := Int.tmod_eq_emod_of_nonneg (by omega)
  have hL1 : (1 : Int) + n1.tmod (N : Int) = L := by rw [htm, ← hL]; rfl
  have hv1 : IntKind.i64.wrap n1 = n1 := IntWalk.i64_in _ (by omega)
  have hv2 : IntKind.i64.wrap (n1.tmod (N : Int)) = n1.tmod (N : Int) := IntWalk.i64_in _ (by omega)
  have hv3 : IntKind.i64.wrap (1 + n1.tmod (N : Int)) = (L : Int) := by rw [hL1]; exact IntWalk.i64_in _ (by omega)
  have hv4 : RowKit.wrap64 (1 + n1 % (N : Int)) = (L : Int) := by rw [← htm, hL1]; exact IntWalk.wrap64_in _ (by omega)
  have hN0 : ¬ ((N : Int) = 0) := by omega
  have hmk := fun (w : World) => run_make_row (P := Tryz.prog) 30 34 i0 (.int .u32 0) Tryz.underlying30 hi hz0 hz1 rfl .i64 .i64 L (by rw [hz2]; omega) (by omega) w
  have h9 : w.cell? ⟨pb, 9, none⟩ = some (.int .u32 P.n) := cell_blk h.blk rfl
  have f9 : w.frozen? ⟨pb, 9, none⟩ = false := blk_frozen 9 h.blk
  have HP := Lib.hid h
  clear h htm
  go_enter Tryz.func36, Tryz.ntmps36
  go_wp2
  obtain ⟨w2, HW2⟩ : ∃ u, Hid (u = w.setCell ⟨pb, 9, none⟩ (.int .u32 n1)) := ⟨_, rfl⟩
  rw [← HW2.out]
  have HB2 : Hid (w2.heap[pb]? = some (.cells (pV (x) (mb) ((pvW P.w wq)) ((pvW P.r rq)) (n1) (P.written) (P.marked) (P.begun) (P.first) (P.last) (P.steps) (P.own)) 66 (0, 0))) := Lib.hid (by rw [HW2.out]; exact blk_put HP.out.blk rfl)
  have HO2 : Hid (Only (fun k => k = pb) w w2) := Lib.hid (by rw [HW2.out]; exact Only.setCell w ⟨pb, 9, none⟩ _)
  have HD2 := Lib.hid (HP.out.duo.only HO2.out (fun k _ e => by subst e; exact HP.out.pe) (fun k h => .inl h))
  have HCH := Lib.hid hch
  clear h9 f9 hch
  have h9 : w2.cell? ⟨pb, 9, none⟩ = some (.int .u32 n1) := cell_blk HB2.out rfl
  have h1 : w2.cell? ⟨pb, 1, none⟩ = some (.slice (some ⟨b, o, none⟩) 1 x.cc) := by rw [← hca]; exact cell_blk HB2.out rfl
  have h3 := HCH.out w2 HD2.out.below
  go_region
  obtain ⟨w3, HW3⟩ : ∃ u, Hid (u = (w2.alloc (.cells (madeCells #[Value.int .u32 0] L) 34)).drew) := ⟨_, rfl⟩
  rw [← HW3.out]
  obtain ⟨db, hdb⟩ : ∃ d, d = w2.heap.size := ⟨_, rfl⟩
  simp only [← hdb]
  have HB23 : Hid (Below w2.heap.size w2 w3) := Lib.hid (by rw [HW3.out]; exact ((Below.refl _ _).alloc (Nat.le_refl _) _).drew)
  have HZ3 : Hid (WordsAt w3 db (half L 0 n1)) := Lib.hid (by rw [HW3.out, hdb, half_zero]; unfold WordsAt; rw [← made_words]; exact heap_alloc_new w2 _)
  have HDB := Lib.hid hdb
  have HBP3 := Lib.hid ((HB23.out.block pb (Array.getElem?_eq_some_iff.1 HB2.out).1).trans HB2.out)
  have hne : pb ≠ db := by have := (Array.getElem?_eq_some_iff.1 HB2.out).1; omega
  have HNE := Lib.hid hne
  have HD3 := Lib.hid (HD2.out.only (T := fun _ => False) (Only.of_below HB23.out) (fun _ _ h => h.elim) (E' := fun k => E k ∨ k = db) (fun k h => h.imp id (fun e => ⟨by omega, by rw [e]; exact HZ3.out.lt⟩)))
  clear h9 h1 h3 hdb hne hmk
  go_wp2
  go_loopw [29] (fun ix wr => ∃ k : Nat, k ≤ L ∧ ix = .int .i64 k ∧ WordsAt wr db (half L k n1) ∧ Only (fun k => k = db) w3 wr) (fun ix _ => L - (intOf ix).toNat)
  case atStart => exact ⟨0, Nat.zero_le _, rfl, HZ3.out, Only.refl _ _⟩
  case round =>
    obtain ⟨k, hk, rfl, hwd, hor⟩ := hrel
    have hB := hor.at_ HBP3.out HNE.out
    by_cases hkl : k < L
    · have h9 : wr.cell? ⟨pb, 9, none⟩ = some (.int .u32 n1) := cell_blk hB rfl
      have hc := hwd.cell (k := k) (by rw [half_len hk]; exact hkl)
      have hf := hwd.frozen k
      have HWD : Hid (WordsAt (wr.setCell ⟨db, k, none⟩ (.int .u32 n1)) db (half L (k + 1) n1)) := Lib.hid (by rw [← half_set hkl]; exact hwd.set k n1)
      have HOR : Hid (Only (fun k => k = db) w3 (wr.setCell ⟨db, k, none⟩ (.int .u32 n1))) := Lib.hid (hor.trans (Only.setCell wr ⟨db, k, none⟩ _))
      have HKL := Lib.hid hkl
      obtain ⟨y, hy⟩ : ∃ y, (half L k n1).getD k 0 = y := ⟨_, rfl⟩
      rw [hy] at hc
      clear hy hwd hor hB
      go_wp2
      go_roundw
      case rel => exact ⟨k + 1, by omega, by go_num, HWD.out, HOR.out⟩
      case measure => simp [intOf]; omega
    · obtain rfl : k = L := by omega
      rw [half_full] at hwd
      have hd4 := HD3.out.only hor (fun i _ e => ⟨.inr e, by have := HD2.out.below.size; have := HDB.out; omega⟩) (E' := fun k => E k ∨ k = db) (fun k h => .inl h)
      obtain ⟨c0, c1, c2, c3, c4, c5⟩ : wr.cell? ⟨pb, 0, none⟩ = some (.slice x.pa 2 x.pc) ∧ wr.cell? ⟨pb, 1, none⟩ = some (.slice x.ca 1 x.cc) ∧ wr.cell? ⟨pb, 2, none⟩ = some (.int .i64 1) ∧ wr.cell? ⟨pb, 3, none⟩ = some (.slice x.aa 1 x.ac) ∧ wr.cell? ⟨pb, 4, none⟩ = some (.int .i64 1) ∧ wr.cell? ⟨pb, 5, none⟩ = some (.slice x.ba 1 x.bc) :=
        ⟨cell_blk hB rfl, cell_blk hB rfl, cell_blk hB rfl, cell_blk hB rfl, cell_blk hB rfl, cell_blk hB rfl⟩
      have hnw := newW_b (cfg2 N per) x 0 (fr2 N per) (List.replicate k n1) db 0 k wr (HP.out.cfg.later hd4.below) HP.out.wf (cfg2_few N per) HP.out.frOf
        (fun i y hy => by
          have hi : i < k := by have := (List.getElem?_eq_some_iff.1 hy).1; simpa using this
          have hy2 : y = n1 := by simp [List.getElem?_replicate, hi] at hy; exact hy.symm
          have := hwd.cell (k := i) (by simpa using hi)
          rw [Nat.zero_add, this, hy2]
          simp [List.getD_eq_getElem?_getD, List.getElem?_replicate, hi]) (by rw [List.length_replicate]; exact ⟨by omega, by show k ≤ N; omega⟩)
      rw [List.length_replicate] at hnw
      have HNW : Hid (Calls Tryz.prog 14 #[.agg #[.slice x.pa 2 x.pc, .slice (some ⟨b, o, none⟩) 1 x.cc, .int .i64 1, .slice x.aa 1 x.ac, .int .i64 1, .slice x.ba 1 x.bc], .int .i64 0, .slice (some ⟨db, 0, none⟩) k k] wr (GivesNewW wr (fr2 N per) (List.replicate k n1))) := Lib.hid (by rw [← hca]; exact hnw)
      have HD4 := Lib.hid hd4
      have HB4 := Lib.hid hB
      have HOR := Lib.hid hor
      clear hnw hd4 hwd hB hor hkl
      go_wp2_with fail
      refine HNW.out.mono ?_
      rintro e w5 ⟨wq', S, rfl, hat, hS, hb5⟩
      have HB5 := Lib.hid ((hb5.block pb (Array.getElem?_eq_some_iff.1 HB4.out).1).trans HB4.out)
      have h32 : W32 (Simp.start (List.replicate k n1)).data := by
        show W32 (List.replicate k n1)
        exact w32_of (fun y hy => by have := (List.mem_replicate.1 hy).2; subst this; omega)
      have HD5 := Lib.hid (HD4.out.newW hat hS hb5 h32)
      have HBL5 := Lib.hid hb5
      have h7 : w5.cell? ⟨pb, 7, none⟩ = some (pvW P.w wq) := cell_blk HB5.out rfl
      have f7 : w5.frozen? ⟨pb, 7, none⟩ = false := blk_frozen 7 HB5.out
      have h15 : w5.cell? ⟨pb, 15, none⟩ = some (.int .i64 P.steps) := cell_blk HB5.out rfl
      have f15 : w5.frozen? ⟨pb, 15, none⟩ = false := blk_frozen 15 HB5.out
      clear hat hS hb5 h32 c0 c1 c2 c3 c4 c5
      go_wp2
      go_end0
      have hmsg : msg N (P.n + 1) = List.replicate k n1 := by unfold msg; rw [hn1, hL, Int.toNat_natCast]
      have hof : Only (fun k => k = pb) w5 ((w5.setCell ⟨pb, 7, none⟩ (.pointer (some ⟨wq', 0, none⟩))).setCell ⟨pb, 15, none⟩ (.int .i64 0)) := (Only.setCell w5 ⟨pb, 7, none⟩ _).trans (Only.setCell _ ⟨pb, 15, none⟩ _)
      have hd6 := HD5.out.only hof (fun i _ e => by subst e; exact ⟨.inl HP.out.pe.1, HP.out.pe.2⟩) (E' := E) (fun i h => .inl (.inl h))
      have hsz2 := HO2.out.size
      have hdb := HDB.out
      refine ⟨rfl, wq', ⟨?_, ?_, HP.out.pe, HP.out.cfg, HP.out.nn, ?_⟩, ?_⟩
      · have q := blk_put (o := 15) (v := .int .i64 0) (blk_put (o := 7) (v := .pointer (some ⟨wq', 0, none⟩)) HB5.out rfl) rfl
        subst hn1
        exact q
      · show Duo W _ W.heap.size E mb rb (fr2 N per) P.m (some (wq', Simp.start (msg N (P.n + 1)))) (atW P.r rq)
        rw [hmsg]; exact hd6
      · show 0 ≤ P.n + 1 ∧ P.n + 1 ≤ ((K + 1 : Nat) : Int) ∧ (0 : Int) ≤ 0 ∧ (0 : Int) ≤ ((K + 1 : Nat) : Int) ∧ 0 ≤ P.own ∧ P.own ≤ ((K + 1 : Nat) : Int)
        omega
      · refine (Only.old (S := fun k => k = pb) ((((((HO2.out.mono fun k _ e => .inr e).trans ((Only.of_below (S := fun _ => False) HB23.out).mono fun k _ e => e.elim)).trans (HOR.out.mono fun k _ e => .inl (by omega))).trans ((Only.of_below (S := fun _ => False) HBL5.out).mono fun k _ e => e.elim))).trans (hof.mono fun k _ e => .inr e))).mono (fun k _ e => by subst e; exact ⟨.inr rfl, HP.out.pe.2⟩)
end
end Go.Proofs.YtocdidkfnbkkhaaGreat

namespace Go.Proofs.YtocdidkfnbkkhaaGreat
open Go.RowKit Go.Sort
set_option linter.unusedVariables false
set_option linter.unusedSimpArgs false
set_option linter.unusedVariables false
set_option linter.unusedSimpArgs false

open Go.Proofs.YtocdidkfnbkkhaaGreat.Simp
set_option maxRecDepth 100000
set_option maxHeartbeats 3200000
/-- The did's box, at block tb: w1: ahead of the step; X: behind the store. Behind this only the box and the play's block are written. -/
structure Stepped (W w1 X : World) (E : Nat → Prop) (pb mb rb N : Nat) (per : Int) (ws3 : List Int) (ow or_ : Option (Nat × FS)) (tb : Nat) (cs : Array Value) : Prop where
  box : X.heap[tb]? = some (.cells cs 56 (0, 0))
  ne : tb ≠ pb ∧ w1.heap.size ≤ tb
  only : Only (fun k => ¬ E k ∧ W.heap.size ≤ k) w1 X
  duo : Duo W X W.heap.size E mb rb (fr2 N per) ws3 ow or_
section
variable {W w1 w5 X : World} {E : Nat → Prop} {pb mb rb N tb : Nat} {per : Int} {ws3 : List Int} {ow or_ : Option (Nat × FS)} {vs : List Value} {cs : Array Value}
theorem Stepped.a (hE : ∀ k, E k → k < w1.heap.size) (hpb : E pb) (hd : Duo W w5 W.heap.size (fun k => E k ∨ (w1.heap.size ≤ k ∧ k < w1.heap.size)) mb rb (fr2 N per) ws3 ow or_) (ho : Only (fun k => ¬ (E k ∨ (w1.heap.size ≤ k ∧ k < w1.heap.size)) ∧ W.heap.size ≤ k) w1 w5) (hv : vs.length = 9) :
    Stepped W w1 ((w5.alloc (.cells (didV false 0 (.slice none 0 0) false false false 0) 56)).setCells w5.heap.size 0 vs) E pb mb rb N per ws3 ow or_ w5.heap.size vs.toArray := by
  have hs := ho.size
  have hb := hd.below.size
  have hpl := hE pb hpb
  have hx := Only.sets (S := fun k => k = w5.heap.size) rfl vs 0 (Only.refl _ (w5.alloc (.cells (didV false 0 (.slice none 0 0) false false false 0) 56)))
  have hax : Only (fun _ => False) w5 (w5.alloc (.cells (didV false 0 (.slice none 0 0) false false false 0) 56)) := (Only.refl _ _).alloc _
  have hay : Only (fun k => w5.heap.size ≤ k) w5 ((w5.alloc (.cells (didV false 0 (.slice none 0 0) false false false 0) 56)).setCells w5.heap.size 0 vs) := (hax.mono fun _ _ h => h.elim).trans (hx.mono fun k _ h => Nat.le_of_eq h.symm)
  have haz : Only (fun _ => False) w5 ((w5.alloc (.cells (didV false 0 (.slice none 0 0) false false false 0) 56)).setCells w5.heap.size 0 vs) := hay.mono (fun k hk h => by omega)
  refine ⟨blk_did (heap_alloc_new _ _) vs hv, ⟨by omega, hs⟩, (ho.mono fun k _ h => ⟨fun e => h.1 (.inl e), h.2⟩).trans (haz.mono fun _ _ h => h.elim), ?_⟩
  exact (hd.fewer (fun k h => .inl h)).only haz (fun _ _ h => h.elim) (fun k h => .inl h)
theorem Stepped.b (hE : ∀ k, E k → k < w1.heap.size) (hpb : E pb) (hW : W.heap.size ≤ w1.heap.size) (hd : Duo W w5 W.heap.size (fun k => E k ∨ (w1.heap.size ≤ k ∧ k < (w1.alloc (.cells (didV false 0 (.slice none 0 0) false false false 0) 56)).heap.size)) mb rb (fr2 N per) ws3 ow or_) (ho : Only (fun k => ¬ (E k ∨ (w1.heap.size ≤ k ∧ k < (w1.alloc (.cells (didV false 0 (.slice none 0 0) false false false 0) 56)).heap.size)) ∧ W.heap.size ≤ k) (w1.alloc (.cells (didV false 0 (.slice none 0 0) false false false 0) 56)) w5) (hv : vs.length = 9) :
    Stepped W w1 (w5.setCells w1.heap.size 0 vs) E pb mb rb N per ws3 ow or_ w1.heap.size vs.toArray := by
  have hs := ho.size
  have hb := hd.below.size
  have hpl := hE pb hpb
  have hz := World.size_alloc w1 (.cells (didV false 0 (.slice none 0 0) false false false 0) 56)
  have hx := Only.sets (S := fun k => k = w1.heap.size) rfl vs 0 (Only.refl _ w5)
  have hax : Only (fun _ => False) w1 (w1.alloc (.cells (didV false 0 (.slice none 0 0) false false false 0) 56)) := (Only.refl _ _).alloc _
  have hnew : w5.heap[w1.heap.size]? = some (.cells (didV false 0 (.slice none 0 0) false false false 0) 56 (0, 0)) := ho.at_ (heap_alloc_new w1 _) (fun h => h.1 (.inr ⟨Nat.le_refl _, by omega⟩))
  refine ⟨blk_did hnew vs hv, ⟨by omega, Nat.le_refl _⟩, ?_, hd.only hx (fun k _ h => ⟨.inr (by omega), by omega⟩) (fun k h => .inl (.inl h))⟩
  exact Only.old (((hax.mono fun _ _ h => h.elim).trans (ho.mono fun k _ h => .inr ⟨fun e => h.1 (.inl e), h.2⟩)).trans (hx.mono fun k _ h => .inl (Nat.le_of_eq h.symm)))
theorem Stepped.at_ (h : Stepped W w1 X E pb mb rb N per ws3 ow or_ tb cs) {o : Obj} {k : Nat} (hk : E k) (hp : w1.heap[k]? = some o) : X.heap[k]? = some o := h.only.at_ hp (fun x => x.1 hk)
end
theorem keepP {w : World} {pb i j : Nat} {u v : Value} {cs : Array Value} {ty : TypeId} (h : w.heap[pb]? = some (.cells cs ty (0, 0))) (h1 : cs[i]? = some u) (h2 : cs[j]? = some v) : w.cell? ⟨pb, i, none⟩ = some u ∧ w.cell? ⟨pb, j, none⟩ = some v := ⟨cell_blk h h1, cell_blk h h2⟩
end Go.Proofs.YtocdidkfnbkkhaaGreat

namespace Go.Proofs.YtocdidkfnbkkhaaGreat
open Go.RowKit Go.Sort
set_option linter.unusedVariables false
set_option linter.unusedSimpArgs false
set_option linter.unusedVariables false
set_option linter.unusedSimpArgs false

open Go.Proofs.YtocdidkfnbkkhaaGreat.Simp
section
variable {W w w' : World} {E : Nat → Prop} {pb mb rb N K wq rq : Nat} {per : Int} {x : CfgAt} {P : Pl}
theorem fin_only {w1 X Y : World} (h1 : Only (fun k => (¬ E k ∨ k = pb) ∧ W.heap.size ≤ k) w w1) (h2 : Only (fun k => ¬ E k ∧ W.heap.size ≤ k) w1.drew X) (h3 : Only (fun k => k = pb) X Y) (hpb : W.heap.size ≤ pb) : Only (fun k => (¬ E k ∨ k = pb) ∧ W.heap.size ≤ k) w Y :=
  (h1.drew.trans (h2.mono fun k _ h => ⟨.inl h.1, h.2⟩)).trans (h3.mono fun k _ h => ⟨.inr h, by omega⟩)
theorem Duo.dropped {X Y : World} {F : Fr} {ws : List Int} {ow or_ ow' or' : Option (Nat × FS)} (h : Duo W X W.heap.size E mb rb F ws ow or_) (ho : Only (fun k => k = pb) X Y) (hp : E pb ∧ W.heap.size ≤ pb) (h1 : ow' = ow ∨ ow' = none) (h2 : or' = or_ ∨ or' = none) : Duo W Y W.heap.size E mb rb F ws ow' or' := by
  have q := h.only ho (fun k _ e => by subst e; exact hp) (E' := E) (fun k h => .inl h)
  rcases h1 with rfl | rfl <;> rcases h2 with rfl | rfl
  · exact q
  · exact q.dropR
  · exact q.dropW
  · exact q.dropW.dropR
/-- What a write of the play leaves. -/
def WroteW (W w : World) (E : Nat → Prop) (pb mb rb N : Nat) (per : Int) (x : CfgAt) (K : Nat) (R : Pl × Bool) (rq : Nat) (e : Ending) (w' : World) : Prop := e = .returned (.bool R.2) ∧ ∃ wq', PAt W w' E pb mb rb N per x K R.1 wq' rq ∧ Only (fun k => (¬ E k ∨ k = pb) ∧ W.heap.size ≤ k) w w'
end
end Go.Proofs.YtocdidkfnbkkhaaGreat

namespace Go.Proofs.YtocdidkfnbkkhaaGreat
open Go.RowKit Go.Sort
set_option linter.unusedVariables false
set_option linter.unusedSimpArgs false
set_option linter.unusedVariables false
set_option linter.unusedSimpArgs false

open Go.Proofs.YtocdidkfnbkkhaaGreat.Simp
theorem keepsA {w : World} {vs : List Value} {g : Nat} {z o : Obj} (h : w.heap[g]? = some o) : ((w.alloc z).setCells w.heap.size 0 vs).heap[g]? = some o := by
  have hl := (Array.getElem?_eq_some_iff.1 h).1
  have hx := Only.sets (S := fun k => k = w.heap.size) rfl vs 0 (Only.refl _ (w.alloc z))
  exact hx.at_ ((Below.heap_alloc w z g hl).trans h) (by omega)
theorem keepsB {w : World} {vs : List Value} {g tb : Nat} {o : Obj} (hne : g ≠ tb) (h : w.heap[g]? = some o) : (w.setCells tb 0 vs).heap[g]? = some o :=
  (Only.sets (S := fun k => k = tb) rfl vs 0 (Only.refl _ w)).at_ h hne
section
variable {N : Nat} {per now : Int} {P : Pl} {t s' : FS} {m' : List Int} {d : Did}
theorem rd1_eq (e : rstep (fr2 N per) t P.m now = (s', m', d)) : rd1 N per P t now =
    if d.done = false then ({ P with m := m', r := some s', own := P.own + 1 }, decide (P.own + 1 < 40))
    else if d.code = 1 then ({ P with m := m', r := none, own := P.own + 1 }, decide (P.begun = 0) && (decide (P.first = 0) && (decide (P.last = 0) && (d.data.isEmpty && decide (P.own + 1 = 4)))))
    else if d.code ≠ 0 ∨ d.data = [] then ({ P with m := m', r := none, own := P.own + 1 }, false)
    else ({ P with m := m', r := none, own := P.own + 1, last := d.data.getD 0 0 }, found N P (P.own + 1) d.data) := by
  unfold rd1; rw [e]
theorem found_is {own : Int} {l : List Int} (h : found N P own l = true) : own = (l.length : Int) + 5 ∧ (∀ x ∈ l, x = l.getD 0 0) ∧ P.begun ≤ l.getD 0 0 ∧ P.first ≤ l.getD 0 0 ∧ P.last ≤ l.getD 0 0 ∧ 1 ≤ l.getD 0 0 ∧ l.getD 0 0 ≤ P.marked ∧ (l.length : Int) = ml N (l.getD 0 0) := by
  unfold found at h
  simp only [Bool.and_eq_true, decide_eq_true_eq, List.all_eq_true, beq_iff_eq] at h
  exact ⟨h.1, h.2.1, h.2.2.1, h.2.2.2.1, h.2.2.2.2.1, h.2.2.2.2.2.1, h.2.2.2.2.2.2.1, h.2.2.2.2.2.2.2⟩
/-- A read that tells what may be told: its three ways. -/
theorem rd1_cases (e : rstep (fr2 N per) t P.m now = (s', m', d)) (hok : (rd1 N per P t now).2 = true) :
    (d.done = false ∧ (rd1 N per P t now).1 = { P with m := m', r := some s', own := P.own + 1 } ∧ P.own + 1 < 40)
      ∨ (d.done = true ∧ d.code = 1 ∧ (rd1 N per P t now).1 = { P with m := m', r := none, own := P.own + 1 } ∧ P.begun = 0 ∧ P.first = 0 ∧ P.last = 0 ∧ d.data = [] ∧ P.own = 3)
      ∨ (d.done = true ∧ d.code = 0 ∧ d.data ≠ [] ∧ (rd1 N per P t now).1 = { P with m := m', r := none, own := P.own + 1, last := d.data.getD 0 0 } ∧ found N P (P.own + 1) d.data = true) := by
  rw [rd1_eq e] at hok ⊢
  by_cases h0 : d.done = false
  · rw [if_pos h0] at hok ⊢
    exact .inl ⟨h0, rfl, of_decide_eq_true hok⟩
  · rw [if_neg h0] at hok ⊢
    have h0 : d.done = true := by simpa using h0
    by_cases h1 : d.code = 1
    · rw [if_pos h1] at hok ⊢
      simp only [Bool.and_eq_true, decide_eq_true_eq, List.isEmpty_iff] at hok
      exact .inr (.inl ⟨h0, h1, rfl, hok.1, hok.2.1, hok.2.2.1, hok.2.2.2.1, by omega⟩)
    · rw [if_neg h1] at hok ⊢
      by_cases h2 : d.code ≠ 0 ∨ d.data = []
      · rw [if_pos h2] at hok; cases hok
      · rw [if_neg h2] at hok ⊢
        exact .inr (.inr ⟨h0, Classical.byContradiction fun h => h2 (.inl h), fun h => h2 (.inr h), rfl, hok⟩)
end
end Go.Proofs.YtocdidkfnbkkhaaGreat
