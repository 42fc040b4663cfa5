/- slices.Clone of windows, New, as contracts. No condition but those in the statements. -/
import Derived.Test.YtfpcldkgcifciaaCor
import Derived.BigQuiet
import Derived.Deep.RegionWith
import Derived.IntWalk
import Derived.BigRegion
import Derived.OpenShut
namespace Go.Proofs.Ytfpcldkgcifciaa
open Go.RowKit Go.Sort Go.ChangeShapes Go.WideShapes
set_option linter.unusedVariables false
set_option linter.unusedSimpArgs false

set_option linter.unusedVariables false
set_option linter.unusedSimpArgs false

theorem rcells_ones {ks : List IntKind} {l : List (List Int)} : ∀ u ∈ rcells ks l, u.oneCell' = true := by
  intro u hu
  unfold rcells at hu
  rw [List.mem_flatten] at hu
  obtain ⟨cs, hcs, hu⟩ := hu
  obtain ⟨x, _, rfl⟩ := List.mem_map.1 hcs
  exact ncells_one ks x u hu
/-- A row's cells, one behind the other. -/
theorem RowN.news {ks : List IntKind} {w : World} {B : Nat} {a : Addr} {l : List (List Int)} (hk : 0 < ks.length) (h : RowN ks w B (some a) l) (hw : wfR ks l) : ∀ j u, (rcells ks l)[j]? = some u → w.cell? (a.add j) = some u := by
  intro j u hj
  have hlen := rcells_len hw
  have hjl : j < l.length * ks.length := by have := (List.getElem?_eq_some_iff.1 hj).1; omega
  have hpos : 0 < l.length := by
    rcases Nat.eq_zero_or_pos l.length with h0 | h0
    · rw [h0] at hjl; omega
    · exact h0
  obtain ⟨b, o, hA, _, hc⟩ := h hpos
  cases hA
  have hi : j / ks.length < l.length := Nat.div_lt_of_lt_mul (by rw [Nat.mul_comm]; exact hjl)
  have hjm : j % ks.length < ks.length := Nat.mod_lt _ hk
  have hx : l[j / ks.length]? = some l[j / ks.length] := List.getElem?_eq_getElem hi
  have h1 := rcells_at hw hx (j % ks.length) hjm
  rw [Nat.mul_comm, Nat.div_add_mod, hj] at h1
  have h2 := hc _ _ hx (j % ks.length) u h1.symm
  rw [Addr.add_lit]
  rw [Nat.add_assoc, Nat.mul_comm, Nat.div_add_mod] at h2
  exact h2

theorem Try.infoN3 : (Try.prog.info? 49).map (fun i => (i.zero, i.size, i.bytes)) = some (some (.agg #[.int .i64 0, .int .i64 0, .int .i64 0]), 3, 24) := by kernel_rfl
theorem row_none {ks : List IntKind} {w : World} {B : Nat} {A : Option Addr} {l : List (List Int)} (h : RowN ks w B A l) : A = none → l = [] := fun e => by
  rcases Nat.eq_zero_or_pos l.length with h0 | h0
  · exact List.eq_nil_of_length_eq_zero h0
  · obtain ⟨b, o, hA, _⟩ := h h0
    rw [e] at hA; cases hA
theorem blk_put {W : World} {a o : Nat} {cs cs' : Array Value} {v : Value} {t : TypeId} {m : Nat × Nat} (h : W.heap[a]? = some (.cells cs t m)) (e : cs.setIfInBounds o v = cs') : (W.setCell ⟨a, o, none⟩ v).heap[a]? = some (.cells cs' t m) := by
  subst e; simp [World.setCell, Array.getElem?_modify, h]
theorem RowN.put {ks : List IntKind} {w : World} {A : Option Addr} {l : List (List Int)} (h : RowN ks w w.heap.size A l) {b o : Nat} (hA : 0 < l.length → ∀ a, A = some a → a.block ≠ b) (v : Value) : RowN ks (w.setCell ⟨b, o, none⟩ v) (w.setCell ⟨b, o, none⟩ v).heap.size A l := by
  rw [show (w.setCell ⟨b, o, none⟩ v).heap.size = w.heap.size by simp [World.setCell]]
  exact h.only (Nat.le_refl _) (Only.setCell w ⟨b, o, none⟩ v) hA
/-- A call that hands back rows of its own, and turns nothing that was there. -/
def GivesRow3 (w : World) (l : List (List Int)) (e : Ending) (w' : World) : Prop := ∃ A' c', e = .returned (.slice A' l.length c') ∧ RowN [.i64, .i64, .i64] w' w'.heap.size A' l ∧ (0 < l.length → ∀ a, A' = some a → w.heap.size ≤ a.block) ∧ Below w.heap.size w w'
theorem clone3_b (A : Option Addr) (c : Nat) (l : List (List Int)) (w : World) (h : RowN [.i64, .i64, .i64] w w.heap.size A l) (hw : wfR [.i64, .i64, .i64] l) (hn : A = none → l = []) (hl : l.length ≤ 1000000) :
    Calls Try.prog 18 #[.slice A l.length c] w (GivesRow3 w l) := by
  obtain ⟨i0, hi, hz0, hz1, hz2⟩ := info_parts Try.infoN3
  have q := Lib.run_eql_slice_nil (P := Try.prog) w 24 49 A l.length c 0 0 Try.underlying24
  cases A with
  | none =>
    obtain rfl := hn rfl
    simp only [List.length_nil] at q ⊢
    clear h
    go_enter Try.func18, Try.ntmps18
    go_wp2
    go_ret
    exact ⟨_, _, rfl, RowN.nil _ _ _ _, (fun h => by simp at h), Below.refl _ _⟩
  | some ad =>
    have hcell := RowN.news (by decide) h hw
    have hb1 : Below w.heap.size w (w.alloc (.cells #[] 49)) := (Below.refl _ _).alloc (Nat.le_refl _) _
    have hown := World.ownsRow_made (base := w.heap.size) (e := 49) (size := 3) w #[] 0 (Nat.le_refl _) (by unfold maxLen; omega) (by simp)
    have hcell1 : ∀ j u, (rcells [.i64, .i64, .i64] l)[j]? = some u → (w.alloc (.cells #[] 49)).cell? (ad.add j) = some u := fun j u hj =>
      (hb1.cell (by have := World.block_lt_of_cell? _ _ (hcell j u hj); exact this)).trans (hcell j u hj)
    have HO := Lib.hid (rcells_ones (ks := [.i64, .i64, .i64]) (l := l)); have HC := Lib.hid hcell1; have HW := Lib.hid hw
    have HL := Lib.hid (rcells_len hw)
    clear h hcell hcell1 hn hw
    go_enter Try.func18, Try.ntmps18
    go_wp2_with (at_builtin; refine wpList_append_own _ rfl _ _ 24 rfl w.heap.size 49 i0 (.agg #[.int .i64 0, .int .i64 0, .int .i64 0]) 3 24 Try.underlying24 hi hz0 hz1 hz2 rfl (by decide) _ _ _ rfl hown ad l.length c _ rfl HL.out HC.out HO.out (by unfold maxLen; omega) (by omega) (by simp) ?_)
    · intro v' w2 hown' hgrow _
      have hb2 : Below w.heap.size w w2 := hb1.grown hgrow hb1.size (fun k hk => by cases hk; exact Nat.le_refl _)
      have ho : OwnsOff w2 w.heap.size 49 ([.i64, .i64, .i64] : List IntKind).length v' l.length (rcells [.i64, .i64, .i64] l) := by have := OwnsOff.of_own hown'; simpa using this
      obtain ⟨A', c', rfl, _, _, hr, _, hb⟩ := ho.rowN HW.out
      have HR := Lib.hid hr; have HB := Lib.hid hb2; have HN := Lib.hid hb
      clear hown' hgrow hb1 hown hb2 hr hb ho
      go_wp2
      go_ret
      exact ⟨_, _, rfl, HR.out, (fun _ => HN.out), HB.out⟩

/-- A call that hands back a clock of its own, and turns nothing that was there. -/
def GivesClk (w : World) (c : Cfg) (t : Int) (e : Ending) (w' : World) : Prop := ∃ b y, e = .returned (.pointer (some ⟨b, 0, none⟩)) ∧ w.heap.size ≤ b ∧ ClkAt w' b c y t ∧ Below w.heap.size w w'
set_option maxRecDepth 100000 in
set_option maxHeartbeats 1600000 in
theorem new_b (c : Cfg) (x : CfgAt) (w : World) (hx : CfgIn w w.heap.size c x) (hc : CfgFr c) : Calls Try.prog 9 #[.agg (cfgCells c x)] w (GivesClk w c 0) := by
  obtain ⟨W, HW, hB, hWs, bx⟩ := one_cbox w c x 29
  obtain ⟨c0, c1, c2, c3, c4, c5⟩ := bx _ (Below.refl _ _)
  have hxW := hx.later hB
  obtain ⟨pa, pc, ca, cc, aa, ac, ba, bc⟩ := x
  simp only [cfgCells] at HW ⊢
  obtain ⟨Z, HZ⟩ : ∃ u, Hid (u = W.alloc (.cells #[.int .i64 c.len0, .slice (⟨pa, pc, ca, cc, aa, ac, ba, bc⟩ : CfgAt).aa c.win0.length (⟨pa, pc, ca, cc, aa, ac, ba, bc⟩ : CfgAt).ac, .int .i64 c.len1, .slice (⟨pa, pc, ca, cc, aa, ac, ba, bc⟩ : CfgAt).ba c.win1.length (⟨pa, pc, ca, cc, aa, ac, ba, bc⟩ : CfgAt).bc, .int .i64 0] 52)) := ⟨_, rfl⟩
  have hZ : Z.heap[W.heap.size]? = some (.cells #[.int .i64 c.len0, .slice (⟨pa, pc, ca, cc, aa, ac, ba, bc⟩ : CfgAt).aa c.win0.length (⟨pa, pc, ca, cc, aa, ac, ba, bc⟩ : CfgAt).ac, .int .i64 c.len1, .slice (⟨pa, pc, ca, cc, aa, ac, ba, bc⟩ : CfgAt).ba c.win1.length (⟨pa, pc, ca, cc, aa, ac, ba, bc⟩ : CfgAt).bc, .int .i64 0] 52 (0, 0)) := by rw [HZ.out]; exact heap_alloc_new _ _
  have hBZ : Below W.heap.size W Z := by rw [HZ.out]; exact (Below.refl _ _).alloc (Nat.le_refl _) _
  have HXZ := Lib.hid (hxW.later hBZ)
  have HB := Lib.hid hB; have HBZ := Lib.hid hBZ; have HKZ := Lib.hid hZ; have HXW := Lib.hid hxW
  simp only at HZ
  clear hB hBZ hZ hx hxW hWs bx
  go_enter Try.func9, Try.ntmps9
  go_wp2_with (first | (rw [← HW.out]) | (rw [← HZ.out]))
  clear c0 c1 c2 c3 c4 c5
  go_loopw [9] (fun ix wr => ∃ (k : Nat) (aa : Option Addr) (ac : Nat) (ba : Option Addr) (bc : Nat), k ≤ 2 ∧ ix = .int .i64 k ∧ wr.heap[W.heap.size]? = some (.cells #[.int .i64 c.len0, .slice (⟨none, 0, none, 0, aa, ac, ba, bc⟩ : CfgAt).aa c.win0.length (⟨none, 0, none, 0, aa, ac, ba, bc⟩ : CfgAt).ac, .int .i64 c.len1, .slice (⟨none, 0, none, 0, aa, ac, ba, bc⟩ : CfgAt).ba c.win1.length (⟨none, 0, none, 0, aa, ac, ba, bc⟩ : CfgAt).bc, .int .i64 0] 52 (0, 0)) ∧
    (RowN [.i64, .i64, .i64] wr wr.heap.size aa c.win0 ∧ (0 < c.win0.length → ∀ a, aa = some a → a.block ≠ W.heap.size)) ∧ (RowN [.i64, .i64, .i64] wr wr.heap.size ba c.win1 ∧ (0 < c.win1.length → ∀ a, ba = some a → a.block ≠ W.heap.size)) ∧ Below W.heap.size W wr) (fun ix _ => (2 - intOf ix).toNat)
  case atStart =>
    have hn : ∀ (A : Option Addr) (l : List (List Int)), RowN [.i64, .i64, .i64] W W.heap.size A l → 0 < l.length → ∀ a, A = some a → a.block ≠ W.heap.size := fun A l h hp a ha => by
      obtain ⟨g, o, e, hlt, _⟩ := h hp
      rw [e] at ha
      cases ha
      show g ≠ _
      omega
    exact ⟨0, aa, ac, ba, bc, by omega, rfl, HKZ.out, ⟨HXZ.out.ra, hn _ _ HXW.out.ra⟩, ⟨HXZ.out.rb, hn _ _ HXW.out.rb⟩, HBZ.out⟩
  case round =>
    clear HXZ HXW HKZ HBZ
    obtain ⟨k, aa, ac, ba, bc, hk, rfl, hblk, ha, hb, hbc⟩ := hrel
    have hlt : W.heap.size < wr.heap.size := (Array.getElem?_eq_some_iff.1 hblk).1
    rcases (show k = 0 ∨ k = 1 ∨ k = 2 by omega) with rfl | rfl | rfl
    · have HCL := Lib.hid (clone3_b aa ac c.win0 wr.drew (ha.1.later (Below.refl _ _).drew) hc.wa (row_none ha.1) hc.f0)
      have HBC := Lib.hid hbc; have HHA := Lib.hid ha; have HHB := Lib.hid hb; have HK := Lib.hid hblk; have HLT := Lib.hid hlt
      have c0 : wr.cell? ⟨W.heap.size, 0, none⟩ = some (.int .i64 c.len0) := cell_blk hblk (i := 0) rfl
      have c1 : wr.cell? ⟨W.heap.size, 1, none⟩ = some (.slice aa c.win0.length ac) := cell_blk hblk (i := 1) rfl
      have c2 : wr.cell? ⟨W.heap.size, 2, none⟩ = some (.int .i64 c.len1) := cell_blk hblk (i := 2) rfl
      have c3 : wr.cell? ⟨W.heap.size, 3, none⟩ = some (.slice ba c.win1.length bc) := cell_blk hblk (i := 3) rfl
      have c4 : wr.cell? ⟨W.heap.size, 4, none⟩ = some (.int .i64 0) := cell_blk hblk (i := 4) rfl
      clear ha hb hbc hblk hlt hc
      go_wp2_with fail
      go_region_with (go_at_call 18; ((with_reducible refine HCL.out.mono ?_); rintro e w5 ⟨A', c', rfl, hr5, hn5, hb5⟩; have hb5 := (Below.refl wr.heap.size wr).drew.trans hb5; have k5 := (hb5.block _ HLT.out).trans HK.out; have d1 : w5.cell? ⟨W.heap.size, 1, none⟩ = some (.slice aa c.win0.length ac) := cell_blk k5 (i := 1) rfl; have f5 : w5.frozen? ⟨W.heap.size, 1, none⟩ = false := (by simp [World.frozen?, k5])))
      obtain ⟨w6, hw6⟩ : ∃ u, Hid (u = w5.setCell ⟨W.heap.size, 1, none⟩ (.slice A' c.win0.length c')) := ⟨_, rfl⟩
      have HK6 : Hid (w6.heap[W.heap.size]? = some (.cells #[.int .i64 c.len0, .slice (⟨none, 0, none, 0, A', c', ba, bc⟩ : CfgAt).aa c.win0.length (⟨none, 0, none, 0, A', c', ba, bc⟩ : CfgAt).ac, .int .i64 c.len1, .slice (⟨none, 0, none, 0, A', c', ba, bc⟩ : CfgAt).ba c.win1.length (⟨none, 0, none, 0, A', c', ba, bc⟩ : CfgAt).bc, .int .i64 0] 52 (0, 0))) := Lib.hid (by rw [hw6.out]; exact blk_put k5 rfl)
      have hof : 0 < c.win0.length → ∀ a, A' = some a → a.block ≠ W.heap.size := fun hp a ha => by
        have h1 := hn5 hp a ha
        have h2 := HLT.out
        have h3 : wr.drew.heap.size = wr.heap.size := rfl
        omega
      have HN6 : Hid (RowN [.i64, .i64, .i64] w6 w6.heap.size A' c.win0 ∧ (0 < c.win0.length → ∀ a, A' = some a → a.block ≠ W.heap.size)) := Lib.hid (by rw [hw6.out]; exact ⟨hr5.put hof _, hof⟩)
      have HO6 : Hid (RowN [.i64, .i64, .i64] w6 w6.heap.size ba c.win1) := Lib.hid (by rw [hw6.out]; exact (HHB.out.1.later hb5).put HHB.out.2 _)
      have HB6 : Hid (Below W.heap.size W w6) := Lib.hid (by rw [hw6.out]; exact (HBC.out.trans (hb5.mono HBC.out.size)).setCell (p := ⟨W.heap.size, 1, none⟩) (Nat.le_refl _) _)
      clear hof hr5 hn5 hb5 k5 d1 f5 c0 c1 c2 c3 c4
      rw [← hw6.out]
      go_wp2
      go_roundw
      case rel => exact ⟨1, A', c', ba, bc, by omega, rfl, HK6.out, HN6.out, ⟨HO6.out, HHB.out.2⟩, HB6.out⟩
      case measure => simp [intOf]
    · have HCL := Lib.hid (clone3_b ba bc c.win1 wr.drew (hb.1.later (Below.refl _ _).drew) hc.wb (row_none hb.1) hc.f1)
      have HBC := Lib.hid hbc; have HHA := Lib.hid ha; have HHB := Lib.hid hb; have HK := Lib.hid hblk; have HLT := Lib.hid hlt
      have c0 : wr.cell? ⟨W.heap.size, 0, none⟩ = some (.int .i64 c.len0) := cell_blk hblk (i := 0) rfl
      have c1 : wr.cell? ⟨W.heap.size, 1, none⟩ = some (.slice aa c.win0.length ac) := cell_blk hblk (i := 1) rfl
      have c2 : wr.cell? ⟨W.heap.size, 2, none⟩ = some (.int .i64 c.len1) := cell_blk hblk (i := 2) rfl
      have c3 : wr.cell? ⟨W.heap.size, 3, none⟩ = some (.slice ba c.win1.length bc) := cell_blk hblk (i := 3) rfl
      have c4 : wr.cell? ⟨W.heap.size, 4, none⟩ = some (.int .i64 0) := cell_blk hblk (i := 4) rfl
      clear ha hb hbc hblk hlt hc
      go_wp2_with fail
      go_region_with (go_at_call 18; ((with_reducible refine HCL.out.mono ?_); rintro e w5 ⟨A', c', rfl, hr5, hn5, hb5⟩; have hb5 := (Below.refl wr.heap.size wr).drew.trans hb5; have k5 := (hb5.block _ HLT.out).trans HK.out; have d3 : w5.cell? ⟨W.heap.size, 3, none⟩ = some (.slice ba c.win1.length bc) := cell_blk k5 (i := 3) rfl; have f5 : w5.frozen? ⟨W.heap.size, 3, none⟩ = false := (by simp [World.frozen?, k5])))
      obtain ⟨w6, hw6⟩ : ∃ u, Hid (u = w5.setCell ⟨W.heap.size, 3, none⟩ (.slice A' c.win1.length c')) := ⟨_, rfl⟩
      have HK6 : Hid (w6.heap[W.heap.size]? = some (.cells #[.int .i64 c.len0, .slice (⟨none, 0, none, 0, aa, ac, A', c'⟩ : CfgAt).aa c.win0.length (⟨none, 0, none, 0, aa, ac, A', c'⟩ : CfgAt).ac, .int .i64 c.len1, .slice (⟨none, 0, none, 0, aa, ac, A', c'⟩ : CfgAt).ba c.win1.length (⟨none, 0, none, 0, aa, ac, A', c'⟩ : CfgAt).bc, .int .i64 0] 52 (0, 0))) := Lib.hid (by rw [hw6.out]; exact blk_put k5 rfl)
      have hof : 0 < c.win1.length → ∀ a, A' = some a → a.block ≠ W.heap.size := fun hp a ha => by
        have h1 := hn5 hp a ha
        have h2 := HLT.out
        have h3 : wr.drew.heap.size = wr.heap.size := rfl
        omega
      have HN6 : Hid (RowN [.i64, .i64, .i64] w6 w6.heap.size A' c.win1 ∧ (0 < c.win1.length → ∀ a, A' = some a → a.block ≠ W.heap.size)) := Lib.hid (by rw [hw6.out]; exact ⟨hr5.put hof _, hof⟩)
      have HO6 : Hid (RowN [.i64, .i64, .i64] w6 w6.heap.size aa c.win0) := Lib.hid (by rw [hw6.out]; exact (HHA.out.1.later hb5).put HHA.out.2 _)
      have HB6 : Hid (Below W.heap.size W w6) := Lib.hid (by rw [hw6.out]; exact (HBC.out.trans (hb5.mono HBC.out.size)).setCell (p := ⟨W.heap.size, 3, none⟩) (Nat.le_refl _) _)
      clear hof hr5 hn5 hb5 k5 d3 f5 c0 c1 c2 c3 c4
      rw [← hw6.out]
      go_wp2
      go_roundw
      case rel => exact ⟨2, aa, ac, A', c', by omega, rfl, HK6.out, ⟨HO6.out, HHA.out.2⟩, HN6.out, HB6.out⟩
      case measure => simp [intOf]
    · have HF := Lib.hid (ClkAt.mk (x := ⟨none, 0, none, 0, aa, ac, ba, bc⟩) hblk ha.1 hb.1 ha.2 hb.2)
      have HBC := Lib.hid (HB.out.trans (hbc.mono HB.out.size))
      have HSZ := Lib.hid HB.out.size
      clear hblk ha hb hbc hlt
      go_wp2
      go_ret
      exact ⟨_, _, rfl, HSZ.out, HF.out, HBC.out⟩
end Go.Proofs.Ytfpcldkgcifciaa
