/- DefectMirror answers true at a configuration of few rows. No condition but those in the statements. -/
import Derived.Test.YtogffilanioejaaLawKit
import Derived.BigQuiet
import Derived.IntWalk
import Derived.OpenShut
import Derived.BigRegion
import Derived.Deep.RegionHeld3
namespace Go.Proofs.Ytogffilanioejaa
open Go.RowKit Go.Sort Go.ChangeShapes Go.WideShapes
set_option linter.unusedVariables false
set_option linter.unusedSimpArgs false

theorem Try.infoP : (Try.prog.info? 40).map (fun i => (i.zero, i.size, i.bytes)) = some (some (.agg #[.int .i64 0, .int .i64 0]), 2, 16) := by kernel_rfl
theorem wfR_flip {l : List (List Int)} (h : wfR [.i64, .i64] l) : wfR [.i64, .i64] (l.map flipR) := fun x hx => by
  obtain ⟨y, hy, rfl⟩ := List.mem_map.1 hx
  obtain ⟨a, b, rfl, ha, hb⟩ := wfN2 (h y hy)
  refine wfN2_mk (x0 := flipI a) (x1 := b) ?_ hb
  unfold flipI
  split
  · rfl
  · split
    · rfl
    · exact ha
theorem cfgs_next {X W W' : World} {b1 b2 : Nat} {p0 p1 p2 p3 p4 p5 q0 q1 q2 q3 q4 q5 : Value}
    (h : Below X.heap.size X W ∧ W.cell? ⟨b1, 0, none⟩ = some p0 ∧ W.cell? ⟨b1, 1, none⟩ = some p1 ∧ W.cell? ⟨b1, 2, none⟩ = some p2 ∧ W.cell? ⟨b1, 3, none⟩ = some p3 ∧ W.cell? ⟨b1, 4, none⟩ = some p4 ∧ W.cell? ⟨b1, 5, none⟩ = some p5 ∧
      W.cell? ⟨b2, 0, none⟩ = some q0 ∧ W.cell? ⟨b2, 1, none⟩ = some q1 ∧ W.cell? ⟨b2, 2, none⟩ = some q2 ∧ W.cell? ⟨b2, 3, none⟩ = some q3 ∧ W.cell? ⟨b2, 4, none⟩ = some q4 ∧ W.cell? ⟨b2, 5, none⟩ = some q5) (hb : Below W.heap.size W W') :
    Below X.heap.size X W' ∧ W'.cell? ⟨b1, 0, none⟩ = some p0 ∧ W'.cell? ⟨b1, 1, none⟩ = some p1 ∧ W'.cell? ⟨b1, 2, none⟩ = some p2 ∧ W'.cell? ⟨b1, 3, none⟩ = some p3 ∧ W'.cell? ⟨b1, 4, none⟩ = some p4 ∧ W'.cell? ⟨b1, 5, none⟩ = some p5 ∧
      W'.cell? ⟨b2, 0, none⟩ = some q0 ∧ W'.cell? ⟨b2, 1, none⟩ = some q1 ∧ W'.cell? ⟨b2, 2, none⟩ = some q2 ∧ W'.cell? ⟨b2, 3, none⟩ = some q3 ∧ W'.cell? ⟨b2, 4, none⟩ = some q4 ∧ W'.cell? ⟨b2, 5, none⟩ = some q5 := by
  obtain ⟨h0, h1, h2, h3, h4, h5, h6, k1, k2, k3, k4, k5, k6⟩ := h
  have c : ∀ {b o : Nat} {v : Value}, W.cell? ⟨b, o, none⟩ = some v → W'.cell? ⟨b, o, none⟩ = some v := fun hc => (hb.cell (World.block_lt_of_cell? W _ hc)).trans hc
  exact ⟨h0.trans (hb.mono h0.size), c h1, c h2, c h3, c h4, c h5, c h6, c k1, c k2, c k3, c k4, c k5, c k6⟩
set_option maxRecDepth 100000 in
set_option maxHeartbeats 8000000 in
theorem mirror_plain (parts chans : List (List Int)) (len0 : Int) (win0 : List (List Int)) (len1 : Int) (win1 : List (List Int)) (pa : Option Addr) (pc : Nat) (ca : Option Addr) (cc : Nat) (aa : Option Addr) (ac : Nat) (ba : Option Addr) (bc : Nat) (w : World) (hp : RowN [.i64, .i64] w w.heap.size pa parts) (hpw : wfR [.i64, .i64] parts) (hpl : parts.length ≤ 1000000) (hc : RowN [.i64, .i64, .i64, .i64, .i64, .i64, .u32] w w.heap.size ca chans) (hcw : wfR [.i64, .i64, .i64, .i64, .i64, .i64, .u32] chans) (hcl : chans.length ≤ 1000000) (h0 : RowN [.i64, .i64, .i64] w w.heap.size aa win0) (h0w : wfR [.i64, .i64, .i64] win0) (h0l : win0.length ≤ 1000000) (h1 : RowN [.i64, .i64, .i64] w w.heap.size ba win1) (h1w : wfR [.i64, .i64, .i64] win1) (h1l : win1.length ≤ 1000000) (hl0 : (Lit.int .i64 len0).wf = true) (hl1 : (Lit.int .i64 len1).wf = true) (LP : parts.length ≤ pc ∧ pc ≤ maxLen ∧ (pa = none → parts = [])) (LC : chans.length ≤ cc ∧ cc ≤ maxLen ∧ (ca = none → chans = [])) (LA : win0.length ≤ ac ∧ ac ≤ maxLen ∧ (aa = none → win0 = [])) (LB : win1.length ≤ bc ∧ bc ≤ maxLen ∧ (ba = none → win1 = [])) (hle : cfgLe 100 (⟨parts, chans, len0, win0, len1, win1⟩ : Cfg) = true) : Calls Try.prog 5 #[.agg #[.slice pa parts.length pc, .slice ca chans.length cc, .int .i64 len0, .slice aa win0.length ac, .int .i64 len1, .slice ba win1.length bc]] w fun e w' => e = .returned (.bool true) ∧ Below w.heap.size w w' := by
  have HGR := Lib.hid (show (!cfgLe 100 (⟨parts, chans, len0, win0, len1, win1⟩ : Cfg)) = false by rw [hle]; rfl)
  have hin : CfgIn w w.heap.size (⟨parts, chans, len0, win0, len1, win1⟩ : Cfg) ⟨pa, pc, ca, cc, aa, ac, ba, bc⟩ := ⟨hp, hc, h0, h1, LP, LC, LA, LB⟩
  have hwf : CfgWf (⟨parts, chans, len0, win0, len1, win1⟩ : Cfg) := ⟨hpw, hcw, h0w, h1w, hl0, hl1⟩
  have hfew : CfgFew (⟨parts, chans, len0, win0, len1, win1⟩ : Cfg) := ⟨hpl, hcl, h0l, h1l⟩
  have g100 := cfgLe_yes hle
  clear hle
  obtain ⟨W, HW, hB, hWs, bx⟩ := one_cbox w ⟨parts, chans, len0, win0, len1, win1⟩ ⟨pa, pc, ca, cc, aa, ac, ba, bc⟩ 29
  have HB := Lib.hid hB
  have hp := hp.later hB; have hc := hc.later hB; have h0 := h0.later hB; have h1 := h1.later hB
  have hin := hin.later hB
  have hWs : w.heap.size < W.heap.size := by omega
  have HIN := Lib.hid hin; have HWF := Lib.hid hwf; have HFEW := Lib.hid hfew; have HLE := Lib.hid g100
  clear hB hin hwf hfew g100
  go_enter Try.func5, Try.ntmps5
  go_wp2_with (rw [← HW.out])
  refine (wakes_b _).mono ?_
  rintro e w1 ⟨rfl, hb1⟩
  obtain ⟨c0, c1, c2, c3, c4, c5⟩ := bx _ hb1
  go_wp2_with fail
  refine (great_is (⟨parts, chans, len0, win0, len1, win1⟩ : Cfg) ⟨pa, pc, ca, cc, aa, ac, ba, bc⟩ false w1 HGR.out).mono ?_
  rintro e w2 ⟨rfl, hb2⟩
  have hb2 := hb1.trans (hb2.mono hb1.size)
  clear c0 c1 c2 c3 c4 c5 hb1
  obtain ⟨c0, c1, c2, c3, c4, c5⟩ := bx _ hb2
  have HB2 := Lib.hid hb2
  obtain ⟨i0, hi0, hz0, hz1, hz2⟩ := info_parts Try.infoP
  obtain ⟨ms, hms⟩ : ∃ ms, ms = parts.map flipR := ⟨_, rfl⟩
  have hml : ms.length = parts.length := by rw [hms]; simp
  have HMS := Lib.hid hms; have HML := Lib.hid hml
  clear hms hml
  have hbX := hb2.alloc hb2.size (.cells #[.slice none 0 0, .slice ca chans.length cc, .int .i64 len0, .slice aa win0.length ac, .int .i64 len1, .slice ba win1.length bc] 29)
  obtain ⟨d0, d1, d2, d3, d4, d5⟩ := bx _ hbX
  obtain ⟨X0, hX0⟩ : ∃ u, Hid (u = w2.alloc (.cells #[.slice none 0 0, .slice ca chans.length cc, .int .i64 len0, .slice aa win0.length ac, .int .i64 len1, .slice ba win1.length bc] 29)) := ⟨_, rfl⟩
  have hxb := heap_alloc_new w2 (.cells #[.slice none 0 0, .slice ca chans.length cc, .int .i64 len0, .slice aa win0.length ac, .int .i64 len1, .slice ba win1.length bc] 29)
  have hbs := hb2.size
  obtain ⟨xb, hxe⟩ : ∃ xb, xb = w2.heap.size := ⟨_, rfl⟩
  have hxl : W.heap.size ≤ xb := by omega
  rw [← hX0.out] at hbX hxb
  rw [← hxe] at hxb
  have HBX := Lib.hid hbX; have HXB := Lib.hid hxb; have HXE := Lib.hid hxe
  obtain ⟨base, hbe⟩ : ∃ base, base = W.heap.size := ⟨_, rfl⟩
  have HBE := Lib.hid hbe
  have hbase0 : base ≤ W.heap.size := by omega
  clear hb2 hbX hxb hbs hxe hbe
  go_wp2
  rw [← HXE.out]
  go_loopw [15] (fun ix wr => ∃ (i : Nat) (v : Value), i ≤ parts.length ∧ ix = .int .i64 i ∧ wr.heap[xb]? = some (.cells #[v, .slice ca chans.length cc, .int .i64 len0, .slice aa win0.length ac, .int .i64 len1, .slice ba win1.length bc] 29 (0, 0)) ∧ OwnsOff wr base 40 2 v i (rcells [.i64, .i64] (ms.take i)) ∧ Below W.heap.size W wr) (fun ix _ => parts.length - (intOf ix).toNat)
  case atStart => exact ⟨0, _, Nat.zero_le _, rfl, by rw [← hX0.out]; exact HXB.out, OwnsOff.nil _ _ _ _, by rw [← hX0.out]; exact HBX.out⟩
  case round =>
    clear c0 c1 c2 c3 c4 c5 d0 d1 d2 d3 d4 d5
    obtain ⟨i, v, hi, rfl, hX, hown, hbc⟩ := hrel
    by_cases hlt : i < parts.length
    · obtain ⟨b, o, y0, y1, e0, _, e1, _, k0⟩ := hp.at2 hpw hlt
      subst e0
      obtain ⟨p0, p1⟩ := k0 _ hbc
      by_cases n0 : y0 = 0
      · subst n0
        have HFL := Lib.hid (show flipR [0, y1] = [1, y1] from by rfl)
        obtain ⟨wa, hwa⟩ : ∃ u, Hid (u = wr.alloc (.cells #[.int .i64 1, .int .i64 y1] 40)) := ⟨_, rfl⟩
        have hba : Below wr.heap.size wr wa := by rw [hwa.out]; exact (Below.refl _ _).alloc (Nat.le_refl _) _
        have hxa : wa.heap[wr.heap.size]? = some (.cells #[.int .i64 1, .int .i64 y1] 40 (0, 0)) := by rw [hwa.out]; exact heap_alloc_new _ _
        have hXa := (hba.block _ (Array.getElem?_eq_some_iff.1 hX).1).trans hX
        have q0 := cell_blk hxa (i := 0) rfl
        have q1 := cell_blk hxa (i := 1) rfl
        have u0 := cell_blk hXa (i := 0) rfl
        have u1 : wa.frozen? ⟨xb, 0, none⟩ = false := by simp [World.frozen?, hXa]
        have HOA := Lib.hid (hown.keptB hba)
        have HXA := Lib.hid hXa
        have HWA := Lib.hid (hbc.trans (hba.mono hbc.size))
        have hbase : base ≤ wa.heap.size := by have := hbc.size; have := hba.size; omega
        obtain ⟨A', c', rfl, hvl, hvm⟩ := hown.slice
        have HE1 := Lib.hid e1
        clear hba hxa hXa hX hown hbc e1 k0
        go_wp2_with (first | (rw [← hwa.out]) | (at_builtin; refine wpList_append_off _ rfl _ _ 22 rfl base 40 i0 (.agg #[.int .i64 0, .int .i64 0]) 2 16 Try.underlying22 hi0 hz0 hz1 hz2 rfl (by decide) _ _ _ rfl (HOA.out.keptB ((Below.refl _ _).alloc (Nat.le_refl _) _)) ⟨wa.heap.size, 0, none⟩ 1 1 [.int .i64 1, .int .i64 y1] rfl rfl (news_new _ _ _) (by simp [Value.oneCell']) (by unfold maxLen; omega) (by omega) (by simp; omega) ?_))
        intro v' w6 hown' hgrow hfr
        have hneX : ∀ {u : World} {z : Value} {n : Nat} {zs : List Value}, u.heap[xb]? = some (.cells #[z, .slice ca chans.length cc, .int .i64 len0, .slice aa win0.length ac, .int .i64 len1, .slice ba win1.length bc] 29 (0, 0)) → OwnsOff u base 40 2 z n zs → z.ownBlock ≠ some xb := by
          intro u z n zs h1 h2 h3
          obtain ⟨cs, h4⟩ := h2.typed xb h3
          rw [h1] at h4
          cases h4
        have hneX2 : ∀ {u : World} {z z' : Value} {n : Nat} {zs : List Value}, u.heap[xb]? = some (.cells #[z', .slice ca chans.length cc, .int .i64 len0, .slice aa win0.length ac, .int .i64 len1, .slice ba win1.length bc] 29 (0, 0)) → OwnsOff u base 40 2 z n zs → z.ownBlock ≠ some xb := by
          intro u z z' n zs h1 h2 h3
          obtain ⟨cs, h4⟩ := h2.typed xb h3
          rw [h1] at h4
          cases h4
        have hxbl : xb < wa.heap.size := (Array.getElem?_eq_some_iff.1 HXA.out).1
        have hX6 : w6.heap[xb]? = some (.cells #[.slice A' i c', .slice ca chans.length cc, .int .i64 len0, .slice aa win0.length ac, .int .i64 len1, .slice ba win1.length bc] 29 (0, 0)) := (hgrow.block xb (by simp; omega) (fun e => hneX HXA.out HOA.out e.symm)).trans ((Below.heap_alloc wa _ xb hxbl).trans HXA.out)
        have hw6 := (HWA.out.alloc HWA.out.size (.cells #[.int .i64 1, .int .i64 y1] 40)).grown hgrow (by have := HWA.out.size; simp; omega) (fun g hg => by have := (HOA.out.lt g hg).1; have := HBE.out; omega)
        have hw7 := hw6.setCell (p := ⟨xb, 0, none⟩) hxl v'
        have hX7 : (w6.setCell ⟨xb, 0, none⟩ v').heap[xb]? = some (.cells #[v', .slice ca chans.length cc, .int .i64 len0, .slice aa win0.length ac, .int .i64 len1, .slice ba win1.length bc] 29 (0, 0)) := by simp [World.setCell, Array.getElem?_modify, hX6]
        have hO7 : OwnsOff (w6.setCell ⟨xb, 0, none⟩ v') base 40 2 v' (i + 1) (rcells [.i64, .i64] (ms.take (i + 1))) := by
          have h := hown'.kept (Only.setCell w6 ⟨xb, 0, none⟩ v') (fun g hg e => hneX2 hX6 hown' (by rw [hg]; exact congrArg _ e))
          have e : ms.take (i + 1) = ms.take i ++ [[1, y1]] := by rw [List.take_add_one, HMS.out, List.getElem?_map, HE1.out]; simp [HFL.out]
          rw [e, rcells_app, rcells_one]
          exact h
        have x0 := cell_blk hX6 (i := 0) rfl
        have x1 : w6.frozen? ⟨xb, 0, none⟩ = false := by simp [World.frozen?, hX6]
        have HW7 := Lib.hid hw7; have HX7 := Lib.hid hX7; have HO7 := Lib.hid hO7
        obtain ⟨a6, c6, rfl, _⟩ := hown'.slice
        clear hw6 hw7 hX6 hX7 hO7 hown' hgrow hfr hneX hneX2 q0 q1 u0 u1
        go_wp2
        go_roundw
        case rel => exact ⟨i + 1, _, by omega, by go_num, HX7.out, HO7.out, HW7.out⟩
        case measure => simp [intOf]; omega
      by_cases n1 : y0 = 1
      · subst n1
        clear n0
        have HFL := Lib.hid (show flipR [1, y1] = [0, y1] from by rfl)
        obtain ⟨wa, hwa⟩ : ∃ u, Hid (u = wr.alloc (.cells #[.int .i64 0, .int .i64 y1] 40)) := ⟨_, rfl⟩
        have hba : Below wr.heap.size wr wa := by rw [hwa.out]; exact (Below.refl _ _).alloc (Nat.le_refl _) _
        have hxa : wa.heap[wr.heap.size]? = some (.cells #[.int .i64 0, .int .i64 y1] 40 (0, 0)) := by rw [hwa.out]; exact heap_alloc_new _ _
        have hXa := (hba.block _ (Array.getElem?_eq_some_iff.1 hX).1).trans hX
        have q0 := cell_blk hxa (i := 0) rfl
        have q1 := cell_blk hxa (i := 1) rfl
        have u0 := cell_blk hXa (i := 0) rfl
        have u1 : wa.frozen? ⟨xb, 0, none⟩ = false := by simp [World.frozen?, hXa]
        have HOA := Lib.hid (hown.keptB hba)
        have HXA := Lib.hid hXa
        have HWA := Lib.hid (hbc.trans (hba.mono hbc.size))
        have hbase : base ≤ wa.heap.size := by have := hbc.size; have := hba.size; omega
        obtain ⟨A', c', rfl, hvl, hvm⟩ := hown.slice
        have HE1 := Lib.hid e1
        clear hba hxa hXa hX hown hbc e1 k0
        go_wp2_with (first | (rw [← hwa.out]) | (at_builtin; refine wpList_append_off _ rfl _ _ 22 rfl base 40 i0 (.agg #[.int .i64 0, .int .i64 0]) 2 16 Try.underlying22 hi0 hz0 hz1 hz2 rfl (by decide) _ _ _ rfl (HOA.out.keptB ((Below.refl _ _).alloc (Nat.le_refl _) _)) ⟨wa.heap.size, 0, none⟩ 1 1 [.int .i64 0, .int .i64 y1] rfl rfl (news_new _ _ _) (by simp [Value.oneCell']) (by unfold maxLen; omega) (by omega) (by simp; omega) ?_))
        intro v' w6 hown' hgrow hfr
        have hneX : ∀ {u : World} {z : Value} {n : Nat} {zs : List Value}, u.heap[xb]? = some (.cells #[z, .slice ca chans.length cc, .int .i64 len0, .slice aa win0.length ac, .int .i64 len1, .slice ba win1.length bc] 29 (0, 0)) → OwnsOff u base 40 2 z n zs → z.ownBlock ≠ some xb := by
          intro u z n zs h1 h2 h3
          obtain ⟨cs, h4⟩ := h2.typed xb h3
          rw [h1] at h4
          cases h4
        have hneX2 : ∀ {u : World} {z z' : Value} {n : Nat} {zs : List Value}, u.heap[xb]? = some (.cells #[z', .slice ca chans.length cc, .int .i64 len0, .slice aa win0.length ac, .int .i64 len1, .slice ba win1.length bc] 29 (0, 0)) → OwnsOff u base 40 2 z n zs → z.ownBlock ≠ some xb := by
          intro u z z' n zs h1 h2 h3
          obtain ⟨cs, h4⟩ := h2.typed xb h3
          rw [h1] at h4
          cases h4
        have hxbl : xb < wa.heap.size := (Array.getElem?_eq_some_iff.1 HXA.out).1
        have hX6 : w6.heap[xb]? = some (.cells #[.slice A' i c', .slice ca chans.length cc, .int .i64 len0, .slice aa win0.length ac, .int .i64 len1, .slice ba win1.length bc] 29 (0, 0)) := (hgrow.block xb (by simp; omega) (fun e => hneX HXA.out HOA.out e.symm)).trans ((Below.heap_alloc wa _ xb hxbl).trans HXA.out)
        have hw6 := (HWA.out.alloc HWA.out.size (.cells #[.int .i64 0, .int .i64 y1] 40)).grown hgrow (by have := HWA.out.size; simp; omega) (fun g hg => by have := (HOA.out.lt g hg).1; have := HBE.out; omega)
        have hw7 := hw6.setCell (p := ⟨xb, 0, none⟩) hxl v'
        have hX7 : (w6.setCell ⟨xb, 0, none⟩ v').heap[xb]? = some (.cells #[v', .slice ca chans.length cc, .int .i64 len0, .slice aa win0.length ac, .int .i64 len1, .slice ba win1.length bc] 29 (0, 0)) := by simp [World.setCell, Array.getElem?_modify, hX6]
        have hO7 : OwnsOff (w6.setCell ⟨xb, 0, none⟩ v') base 40 2 v' (i + 1) (rcells [.i64, .i64] (ms.take (i + 1))) := by
          have h := hown'.kept (Only.setCell w6 ⟨xb, 0, none⟩ v') (fun g hg e => hneX2 hX6 hown' (by rw [hg]; exact congrArg _ e))
          have e : ms.take (i + 1) = ms.take i ++ [[0, y1]] := by rw [List.take_add_one, HMS.out, List.getElem?_map, HE1.out]; simp [HFL.out]
          rw [e, rcells_app, rcells_one]
          exact h
        have x0 := cell_blk hX6 (i := 0) rfl
        have x1 : w6.frozen? ⟨xb, 0, none⟩ = false := by simp [World.frozen?, hX6]
        have HW7 := Lib.hid hw7; have HX7 := Lib.hid hX7; have HO7 := Lib.hid hO7
        obtain ⟨a6, c6, rfl, _⟩ := hown'.slice
        clear hw6 hw7 hX6 hX7 hO7 hown' hgrow hfr hneX hneX2 q0 q1 u0 u1
        go_wp2
        go_roundw
        case rel => exact ⟨i + 1, _, by omega, by go_num, HX7.out, HO7.out, HW7.out⟩
        case measure => simp [intOf]; omega
      · have m0a : (y0 == 0) = false := by simpa using n0
        have m1a : (y0 == 1) = false := by simpa using n1
        have HFL := Lib.hid (show flipR [y0, y1] = [y0, y1] from by show flipI y0 :: [y1] = _; rw [flipI, if_neg n0, if_neg n1])
        obtain ⟨wa, hwa⟩ : ∃ u, Hid (u = wr.alloc (.cells #[.int .i64 y0, .int .i64 y1] 40)) := ⟨_, rfl⟩
        have hba : Below wr.heap.size wr wa := by rw [hwa.out]; exact (Below.refl _ _).alloc (Nat.le_refl _) _
        have hxa : wa.heap[wr.heap.size]? = some (.cells #[.int .i64 y0, .int .i64 y1] 40 (0, 0)) := by rw [hwa.out]; exact heap_alloc_new _ _
        have hXa := (hba.block _ (Array.getElem?_eq_some_iff.1 hX).1).trans hX
        have q0 := cell_blk hxa (i := 0) rfl
        have q1 := cell_blk hxa (i := 1) rfl
        have u0 := cell_blk hXa (i := 0) rfl
        have u1 : wa.frozen? ⟨xb, 0, none⟩ = false := by simp [World.frozen?, hXa]
        have HOA := Lib.hid (hown.keptB hba)
        have HXA := Lib.hid hXa
        have HWA := Lib.hid (hbc.trans (hba.mono hbc.size))
        have hbase : base ≤ wa.heap.size := by have := hbc.size; have := hba.size; omega
        obtain ⟨A', c', rfl, hvl, hvm⟩ := hown.slice
        have HE1 := Lib.hid e1
        clear hba hxa hXa hX hown hbc e1 k0
        go_wp2_with (first | (rw [← hwa.out]) | (at_builtin; refine wpList_append_off _ rfl _ _ 22 rfl base 40 i0 (.agg #[.int .i64 0, .int .i64 0]) 2 16 Try.underlying22 hi0 hz0 hz1 hz2 rfl (by decide) _ _ _ rfl (HOA.out.keptB ((Below.refl _ _).alloc (Nat.le_refl _) _)) ⟨wa.heap.size, 0, none⟩ 1 1 [.int .i64 y0, .int .i64 y1] rfl rfl (news_new _ _ _) (by simp [Value.oneCell']) (by unfold maxLen; omega) (by omega) (by simp; omega) ?_))
        intro v' w6 hown' hgrow hfr
        have hneX : ∀ {u : World} {z : Value} {n : Nat} {zs : List Value}, u.heap[xb]? = some (.cells #[z, .slice ca chans.length cc, .int .i64 len0, .slice aa win0.length ac, .int .i64 len1, .slice ba win1.length bc] 29 (0, 0)) → OwnsOff u base 40 2 z n zs → z.ownBlock ≠ some xb := by
          intro u z n zs h1 h2 h3
          obtain ⟨cs, h4⟩ := h2.typed xb h3
          rw [h1] at h4
          cases h4
        have hneX2 : ∀ {u : World} {z z' : Value} {n : Nat} {zs : List Value}, u.heap[xb]? = some (.cells #[z', .slice ca chans.length cc, .int .i64 len0, .slice aa win0.length ac, .int .i64 len1, .slice ba win1.length bc] 29 (0, 0)) → OwnsOff u base 40 2 z n zs → z.ownBlock ≠ some xb := by
          intro u z z' n zs h1 h2 h3
          obtain ⟨cs, h4⟩ := h2.typed xb h3
          rw [h1] at h4
          cases h4
        have hxbl : xb < wa.heap.size := (Array.getElem?_eq_some_iff.1 HXA.out).1
        have hX6 : w6.heap[xb]? = some (.cells #[.slice A' i c', .slice ca chans.length cc, .int .i64 len0, .slice aa win0.length ac, .int .i64 len1, .slice ba win1.length bc] 29 (0, 0)) := (hgrow.block xb (by simp; omega) (fun e => hneX HXA.out HOA.out e.symm)).trans ((Below.heap_alloc wa _ xb hxbl).trans HXA.out)
        have hw6 := (HWA.out.alloc HWA.out.size (.cells #[.int .i64 y0, .int .i64 y1] 40)).grown hgrow (by have := HWA.out.size; simp; omega) (fun g hg => by have := (HOA.out.lt g hg).1; have := HBE.out; omega)
        have hw7 := hw6.setCell (p := ⟨xb, 0, none⟩) hxl v'
        have hX7 : (w6.setCell ⟨xb, 0, none⟩ v').heap[xb]? = some (.cells #[v', .slice ca chans.length cc, .int .i64 len0, .slice aa win0.length ac, .int .i64 len1, .slice ba win1.length bc] 29 (0, 0)) := by simp [World.setCell, Array.getElem?_modify, hX6]
        have hO7 : OwnsOff (w6.setCell ⟨xb, 0, none⟩ v') base 40 2 v' (i + 1) (rcells [.i64, .i64] (ms.take (i + 1))) := by
          have h := hown'.kept (Only.setCell w6 ⟨xb, 0, none⟩ v') (fun g hg e => hneX2 hX6 hown' (by rw [hg]; exact congrArg _ e))
          have e : ms.take (i + 1) = ms.take i ++ [[y0, y1]] := by rw [List.take_add_one, HMS.out, List.getElem?_map, HE1.out]; simp [HFL.out]
          rw [e, rcells_app, rcells_one]
          exact h
        have x0 := cell_blk hX6 (i := 0) rfl
        have x1 : w6.frozen? ⟨xb, 0, none⟩ = false := by simp [World.frozen?, hX6]
        have HW7 := Lib.hid hw7; have HX7 := Lib.hid hX7; have HO7 := Lib.hid hO7
        obtain ⟨a6, c6, rfl, _⟩ := hown'.slice
        clear hw6 hw7 hX6 hX7 hO7 hown' hgrow hfr hneX hneX2 q0 q1 u0 u1
        go_wp2
        go_roundw
        case rel => exact ⟨i + 1, _, by omega, by go_num, HX7.out, HO7.out, HW7.out⟩
        case measure => simp [intOf]; omega
    · have hii : i = parts.length := by omega
      subst hii
      rw [show ms.take parts.length = ms from List.take_of_length_le (by rw [HML.out]; exact Nat.le_refl _)] at hown
      have hnl : ¬ ((parts.length : Nat) : Int) < (parts.length : Int) := by omega
      obtain ⟨A', c', rfl, hvl, hvm⟩ := hown.slice
      obtain ⟨g0, g1, g2, g3, g4, g5⟩ := bx _ hbc
      have u2 := cell_blk hX (i := 2) rfl
      have u3 := cell_blk hX (i := 3) rfl
      have u4 := cell_blk hX (i := 4) rfl
      have u5 := cell_blk hX (i := 5) rfl
      have hfz : ∀ k, wr.frozen? ⟨xb, k, none⟩ = false := fun k => by simp [World.frozen?, hX]
      have z2 := hfz 2
      have z3 := hfz 3
      have z4 := hfz 4
      have z5 := hfz 5
      have hbl : w.heap.size < xb := by omega
      have HX := Lib.hid hX; have HOW := Lib.hid hown; have HBC := Lib.hid hbc
      clear hfz hX hown hbc
      go_wp2
      go_region
      obtain ⟨wz, hwz⟩ : ∃ u, Hid (u = ((((wr.setCell ⟨xb, 2, none⟩ (.int .i64 len1)).setCell ⟨xb, 3, none⟩ (.slice ba win1.length bc)).setCell ⟨xb, 4, none⟩ (.int .i64 len0)).setCell ⟨xb, 5, none⟩ (.slice aa win0.length ac)).drew) := ⟨_, rfl⟩
      rw [← hwz.out]
      have hO : Only (fun j => j = xb) wr wz := by
        rw [hwz.out]
        have h := (((Only.setCell wr ⟨xb, 2, none⟩ (.int .i64 len1)).trans (Only.setCell _ ⟨xb, 3, none⟩ (.slice ba win1.length bc))).trans (Only.setCell _ ⟨xb, 4, none⟩ (.int .i64 len0))).trans (Only.setCell _ ⟨xb, 5, none⟩ (.slice aa win0.length ac))
        exact ⟨h.os, h.tape, h.output, h.size, h.block⟩
      have hXz : wz.heap[xb]? = some (.cells #[.slice A' parts.length c', .slice ca chans.length cc, .int .i64 len1, .slice ba win1.length bc, .int .i64 len0, .slice aa win0.length ac] 29 (0, 0)) := by
        rw [hwz.out]
        show ((((wr.setCell ⟨xb, 2, none⟩ (.int .i64 len1)).setCell ⟨xb, 3, none⟩ (.slice ba win1.length bc)).setCell ⟨xb, 4, none⟩ (.int .i64 len0)).setCell ⟨xb, 5, none⟩ (.slice aa win0.length ac)).heap[xb]? = _
        simp [World.setCell, Array.getElem?_modify, HX.out]
      have hWz : Below W.heap.size W wz := HBC.out.trans (hO.below HBC.out.size (fun k hk => by omega))
      have hOz : OwnsOff wz base 40 2 (.slice A' parts.length c') parts.length (rcells [.i64, .i64] ms) := HOW.out.kept hO (fun g hg e => by
        obtain ⟨cs, h4⟩ := HOW.out.typed g hg
        rw [e, HX.out] at h4
        cases h4)
      have hwm : wfR [.i64, .i64] ms := by rw [HMS.out]; exact wfR_flip hpw
      obtain ⟨A2, c2, hv2, hl2, hm2, hr2, hn2, -⟩ := OwnsOff.rowN (l := ms) (by rw [HML.out]; exact hOz) hwm
      rw [HML.out] at hv2
      cases hv2
      have hlen : ms.length = parts.length := HML.out
      have hinX : CfgIn wz wz.heap.size ⟨ms, chans, len1, win1, len0, win0⟩ ⟨A', c', ca, cc, ba, bc, aa, ac⟩ := by
        have h := HIN.out.later hWz
        exact ⟨hr2, h.rc, h.rb, h.ra, ⟨hl2, hm2, hn2⟩, h.lc, h.lb, h.la⟩
      have hwfX : CfgWf ⟨ms, chans, len1, win1, len0, win0⟩ := ⟨hwm, hcw, h1w, h0w, hl1, hl0⟩
      have hfewX : CfgFew ⟨ms, chans, len1, win1, len0, win0⟩ := ⟨by show ms.length ≤ _; omega, hcl, h1l, h0l⟩
      obtain ⟨ds, hds⟩ : ∃ ds, allP (⟨parts, chans, len0, win0, len1, win1⟩ : Cfg) 17 = ds := ⟨_, rfl⟩
      have hdx : allP ⟨ms, chans, len1, win1, len0, win0⟩ 17 = ds := by rw [← hds, ← allP_mirror (c := (⟨parts, chans, len0, win0, len1, win1⟩ : Cfg)) hpw 17]; show allP _ 17 = allP (mirror (⟨parts, chans, len0, win0, len1, win1⟩ : Cfg)) 17; rw [HMS.out]; rfl
      have hdl : ds.length ≤ 17 := by rw [← hds]; exact allP_len _ _
      have HT1 := Lib.hid (show ∀ W', Below wz.heap.size wz W' → Calls Try.prog 13 #[.agg #[.slice A' parts.length c', .slice ca chans.length cc, .int .i64 len1, .slice ba win1.length bc, .int .i64 len0, .slice aa win0.length ac], .int .i64 99] W' (GivesNums W' ds) from fun W' hb => by
        have h := toldAll_b _ _ W' (hinX.later hb) hwfX hfewX
        rw [hdx] at h
        simp only [cfgCells] at h
        rw [hlen] at h
        exact h)
      have HT2 := Lib.hid (show ∀ W', Below wz.heap.size wz W' → Calls Try.prog 13 #[.agg #[.slice pa parts.length pc, .slice ca chans.length cc, .int .i64 len0, .slice aa win0.length ac, .int .i64 len1, .slice ba win1.length bc], .int .i64 99] W' (GivesNums W' ds) from fun W' hb => by
        have h := toldAll_b _ _ W' (HIN.out.later (hWz.trans (hb.mono hWz.size))) HWF.out HFEW.out
        rw [hds] at h
        exact h)
      have hcx : wz.cell? ⟨xb, 0, none⟩ = some (.slice A' parts.length c') ∧ wz.cell? ⟨xb, 1, none⟩ = some (.slice ca chans.length cc) ∧ wz.cell? ⟨xb, 2, none⟩ = some (.int .i64 len1) ∧ wz.cell? ⟨xb, 3, none⟩ = some (.slice ba win1.length bc) ∧ wz.cell? ⟨xb, 4, none⟩ = some (.int .i64 len0) ∧ wz.cell? ⟨xb, 5, none⟩ = some (.slice aa win0.length ac) ∧ wz.cell? ⟨w.heap.size, 0, none⟩ = some (.slice pa parts.length pc) ∧ wz.cell? ⟨w.heap.size, 1, none⟩ = some (.slice ca chans.length cc) ∧ wz.cell? ⟨w.heap.size, 2, none⟩ = some (.int .i64 len0) ∧ wz.cell? ⟨w.heap.size, 3, none⟩ = some (.slice aa win0.length ac) ∧ wz.cell? ⟨w.heap.size, 4, none⟩ = some (.int .i64 len1) ∧ wz.cell? ⟨w.heap.size, 5, none⟩ = some (.slice ba win1.length bc) := ⟨cell_blk hXz (i := 0) rfl, cell_blk hXz (i := 1) rfl, cell_blk hXz (i := 2) rfl, cell_blk hXz (i := 3) rfl, cell_blk hXz (i := 4) rfl, cell_blk hXz (i := 5) rfl, bx _ hWz⟩
      have HF0 := Lib.hid (HB.out.trans (hWz.mono HB.out.size))
      clear hO hXz hWz hOz hwm hr2 hinX hwfX hfewX hds hdx u2 u3 u4 u5 z2 z3 z4 z5 g0 g1 g2 g3 g4 g5 hlen hl2 hm2 hn2 hvl hvm
      go_wp2_with fail
      go_region_held3 (fun W' => Below wz.heap.size wz W' ∧ W'.cell? ⟨xb, 0, none⟩ = some (.slice A' parts.length c') ∧ W'.cell? ⟨xb, 1, none⟩ = some (.slice ca chans.length cc) ∧ W'.cell? ⟨xb, 2, none⟩ = some (.int .i64 len1) ∧ W'.cell? ⟨xb, 3, none⟩ = some (.slice ba win1.length bc) ∧ W'.cell? ⟨xb, 4, none⟩ = some (.int .i64 len0) ∧ W'.cell? ⟨xb, 5, none⟩ = some (.slice aa win0.length ac) ∧ W'.cell? ⟨w.heap.size, 0, none⟩ = some (.slice pa parts.length pc) ∧ W'.cell? ⟨w.heap.size, 1, none⟩ = some (.slice ca chans.length cc) ∧ W'.cell? ⟨w.heap.size, 2, none⟩ = some (.int .i64 len0) ∧ W'.cell? ⟨w.heap.size, 3, none⟩ = some (.slice aa win0.length ac) ∧ W'.cell? ⟨w.heap.size, 4, none⟩ = some (.int .i64 len1) ∧ W'.cell? ⟨w.heap.size, 5, none⟩ = some (.slice ba win1.length bc)) ((first | exact ⟨(Below.refl _ _).drew, hcx⟩ | assumption | exact cfgs_next (by assumption) (by assumption)))
        (first | (go_at_call 13; ((with_reducible refine (HT1.out _ (And.left (by assumption))).mono ?_); intro e w5 hg; obtain ⟨A5, c5, rfl, _, _, hrowx, hbel⟩ := hg.row)) | (go_at_call 13; ((with_reducible refine (HT2.out _ (And.left (by assumption))).mono ?_); intro e w5 hg; obtain ⟨A6, c6, rfl, _, _, hrowc, hbel⟩ := hg.row)) | (go_at_call 12; refine (same_yes _ ds A5 A6 c5 c6 _ rfl (by first | exact hrowx | exact hrowx.later (by assumption)) (by first | exact hrowc | exact hrowc.later (by assumption)) (by omega)).mono ?_; rintro e w7 ⟨rfl, hbel⟩))
      all_goals
        have hS : Below wz.heap.size wz w7 := And.left (by assumption)
        have HF := Lib.hid (HF0.out.trans (hS.mono HF0.out.size))
        go_wp2
        go_ret
        exact ⟨rfl, HF.out⟩

set_option maxRecDepth 100000 in
set_option maxHeartbeats 2000000 in
theorem mirror_great (c : Cfg) (x : CfgAt) (w : World) (hx : CfgIn w w.heap.size c x) (wx : CfgWf c) (hg : (!cfgLe 100 c) = true) : Calls Try.prog 5 #[.agg (cfgCells c x)] w fun e w' => e = .returned (.bool true) ∧ Below w.heap.size w w' := by
  obtain ⟨W, HW, hB, -, bx⟩ := one_cbox w c x 29
  have HB := Lib.hid hB
  simp only [cfgCells]
  clear hB
  go_enter Try.func5, Try.ntmps5
  go_wp2_with (rw [← HW.out])
  refine (wakes_b _).mono ?_
  rintro e w1 ⟨rfl, hb1⟩
  obtain ⟨c0, c1, c2, c3, c4, c5⟩ := bx _ hb1
  go_wp2_with fail
  refine (great_is c x true w1 hg).mono ?_
  rintro e w2 ⟨rfl, hb2⟩
  have HF := Lib.hid (HB.out.trans ((hb1.trans (hb2.mono hb1.size)).mono HB.out.size))
  clear c0 c1 c2 c3 c4 c5 hb1 hb2
  go_wp2
  go_ret
  exact ⟨rfl, HF.out⟩
theorem mirror_all (c : Cfg) (x : CfgAt) (w : World) (hx : CfgIn w w.heap.size c x) (wx : CfgWf c) : Calls Try.prog 5 #[.agg (cfgCells c x)] w fun e w' => e = .returned (.bool true) ∧ Below w.heap.size w w' := by
  cases hg : cfgLe 100 c with
  | false => exact mirror_great c x w hx wx (by rw [hg]; rfl)
  | true =>
    have lx := cfgLe_few hg (by omega)
    obtain ⟨parts, chans, len0, win0, len1, win1⟩ := c
    obtain ⟨pa, pc, ca, cc, aa, ac, ba, bc⟩ := x
    exact mirror_plain parts chans len0 win0 len1 win1 pa pc ca cc aa ac ba bc w hx.rp wx.wp lx.1 hx.rc wx.wc lx.2.1 hx.ra wx.wa lx.2.2.1 hx.rb wx.wb lx.2.2.2 wx.w0 wx.w1 hx.lp hx.lc hx.la hx.lb hg
end Go.Proofs.Ytogffilanioejaa
