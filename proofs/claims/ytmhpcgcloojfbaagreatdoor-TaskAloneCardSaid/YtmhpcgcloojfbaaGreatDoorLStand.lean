/- stand, as a contract. No condition but those in the statements. -/
import Derived.Test.YtmhpcgcloojfbaaGreatDoorLSm
import Derived.BigQuiet
import Derived.IntWalk
import Derived.BigRegion
import Derived.Laws.EntriesVeiled
namespace Go.Proofs.YtmhpcgcloojfbaaGreatDoor
open Go.RowKit Go.Sort Go.ChangeShapes Go.WideShapes
set_option linter.unusedVariables false
set_option linter.unusedSimpArgs false

theorem Tryz.infoPl : (Tryz.prog.info? 203).map (fun i => (i.size)) = some 3 := by kernel_rfl
theorem results_cell_places {fn : Func} {p : Tmp} (h : fn.results = #[.cell p 203]) (tmps : Array Value) (w : World) (g : Nat) (a b d : Value)
    (hp : tmps.getD p undef = .pointer (some ⟨g, 0, none⟩)) (h0 : w.cell? ⟨g, 0, none⟩ = some a) (h1 : w.cell? ⟨g, 1, none⟩ = some b) (h2 : w.cell? ⟨g, 2, none⟩ = some d) : (results fn tmps).run Tryz.prog w = .ok (.agg #[a, b, d]) w := by
  have hp' : tmps[p]?.getD undef = .pointer (some ⟨g, 0, none⟩) := by simpa using hp
  obtain ⟨i, hi, hs⟩ : ∃ i, Tryz.prog.info? 203 = some i ∧ i.size = 3 := by
    have h := Tryz.infoPl
    cases hh : Tryz.prog.info? 203 with
    | none => rw [hh] at h; cases h
    | some i => rw [hh] at h; exact ⟨i, rfl, by simpa using h⟩
  simp [results, h, hp', asAddr, loadVar, isAgg, run_underlying Tryz.underlying203, sizeOf, typeInfo, hi, hs]
  go_simp
set_option maxRecDepth 100000 in
set_option maxHeartbeats 4000000 in
theorem stand_b (c : Cfg) (x : CfgAt) (rb : Nat) (w : World) (hx : CfgIn w rb c x) (wx : CfgWf c) (ha : Accd c) (hE : EndAt w rb 0) :
    Calls Tryz.prog 147 #[.agg (cfgCells c x), .func (.func 148) #[.pointer (some ⟨rb, 0, none⟩)] #[]] w fun e w' => ∃ vp vs vd, e = .returned (.agg #[vp, vs, vd]) ∧ OwnsOff w' w.heap.size 176 2 vp c.parts.length (rcells [.i64, .i64] (pvL c c.parts.length)) ∧
      OwnsOff w' w.heap.size 176 2 vs c.chans.length (rcells [.i64, .i64] (srL c c.chans.length)) ∧ OwnsOff w' w.heap.size 176 2 vd c.chans.length (rcells [.i64, .i64] (dsL c c.chans.length)) ∧ Only (fun k => k = rb) w w' := by
  obtain ⟨i0, hi0, hz0, hz1, hz2⟩ := info_parts Tryz.infoSp
  obtain ⟨pa, pc, ca, cc, aa, ac, ba, bc⟩ := x
  have hrw : rb < w.heap.size := (Array.getElem?_eq_some_iff.1 hE).1
  obtain ⟨W, hW⟩ : ∃ u, Hid (u = ((w.alloc (.cells (cfgCells c ⟨pa, pc, ca, cc, aa, ac, ba, bc⟩) 29)).alloc (.cells #[.slice none 0 0, .slice none 0 0, .slice none 0 0] 203)).alloc (.cells #[.slice none 0 0, .slice none 0 0, .slice none 0 0] 203)) := ⟨_, rfl⟩
  obtain ⟨X, hX⟩ : ∃ X, X = w.heap.size + 2 := ⟨_, rfl⟩
  have hb0 : Below w.heap.size w W := by rw [hW.out]; exact (((Below.refl _ w).alloc (Nat.le_refl _) _).alloc (by simp) _).alloc (by simp; omega) _
  have hs0 : W.heap.size = w.heap.size + 3 := by rw [hW.out]; simp
  have hC : W.heap[w.heap.size]? = some (.cells (cfgCells c ⟨pa, pc, ca, cc, aa, ac, ba, bc⟩) 29 (0, 0)) := by rw [hW.out, Below.heap_alloc _ _ _ (by simp; omega), Below.heap_alloc _ _ _ (by simp)]; exact heap_alloc_new w _
  have hR : W.heap[w.heap.size + 1]? = some (.cells #[.slice none 0 0, .slice none 0 0, .slice none 0 0] 203 (0, 0)) := by
    rw [hW.out, Below.heap_alloc _ _ _ (by simp)]
    have := heap_alloc_new (w.alloc (.cells (cfgCells c ⟨pa, pc, ca, cc, aa, ac, ba, bc⟩) 29)) (.cells #[.slice none 0 0, .slice none 0 0, .slice none 0 0] 203)
    simpa using this
  have hXh : W.heap[X]? = some (.cells #[.slice none 0 0, .slice none 0 0, .slice none 0 0] 203 (0, 0)) := by
    rw [hW.out, hX]
    have := heap_alloc_new ((w.alloc (.cells (cfgCells c ⟨pa, pc, ca, cc, aa, ac, ba, bc⟩) 29)).alloc (.cells #[.slice none 0 0, .slice none 0 0, .slice none 0 0] 203)) (.cells #[.slice none 0 0, .slice none 0 0, .slice none 0 0] 203)
    simpa using this
  have nil_ : ∀ v, Asunder (.slice none 0 0) v := fun v g hg => by cases hg
  have h0 : Rows3 W X rb (.slice none 0 0) (.slice none 0 0) (.slice none 0 0) ([]) ([]) ([]) (0) W := ⟨hXh, OwnsOff.nil _ _ _ _, OwnsOff.nil _ _ _ _, OwnsOff.nil _ _ _ _, nil_ _, nil_ _, nil_ _, (hb0.block _ hrw).trans hE, by omega, Only.refl _ _⟩
  have H0 := Lib.hid h0; have HC := Lib.hid hC; have HR := Lib.hid hR; have hXW := Lib.hid (show X ≤ W.heap.size by omega); have HX := Lib.hid hX; have HS := Lib.hid hs0; have HB := Lib.hid hb0; have HRW := Lib.hid hrw
  have HP := Lib.hid (fun n (hn : n ≤ c.parts.length) => privUp_in ha n hn); have HB4 := Lib.hid (fun n (hn : n ≤ c.chans.length) => beforeN_in ha hn); have HA := Lib.hid ha
  have hp6 : c.parts.length ≤ 6 := ha.parts.2
  have hc8 : c.chans.length ≤ 8 := ha.chans
  have HIN := Lib.hid (show CfgIn W rb c ⟨pa, pc, ca, cc, aa, ac, ba, bc⟩ from (hx.below (hb0.mono (by omega))))
  have c0 := cell_blk hC (i := 0) rfl
  clear hb0 hs0 hC hR hXh h0 hx hE ha hX hrw nil_
  simp only [cfgCells] at hW c0 ⊢
  go_enter Tryz.func147, Tryz.ntmps147
  go_wp2_with (rw [← hW.out])
  clear c0
  have hX2 := HX.out
  simp only [← hX2]
  clear hX2
  go_loopw [13] (fun ix wr => ∃ i : Nat, i ≤ c.parts.length ∧ ix = .int .i64 i ∧ ∃ Ap cp, Rows3 W X rb (.slice Ap i cp) (.slice none 0 0) (.slice none 0 0) (pvL c i) ([]) ([]) (privUp c.parts i) wr) (fun ix _ => c.parts.length - (intOf ix).toNat)
  case atStart => exact ⟨0, Nat.zero_le _, rfl, none, 0, H0.out⟩
  case round =>
    obtain ⟨i, hi, rfl, Ap, cp, h⟩ := hrel
    by_cases hlt : i < c.parts.length
    · obtain ⟨b, o, y0, y1, e0, _, e1, _, k0⟩ := HIN.out.rp.at2 wx.wp hlt
      obtain ⟨q0, q1⟩ := k0 _ (h.below hXW.out)
      have hnx : privUp c.parts (i + 1) = privUp c.parts i + y1 := by show privUp c.parts i + fld (row c.parts i) 1 = _; rw [row_at e1]; rfl
      have hs := HP.out i (by omega)
      have hs1 := HP.out (i + 1) (by omega)
      rw [hnx] at hs1
      have HNX := Lib.hid hnx
      have HN := Lib.hid (show pvL c (i + 1) = pvL c i ++ [[privUp c.parts i, y1]] by rw [pvL_succ, row_at e1]; rfl)
      have hlen := Lib.hid (pvL_len c i)
      obtain ⟨lp, hlp⟩ : ∃ lp, pvL c i = lp := ⟨_, rfl⟩
      obtain ⟨e, he⟩ : ∃ e, privUp c.parts i = e := ⟨_, rfl⟩
      rw [hlp] at hlen HN h
      rw [he] at HN HNX hs hs1 h
      have HL := Lib.hid (fun g (hg : (Value.slice Ap i cp).ownBlock = some g) => (h.rp.lt g hg).2)
      have HLT := Lib.hid (show rb < wr.heap.size from Nat.lt_trans h.lt h.hx)
      have hPb := heap_alloc_new wr (.cells #[.int .i64 y0, .int .i64 y1] 102)
      obtain ⟨wa, hwa⟩ : ∃ u, Hid (u = wr.alloc (.cells #[.int .i64 y0, .int .i64 y1] 102)) := ⟨_, rfl⟩
      rw [← hwa.out] at hPb
      have h := h.keptB (show Below wr.heap.size wr wa by rw [hwa.out]; exact (Below.refl _ _).alloc (Nat.le_refl _) _)
      clear e1 k0 hnx hlp he
      subst e0
      go_wp2_with (rw [← hwa.out])
      clear q0 q1
      refine wp_region_till (fun W' => W'.heap[X]? = some (.cells #[.slice Ap i cp, .slice none 0 0, .slice none 0 0] 203 (0, 0)) ∧ W'.heap[wr.heap.size]? = some (.cells #[.int .i64 y0, .int .i64 y1] 102 (0, 0))) 9 (by kernel_rfl) (⟨h.head, hPb⟩) (fun hHeld => ?_)
      refine till_take (i := 0) rfl (by kernel_rfl) (by kernel_rfl) (by kernel_rfl) (fun _ _ _ h => h) (by kernel_rfl) (Or.inl ⟨by rfl, by intro w _; (go_simp <;> with_reducible rfl)⟩) (by assumption) ?_
      (try simp only [Act.put, List.setIfInBounds_toArray, List.set_cons_zero, List.set_cons_succ, List.getElem_toArray, List.getElem_cons_zero, List.getElem_cons_succ])
      refine till_load (i := 1) rfl (by kernel_rfl) (by kernel_rfl) (by kernel_rfl) (fun _ _ _ h => h) (by kernel_rfl) (by kernel_rfl) (by kernel_rfl) (Or.inl ⟨by rfl, by intro w hSw; (have q := cell_blk hSw.1 (i := 0) rfl); (go_simp <;> with_reducible rfl)⟩) (by assumption) ?_
      (try simp only [Act.put, List.setIfInBounds_toArray, List.set_cons_zero, List.set_cons_succ, List.getElem_toArray, List.getElem_cons_zero, List.getElem_cons_succ])
      refine till_take (i := 2) rfl (by kernel_rfl) (by kernel_rfl) (by kernel_rfl) (fun _ _ _ h => h) (by kernel_rfl) (Or.inl ⟨by rfl, by intro w _; (go_simp <;> with_reducible rfl)⟩) (by assumption) ?_
      (try simp only [Act.put, List.setIfInBounds_toArray, List.set_cons_zero, List.set_cons_succ, List.getElem_toArray, List.getElem_cons_zero, List.getElem_cons_succ])
      refine till_take (i := 3) rfl (by kernel_rfl) (by kernel_rfl) (by kernel_rfl) (fun _ _ _ h => h) (by kernel_rfl) (Or.inl ⟨by rfl, by intro w _; (go_simp <;> with_reducible rfl)⟩) (by assumption) ?_
      (try simp only [Act.put, List.setIfInBounds_toArray, List.set_cons_zero, List.set_cons_succ, List.getElem_toArray, List.getElem_cons_zero, List.getElem_cons_succ])
      refine till_load (i := 4) rfl (by kernel_rfl) (by kernel_rfl) (by kernel_rfl) (fun _ _ _ h => h) (by kernel_rfl) (by kernel_rfl) (by kernel_rfl) (Or.inl ⟨by rfl, by intro w hSw; (have q := cell_blk hSw.2 (i := 1) rfl); (go_simp <;> with_reducible rfl)⟩) (by assumption) ?_
      (try simp only [Act.put, List.setIfInBounds_toArray, List.set_cons_zero, List.set_cons_succ, List.getElem_toArray, List.getElem_cons_zero, List.getElem_cons_succ])
      have h := h.keptB (Below.refl _ _).drew
      refine till_one (i := 5) (by kernel_rfl) rfl (fun K hK => ?_)
      go_simp
      refine (put_b rb e y1 _ h.en (by omega)).mono ?_
      rintro e5 w7 ⟨rfl, hE7, hO7⟩
      (try go_wp2_with fail)
      have h := h.put hO7 hE7
      have hP7 := (hO7.block wr.heap.size (Array.getElem?_eq_some_iff.1 hPb).1 (by show ¬ wr.heap.size = rb; have := HLT.out; omega)).trans hPb
      clear hE7 hPb hO7 hHeld
      refine hK.out _ _ (⟨h.head, hP7⟩) (fun hHeld => ?_)
      clear hK K
      (try simp only [Act.put, List.setIfInBounds_toArray, List.set_cons_zero, List.set_cons_succ, List.getElem_toArray, List.getElem_cons_zero, List.getElem_cons_succ])
      refine till_one (i := 6) (by kernel_rfl) rfl (fun K hK => ?_)
      go_simp
      obtain ⟨w8, hw8⟩ : ∃ u, Hid (u = w7.alloc (.cells #[.int .i64 (e), .int .i64 (y1)] 176)) := ⟨_, rfl⟩
      rw [← hw8.out]
      have hl : Below w7.heap.size w7 w8 := by rw [hw8.out]; exact (Below.refl _ _).alloc (Nat.le_refl _) _
      have hEe : w8.heap[w7.heap.size]? = some (.cells #[.int .i64 (e), .int .i64 (y1)] 176 (0, 0)) := by rw [hw8.out]; exact heap_alloc_new _ _
      have h := h.keptB hl
      have hP8 := (hl.block wr.heap.size (Array.getElem?_eq_some_iff.1 hP7).1).trans hP7
      clear hP7
      clear hl hHeld
      refine hK.out _ _ (⟨h.head, hP8⟩) (fun hHeld => ?_)
      clear hK K
      (try simp only [Act.put, List.setIfInBounds_toArray, List.set_cons_zero, List.set_cons_succ, List.getElem_toArray, List.getElem_cons_zero, List.getElem_cons_succ])
      refine till_one (i := 7) (by kernel_rfl) rfl (fun K hK => ?_)
      refine step_append_off rfl _ _ 201 rfl (X + 1) 176 i0 (.agg #[.int .i64 0, .int .i64 0]) 2 16 Tryz.underlying201 hi0 hz0 hz1 hz2 rfl (by decide) _ (i) (rcells [.i64, .i64] lp) rfl (by have q := h.rp; rwa [hlen.out] at q) ⟨w7.heap.size, 0, none⟩ 1 1 [.int .i64 (e), .int .i64 (y1)] rfl rfl (news_block hEe) (by simp [Value.oneCell']) (by unfold maxLen; omega) (by omega) (by have := h.hx; omega) ?_
      intro v' w9 hown' hgr hfr
      have hown2 : OwnsOff w9 (X + 1) 176 2 v' (lp ++ [[e, y1]]).length (rcells [.i64, .i64] (lp ++ [[e, y1]])) := by rw [rcells_app, List.length_append, hlen.out]; exact hown'
      obtain ⟨hh9, z0, f0, h9⟩ := h.appp hXW.out hgr hown2 hfr
      obtain ⟨A', cc', rfl, hcc1, hcc2⟩ := hown'.slice
      have hP9 := (hgr.block wr.heap.size (Array.getElem?_eq_some_iff.1 hP8).1 (fun e => by have := HL.out _ e.symm; omega)).trans hP8
      clear hP8
      have H9 := Lib.hid h9
      clear h h9 hown2 hown' hfr hEe hgr hHeld
      refine hK.out _ _ (⟨hh9, hP9⟩) (fun hHeld => ?_)
      clear hK K
      (try simp only [Act.put, List.setIfInBounds_toArray, List.set_cons_zero, List.set_cons_succ, List.getElem_toArray, List.getElem_cons_zero, List.getElem_cons_succ])
      refine till_take (i := 8) rfl (by kernel_rfl) (by kernel_rfl) (by kernel_rfl) (fun _ _ _ h => h) (by kernel_rfl) (Or.inl ⟨by rfl, by intro w _; (go_simp <;> with_reducible rfl)⟩) (by assumption) ?_
      (try simp only [Act.put, List.setIfInBounds_toArray, List.set_cons_zero, List.set_cons_succ, List.getElem_toArray, List.getElem_cons_zero, List.getElem_cons_succ])
      clear hHeld
      refine till_last (by kernel_rfl) rfl (fun K hK => ?_)
      go_simp
      refine hK.out _ _ ?_
      clear hK K
      (try simp only [Act.put, List.setIfInBounds_toArray, List.set_cons_zero, List.set_cons_succ, List.getElem_toArray, List.getElem_cons_zero, List.getElem_cons_succ])
      refine till_done (by kernel_rfl) ?_ _
      go_wp2
      go_roundw
      case rel => exact ⟨i + 1, by omega, by go_num, A', cc', by rw [HN.out, HNX.out]; exact H9.out⟩
      case measure => simp [intOf]; omega
    · have hii : i = c.parts.length := by omega
      subst hii
      have hC2 := (h.only.block w.heap.size (by have := HS.out; omega) (by have := HRW.out; have := HX.out; show ¬ (w.heap.size = rb ∨ X ≤ w.heap.size); omega)).trans HC.out
      have c1 := cell_blk hC2 (i := 1) rfl
      have H1 := Lib.hid (show Rows3 W X rb (.slice Ap c.parts.length cp) (.slice none 0 0) (.slice none 0 0) (pvL c c.parts.length) ([]) ([]) (beforeN c 0) wr from by rw [beforeN_zero]; exact h)
      clear h hC2 hlt
      simp only [cfgCells] at c1
      go_wp2
      clear c1
      go_loopw [30] (fun ix wv => ∃ k : Nat, k ≤ c.chans.length ∧ ix = .int .i64 k ∧ ∃ As cs Ad cd, Rows3 W X rb (.slice Ap c.parts.length cp) (.slice As k cs) (.slice Ad k cd) (pvL c c.parts.length) (srL c k) (dsL c k) (beforeN c k) wv) (fun ix _ => c.chans.length - (intOf ix).toNat)
      case atStart => exact ⟨0, Nat.zero_le _, rfl, none, 0, none, 0, H1.out⟩
      case round =>
        clear H1
        obtain ⟨k, hk, rfl, As, cs, Ad, cd, h⟩ := hrel
        by_cases hlt : k < c.chans.length
        · obtain ⟨b, o, x0, x1, x2, x3, x4, x5, x6, e0, _, e1, -, hrow⟩ := HIN.out.rc.at7 wx.wc hlt
          obtain ⟨q0, q1, q2, q3, q4, q5, q6⟩ := hrow _ (h.below hXW.out)
          obtain ⟨a1, a2, a3, a4, a5, _⟩ := HA.out.chan k hlt
          rw [row_at e1] at a1 a2 a3 a4 a5
          have hsr := srcN_in a1 a2 a3 a4 a5
          have hs := HB4.out k (by omega)
          have HCZ := Lib.hid (fun w' => srcsz_b x0 x1 x2 x3 x4 x5 x6 w' a1 a2 a3 a4 a5)
          have hnx : beforeN c (k + 1) = beforeN c k + srcN [x0, x1, x2, x3, x4, x5, x6] + 1 := by rw [beforeN_succ, row_at e1]
          have HNS := Lib.hid (show srL c (k + 1) = srL c k ++ [[beforeN c k, srcN [x0, x1, x2, x3, x4, x5, x6]]] by rw [srL_succ, row_at e1])
          have HND := Lib.hid (show dsL c (k + 1) = dsL c k ++ [[beforeN c k + srcN [x0, x1, x2, x3, x4, x5, x6], 1]] by rw [dsL_succ, row_at e1])
          have hlen := Lib.hid (srL_len c k)
          have hlend := Lib.hid (dsL_len c k)
          have HNX := Lib.hid hnx
          obtain ⟨s, hsq⟩ : ∃ s, srcN [x0, x1, x2, x3, x4, x5, x6] = s := ⟨_, rfl⟩
          obtain ⟨e, he⟩ : ∃ e, beforeN c k = e := ⟨_, rfl⟩
          obtain ⟨ls, hls⟩ : ∃ ls, srL c k = ls := ⟨_, rfl⟩
          obtain ⟨ld, hld⟩ : ∃ ld, dsL c k = ld := ⟨_, rfl⟩
          rw [hsq] at HCZ HNX HNS HND hsr
          rw [he] at HNX HNS HND hs h
          rw [hls] at hlen HNS h
          rw [hld] at hlend HND h
          have HL := Lib.hid (fun g (hg : (Value.slice As k cs).ownBlock = some g) => (h.rs.lt g hg).2)
          have HLT := Lib.hid (show rb < wr.heap.size from Nat.lt_trans h.lt h.hx)
          have hPb := heap_alloc_new wr (.cells #[.int .i64 x0, .int .i64 x1, .int .i64 x2, .int .i64 x3, .int .i64 x4, .int .i64 x5, .int .u32 x6] 58)
          obtain ⟨wa, hwa⟩ : ∃ u, Hid (u = wr.alloc (.cells #[.int .i64 x0, .int .i64 x1, .int .i64 x2, .int .i64 x3, .int .i64 x4, .int .i64 x5, .int .u32 x6] 58)) := ⟨_, rfl⟩
          rw [← hwa.out] at hPb
          have h := h.keptB (show Below wr.heap.size wr wa by rw [hwa.out]; exact (Below.refl _ _).alloc (Nat.le_refl _) _)
          clear e1 hrow hnx hsq he hls hld a1 a2 a3 a4 a5
          subst e0
          go_wp2_with (rw [← hwa.out])
          clear q0 q1 q2 q3 q4 q5 q6
          refine wp_region_till (fun W' => W'.heap[X]? = some (.cells #[.slice Ap c.parts.length cp, .slice As k cs, .slice Ad k cd] 203 (0, 0)) ∧ W'.heap[wr.heap.size]? = some (.cells #[.int .i64 x0, .int .i64 x1, .int .i64 x2, .int .i64 x3, .int .i64 x4, .int .i64 x5, .int .u32 x6] 58 (0, 0))) 9 (by kernel_rfl) (⟨h.head, hPb⟩) (fun hHeld => ?_)
          refine till_take (i := 0) rfl (by kernel_rfl) (by kernel_rfl) (by kernel_rfl) (fun _ _ _ h => h) (by kernel_rfl) (Or.inl ⟨by rfl, by intro w _; (go_simp <;> with_reducible rfl)⟩) (by assumption) ?_
          (try simp only [Act.put, List.setIfInBounds_toArray, List.set_cons_zero, List.set_cons_succ, List.getElem_toArray, List.getElem_cons_zero, List.getElem_cons_succ])
          refine till_load (i := 1) rfl (by kernel_rfl) (by kernel_rfl) (by kernel_rfl) (fun _ _ _ h => h) (by kernel_rfl) (by kernel_rfl) (by kernel_rfl) (Or.inl ⟨by rfl, by intro w hSw; (have q := cell_blk hSw.1 (i := 1) rfl); (go_simp <;> with_reducible rfl)⟩) (by assumption) ?_
          (try simp only [Act.put, List.setIfInBounds_toArray, List.set_cons_zero, List.set_cons_succ, List.getElem_toArray, List.getElem_cons_zero, List.getElem_cons_succ])
          refine till_take (i := 2) rfl (by kernel_rfl) (by kernel_rfl) (by kernel_rfl) (fun _ _ _ h => h) (by kernel_rfl) (Or.inl ⟨by rfl, by intro w _; (go_simp <;> with_reducible rfl)⟩) (by assumption) ?_
          (try simp only [Act.put, List.setIfInBounds_toArray, List.set_cons_zero, List.set_cons_succ, List.getElem_toArray, List.getElem_cons_zero, List.getElem_cons_succ])
          refine till_load (i := 3) rfl (by kernel_rfl) (by kernel_rfl) (by kernel_rfl) (fun _ _ _ h => h) (by kernel_rfl) (by kernel_rfl) (by kernel_rfl) (Or.inl ⟨by rfl, by intro w hSw; (have q0 := cell_blk hSw.2 (i := 0) rfl; have q1 := cell_blk hSw.2 (i := 1) rfl; have q2 := cell_blk hSw.2 (i := 2) rfl; have q3 := cell_blk hSw.2 (i := 3) rfl; have q4 := cell_blk hSw.2 (i := 4) rfl; have q5 := cell_blk hSw.2 (i := 5) rfl; have q6 := cell_blk hSw.2 (i := 6) rfl); (go_simp <;> with_reducible rfl)⟩) (by assumption) ?_
          (try simp only [Act.put, List.setIfInBounds_toArray, List.set_cons_zero, List.set_cons_succ, List.getElem_toArray, List.getElem_cons_zero, List.getElem_cons_succ])
          have h := h.keptB (Below.refl _ _).drew
          refine till_one (i := 4) (by kernel_rfl) rfl (fun K hK => ?_)
          go_simp
          refine (HCZ.out _).mono ?_
          rintro e5 w6 ⟨rfl, hl6⟩
          (try go_wp2_with fail)
          have h := h.keptB hl6
          have hP6 := (hl6.block wr.heap.size (Array.getElem?_eq_some_iff.1 hPb).1).trans hPb
          clear hl6 hPb hHeld
          refine hK.out _ _ (⟨h.head, hP6⟩) (fun hHeld => ?_)
          clear hK K
          (try simp only [Act.put, List.setIfInBounds_toArray, List.set_cons_zero, List.set_cons_succ, List.getElem_toArray, List.getElem_cons_zero, List.getElem_cons_succ])
          refine till_one (i := 5) (by kernel_rfl) rfl (fun K hK => ?_)
          go_simp
          refine (put_b rb e s _ h.en (by omega)).mono ?_
          rintro e5 w7 ⟨rfl, hE7, hO7⟩
          (try go_wp2_with fail)
          have h := h.put hO7 hE7
          have hP7 := (hO7.block wr.heap.size (Array.getElem?_eq_some_iff.1 hP6).1 (by show ¬ wr.heap.size = rb; have := HLT.out; omega)).trans hP6
          clear hE7 hP6 hO7 hHeld
          refine hK.out _ _ (⟨h.head, hP7⟩) (fun hHeld => ?_)
          clear hK K
          (try simp only [Act.put, List.setIfInBounds_toArray, List.set_cons_zero, List.set_cons_succ, List.getElem_toArray, List.getElem_cons_zero, List.getElem_cons_succ])
          refine till_one (i := 6) (by kernel_rfl) rfl (fun K hK => ?_)
          go_simp
          obtain ⟨w8, hw8⟩ : ∃ u, Hid (u = w7.alloc (.cells #[.int .i64 (e), .int .i64 (s)] 176)) := ⟨_, rfl⟩
          rw [← hw8.out]
          have hl : Below w7.heap.size w7 w8 := by rw [hw8.out]; exact (Below.refl _ _).alloc (Nat.le_refl _) _
          have hEe : w8.heap[w7.heap.size]? = some (.cells #[.int .i64 (e), .int .i64 (s)] 176 (0, 0)) := by rw [hw8.out]; exact heap_alloc_new _ _
          have h := h.keptB hl
          have hP8 := (hl.block wr.heap.size (Array.getElem?_eq_some_iff.1 hP7).1).trans hP7
          clear hP7
          clear hl hHeld
          refine hK.out _ _ (⟨h.head, hP8⟩) (fun hHeld => ?_)
          clear hK K
          (try simp only [Act.put, List.setIfInBounds_toArray, List.set_cons_zero, List.set_cons_succ, List.getElem_toArray, List.getElem_cons_zero, List.getElem_cons_succ])
          refine till_one (i := 7) (by kernel_rfl) rfl (fun K hK => ?_)
          refine step_append_off rfl _ _ 201 rfl (X + 1) 176 i0 (.agg #[.int .i64 0, .int .i64 0]) 2 16 Tryz.underlying201 hi0 hz0 hz1 hz2 rfl (by decide) _ (k) (rcells [.i64, .i64] ls) rfl (by have q := h.rs; rwa [hlen.out] at q) ⟨w7.heap.size, 0, none⟩ 1 1 [.int .i64 (e), .int .i64 (s)] rfl rfl (news_block hEe) (by simp [Value.oneCell']) (by unfold maxLen; omega) (by omega) (by have := h.hx; omega) ?_
          intro v' w9 hown' hgr hfr
          have hown2 : OwnsOff w9 (X + 1) 176 2 v' (ls ++ [[e, s]]).length (rcells [.i64, .i64] (ls ++ [[e, s]])) := by rw [rcells_app, List.length_append, hlen.out]; exact hown'
          obtain ⟨hh9, z0, f0, h9⟩ := h.apps hXW.out hgr hown2 hfr
          obtain ⟨A', cc', rfl, hcc1, hcc2⟩ := hown'.slice
          have hP9 := (hgr.block wr.heap.size (Array.getElem?_eq_some_iff.1 hP8).1 (fun e => by have := HL.out _ e.symm; omega)).trans hP8
          clear hP8
          have H9 := Lib.hid h9
          clear h h9 hown2 hown' hfr hEe hgr hHeld
          refine hK.out _ _ (⟨hh9, hP9⟩) (fun hHeld => ?_)
          clear hK K
          (try simp only [Act.put, List.setIfInBounds_toArray, List.set_cons_zero, List.set_cons_succ, List.getElem_toArray, List.getElem_cons_zero, List.getElem_cons_succ])
          refine till_take (i := 8) rfl (by kernel_rfl) (by kernel_rfl) (by kernel_rfl) (fun _ _ _ h => h) (by kernel_rfl) (Or.inl ⟨by rfl, by intro w _; (go_simp <;> with_reducible rfl)⟩) (by assumption) ?_
          (try simp only [Act.put, List.setIfInBounds_toArray, List.set_cons_zero, List.set_cons_succ, List.getElem_toArray, List.getElem_cons_zero, List.getElem_cons_succ])
          clear hHeld
          refine till_last (by kernel_rfl) rfl (fun K hK => ?_)
          go_simp
          refine hK.out _ _ ?_
          clear hK K
          (try simp only [Act.put, List.setIfInBounds_toArray, List.set_cons_zero, List.set_cons_succ, List.getElem_toArray, List.getElem_cons_zero, List.getElem_cons_succ])
          refine till_done (by kernel_rfl) ?_ _
          clear hP9 hh9 z0 f0 HL hwa
          obtain ⟨wb, hwb⟩ : ∃ u, Hid (u = w9.setCell ⟨X, 1, none⟩ (.slice A' (k + 1) cc')) := ⟨_, rfl⟩
          have h := H9.out
          rw [← hwb.out] at h ⊢
          clear H9 hwb
          go_wp2_with fail
          refine wp_region_till (fun W' => W'.heap[X]? = some (.cells #[.slice Ap c.parts.length cp, .slice A' (k + 1) cc', .slice Ad k cd] 203 (0, 0))) 7 (by kernel_rfl) (h.head) (fun hHeld => ?_)
          refine till_take (i := 0) rfl (by kernel_rfl) (by kernel_rfl) (by kernel_rfl) (fun _ _ _ h => h) (by kernel_rfl) (Or.inl ⟨by rfl, by intro w _; (go_simp <;> with_reducible rfl)⟩) (by assumption) ?_
          (try simp only [Act.put, List.setIfInBounds_toArray, List.set_cons_zero, List.set_cons_succ, List.getElem_toArray, List.getElem_cons_zero, List.getElem_cons_succ])
          refine till_load (i := 1) rfl (by kernel_rfl) (by kernel_rfl) (by kernel_rfl) (fun _ _ _ h => h) (by kernel_rfl) (by kernel_rfl) (by kernel_rfl) (Or.inl ⟨by rfl, by intro w hSw; (have q := cell_blk hSw (i := 2) rfl); (go_simp <;> with_reducible rfl)⟩) (by assumption) ?_
          (try simp only [Act.put, List.setIfInBounds_toArray, List.set_cons_zero, List.set_cons_succ, List.getElem_toArray, List.getElem_cons_zero, List.getElem_cons_succ])
          refine till_take (i := 2) rfl (by kernel_rfl) (by kernel_rfl) (by kernel_rfl) (fun _ _ _ h => h) (by kernel_rfl) (Or.inl ⟨by rfl, by intro w _; (go_simp <;> with_reducible rfl)⟩) (by assumption) ?_
          (try simp only [Act.put, List.setIfInBounds_toArray, List.set_cons_zero, List.set_cons_succ, List.getElem_toArray, List.getElem_cons_zero, List.getElem_cons_succ])
          have h := h.keptB (Below.refl _ _).drew
          refine till_one (i := 3) (by kernel_rfl) rfl (fun K hK => ?_)
          go_simp
          refine (put_b rb (e + s) 1 _ h.en (by omega)).mono ?_
          rintro e5 w7 ⟨rfl, hE7, hO7⟩
          (try go_wp2_with fail)
          have h := h.put hO7 hE7
          clear hE7 hO7 hHeld
          refine hK.out _ _ (h.head) (fun hHeld => ?_)
          clear hK K
          (try simp only [Act.put, List.setIfInBounds_toArray, List.set_cons_zero, List.set_cons_succ, List.getElem_toArray, List.getElem_cons_zero, List.getElem_cons_succ])
          refine till_one (i := 4) (by kernel_rfl) rfl (fun K hK => ?_)
          go_simp
          obtain ⟨w8, hw8⟩ : ∃ u, Hid (u = w7.alloc (.cells #[.int .i64 (e + s), .int .i64 (1)] 176)) := ⟨_, rfl⟩
          rw [← hw8.out]
          have hl : Below w7.heap.size w7 w8 := by rw [hw8.out]; exact (Below.refl _ _).alloc (Nat.le_refl _) _
          have hEe : w8.heap[w7.heap.size]? = some (.cells #[.int .i64 (e + s), .int .i64 (1)] 176 (0, 0)) := by rw [hw8.out]; exact heap_alloc_new _ _
          have h := h.keptB hl

          clear hl hHeld
          refine hK.out _ _ (h.head) (fun hHeld => ?_)
          clear hK K
          (try simp only [Act.put, List.setIfInBounds_toArray, List.set_cons_zero, List.set_cons_succ, List.getElem_toArray, List.getElem_cons_zero, List.getElem_cons_succ])
          refine till_one (i := 5) (by kernel_rfl) rfl (fun K hK => ?_)
          refine step_append_off rfl _ _ 201 rfl (X + 1) 176 i0 (.agg #[.int .i64 0, .int .i64 0]) 2 16 Tryz.underlying201 hi0 hz0 hz1 hz2 rfl (by decide) _ (k) (rcells [.i64, .i64] ld) rfl (by have q := h.rd; rwa [hlend.out] at q) ⟨w7.heap.size, 0, none⟩ 1 1 [.int .i64 (e + s), .int .i64 (1)] rfl rfl (news_block hEe) (by simp [Value.oneCell']) (by unfold maxLen; omega) (by omega) (by have := h.hx; omega) ?_
          intro v' w9 hown' hgr hfr
          have hown2 : OwnsOff w9 (X + 1) 176 2 v' (ld ++ [[e + s, 1]]).length (rcells [.i64, .i64] (ld ++ [[e + s, 1]])) := by rw [rcells_app, List.length_append, hlend.out]; exact hown'
          obtain ⟨hh9, z0, f0, h9⟩ := h.appd hXW.out hgr hown2 hfr
          obtain ⟨A2, cc2, rfl, hcc3, hcc4⟩ := hown'.slice

          have H11 := Lib.hid h9
          clear h h9 hown2 hown' hfr hEe hgr hHeld
          refine hK.out _ _ (hh9) (fun hHeld => ?_)
          clear hK K
          (try simp only [Act.put, List.setIfInBounds_toArray, List.set_cons_zero, List.set_cons_succ, List.getElem_toArray, List.getElem_cons_zero, List.getElem_cons_succ])
          refine till_take (i := 6) rfl (by kernel_rfl) (by kernel_rfl) (by kernel_rfl) (fun _ _ _ h => h) (by kernel_rfl) (Or.inl ⟨by rfl, by intro w _; (go_simp <;> with_reducible rfl)⟩) (by assumption) ?_
          (try simp only [Act.put, List.setIfInBounds_toArray, List.set_cons_zero, List.set_cons_succ, List.getElem_toArray, List.getElem_cons_zero, List.getElem_cons_succ])
          clear hHeld
          refine till_last (by kernel_rfl) rfl (fun K hK => ?_)
          go_simp
          refine hK.out _ _ ?_
          clear hK K
          (try simp only [Act.put, List.setIfInBounds_toArray, List.set_cons_zero, List.set_cons_succ, List.getElem_toArray, List.getElem_cons_zero, List.getElem_cons_succ])
          refine till_done (by kernel_rfl) ?_ _
          go_wp2
          go_roundw
          case rel => exact ⟨k + 1, by omega, by go_num, A', cc', A2, cc2, by rw [HNS.out, HND.out, HNX.out]; exact H11.out⟩
          case measure => simp [intOf]; omega
        · have hkk : k = c.chans.length := by omega
          subst hkk
          have hR2 := (h.only.block (w.heap.size + 1) (by have := HS.out; omega) (by have := HRW.out; have := HX.out; show ¬ (w.heap.size + 1 = rb ∨ X ≤ w.heap.size + 1); omega)).trans HR.out
          have hh := h.head
          have z0 := cell_blk hh (i := 0) rfl
          have z1 := cell_blk hh (i := 1) rfl
          have z2 := cell_blk hh (i := 2) rfl
          have f0 : wr.frozen? ⟨w.heap.size + 1, 0, none⟩ = false := by simp [World.frozen?, hR2]
          have f1 : wr.frozen? ⟨w.heap.size + 1, 1, none⟩ = false := by simp [World.frozen?, hR2]
          have f2 : wr.frozen? ⟨w.heap.size + 1, 2, none⟩ = false := by simp [World.frozen?, hR2]
          have y0 := cell_blk hR2 (i := 0) rfl
          have y1 := cell_blk hR2 (i := 1) rfl
          have y2 := cell_blk hR2 (i := 2) rfl
          have HH := Lib.hid h; have HR2 := Lib.hid hR2
          clear h hh hR2
          go_wp2
          have hRz : (((wr.setCell ⟨w.heap.size + 1, 0, none⟩ (.slice Ap c.parts.length cp)).setCell ⟨w.heap.size + 1, 1, none⟩ (.slice As c.chans.length cs)).setCell ⟨w.heap.size + 1, 2, none⟩ (.slice Ad c.chans.length cd)).heap[w.heap.size + 1]? = some (.cells #[.slice Ap c.parts.length cp, .slice As c.chans.length cs, .slice Ad c.chans.length cd] 203 (0, 0)) := by simp [World.setCell, Array.getElem?_modify, HR2.out]
          have hO := ((Only.setCell wr ⟨w.heap.size + 1, 0, none⟩ (.slice Ap c.parts.length cp)).trans (Only.setCell _ ⟨w.heap.size + 1, 1, none⟩ (.slice As c.chans.length cs))).trans (Only.setCell _ ⟨w.heap.size + 1, 2, none⟩ (.slice Ad c.chans.length cd))
          have hx := HX.out
          have hb := HB.out
          have ho := HH.out.only
          have hs := HS.out
          have n1 := pvL_len c c.parts.length
          have n2 := srL_len c c.chans.length
          have n3 := dsL_len c c.chans.length
          have r1 := HH.out.rp
          have r2 := HH.out.rs
          have r3 := HH.out.rd
          rw [n1] at r1; rw [n2] at r2; rw [n3] at r3
          refine bodyPost_ret (results_cell_places rfl _ _ (w.heap.size + 1) _ _ _ rfl (cell_blk hRz (i := 0) rfl) (cell_blk hRz (i := 1) rfl) (cell_blk hRz (i := 2) rfl)) rfl ⟨_, _, _, rfl, ?_, ?_, ?_, ?_⟩
          · exact (r1.kept hO (fun k hk e => by have := (r1.lt k hk).1; have : k = w.heap.size + 1 := e; omega)).mono (by omega)
          · exact (r2.kept hO (fun k hk e => by have := (r2.lt k hk).1; have : k = w.heap.size + 1 := e; omega)).mono (by omega)
          · exact (r3.kept hO (fun k hk e => by have := (r3.lt k hk).1; have : k = w.heap.size + 1 := e; omega)).mono (by omega)
          · have h1 := hb.size
            have h2 := ho.size
            exact ⟨hO.os.trans (ho.os.trans hb.os), hO.tape.trans (ho.tape.trans hb.tape), hO.output.trans (ho.output.trans hb.output), Nat.le_trans h1 (Nat.le_trans h2 hO.size),
              fun k hk hne => (hO.block k (by omega) (by show ¬ k = w.heap.size + 1; omega)).trans ((ho.block k (by omega) (by have : ¬ k = rb := hne; show ¬ (k = rb ∨ X ≤ k); omega)).trans (hb.block k hk))⟩
end Go.Proofs.YtmhpcgcloojfbaaGreatDoor
