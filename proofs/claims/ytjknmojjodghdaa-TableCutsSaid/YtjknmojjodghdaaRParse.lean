/- The document's Parse, as a contract. No condition but those in the statements. -/
import Derived.Test.YtjknmojjodghdaaWins
namespace Go.Proofs.Ytjknmojjodghdaa
open Go.RowKit Go.Sort Go.ChangeShapes Go.WideShapes
set_option linter.unusedVariables false
set_option linter.unusedSimpArgs false

theorem count_is (K p c a b : Nat) (w : World) (hp : p ≤ 64) (hc : c ≤ 64) (ha : a ≤ 64) (hb : b ≤ 64) (hK : 6 + 2 * p + 7 * c + 3 * a + 3 * b = K) :
    Calls Try.prog 26 #[.int .i64 (p : Int), .int .i64 (c : Int), .int .i64 (a : Int), .int .i64 (b : Int)] w fun e w' => e = .returned (.int .i64 (K : Int)) ∧ w = w' :=
  (count_b p c a b w hp hc ha hb).mono fun _ _ h => ⟨by rw [h.1, ← hK]; congr 2, h.2⟩
theorem OwnsOff.apart {w : World} {base base' : Nat} {e e' : TypeId} {s s' : Nat} {v v' : Value} {n n' : Nat} {xs xs' : List Value} (h : OwnsOff w base e s v n xs) (h' : OwnsOff w base' e' s' v' n' xs') (hne : e ≠ e') : ∀ k, v.ownBlock = some k → v'.ownBlock ≠ some k := fun k hk hk' => by
  obtain ⟨cs, hc⟩ := h.typed k hk
  obtain ⟨cs', hc'⟩ := h'.typed k hk'
  rw [hc] at hc'; injection hc' with hc'; injection hc' with _ hc' _; exact hne hc'

set_option maxRecDepth 100000 in
set_option maxHeartbeats 16000000 in
theorem rparse_b (xs : List Int) (A : Option Addr) (c : Nat) (w : World) (hl : xs.length ≤ 2000) (h3 : IntRowK .u32 w w.heap.size A xs) (hw : wfW xs) :
    Calls Try.prog 10 #[.slice A xs.length c] w (GivesCfg w (parseO xs) (parseE xs)) := by
  by_cases hlen : xs.length < 6
  · have g : (xs.length : Int) < 6 := by omega
    have HE := Lib.hid (parseE_six hlen)
    go_enter Try.func10, Try.ntmps10
    go_wp2
    exact bodyPost_ret (v := .tuple #[.agg #[.slice none 0 0, .slice none 0 0, .int .i64 0, .slice none 0 0, .int .i64 0, .slice none 0 0], .int .i64 8]) (by simp [results, Try.results10, go_sem]) rfl (fin_no xs 8 w _ _ HE.out (by decide) (((Below.refl _ _).alloc (Nat.le_refl _) _).alloc (by simp) _) (Only.refl _ _))
  have g : ¬ (xs.length : Int) < 6 := by omega
  have HL6 := Lib.hid hlen
  have hrow := h3
  obtain ⟨b, o, rfl, hb, hc⟩ := h3 (by omega)
  have hl6 : 6 ≤ xs.length := by omega
  obtain ⟨u0, HU⟩ : ∃ u0, Hid (u0 = (w.alloc (.cells #[.slice none 0 0, .slice none 0 0, .int .i64 0, .slice none 0 0, .int .i64 0, .slice none 0 0] 31)).alloc (.cells #[.slice none 0 0, .slice none 0 0, .int .i64 0, .slice none 0 0, .int .i64 0, .slice none 0 0] 31)) := ⟨_, rfl⟩
  have hbU : Below w.heap.size w u0 := by rw [HU.out]; exact ((Below.refl _ _).alloc (Nat.le_refl _) _).alloc (by simp) _
  have hres : u0.heap[w.heap.size]? = some (.cells #[.slice none 0 0, .slice none 0 0, .int .i64 0, .slice none 0 0, .int .i64 0, .slice none 0 0] 31 (0, 0)) := by
    rw [HU.out, Below.heap_alloc _ _ _ (by simp)]; exact heap_alloc_new _ _
  have hnon : u0.heap[w.heap.size + 1]? = some (.cells #[.slice none 0 0, .slice none 0 0, .int .i64 0, .slice none 0 0, .int .i64 0, .slice none 0 0] 31 (0, 0)) := by
    have h := heap_alloc_new (w.alloc (.cells #[.slice none 0 0, .slice none 0 0, .int .i64 0, .slice none 0 0, .int .i64 0, .slice none 0 0] 31)) (.cells #[.slice none 0 0, .slice none 0 0, .int .i64 0, .slice none 0 0, .int .i64 0, .slice none 0 0] 31)
    rw [World.size_alloc] at h
    rw [HU.out]; exact h
  have hsu : u0.heap.size = w.heap.size + 2 := by rw [HU.out]; simp
  have HSU := Lib.hid hsu
  have hsu2 : w.heap.size + 2 ≤ u0.heap.size := by omega
  clear hsu hlen
  have w0 := wfW_at hw 0
  have w1 := wfW_at hw 1
  have w2 := wfW_at hw 2
  have w3 := wfW_at hw 3
  have w4 := wfW_at hw 4
  have w5 := wfW_at hw 5
  have d0 := word_on hb hc (i := 0) (by omega) rfl u0 hbU
  have d1 := word_on hb hc (i := 1) (by omega) rfl u0 hbU
  have d2 := word_on hb hc (i := 2) (by omega) rfl u0 hbU
  have d3 := word_on hb hc (i := 3) (by omega) rfl u0 hbU
  have d4 := word_on hb hc (i := 4) (by omega) rfl u0 hbU
  have d5 := word_on hb hc (i := 5) (by omega) rfl u0 hbU
  generalize hx0 : xs.getD 0 0 = X0 at w0 d0
  have HX0 := Lib.hid hx0
  clear hx0
  generalize hx1 : xs.getD 1 0 = X1 at w1 d1
  have HX1 := Lib.hid hx1
  clear hx1
  generalize hx2 : xs.getD 2 0 = X2 at w2 d2
  have HX2 := Lib.hid hx2
  clear hx2
  generalize hx3 : xs.getD 3 0 = X3 at w3 d3
  have HX3 := Lib.hid hx3
  clear hx3
  generalize hx4 : xs.getD 4 0 = X4 at w4 d4
  have HX4 := Lib.hid hx4
  clear hx4
  generalize hx5 : xs.getD 5 0 = X5 at w5 d5
  have HX5 := Lib.hid hx5
  clear hx5
  rw [Nat.add_zero] at d0
  have c0 := d0
  have c1 := d1
  have c3 := d3
  have c5 := d5
  rw [HU.out] at c0 c1 c3 c5
  have HM := Lib.hid (show manyB xs = decide (64 < max4 X0 X1 X3 X5) by unfold manyB; rw [HX0.out, HX1.out, HX3.out, HX5.out])
  have HRES := Lib.hid hres
  have HNON := Lib.hid hnon
  have HBU := Lib.hid hbU
  clear hres hnon hbU
  by_cases g0 : 64 < X0
  · have HE := Lib.hid (show parseE xs = 7 from parseE_many HL6.out (by rw [HM.out]; exact decide_eq_true (by unfold max4; omega)))
    go_enter Try.func10, Try.ntmps10
    go_wp2
    exact bodyPost_ret (v := .tuple #[.agg #[.slice none 0 0, .slice none 0 0, .int .i64 0, .slice none 0 0, .int .i64 0, .slice none 0 0], .int .i64 7]) (by simp [results, Try.results10, go_sem]) rfl (fin_no xs 7 w _ _ HE.out (by decide) (((Below.refl _ _).alloc (Nat.le_refl _) _).alloc (by simp) _) (Only.refl _ _))
  · by_cases g1 : 64 < X1
    · have HE := Lib.hid (show parseE xs = 7 from parseE_many HL6.out (by rw [HM.out]; exact decide_eq_true (by unfold max4; omega)))
      go_enter Try.func10, Try.ntmps10
      go_wp2
      exact bodyPost_ret (v := .tuple #[.agg #[.slice none 0 0, .slice none 0 0, .int .i64 0, .slice none 0 0, .int .i64 0, .slice none 0 0], .int .i64 7]) (by simp [results, Try.results10, go_sem]) rfl (fin_no xs 7 w _ _ HE.out (by decide) (((Below.refl _ _).alloc (Nat.le_refl _) _).alloc (by simp) _) (Only.refl _ _))
    · by_cases g2 : 64 < X3
      · have HE := Lib.hid (show parseE xs = 7 from parseE_many HL6.out (by rw [HM.out]; exact decide_eq_true (by unfold max4; omega)))
        go_enter Try.func10, Try.ntmps10
        go_wp2
        exact bodyPost_ret (v := .tuple #[.agg #[.slice none 0 0, .slice none 0 0, .int .i64 0, .slice none 0 0, .int .i64 0, .slice none 0 0], .int .i64 7]) (by simp [results, Try.results10, go_sem]) rfl (fin_no xs 7 w _ _ HE.out (by decide) (((Below.refl _ _).alloc (Nat.le_refl _) _).alloc (by simp) _) (Only.refl _ _))
      · by_cases g3 : 64 < X5
        · have HE := Lib.hid (show parseE xs = 7 from parseE_many HL6.out (by rw [HM.out]; exact decide_eq_true (by unfold max4; omega)))
          go_enter Try.func10, Try.ntmps10
          go_wp2
          exact bodyPost_ret (v := .tuple #[.agg #[.slice none 0 0, .slice none 0 0, .int .i64 0, .slice none 0 0, .int .i64 0, .slice none 0 0], .int .i64 7]) (by simp [results, Try.results10, go_sem]) rfl (fin_no xs 7 w _ _ HE.out (by decide) (((Below.refl _ _).alloc (Nat.le_refl _) _).alloc (by simp) _) (Only.refl _ _))
        · have HMF := Lib.hid (show manyB xs = false by rw [HM.out]; exact decide_eq_false (by unfold max4; omega))
          obtain ⟨m0, rfl⟩ := Int.eq_ofNat_of_zero_le w0.1
          obtain ⟨m1, rfl⟩ := Int.eq_ofNat_of_zero_le w1.1
          obtain ⟨m3, rfl⟩ := Int.eq_ofNat_of_zero_le w3.1
          obtain ⟨m5, rfl⟩ := Int.eq_ofNat_of_zero_le w5.1
          have N0 := Lib.hid (show nP xs = m0 by unfold nP; rw [HX0.out]; rfl)
          have N1 := Lib.hid (show nC xs = m1 by unfold nC; rw [HX1.out]; rfl)
          have N3 := Lib.hid (show nA xs = m3 by unfold nA; rw [HX3.out]; rfl)
          have N5 := Lib.hid (show nB xs = m5 by unfold nB; rw [HX5.out]; rfl)
          have hb0 : m0 ≤ 64 := by omega
          have hb1 : m1 ≤ 64 := by omega
          have hb3 : m3 ≤ 64 := by omega
          have hb5 : m5 ≤ 64 := by omega
          have HK := Lib.hid (show countN xs = 6 + 2 * m0 + 7 * m1 + 3 * m3 + 3 * m5 by unfold countN; rw [N0.out, N1.out, N3.out, N5.out])
          obtain ⟨k, hk⟩ : ∃ k, 6 + 2 * m0 + 7 * m1 + 3 * m3 + 3 * m5 = k := ⟨_, rfl⟩
          have HKK := Lib.hid hk
          rw [hk] at HK
          obtain ⟨l2, u2'⟩ := w2
          obtain ⟨l4, u4'⟩ := w4
          have e0 : ∀ p : Regrown, (grow (redrawn u0 p.d) p.os).cell? ⟨b, o, none⟩ = some (.int .u32 (m0 : Int)) := fun p => cell_regrown d0 p.d p.os
          have e1 : ∀ p : Regrown, (grow (redrawn u0 p.d) p.os).cell? ⟨b, o + 1, none⟩ = some (.int .u32 (m1 : Int)) := fun p => cell_regrown d1 p.d p.os
          have e3 : ∀ p : Regrown, (grow (redrawn u0 p.d) p.os).cell? ⟨b, o + 3, none⟩ = some (.int .u32 (m3 : Int)) := fun p => cell_regrown d3 p.d p.os
          have e5 : ∀ p : Regrown, (grow (redrawn u0 p.d) p.os).cell? ⟨b, o + 5, none⟩ = some (.int .u32 (m5 : Int)) := fun p => cell_regrown d5 p.d p.os
          have hbc := Below.refl u0.heap.size u0
          clear hk w0 w1 w3 w5 HM
          go_enter Try.func10, Try.ntmps10
          go_wp2_with fail
          rw [← HU.out]
          (with_reducible refine wp_on hbc (by kernel_rfl) (by kernel_rfl) ?_); (repeat (go_big_quiet_step (fail))); with_reducible refine wpQuiet_nil ?_; intro wc hbc
          have hresc := (hbc.block w.heap.size (by omega)).trans HRES.out
          have hnonc := (hbc.block (w.heap.size + 1) (by omega)).trans HNON.out
          have z0 : wc.cell? ⟨w.heap.size, 0, none⟩ = some (.slice none 0 0) := cell_blk hresc rfl
          have f0 : wc.frozen? ⟨w.heap.size, 0, none⟩ = false := by simp [World.frozen?, hresc]
          have n0 : wc.cell? ⟨w.heap.size + 1, 0, none⟩ = some (.slice none 0 0) := cell_blk hnonc rfl
          have z1 : wc.cell? ⟨w.heap.size, 1, none⟩ = some (.slice none 0 0) := cell_blk hresc rfl
          have f1 : wc.frozen? ⟨w.heap.size, 1, none⟩ = false := by simp [World.frozen?, hresc]
          have n1 : wc.cell? ⟨w.heap.size + 1, 1, none⟩ = some (.slice none 0 0) := cell_blk hnonc rfl
          have z2 : wc.cell? ⟨w.heap.size, 2, none⟩ = some (.int .i64 0) := cell_blk hresc rfl
          have f2 : wc.frozen? ⟨w.heap.size, 2, none⟩ = false := by simp [World.frozen?, hresc]
          have n2 : wc.cell? ⟨w.heap.size + 1, 2, none⟩ = some (.int .i64 0) := cell_blk hnonc rfl
          have z3 : wc.cell? ⟨w.heap.size, 3, none⟩ = some (.slice none 0 0) := cell_blk hresc rfl
          have f3 : wc.frozen? ⟨w.heap.size, 3, none⟩ = false := by simp [World.frozen?, hresc]
          have n3 : wc.cell? ⟨w.heap.size + 1, 3, none⟩ = some (.slice none 0 0) := cell_blk hnonc rfl
          have z4 : wc.cell? ⟨w.heap.size, 4, none⟩ = some (.int .i64 0) := cell_blk hresc rfl
          have f4 : wc.frozen? ⟨w.heap.size, 4, none⟩ = false := by simp [World.frozen?, hresc]
          have n4 : wc.cell? ⟨w.heap.size + 1, 4, none⟩ = some (.int .i64 0) := cell_blk hnonc rfl
          have z5 : wc.cell? ⟨w.heap.size, 5, none⟩ = some (.slice none 0 0) := cell_blk hresc rfl
          have f5 : wc.frozen? ⟨w.heap.size, 5, none⟩ = false := by simp [World.frozen?, hresc]
          have n5 : wc.cell? ⟨w.heap.size + 1, 5, none⟩ = some (.slice none 0 0) := cell_blk hnonc rfl
          have HRC := Lib.hid hresc
          have HBC := Lib.hid (HBU.out.trans (hbc.mono HBU.out.size))
          have hsc : w.heap.size + 2 ≤ wc.heap.size := Nat.le_trans hsu2 hbc.size
          clear hresc hnonc hbc e0 e1 e3 e5 d0 d1 d2 d3 d4 d5 c0 c1 c3 c5
          go_wp2_with fail
          refine (count_is k m0 m1 m3 m5 _ hb0 hb1 hb3 hb5 HKK.out).mono ?_
          rintro e w' ⟨rfl, rfl⟩
          by_cases hsh : xs.length < k
          · have hshI : (xs.length : Int) < (k : Int) := by omega
            have HE := Lib.hid (show parseE xs = 8 from parseE_short HL6.out HMF.out (by rw [HK.out]; exact hsh))
            go_wp2
            generalize hwf : ((((((wc.setCell ⟨w.heap.size, 0, none⟩ (.slice none 0 0)).setCell ⟨w.heap.size, 1, none⟩ (.slice none 0 0)).setCell ⟨w.heap.size, 2, none⟩ (.int .i64 0)).setCell ⟨w.heap.size, 3, none⟩ (.slice none 0 0)).setCell ⟨w.heap.size, 4, none⟩ (.int .i64 0)).setCell ⟨w.heap.size, 5, none⟩ (.slice none 0 0)) = wf
            have hfin : wf.heap[w.heap.size]? = some (.cells #[.slice none 0 0, .slice none 0 0, .int .i64 0, .slice none 0 0, .int .i64 0, .slice none 0 0] 31 (0, 0)) := by rw [← hwf]; simp [World.setCell, Array.getElem?_modify, HRC.out]
            have y0 : wf.cell? ⟨w.heap.size, 0, none⟩ = some (.slice none 0 0) := cell_blk hfin rfl
            have y1 : wf.cell? ⟨w.heap.size, 1, none⟩ = some (.slice none 0 0) := cell_blk hfin rfl
            have y2 : wf.cell? ⟨w.heap.size, 2, none⟩ = some (.int .i64 0) := cell_blk hfin rfl
            have y3 : wf.cell? ⟨w.heap.size, 3, none⟩ = some (.slice none 0 0) := cell_blk hfin rfl
            have y4 : wf.cell? ⟨w.heap.size, 4, none⟩ = some (.int .i64 0) := cell_blk hfin rfl
            have y5 : wf.cell? ⟨w.heap.size, 5, none⟩ = some (.slice none 0 0) := cell_blk hfin rfl
            have hF : Only (fun j => j = w.heap.size) wc wf := by rw [← hwf]; exact (((((Only.setCell _ ⟨w.heap.size, 0, none⟩ _).trans (Only.setCell _ ⟨w.heap.size, 1, none⟩ _)).trans (Only.setCell _ ⟨w.heap.size, 2, none⟩ _)).trans (Only.setCell _ ⟨w.heap.size, 3, none⟩ _)).trans (Only.setCell _ ⟨w.heap.size, 4, none⟩ _)).trans (Only.setCell _ ⟨w.heap.size, 5, none⟩ _)
            exact bodyPost_ret (v := .tuple #[.agg #[.slice none 0 0, .slice none 0 0, .int .i64 0, .slice none 0 0, .int .i64 0, .slice none 0 0], .int .i64 8]) (by simp [results, Try.results10, go_sem, y0, y1, y2, y3, y4, y5]) rfl (fin_no xs 8 w wc wf HE.out (by decide) HBC.out hF)
          · have hshI : ¬ (xs.length : Int) < (k : Int) := by omega
            go_wp2_with fail
            refine (count_is k m0 m1 m3 m5 _ hb0 hb1 hb3 hb5 HKK.out).mono ?_
            rintro e w' ⟨rfl, rfl⟩
            by_cases hre : k < xs.length
            · have hreI : (k : Int) < (xs.length : Int) := by omega
              have HE := Lib.hid (show parseE xs = 9 from parseE_rest HL6.out HMF.out (by rw [HK.out]; exact hre))
              go_wp2
              generalize hwf : ((((((wc.setCell ⟨w.heap.size, 0, none⟩ (.slice none 0 0)).setCell ⟨w.heap.size, 1, none⟩ (.slice none 0 0)).setCell ⟨w.heap.size, 2, none⟩ (.int .i64 0)).setCell ⟨w.heap.size, 3, none⟩ (.slice none 0 0)).setCell ⟨w.heap.size, 4, none⟩ (.int .i64 0)).setCell ⟨w.heap.size, 5, none⟩ (.slice none 0 0)) = wf
              have hfin : wf.heap[w.heap.size]? = some (.cells #[.slice none 0 0, .slice none 0 0, .int .i64 0, .slice none 0 0, .int .i64 0, .slice none 0 0] 31 (0, 0)) := by rw [← hwf]; simp [World.setCell, Array.getElem?_modify, HRC.out]
              have y0 : wf.cell? ⟨w.heap.size, 0, none⟩ = some (.slice none 0 0) := cell_blk hfin rfl
              have y1 : wf.cell? ⟨w.heap.size, 1, none⟩ = some (.slice none 0 0) := cell_blk hfin rfl
              have y2 : wf.cell? ⟨w.heap.size, 2, none⟩ = some (.int .i64 0) := cell_blk hfin rfl
              have y3 : wf.cell? ⟨w.heap.size, 3, none⟩ = some (.slice none 0 0) := cell_blk hfin rfl
              have y4 : wf.cell? ⟨w.heap.size, 4, none⟩ = some (.int .i64 0) := cell_blk hfin rfl
              have y5 : wf.cell? ⟨w.heap.size, 5, none⟩ = some (.slice none 0 0) := cell_blk hfin rfl
              have hF : Only (fun j => j = w.heap.size) wc wf := by rw [← hwf]; exact (((((Only.setCell _ ⟨w.heap.size, 0, none⟩ _).trans (Only.setCell _ ⟨w.heap.size, 1, none⟩ _)).trans (Only.setCell _ ⟨w.heap.size, 2, none⟩ _)).trans (Only.setCell _ ⟨w.heap.size, 3, none⟩ _)).trans (Only.setCell _ ⟨w.heap.size, 4, none⟩ _)).trans (Only.setCell _ ⟨w.heap.size, 5, none⟩ _)
              exact bodyPost_ret (v := .tuple #[.agg #[.slice none 0 0, .slice none 0 0, .int .i64 0, .slice none 0 0, .int .i64 0, .slice none 0 0], .int .i64 9]) (by simp [results, Try.results10, go_sem, y0, y1, y2, y3, y4, y5]) rfl (fin_no xs 9 w wc wf HE.out (by decide) HBC.out hF)
            · have hreI : ¬ (k : Int) < (xs.length : Int) := by omega
              have HE := Lib.hid (show parseE xs = 0 from parseE_ok HL6.out HMF.out (by rw [HK.out]; omega))
              have hK : 6 + 2 * m0 + 7 * m1 + 3 * m3 + 3 * m5 ≤ xs.length := by have := HKK.out; omega
              obtain ⟨W0, hW0⟩ : ∃ W0, Hid (W0 = wc.alloc (.cells #[.slice none 0 0, .slice none 0 0, .int .i64 0, .slice none 0 0, .int .i64 0, .slice none 0 0] 31)) := ⟨_, rfl⟩
              have hXb : W0.heap[wc.heap.size]? = some (.cells #[.slice none 0 0, .slice none 0 0, .int .i64 0, .slice none 0 0, .int .i64 0, .slice none 0 0] 31 (0, 0)) := by rw [hW0.out]; exact heap_alloc_new _ _
              have hb0c : Below wc.heap.size wc W0 := by rw [hW0.out]; exact (Below.refl _ _).alloc (Nat.le_refl _) _
              have HW0 := Lib.hid (HBC.out.trans (hb0c.mono HBC.out.size))
              have HR0 := Lib.hid ((hb0c.block w.heap.size (by omega)).trans HRC.out)
              have hX0' : w.heap.size + 2 ≤ wc.heap.size := hsc
              have hs0 := hb0c.size
              clear hb0c z0 f0 n0 z1 f1 n1 z2 f2 n2 z3 f3 n3 z4 f4 n4 z5 f5 n5
              obtain ⟨i2, hi2, hz20, hz21, hz22⟩ := info_parts Try.info2
              obtain ⟨i7, hi7, hz70, hz71, hz72⟩ := info_parts Try.info7
              go_wp2_with (rw [← hW0.out])
              generalize hXX : wc.heap.size = X at hXb hX0' hs0 hsc
              clear hXX
              have hX0 := Lib.hid (show w.heap.size ≤ X by omega)
              go_loopw [10] (fun ix wr => ∃ i : Nat, i ≤ m0 ∧ ix = .int .i64 i ∧ ∃ (l : List (List Int)) (a : Option Addr) (cc : Nat), rowsAt xs 6 2 i = l ∧ wr.heap[X]? = some (.cells #[.slice a l.length cc, .slice none 0 0, .int .i64 0, .slice none 0 0, .int .i64 0, .slice none 0 0] 31 (0, 0)) ∧ OwnsOff wr (X + 1) 55 2 (.slice a l.length cc) l.length (rcells [.i64, .i64] l) ∧ Below X W0 wr) (fun ix _ => m0 - (intOf ix).toNat)
              case atStart => exact ⟨0, Nat.zero_le _, rfl, [], none, 0, rfl, hXb, OwnsOff.nil _ _ _ _, Below.refl _ _⟩
              case round =>
                clear hXb
                obtain ⟨i, him, rfl, l, a, cc, hl, hX, hown, hbX⟩ := hrel
                have hXl : X < wr.heap.size := (Array.getElem?_eq_some_iff.1 hX).1
                by_cases hlt : i < m0
                · have HS := Lib.hid (hl ▸ rowsAt_succ xs 6 2 i)
                  have HC := Lib.hid (show chunk xs (6 + 2 * i) 2 = [xs.getD (6 + 2 * i) 0, xs.getD (7 + 2 * i) 0] by rw [chunk2, show 6 + 2 * i + 1 = 7 + 2 * i by omega])
                  have hll : l.length ≤ 64 := by rw [← hl, rowsAt_len]; omega
                  clear hl
                  have b0 := wfW_at hw (6 + 2 * i)
                  have b1 := wfW_at hw (7 + 2 * i)
                  generalize hx0 : xs.getD (6 + 2 * i) 0 = x0 at b0
                  have HX0 := Lib.hid hx0
                  clear hx0
                  generalize hx1 : xs.getD (7 + 2 * i) 0 = x1 at b1
                  have HX1 := Lib.hid hx1
                  clear hx1
                  have k0 : ∀ W', Below X W0 W' → W'.cell? ⟨b, o + (6 + 2 * i), none⟩ = some (.int .u32 x0) := fun W' hW => word_on hb hc (by omega) HX0.out W' (HW0.out.trans (hW.mono hX0.out))
                  obtain ⟨y0, t0⟩ := b0
                  have v0 := IntWalk.i64_in x0 (by omega)
                  have k1 : ∀ W', Below X W0 W' → W'.cell? ⟨b, o + (7 + 2 * i), none⟩ = some (.int .u32 x1) := fun W' hW => word_on hb hc (by omega) HX1.out W' (HW0.out.trans (hW.mono hX0.out))
                  obtain ⟨y1, t1⟩ := b1
                  have v1 := IntWalk.i64_in x1 (by omega)
                  have s0 := IntWalk.i64_in (2 * (i : Int)) (by omega)
                  have p0a : IntKind.i64.wrap (6 + 2 * (i : Int)) = 6 + 2 * (i : Int) := IntWalk.i64_in _ (by omega)
                  have p0b : (0 : Int) ≤ 6 + 2 * (i : Int) := by omega
                  have p0c : (6 + 2 * (i : Int)).toNat = 6 + 2 * i := by omega
                  have p0d : 6 + 2 * (i : Int) < (xs.length : Int) := by omega
                  have p1a : IntKind.i64.wrap (7 + 2 * (i : Int)) = 7 + 2 * (i : Int) := IntWalk.i64_in _ (by omega)
                  have p1b : (0 : Int) ≤ 7 + 2 * (i : Int) := by omega
                  have p1c : (7 + 2 * (i : Int)).toNat = 7 + 2 * i := by omega
                  have p1d : 7 + 2 * (i : Int) < (xs.length : Int) := by omega
                  have z0 : wr.cell? ⟨X, 0, none⟩ = some (.slice a l.length cc) := cell_blk hX rfl
                  go_wp2_with fail
                  refine wp_region_held_drew (S := (fun W' => Below X W0 W')) (by kernel_rfl) (hbX.drew) (fun hHeld => ?_)
                  refine wpAnyH_take (i := 0) rfl (by kernel_rfl) (by kernel_rfl) (by kernel_rfl) (fun _ _ _ h => h) (Or.inl ⟨by rfl, by intro w hSw; (have q0 := k0 _ hSw; have q1 := k1 _ hSw); (go_simp <;> with_reducible rfl)⟩) (by assumption) ?_
                  (try simp only [Act.put, List.setIfInBounds_toArray, List.set_cons_zero, List.set_cons_succ, List.getElem_toArray, List.getElem_cons_zero, List.getElem_cons_succ])
                  refine wpAnyH_take (i := 2) rfl (by kernel_rfl) (by kernel_rfl) (by kernel_rfl) (fun _ _ _ h => h) (Or.inl ⟨by rfl, by intro w hSw; (have q0 := k0 _ hSw; have q1 := k1 _ hSw); (go_simp <;> with_reducible rfl)⟩) (by assumption) ?_
                  (try simp only [Act.put, List.setIfInBounds_toArray, List.set_cons_zero, List.set_cons_succ, List.getElem_toArray, List.getElem_cons_zero, List.getElem_cons_succ])
                  refine wpAnyH_take (i := 3) rfl (by kernel_rfl) (by kernel_rfl) (by kernel_rfl) (fun _ _ _ h => h) (Or.inl ⟨by rfl, by intro w hSw; (have q0 := k0 _ hSw; have q1 := k1 _ hSw); (go_simp <;> with_reducible rfl)⟩) (by assumption) ?_
                  (try simp only [Act.put, List.setIfInBounds_toArray, List.set_cons_zero, List.set_cons_succ, List.getElem_toArray, List.getElem_cons_zero, List.getElem_cons_succ])
                  refine wpAnyH_take (i := 4) rfl (by kernel_rfl) (by kernel_rfl) (by kernel_rfl) (fun _ _ _ h => h) (Or.inl ⟨by rfl, by intro w hSw; (have q0 := k0 _ hSw; have q1 := k1 _ hSw); (go_simp <;> with_reducible rfl)⟩) (by assumption) ?_
                  (try simp only [Act.put, List.setIfInBounds_toArray, List.set_cons_zero, List.set_cons_succ, List.getElem_toArray, List.getElem_cons_zero, List.getElem_cons_succ])
                  refine wpAnyH_take (i := 5) rfl (by kernel_rfl) (by kernel_rfl) (by kernel_rfl) (fun _ _ _ h => h) (Or.inl ⟨by rfl, by intro w hSw; (have q0 := k0 _ hSw; have q1 := k1 _ hSw); (go_simp <;> with_reducible rfl)⟩) (by assumption) ?_
                  (try simp only [Act.put, List.setIfInBounds_toArray, List.set_cons_zero, List.set_cons_succ, List.getElem_toArray, List.getElem_cons_zero, List.getElem_cons_succ])
                  refine wpAnyH_take (i := 6) rfl (by kernel_rfl) (by kernel_rfl) (by kernel_rfl) (fun _ _ _ h => h) (Or.inl ⟨by rfl, by intro w hSw; (have q0 := k0 _ hSw; have q1 := k1 _ hSw); (go_simp <;> with_reducible rfl)⟩) (by assumption) ?_
                  (try simp only [Act.put, List.setIfInBounds_toArray, List.set_cons_zero, List.set_cons_succ, List.getElem_toArray, List.getElem_cons_zero, List.getElem_cons_succ])
                  refine wpAnyH_take (i := 7) rfl (by kernel_rfl) (by kernel_rfl) (by kernel_rfl) (fun _ _ _ h => h) (Or.inl ⟨by rfl, by intro w hSw; (have q0 := k0 _ hSw; have q1 := k1 _ hSw); (go_simp <;> with_reducible rfl)⟩) (by assumption) ?_
                  (try simp only [Act.put, List.setIfInBounds_toArray, List.set_cons_zero, List.set_cons_succ, List.getElem_toArray, List.getElem_cons_zero, List.getElem_cons_succ])
                  refine wpAnyH_take (i := 8) rfl (by kernel_rfl) (by kernel_rfl) (by kernel_rfl) (fun _ _ _ h => h) (Or.inl ⟨by rfl, by intro w hSw; (have q0 := k0 _ hSw; have q1 := k1 _ hSw); (go_simp <;> with_reducible rfl)⟩) (by assumption) ?_
                  (try simp only [Act.put, List.setIfInBounds_toArray, List.set_cons_zero, List.set_cons_succ, List.getElem_toArray, List.getElem_cons_zero, List.getElem_cons_succ])
                  refine wpAnyH_take (i := 9) rfl (by kernel_rfl) (by kernel_rfl) (by kernel_rfl) (fun _ _ _ h => h) (Or.inl ⟨by rfl, by intro w hSw; (have q0 := k0 _ hSw; have q1 := k1 _ hSw); (go_simp <;> with_reducible rfl)⟩) (by assumption) ?_
                  (try simp only [Act.put, List.setIfInBounds_toArray, List.set_cons_zero, List.set_cons_succ, List.getElem_toArray, List.getElem_cons_zero, List.getElem_cons_succ])
                  refine wpAnyH_take (i := 10) rfl (by kernel_rfl) (by kernel_rfl) (by kernel_rfl) (fun _ _ _ h => h) (Or.inl ⟨by rfl, by intro w hSw; (have q0 := k0 _ hSw; have q1 := k1 _ hSw); (go_simp <;> with_reducible rfl)⟩) (by assumption) ?_
                  (try simp only [Act.put, List.setIfInBounds_toArray, List.set_cons_zero, List.set_cons_succ, List.getElem_toArray, List.getElem_cons_zero, List.getElem_cons_succ])
                  refine wpAnyH_take (i := 11) rfl (by kernel_rfl) (by kernel_rfl) (by kernel_rfl) (fun _ _ _ h => h) (Or.inl ⟨by rfl, by intro w hSw; (have q0 := k0 _ hSw; have q1 := k1 _ hSw); (go_simp <;> with_reducible rfl)⟩) (by assumption) ?_
                  (try simp only [Act.put, List.setIfInBounds_toArray, List.set_cons_zero, List.set_cons_succ, List.getElem_toArray, List.getElem_cons_zero, List.getElem_cons_succ])
                  refine wpAnyH_take (i := 12) rfl (by kernel_rfl) (by kernel_rfl) (by kernel_rfl) (fun _ _ _ h => h) (Or.inl ⟨by rfl, by intro w hSw; (have q0 := k0 _ hSw; have q1 := k1 _ hSw); (go_simp <;> with_reducible rfl)⟩) (by assumption) ?_
                  (try simp only [Act.put, List.setIfInBounds_toArray, List.set_cons_zero, List.set_cons_succ, List.getElem_toArray, List.getElem_cons_zero, List.getElem_cons_succ])
                  refine wpAnyH_take (i := 13) rfl (by kernel_rfl) (by kernel_rfl) (by kernel_rfl) (fun _ _ _ h => h) (Or.inl ⟨by rfl, by intro w hSw; (have q0 := k0 _ hSw; have q1 := k1 _ hSw); (go_simp <;> with_reducible rfl)⟩) (by assumption) ?_
                  (try simp only [Act.put, List.setIfInBounds_toArray, List.set_cons_zero, List.set_cons_succ, List.getElem_toArray, List.getElem_cons_zero, List.getElem_cons_succ])
                  refine wpAnyH_take (i := 14) rfl (by kernel_rfl) (by kernel_rfl) (by kernel_rfl) (fun _ _ _ h => h) (Or.inl ⟨by rfl, by intro w hSw; (have q0 := k0 _ hSw; have q1 := k1 _ hSw); (go_simp <;> with_reducible rfl)⟩) (by assumption) ?_
                  (try simp only [Act.put, List.setIfInBounds_toArray, List.set_cons_zero, List.set_cons_succ, List.getElem_toArray, List.getElem_cons_zero, List.getElem_cons_succ])
                  refine wpAnyH_take (i := 15) rfl (by kernel_rfl) (by kernel_rfl) (by kernel_rfl) (fun _ _ _ h => h) (Or.inl ⟨by rfl, by intro w hSw; (have q0 := k0 _ hSw; have q1 := k1 _ hSw); (go_simp <;> with_reducible rfl)⟩) (by assumption) ?_
                  (try simp only [Act.put, List.setIfInBounds_toArray, List.set_cons_zero, List.set_cons_succ, List.getElem_toArray, List.getElem_cons_zero, List.getElem_cons_succ])
                  refine wpAnyH_take (i := 16) rfl (by kernel_rfl) (by kernel_rfl) (by kernel_rfl) (fun _ _ _ h => h) (Or.inl ⟨by rfl, by intro w hSw; (have q0 := k0 _ hSw; have q1 := k1 _ hSw); (go_simp <;> with_reducible rfl)⟩) (by assumption) ?_
                  (try simp only [Act.put, List.setIfInBounds_toArray, List.set_cons_zero, List.set_cons_succ, List.getElem_toArray, List.getElem_cons_zero, List.getElem_cons_succ])
                  refine wpAnyH_ready (rs := [1, 17]) (by kernel_rfl) (by simp) (AllReadyH.cons rfl (fun K hK => ?_) (AllReadyH.cons rfl (fun K hK => ?_) AllReadyH.nil))
                  · go_simp
                    refine hK.out _ _ (hbX.drew) (fun hHeld => ?_)
                    clear hK K
                    (try simp only [Act.put, List.setIfInBounds_toArray, List.set_cons_zero, List.set_cons_succ, List.getElem_toArray, List.getElem_cons_zero, List.getElem_cons_succ])
                    refine wpAnyH_ready (rs := [17]) (by kernel_rfl) (by simp) (AllReadyH.cons rfl (fun K hK => ?_) AllReadyH.nil)
                    go_simp
                    refine hK.out _ _ ((hbX.alloc (by omega) _).drew) (fun hHeld => ?_)
                    clear hK K
                    (try simp only [Act.put, List.setIfInBounds_toArray, List.set_cons_zero, List.set_cons_succ, List.getElem_toArray, List.getElem_cons_zero, List.getElem_cons_succ])
                    refine wpAnyH_ready (rs := [18]) (by kernel_rfl) (by simp) (AllReadyH.cons rfl (fun K hK => ?_) AllReadyH.nil)
                    refine step_append_off rfl _ _ 24 rfl (X + 1) 55 i2 (.agg #[.int .i64 0, .int .i64 0]) 2 16 Try.underlying24 hi2 hz20 hz21 hz22 rfl (by decide) _ _ _ rfl (hown.keptB ((Below.refl _ _).alloc (Nat.le_refl _) _).drew) _ 1 1 [.int .i64 x0, .int .i64 x1] rfl rfl (fun j u h => news_rw wr _ _ j u h) (by simp [Value.oneCell']) (by unfold maxLen; omega) (by omega) (by simp; omega) ?_
                    intro v' w2 hown' hgrow _
                    have hon : Only (fun j => some j = (Value.slice a l.length cc).ownBlock) wr w2 := (Only.of_below ((Below.refl _ _).alloc (Nat.le_refl _) _).drew).trans (Only.of_grown hgrow)
                    have hge : ∀ j, some j = (Value.slice a l.length cc).ownBlock → X + 1 ≤ j := fun j e => (hown.lt j e.symm).1
                    have hX2 := (hon.block X hXl (fun e => by have := hge X e; omega)).trans hX
                    have hb2 := (hbX.trans (hon.below (B := X) (by omega) (fun j e => by have := hge j e; omega)))
                    obtain ⟨a', cc', rfl, hcc', hcm'⟩ := hown'.slice
                    have z0 : w2.cell? ⟨X, 0, none⟩ = some (.slice a l.length cc) := cell_blk hX2 rfl
                    have f0 : w2.frozen? ⟨X, 0, none⟩ = false := by simp [World.frozen?, hX2]
                    have hX3 : (w2.setCell ⟨X, 0, none⟩ (.slice a' (l.length + 1) cc')).heap[X]? = some (.cells #[(.slice a' (l.length + 1) cc'), .slice none 0 0, .int .i64 0, .slice none 0 0, .int .i64 0, .slice none 0 0] 31 (0, 0)) := by simp [World.setCell, Array.getElem?_modify, hX2]
                    have hown3 : OwnsOff (w2.setCell ⟨X, 0, none⟩ (.slice a' (l.length + 1) cc')) (X + 1) 55 2 (.slice a' (l ++ [[x0, x1]]).length cc') (l ++ [[x0, x1]]).length (rcells [.i64, .i64] (l ++ [[x0, x1]])) := by
                      have h := hown'.kept (Only.setCell w2 ⟨X, 0, none⟩ (.slice a' (l.length + 1) cc')) (fun k hk e => by have := (hown'.lt k hk).1; have : k = X := e; omega)
                      rw [List.length_append, rcells_app]; exact h
                    have hb3 := hb2.setCell (p := ⟨X, 0, none⟩) (Nat.le_refl _) (.slice a' (l.length + 1) cc')

                    have B3 := Lib.hid hb3; have O3 := Lib.hid hown3; have X3 := Lib.hid hX3; have H2 := Lib.hid hb2
                    clear hown' hgrow hon hge hown3 hX3 hb3 hX2 hb2 hX hown hbX
                    refine hK.out _ _ H2.out (fun hHeld => ?_)
                    clear hK K
                    (try simp only [Act.put, List.setIfInBounds_toArray, List.set_cons_zero, List.set_cons_succ, List.getElem_toArray, List.getElem_cons_zero, List.getElem_cons_succ])
                    refine wpAnyH_take (i := 19) rfl (by kernel_rfl) (by kernel_rfl) (by kernel_rfl) (fun _ _ _ h => h) (Or.inl ⟨by rfl, by intro w hSw; (have q0 := k0 _ hSw; have q1 := k1 _ hSw); (go_simp <;> with_reducible rfl)⟩) (by assumption) ?_
                    (try simp only [Act.put, List.setIfInBounds_toArray, List.set_cons_zero, List.set_cons_succ, List.getElem_toArray, List.getElem_cons_zero, List.getElem_cons_succ])
                    refine wpAnyH_ready (rs := [20]) (by kernel_rfl) (by simp) (AllReadyH.cons rfl (fun K hK => ?_) AllReadyH.nil)
                    go_simp
                    refine hK.out _ _ B3.out (fun hHeld => ?_)
                    clear hK K
                    (try simp only [Act.put, List.setIfInBounds_toArray, List.set_cons_zero, List.set_cons_succ, List.getElem_toArray, List.getElem_cons_zero, List.getElem_cons_succ])
                    refine wpAnyH_done (by kernel_rfl) ?_ _
                    clear z0 s0 p0a p0c p1a p1c v0 v1
                    go_wp2
                    go_roundw
                    case rel => exact ⟨i + 1, by omega, by go_num, [[x0, x1]].foldl (fun l x => l ++ [x]) l, a', cc', by rw [HS.out, HC.out, HX0.out, HX1.out]; rfl, by simpa using X3.out, O3.out, B3.out⟩
                    case measure => simp [intOf]; omega
                  · go_simp
                    refine hK.out _ _ ((hbX.alloc (by omega) _).drew) (fun hHeld => ?_)
                    clear hK K
                    (try simp only [Act.put, List.setIfInBounds_toArray, List.set_cons_zero, List.set_cons_succ, List.getElem_toArray, List.getElem_cons_zero, List.getElem_cons_succ])
                    refine wpAnyH_ready (rs := [1]) (by kernel_rfl) (by simp) (AllReadyH.cons rfl (fun K hK => ?_) AllReadyH.nil)
                    have z1 : (wr.alloc (.cells #[.int .i64 x0, .int .i64 x1] 55)).cell? ⟨X, 0, none⟩ = some (.slice a l.length cc) := (((Below.refl _ _).alloc (Nat.le_refl _) _).cell (p := ⟨X, 0, none⟩) hXl).trans (cell_blk hX rfl)
                    go_simp
                    refine hK.out _ _ ((hbX.alloc (by omega) _).drew) (fun hHeld => ?_)
                    clear hK K
                    (try simp only [Act.put, List.setIfInBounds_toArray, List.set_cons_zero, List.set_cons_succ, List.getElem_toArray, List.getElem_cons_zero, List.getElem_cons_succ])
                    clear z1
                    refine wpAnyH_ready (rs := [18]) (by kernel_rfl) (by simp) (AllReadyH.cons rfl (fun K hK => ?_) AllReadyH.nil)
                    refine step_append_off rfl _ _ 24 rfl (X + 1) 55 i2 (.agg #[.int .i64 0, .int .i64 0]) 2 16 Try.underlying24 hi2 hz20 hz21 hz22 rfl (by decide) _ _ _ rfl (hown.keptB ((Below.refl _ _).alloc (Nat.le_refl _) _).drew) _ 1 1 [.int .i64 x0, .int .i64 x1] rfl rfl (fun j u h => news_rw wr _ _ j u h) (by simp [Value.oneCell']) (by unfold maxLen; omega) (by omega) (by simp; omega) ?_
                    intro v' w2 hown' hgrow _
                    have hon : Only (fun j => some j = (Value.slice a l.length cc).ownBlock) wr w2 := (Only.of_below ((Below.refl _ _).alloc (Nat.le_refl _) _).drew).trans (Only.of_grown hgrow)
                    have hge : ∀ j, some j = (Value.slice a l.length cc).ownBlock → X + 1 ≤ j := fun j e => (hown.lt j e.symm).1
                    have hX2 := (hon.block X hXl (fun e => by have := hge X e; omega)).trans hX
                    have hb2 := (hbX.trans (hon.below (B := X) (by omega) (fun j e => by have := hge j e; omega)))
                    obtain ⟨a', cc', rfl, hcc', hcm'⟩ := hown'.slice
                    have z0 : w2.cell? ⟨X, 0, none⟩ = some (.slice a l.length cc) := cell_blk hX2 rfl
                    have f0 : w2.frozen? ⟨X, 0, none⟩ = false := by simp [World.frozen?, hX2]
                    have hX3 : (w2.setCell ⟨X, 0, none⟩ (.slice a' (l.length + 1) cc')).heap[X]? = some (.cells #[(.slice a' (l.length + 1) cc'), .slice none 0 0, .int .i64 0, .slice none 0 0, .int .i64 0, .slice none 0 0] 31 (0, 0)) := by simp [World.setCell, Array.getElem?_modify, hX2]
                    have hown3 : OwnsOff (w2.setCell ⟨X, 0, none⟩ (.slice a' (l.length + 1) cc')) (X + 1) 55 2 (.slice a' (l ++ [[x0, x1]]).length cc') (l ++ [[x0, x1]]).length (rcells [.i64, .i64] (l ++ [[x0, x1]])) := by
                      have h := hown'.kept (Only.setCell w2 ⟨X, 0, none⟩ (.slice a' (l.length + 1) cc')) (fun k hk e => by have := (hown'.lt k hk).1; have : k = X := e; omega)
                      rw [List.length_append, rcells_app]; exact h
                    have hb3 := hb2.setCell (p := ⟨X, 0, none⟩) (Nat.le_refl _) (.slice a' (l.length + 1) cc')

                    have B3 := Lib.hid hb3; have O3 := Lib.hid hown3; have X3 := Lib.hid hX3; have H2 := Lib.hid hb2
                    clear hown' hgrow hon hge hown3 hX3 hb3 hX2 hb2 hX hown hbX
                    refine hK.out _ _ H2.out (fun hHeld => ?_)
                    clear hK K
                    (try simp only [Act.put, List.setIfInBounds_toArray, List.set_cons_zero, List.set_cons_succ, List.getElem_toArray, List.getElem_cons_zero, List.getElem_cons_succ])
                    refine wpAnyH_take (i := 19) rfl (by kernel_rfl) (by kernel_rfl) (by kernel_rfl) (fun _ _ _ h => h) (Or.inl ⟨by rfl, by intro w hSw; (have q0 := k0 _ hSw; have q1 := k1 _ hSw); (go_simp <;> with_reducible rfl)⟩) (by assumption) ?_
                    (try simp only [Act.put, List.setIfInBounds_toArray, List.set_cons_zero, List.set_cons_succ, List.getElem_toArray, List.getElem_cons_zero, List.getElem_cons_succ])
                    refine wpAnyH_ready (rs := [20]) (by kernel_rfl) (by simp) (AllReadyH.cons rfl (fun K hK => ?_) AllReadyH.nil)
                    go_simp
                    refine hK.out _ _ B3.out (fun hHeld => ?_)
                    clear hK K
                    (try simp only [Act.put, List.setIfInBounds_toArray, List.set_cons_zero, List.set_cons_succ, List.getElem_toArray, List.getElem_cons_zero, List.getElem_cons_succ])
                    refine wpAnyH_done (by kernel_rfl) ?_ _
                    clear z0 s0 p0a p0c p1a p1c v0 v1
                    go_wp2
                    go_roundw
                    case rel => exact ⟨i + 1, by omega, by go_num, [[x0, x1]].foldl (fun l x => l ++ [x]) l, a', cc', by rw [HS.out, HC.out, HX0.out, HX1.out]; rfl, by simpa using X3.out, O3.out, B3.out⟩
                    case measure => simp [intOf]; omega
                · have hlP : l = rowsAt xs 6 2 m0 := by rw [← hl, show i = m0 by omega]
                  have HLP := Lib.hid hlP
                  have hownP := hown
                  have hXc := hX
                  have hlPl : l.length ≤ 64 := by rw [hlP, rowsAt_len]; omega
                  clear hl hlP hown hX
                  revert hownP hXc HLP hlPl
                  generalize l = LP
                  generalize a = aP
                  generalize cc = cP
                  intro HLP hownP hXc hlPl
                  have hbL := hbX
                  clear hbX
                  go_wp2
                  go_loopw [11] (fun ix wr => ∃ i : Nat, i ≤ m1 ∧ ix = .int .i64 i ∧ ∃ (l : List (List Int)) (a : Option Addr) (cc : Nat), rowsAt xs (6 + 2 * m0) 7 i = l ∧ wr.heap[X]? = some (.cells #[.slice aP LP.length cP, .slice a l.length cc, .int .i64 0, .slice none 0 0, .int .i64 0, .slice none 0 0] 31 (0, 0)) ∧ OwnsOff wr (X + 1) 59 7 (.slice a l.length cc) l.length (rcells [.i64, .i64, .i64, .i64, .i64, .i64, .u32] l) ∧ OwnsOff wr (X + 1) 55 2 (.slice aP LP.length cP) LP.length (rcells [.i64, .i64] LP) ∧ Below X W0 wr) (fun ix _ => m1 - (intOf ix).toNat)
                  case atStart => exact ⟨0, Nat.zero_le _, rfl, [], none, 0, rfl, hXc, OwnsOff.nil _ _ _ _, hownP, hbL⟩
                  case round =>
                    clear hXc hownP hbL hXl
                    obtain ⟨i, him, rfl, l, a, cc, hl, hX, hown, hownP, hbX⟩ := hrel
                    have hXl : X < wr.heap.size := (Array.getElem?_eq_some_iff.1 hX).1
                    by_cases hlt : i < m1
                    · have HS := Lib.hid (hl ▸ rowsAt_succ xs (6 + 2 * m0) 7 i)
                      obtain ⟨k, hk⟩ : ∃ k, 6 + 2 * m0 + 7 * i = k := ⟨_, rfl⟩
                      have HKI := Lib.hid hk
                      have HC := Lib.hid (chunk7 xs k)
                      have hll : l.length ≤ 64 := by rw [← hl, rowsAt_len]; omega
                      have hki : (6 : Int) + 2 * (m0 : Int) + 7 * (i : Int) = (k : Int) := by omega
                      have hkl : k + 6 < xs.length := by omega
                      clear hl hk
                      go_wp2_with fail
                      have b0 := wfW_at hw (k)
                      have b1 := wfW_at hw (k + 1)
                      have b2 := wfW_at hw (k + 2)
                      have b3 := wfW_at hw (k + 3)
                      have b4 := wfW_at hw (k + 4)
                      have b5 := wfW_at hw (k + 5)
                      have b6 := wfW_at hw (k + 6)
                      generalize hx0 : xs.getD (k) 0 = x0 at b0
                      have HX0 := Lib.hid hx0
                      clear hx0
                      generalize hx1 : xs.getD (k + 1) 0 = x1 at b1
                      have HX1 := Lib.hid hx1
                      clear hx1
                      generalize hx2 : xs.getD (k + 2) 0 = x2 at b2
                      have HX2 := Lib.hid hx2
                      clear hx2
                      generalize hx3 : xs.getD (k + 3) 0 = x3 at b3
                      have HX3 := Lib.hid hx3
                      clear hx3
                      generalize hx4 : xs.getD (k + 4) 0 = x4 at b4
                      have HX4 := Lib.hid hx4
                      clear hx4
                      generalize hx5 : xs.getD (k + 5) 0 = x5 at b5
                      have HX5 := Lib.hid hx5
                      clear hx5
                      generalize hx6 : xs.getD (k + 6) 0 = x6 at b6
                      have HX6 := Lib.hid hx6
                      clear hx6
                      have k0 : ∀ W', Below X W0 W' → W'.cell? ⟨b, o + (k), none⟩ = some (.int .u32 x0) := fun W' hW => word_on hb hc (by omega) HX0.out W' (HW0.out.trans (hW.mono hX0.out))
                      obtain ⟨y0, t0⟩ := b0
                      have v0 := IntWalk.i64_in x0 (by omega)
                      have k1 : ∀ W', Below X W0 W' → W'.cell? ⟨b, o + (k + 1), none⟩ = some (.int .u32 x1) := fun W' hW => word_on hb hc (by omega) HX1.out W' (HW0.out.trans (hW.mono hX0.out))
                      obtain ⟨y1, t1⟩ := b1
                      have v1 := IntWalk.i64_in x1 (by omega)
                      have k2 : ∀ W', Below X W0 W' → W'.cell? ⟨b, o + (k + 2), none⟩ = some (.int .u32 x2) := fun W' hW => word_on hb hc (by omega) HX2.out W' (HW0.out.trans (hW.mono hX0.out))
                      obtain ⟨y2, t2⟩ := b2
                      have v2 := IntWalk.i64_in x2 (by omega)
                      have k3 : ∀ W', Below X W0 W' → W'.cell? ⟨b, o + (k + 3), none⟩ = some (.int .u32 x3) := fun W' hW => word_on hb hc (by omega) HX3.out W' (HW0.out.trans (hW.mono hX0.out))
                      obtain ⟨y3, t3⟩ := b3
                      have v3 := IntWalk.i64_in x3 (by omega)
                      have k4 : ∀ W', Below X W0 W' → W'.cell? ⟨b, o + (k + 4), none⟩ = some (.int .u32 x4) := fun W' hW => word_on hb hc (by omega) HX4.out W' (HW0.out.trans (hW.mono hX0.out))
                      obtain ⟨y4, t4⟩ := b4
                      have v4 := IntWalk.i64_in x4 (by omega)
                      have k5 : ∀ W', Below X W0 W' → W'.cell? ⟨b, o + (k + 5), none⟩ = some (.int .u32 x5) := fun W' hW => word_on hb hc (by omega) HX5.out W' (HW0.out.trans (hW.mono hX0.out))
                      obtain ⟨y5, t5⟩ := b5
                      have v5 := IntWalk.i64_in x5 (by omega)
                      have k6 : ∀ W', Below X W0 W' → W'.cell? ⟨b, o + (k + 6), none⟩ = some (.int .u32 x6) := fun W' hW => word_on hb hc (by omega) HX6.out W' (HW0.out.trans (hW.mono hX0.out))
                      obtain ⟨y6, t6⟩ := b6
                      have v6 := IntWalk.i64_in x6 (by omega)
                      have i0a : (0 : Int) ≤ (k : Int) := by omega
                      have i0d : (k : Int) < (xs.length : Int) := by omega
                      have i1a : IntKind.i64.wrap ((k : Int) + 1) = (k : Int) + 1 := IntWalk.i64_in _ (by omega)
                      have i1b : (0 : Int) ≤ (k : Int) + 1 := by omega
                      have i1c : ((k : Int) + 1).toNat = k + 1 := by omega
                      have i1d : (k : Int) + 1 < (xs.length : Int) := by omega
                      have i2a : IntKind.i64.wrap ((k : Int) + 2) = (k : Int) + 2 := IntWalk.i64_in _ (by omega)
                      have i2b : (0 : Int) ≤ (k : Int) + 2 := by omega
                      have i2c : ((k : Int) + 2).toNat = k + 2 := by omega
                      have i2d : (k : Int) + 2 < (xs.length : Int) := by omega
                      have i3a : IntKind.i64.wrap ((k : Int) + 3) = (k : Int) + 3 := IntWalk.i64_in _ (by omega)
                      have i3b : (0 : Int) ≤ (k : Int) + 3 := by omega
                      have i3c : ((k : Int) + 3).toNat = k + 3 := by omega
                      have i3d : (k : Int) + 3 < (xs.length : Int) := by omega
                      have i4a : IntKind.i64.wrap ((k : Int) + 4) = (k : Int) + 4 := IntWalk.i64_in _ (by omega)
                      have i4b : (0 : Int) ≤ (k : Int) + 4 := by omega
                      have i4c : ((k : Int) + 4).toNat = k + 4 := by omega
                      have i4d : (k : Int) + 4 < (xs.length : Int) := by omega
                      have i5a : IntKind.i64.wrap ((k : Int) + 5) = (k : Int) + 5 := IntWalk.i64_in _ (by omega)
                      have i5b : (0 : Int) ≤ (k : Int) + 5 := by omega
                      have i5c : ((k : Int) + 5).toNat = k + 5 := by omega
                      have i5d : (k : Int) + 5 < (xs.length : Int) := by omega
                      have i6a : IntKind.i64.wrap ((k : Int) + 6) = (k : Int) + 6 := IntWalk.i64_in _ (by omega)
                      have i6b : (0 : Int) ≤ (k : Int) + 6 := by omega
                      have i6c : ((k : Int) + 6).toNat = k + 6 := by omega
                      have i6d : (k : Int) + 6 < (xs.length : Int) := by omega
                      have z0 : wr.cell? ⟨X, 1, none⟩ = some (.slice a l.length cc) := cell_blk hX rfl
                      refine wp_region_held_drew (S := (fun W' => Below X W0 W')) (by kernel_rfl) (hbX.drew) (fun hHeld => ?_)
                      refine wpAnyH_take (i := 0) rfl (by kernel_rfl) (by kernel_rfl) (by kernel_rfl) (fun _ _ _ h => h) (Or.inl ⟨by rfl, by intro w hSw; (have q0 := k0 _ hSw; have q1 := k1 _ hSw; have q2 := k2 _ hSw; have q3 := k3 _ hSw; have q4 := k4 _ hSw; have q5 := k5 _ hSw; have q6 := k6 _ hSw); (go_simp <;> with_reducible rfl)⟩) (by assumption) ?_
                      (try simp only [Act.put, List.setIfInBounds_toArray, List.set_cons_zero, List.set_cons_succ, List.getElem_toArray, List.getElem_cons_zero, List.getElem_cons_succ])
                      refine wpAnyH_take (i := 2) rfl (by kernel_rfl) (by kernel_rfl) (by kernel_rfl) (fun _ _ _ h => h) (Or.inl ⟨by rfl, by intro w hSw; (have q0 := k0 _ hSw; have q1 := k1 _ hSw; have q2 := k2 _ hSw; have q3 := k3 _ hSw; have q4 := k4 _ hSw; have q5 := k5 _ hSw; have q6 := k6 _ hSw); (go_simp <;> with_reducible rfl)⟩) (by assumption) ?_
                      (try simp only [Act.put, List.setIfInBounds_toArray, List.set_cons_zero, List.set_cons_succ, List.getElem_toArray, List.getElem_cons_zero, List.getElem_cons_succ])
                      refine wpAnyH_take (i := 3) rfl (by kernel_rfl) (by kernel_rfl) (by kernel_rfl) (fun _ _ _ h => h) (Or.inl ⟨by rfl, by intro w hSw; (have q0 := k0 _ hSw; have q1 := k1 _ hSw; have q2 := k2 _ hSw; have q3 := k3 _ hSw; have q4 := k4 _ hSw; have q5 := k5 _ hSw; have q6 := k6 _ hSw); (go_simp <;> with_reducible rfl)⟩) (by assumption) ?_
                      (try simp only [Act.put, List.setIfInBounds_toArray, List.set_cons_zero, List.set_cons_succ, List.getElem_toArray, List.getElem_cons_zero, List.getElem_cons_succ])
                      refine wpAnyH_take (i := 4) rfl (by kernel_rfl) (by kernel_rfl) (by kernel_rfl) (fun _ _ _ h => h) (Or.inl ⟨by rfl, by intro w hSw; (have q0 := k0 _ hSw; have q1 := k1 _ hSw; have q2 := k2 _ hSw; have q3 := k3 _ hSw; have q4 := k4 _ hSw; have q5 := k5 _ hSw; have q6 := k6 _ hSw); (go_simp <;> with_reducible rfl)⟩) (by assumption) ?_
                      (try simp only [Act.put, List.setIfInBounds_toArray, List.set_cons_zero, List.set_cons_succ, List.getElem_toArray, List.getElem_cons_zero, List.getElem_cons_succ])
                      refine wpAnyH_take (i := 5) rfl (by kernel_rfl) (by kernel_rfl) (by kernel_rfl) (fun _ _ _ h => h) (Or.inl ⟨by rfl, by intro w hSw; (have q0 := k0 _ hSw; have q1 := k1 _ hSw; have q2 := k2 _ hSw; have q3 := k3 _ hSw; have q4 := k4 _ hSw; have q5 := k5 _ hSw; have q6 := k6 _ hSw); (go_simp <;> with_reducible rfl)⟩) (by assumption) ?_
                      (try simp only [Act.put, List.setIfInBounds_toArray, List.set_cons_zero, List.set_cons_succ, List.getElem_toArray, List.getElem_cons_zero, List.getElem_cons_succ])
                      refine wpAnyH_take (i := 6) rfl (by kernel_rfl) (by kernel_rfl) (by kernel_rfl) (fun _ _ _ h => h) (Or.inl ⟨by rfl, by intro w hSw; (have q0 := k0 _ hSw; have q1 := k1 _ hSw; have q2 := k2 _ hSw; have q3 := k3 _ hSw; have q4 := k4 _ hSw; have q5 := k5 _ hSw; have q6 := k6 _ hSw); (go_simp <;> with_reducible rfl)⟩) (by assumption) ?_
                      (try simp only [Act.put, List.setIfInBounds_toArray, List.set_cons_zero, List.set_cons_succ, List.getElem_toArray, List.getElem_cons_zero, List.getElem_cons_succ])
                      refine wpAnyH_take (i := 7) rfl (by kernel_rfl) (by kernel_rfl) (by kernel_rfl) (fun _ _ _ h => h) (Or.inl ⟨by rfl, by intro w hSw; (have q0 := k0 _ hSw; have q1 := k1 _ hSw; have q2 := k2 _ hSw; have q3 := k3 _ hSw; have q4 := k4 _ hSw; have q5 := k5 _ hSw; have q6 := k6 _ hSw); (go_simp <;> with_reducible rfl)⟩) (by assumption) ?_
                      (try simp only [Act.put, List.setIfInBounds_toArray, List.set_cons_zero, List.set_cons_succ, List.getElem_toArray, List.getElem_cons_zero, List.getElem_cons_succ])
                      refine wpAnyH_take (i := 8) rfl (by kernel_rfl) (by kernel_rfl) (by kernel_rfl) (fun _ _ _ h => h) (Or.inl ⟨by rfl, by intro w hSw; (have q0 := k0 _ hSw; have q1 := k1 _ hSw; have q2 := k2 _ hSw; have q3 := k3 _ hSw; have q4 := k4 _ hSw; have q5 := k5 _ hSw; have q6 := k6 _ hSw); (go_simp <;> with_reducible rfl)⟩) (by assumption) ?_
                      (try simp only [Act.put, List.setIfInBounds_toArray, List.set_cons_zero, List.set_cons_succ, List.getElem_toArray, List.getElem_cons_zero, List.getElem_cons_succ])
                      refine wpAnyH_take (i := 9) rfl (by kernel_rfl) (by kernel_rfl) (by kernel_rfl) (fun _ _ _ h => h) (Or.inl ⟨by rfl, by intro w hSw; (have q0 := k0 _ hSw; have q1 := k1 _ hSw; have q2 := k2 _ hSw; have q3 := k3 _ hSw; have q4 := k4 _ hSw; have q5 := k5 _ hSw; have q6 := k6 _ hSw); (go_simp <;> with_reducible rfl)⟩) (by assumption) ?_
                      (try simp only [Act.put, List.setIfInBounds_toArray, List.set_cons_zero, List.set_cons_succ, List.getElem_toArray, List.getElem_cons_zero, List.getElem_cons_succ])
                      refine wpAnyH_take (i := 10) rfl (by kernel_rfl) (by kernel_rfl) (by kernel_rfl) (fun _ _ _ h => h) (Or.inl ⟨by rfl, by intro w hSw; (have q0 := k0 _ hSw; have q1 := k1 _ hSw; have q2 := k2 _ hSw; have q3 := k3 _ hSw; have q4 := k4 _ hSw; have q5 := k5 _ hSw; have q6 := k6 _ hSw); (go_simp <;> with_reducible rfl)⟩) (by assumption) ?_
                      (try simp only [Act.put, List.setIfInBounds_toArray, List.set_cons_zero, List.set_cons_succ, List.getElem_toArray, List.getElem_cons_zero, List.getElem_cons_succ])
                      refine wpAnyH_take (i := 11) rfl (by kernel_rfl) (by kernel_rfl) (by kernel_rfl) (fun _ _ _ h => h) (Or.inl ⟨by rfl, by intro w hSw; (have q0 := k0 _ hSw; have q1 := k1 _ hSw; have q2 := k2 _ hSw; have q3 := k3 _ hSw; have q4 := k4 _ hSw; have q5 := k5 _ hSw; have q6 := k6 _ hSw); (go_simp <;> with_reducible rfl)⟩) (by assumption) ?_
                      (try simp only [Act.put, List.setIfInBounds_toArray, List.set_cons_zero, List.set_cons_succ, List.getElem_toArray, List.getElem_cons_zero, List.getElem_cons_succ])
                      refine wpAnyH_take (i := 12) rfl (by kernel_rfl) (by kernel_rfl) (by kernel_rfl) (fun _ _ _ h => h) (Or.inl ⟨by rfl, by intro w hSw; (have q0 := k0 _ hSw; have q1 := k1 _ hSw; have q2 := k2 _ hSw; have q3 := k3 _ hSw; have q4 := k4 _ hSw; have q5 := k5 _ hSw; have q6 := k6 _ hSw); (go_simp <;> with_reducible rfl)⟩) (by assumption) ?_
                      (try simp only [Act.put, List.setIfInBounds_toArray, List.set_cons_zero, List.set_cons_succ, List.getElem_toArray, List.getElem_cons_zero, List.getElem_cons_succ])
                      refine wpAnyH_take (i := 13) rfl (by kernel_rfl) (by kernel_rfl) (by kernel_rfl) (fun _ _ _ h => h) (Or.inl ⟨by rfl, by intro w hSw; (have q0 := k0 _ hSw; have q1 := k1 _ hSw; have q2 := k2 _ hSw; have q3 := k3 _ hSw; have q4 := k4 _ hSw; have q5 := k5 _ hSw; have q6 := k6 _ hSw); (go_simp <;> with_reducible rfl)⟩) (by assumption) ?_
                      (try simp only [Act.put, List.setIfInBounds_toArray, List.set_cons_zero, List.set_cons_succ, List.getElem_toArray, List.getElem_cons_zero, List.getElem_cons_succ])
                      refine wpAnyH_take (i := 14) rfl (by kernel_rfl) (by kernel_rfl) (by kernel_rfl) (fun _ _ _ h => h) (Or.inl ⟨by rfl, by intro w hSw; (have q0 := k0 _ hSw; have q1 := k1 _ hSw; have q2 := k2 _ hSw; have q3 := k3 _ hSw; have q4 := k4 _ hSw; have q5 := k5 _ hSw; have q6 := k6 _ hSw); (go_simp <;> with_reducible rfl)⟩) (by assumption) ?_
                      (try simp only [Act.put, List.setIfInBounds_toArray, List.set_cons_zero, List.set_cons_succ, List.getElem_toArray, List.getElem_cons_zero, List.getElem_cons_succ])
                      refine wpAnyH_take (i := 15) rfl (by kernel_rfl) (by kernel_rfl) (by kernel_rfl) (fun _ _ _ h => h) (Or.inl ⟨by rfl, by intro w hSw; (have q0 := k0 _ hSw; have q1 := k1 _ hSw; have q2 := k2 _ hSw; have q3 := k3 _ hSw; have q4 := k4 _ hSw; have q5 := k5 _ hSw; have q6 := k6 _ hSw); (go_simp <;> with_reducible rfl)⟩) (by assumption) ?_
                      (try simp only [Act.put, List.setIfInBounds_toArray, List.set_cons_zero, List.set_cons_succ, List.getElem_toArray, List.getElem_cons_zero, List.getElem_cons_succ])
                      refine wpAnyH_take (i := 16) rfl (by kernel_rfl) (by kernel_rfl) (by kernel_rfl) (fun _ _ _ h => h) (Or.inl ⟨by rfl, by intro w hSw; (have q0 := k0 _ hSw; have q1 := k1 _ hSw; have q2 := k2 _ hSw; have q3 := k3 _ hSw; have q4 := k4 _ hSw; have q5 := k5 _ hSw; have q6 := k6 _ hSw); (go_simp <;> with_reducible rfl)⟩) (by assumption) ?_
                      (try simp only [Act.put, List.setIfInBounds_toArray, List.set_cons_zero, List.set_cons_succ, List.getElem_toArray, List.getElem_cons_zero, List.getElem_cons_succ])
                      refine wpAnyH_take (i := 17) rfl (by kernel_rfl) (by kernel_rfl) (by kernel_rfl) (fun _ _ _ h => h) (Or.inl ⟨by rfl, by intro w hSw; (have q0 := k0 _ hSw; have q1 := k1 _ hSw; have q2 := k2 _ hSw; have q3 := k3 _ hSw; have q4 := k4 _ hSw; have q5 := k5 _ hSw; have q6 := k6 _ hSw); (go_simp <;> with_reducible rfl)⟩) (by assumption) ?_
                      (try simp only [Act.put, List.setIfInBounds_toArray, List.set_cons_zero, List.set_cons_succ, List.getElem_toArray, List.getElem_cons_zero, List.getElem_cons_succ])
                      refine wpAnyH_take (i := 18) rfl (by kernel_rfl) (by kernel_rfl) (by kernel_rfl) (fun _ _ _ h => h) (Or.inl ⟨by rfl, by intro w hSw; (have q0 := k0 _ hSw; have q1 := k1 _ hSw; have q2 := k2 _ hSw; have q3 := k3 _ hSw; have q4 := k4 _ hSw; have q5 := k5 _ hSw; have q6 := k6 _ hSw); (go_simp <;> with_reducible rfl)⟩) (by assumption) ?_
                      (try simp only [Act.put, List.setIfInBounds_toArray, List.set_cons_zero, List.set_cons_succ, List.getElem_toArray, List.getElem_cons_zero, List.getElem_cons_succ])
                      refine wpAnyH_take (i := 19) rfl (by kernel_rfl) (by kernel_rfl) (by kernel_rfl) (fun _ _ _ h => h) (Or.inl ⟨by rfl, by intro w hSw; (have q0 := k0 _ hSw; have q1 := k1 _ hSw; have q2 := k2 _ hSw; have q3 := k3 _ hSw; have q4 := k4 _ hSw; have q5 := k5 _ hSw; have q6 := k6 _ hSw); (go_simp <;> with_reducible rfl)⟩) (by assumption) ?_
                      (try simp only [Act.put, List.setIfInBounds_toArray, List.set_cons_zero, List.set_cons_succ, List.getElem_toArray, List.getElem_cons_zero, List.getElem_cons_succ])
                      refine wpAnyH_take (i := 20) rfl (by kernel_rfl) (by kernel_rfl) (by kernel_rfl) (fun _ _ _ h => h) (Or.inl ⟨by rfl, by intro w hSw; (have q0 := k0 _ hSw; have q1 := k1 _ hSw; have q2 := k2 _ hSw; have q3 := k3 _ hSw; have q4 := k4 _ hSw; have q5 := k5 _ hSw; have q6 := k6 _ hSw); (go_simp <;> with_reducible rfl)⟩) (by assumption) ?_
                      (try simp only [Act.put, List.setIfInBounds_toArray, List.set_cons_zero, List.set_cons_succ, List.getElem_toArray, List.getElem_cons_zero, List.getElem_cons_succ])
                      refine wpAnyH_take (i := 21) rfl (by kernel_rfl) (by kernel_rfl) (by kernel_rfl) (fun _ _ _ h => h) (Or.inl ⟨by rfl, by intro w hSw; (have q0 := k0 _ hSw; have q1 := k1 _ hSw; have q2 := k2 _ hSw; have q3 := k3 _ hSw; have q4 := k4 _ hSw; have q5 := k5 _ hSw; have q6 := k6 _ hSw); (go_simp <;> with_reducible rfl)⟩) (by assumption) ?_
                      (try simp only [Act.put, List.setIfInBounds_toArray, List.set_cons_zero, List.set_cons_succ, List.getElem_toArray, List.getElem_cons_zero, List.getElem_cons_succ])
                      refine wpAnyH_take (i := 22) rfl (by kernel_rfl) (by kernel_rfl) (by kernel_rfl) (fun _ _ _ h => h) (Or.inl ⟨by rfl, by intro w hSw; (have q0 := k0 _ hSw; have q1 := k1 _ hSw; have q2 := k2 _ hSw; have q3 := k3 _ hSw; have q4 := k4 _ hSw; have q5 := k5 _ hSw; have q6 := k6 _ hSw); (go_simp <;> with_reducible rfl)⟩) (by assumption) ?_
                      (try simp only [Act.put, List.setIfInBounds_toArray, List.set_cons_zero, List.set_cons_succ, List.getElem_toArray, List.getElem_cons_zero, List.getElem_cons_succ])
                      refine wpAnyH_take (i := 23) rfl (by kernel_rfl) (by kernel_rfl) (by kernel_rfl) (fun _ _ _ h => h) (Or.inl ⟨by rfl, by intro w hSw; (have q0 := k0 _ hSw; have q1 := k1 _ hSw; have q2 := k2 _ hSw; have q3 := k3 _ hSw; have q4 := k4 _ hSw; have q5 := k5 _ hSw; have q6 := k6 _ hSw); (go_simp <;> with_reducible rfl)⟩) (by assumption) ?_
                      (try simp only [Act.put, List.setIfInBounds_toArray, List.set_cons_zero, List.set_cons_succ, List.getElem_toArray, List.getElem_cons_zero, List.getElem_cons_succ])
                      refine wpAnyH_take (i := 24) rfl (by kernel_rfl) (by kernel_rfl) (by kernel_rfl) (fun _ _ _ h => h) (Or.inl ⟨by rfl, by intro w hSw; (have q0 := k0 _ hSw; have q1 := k1 _ hSw; have q2 := k2 _ hSw; have q3 := k3 _ hSw; have q4 := k4 _ hSw; have q5 := k5 _ hSw; have q6 := k6 _ hSw); (go_simp <;> with_reducible rfl)⟩) (by assumption) ?_
                      (try simp only [Act.put, List.setIfInBounds_toArray, List.set_cons_zero, List.set_cons_succ, List.getElem_toArray, List.getElem_cons_zero, List.getElem_cons_succ])
                      refine wpAnyH_take (i := 25) rfl (by kernel_rfl) (by kernel_rfl) (by kernel_rfl) (fun _ _ _ h => h) (Or.inl ⟨by rfl, by intro w hSw; (have q0 := k0 _ hSw; have q1 := k1 _ hSw; have q2 := k2 _ hSw; have q3 := k3 _ hSw; have q4 := k4 _ hSw; have q5 := k5 _ hSw; have q6 := k6 _ hSw); (go_simp <;> with_reducible rfl)⟩) (by assumption) ?_
                      (try simp only [Act.put, List.setIfInBounds_toArray, List.set_cons_zero, List.set_cons_succ, List.getElem_toArray, List.getElem_cons_zero, List.getElem_cons_succ])
                      refine wpAnyH_take (i := 26) rfl (by kernel_rfl) (by kernel_rfl) (by kernel_rfl) (fun _ _ _ h => h) (Or.inl ⟨by rfl, by intro w hSw; (have q0 := k0 _ hSw; have q1 := k1 _ hSw; have q2 := k2 _ hSw; have q3 := k3 _ hSw; have q4 := k4 _ hSw; have q5 := k5 _ hSw; have q6 := k6 _ hSw); (go_simp <;> with_reducible rfl)⟩) (by assumption) ?_
                      (try simp only [Act.put, List.setIfInBounds_toArray, List.set_cons_zero, List.set_cons_succ, List.getElem_toArray, List.getElem_cons_zero, List.getElem_cons_succ])
                      refine wpAnyH_take (i := 27) rfl (by kernel_rfl) (by kernel_rfl) (by kernel_rfl) (fun _ _ _ h => h) (Or.inl ⟨by rfl, by intro w hSw; (have q0 := k0 _ hSw; have q1 := k1 _ hSw; have q2 := k2 _ hSw; have q3 := k3 _ hSw; have q4 := k4 _ hSw; have q5 := k5 _ hSw; have q6 := k6 _ hSw); (go_simp <;> with_reducible rfl)⟩) (by assumption) ?_
                      (try simp only [Act.put, List.setIfInBounds_toArray, List.set_cons_zero, List.set_cons_succ, List.getElem_toArray, List.getElem_cons_zero, List.getElem_cons_succ])
                      refine wpAnyH_take (i := 28) rfl (by kernel_rfl) (by kernel_rfl) (by kernel_rfl) (fun _ _ _ h => h) (Or.inl ⟨by rfl, by intro w hSw; (have q0 := k0 _ hSw; have q1 := k1 _ hSw; have q2 := k2 _ hSw; have q3 := k3 _ hSw; have q4 := k4 _ hSw; have q5 := k5 _ hSw; have q6 := k6 _ hSw); (go_simp <;> with_reducible rfl)⟩) (by assumption) ?_
                      (try simp only [Act.put, List.setIfInBounds_toArray, List.set_cons_zero, List.set_cons_succ, List.getElem_toArray, List.getElem_cons_zero, List.getElem_cons_succ])
                      refine wpAnyH_take (i := 29) rfl (by kernel_rfl) (by kernel_rfl) (by kernel_rfl) (fun _ _ _ h => h) (Or.inl ⟨by rfl, by intro w hSw; (have q0 := k0 _ hSw; have q1 := k1 _ hSw; have q2 := k2 _ hSw; have q3 := k3 _ hSw; have q4 := k4 _ hSw; have q5 := k5 _ hSw; have q6 := k6 _ hSw); (go_simp <;> with_reducible rfl)⟩) (by assumption) ?_
                      (try simp only [Act.put, List.setIfInBounds_toArray, List.set_cons_zero, List.set_cons_succ, List.getElem_toArray, List.getElem_cons_zero, List.getElem_cons_succ])
                      refine wpAnyH_take (i := 30) rfl (by kernel_rfl) (by kernel_rfl) (by kernel_rfl) (fun _ _ _ h => h) (Or.inl ⟨by rfl, by intro w hSw; (have q0 := k0 _ hSw; have q1 := k1 _ hSw; have q2 := k2 _ hSw; have q3 := k3 _ hSw; have q4 := k4 _ hSw; have q5 := k5 _ hSw; have q6 := k6 _ hSw); (go_simp <;> with_reducible rfl)⟩) (by assumption) ?_
                      (try simp only [Act.put, List.setIfInBounds_toArray, List.set_cons_zero, List.set_cons_succ, List.getElem_toArray, List.getElem_cons_zero, List.getElem_cons_succ])
                      refine wpAnyH_take (i := 31) rfl (by kernel_rfl) (by kernel_rfl) (by kernel_rfl) (fun _ _ _ h => h) (Or.inl ⟨by rfl, by intro w hSw; (have q0 := k0 _ hSw; have q1 := k1 _ hSw; have q2 := k2 _ hSw; have q3 := k3 _ hSw; have q4 := k4 _ hSw; have q5 := k5 _ hSw; have q6 := k6 _ hSw); (go_simp <;> with_reducible rfl)⟩) (by assumption) ?_
                      (try simp only [Act.put, List.setIfInBounds_toArray, List.set_cons_zero, List.set_cons_succ, List.getElem_toArray, List.getElem_cons_zero, List.getElem_cons_succ])
                      refine wpAnyH_take (i := 32) rfl (by kernel_rfl) (by kernel_rfl) (by kernel_rfl) (fun _ _ _ h => h) (Or.inl ⟨by rfl, by intro w hSw; (have q0 := k0 _ hSw; have q1 := k1 _ hSw; have q2 := k2 _ hSw; have q3 := k3 _ hSw; have q4 := k4 _ hSw; have q5 := k5 _ hSw; have q6 := k6 _ hSw); (go_simp <;> with_reducible rfl)⟩) (by assumption) ?_
                      (try simp only [Act.put, List.setIfInBounds_toArray, List.set_cons_zero, List.set_cons_succ, List.getElem_toArray, List.getElem_cons_zero, List.getElem_cons_succ])
                      refine wpAnyH_take (i := 33) rfl (by kernel_rfl) (by kernel_rfl) (by kernel_rfl) (fun _ _ _ h => h) (Or.inl ⟨by rfl, by intro w hSw; (have q0 := k0 _ hSw; have q1 := k1 _ hSw; have q2 := k2 _ hSw; have q3 := k3 _ hSw; have q4 := k4 _ hSw; have q5 := k5 _ hSw; have q6 := k6 _ hSw); (go_simp <;> with_reducible rfl)⟩) (by assumption) ?_
                      (try simp only [Act.put, List.setIfInBounds_toArray, List.set_cons_zero, List.set_cons_succ, List.getElem_toArray, List.getElem_cons_zero, List.getElem_cons_succ])
                      refine wpAnyH_take (i := 34) rfl (by kernel_rfl) (by kernel_rfl) (by kernel_rfl) (fun _ _ _ h => h) (Or.inl ⟨by rfl, by intro w hSw; (have q0 := k0 _ hSw; have q1 := k1 _ hSw; have q2 := k2 _ hSw; have q3 := k3 _ hSw; have q4 := k4 _ hSw; have q5 := k5 _ hSw; have q6 := k6 _ hSw); (go_simp <;> with_reducible rfl)⟩) (by assumption) ?_
                      (try simp only [Act.put, List.setIfInBounds_toArray, List.set_cons_zero, List.set_cons_succ, List.getElem_toArray, List.getElem_cons_zero, List.getElem_cons_succ])
                      refine wpAnyH_take (i := 35) rfl (by kernel_rfl) (by kernel_rfl) (by kernel_rfl) (fun _ _ _ h => h) (Or.inl ⟨by rfl, by intro w hSw; (have q0 := k0 _ hSw; have q1 := k1 _ hSw; have q2 := k2 _ hSw; have q3 := k3 _ hSw; have q4 := k4 _ hSw; have q5 := k5 _ hSw; have q6 := k6 _ hSw); (go_simp <;> with_reducible rfl)⟩) (by assumption) ?_
                      (try simp only [Act.put, List.setIfInBounds_toArray, List.set_cons_zero, List.set_cons_succ, List.getElem_toArray, List.getElem_cons_zero, List.getElem_cons_succ])
                      refine wpAnyH_take (i := 36) rfl (by kernel_rfl) (by kernel_rfl) (by kernel_rfl) (fun _ _ _ h => h) (Or.inl ⟨by rfl, by intro w hSw; (have q0 := k0 _ hSw; have q1 := k1 _ hSw; have q2 := k2 _ hSw; have q3 := k3 _ hSw; have q4 := k4 _ hSw; have q5 := k5 _ hSw; have q6 := k6 _ hSw); (go_simp <;> with_reducible rfl)⟩) (by assumption) ?_
                      (try simp only [Act.put, List.setIfInBounds_toArray, List.set_cons_zero, List.set_cons_succ, List.getElem_toArray, List.getElem_cons_zero, List.getElem_cons_succ])
                      refine wpAnyH_take (i := 37) rfl (by kernel_rfl) (by kernel_rfl) (by kernel_rfl) (fun _ _ _ h => h) (Or.inl ⟨by rfl, by intro w hSw; (have q0 := k0 _ hSw; have q1 := k1 _ hSw; have q2 := k2 _ hSw; have q3 := k3 _ hSw; have q4 := k4 _ hSw; have q5 := k5 _ hSw; have q6 := k6 _ hSw); (go_simp <;> with_reducible rfl)⟩) (by assumption) ?_
                      (try simp only [Act.put, List.setIfInBounds_toArray, List.set_cons_zero, List.set_cons_succ, List.getElem_toArray, List.getElem_cons_zero, List.getElem_cons_succ])
                      refine wpAnyH_take (i := 38) rfl (by kernel_rfl) (by kernel_rfl) (by kernel_rfl) (fun _ _ _ h => h) (Or.inl ⟨by rfl, by intro w hSw; (have q0 := k0 _ hSw; have q1 := k1 _ hSw; have q2 := k2 _ hSw; have q3 := k3 _ hSw; have q4 := k4 _ hSw; have q5 := k5 _ hSw; have q6 := k6 _ hSw); (go_simp <;> with_reducible rfl)⟩) (by assumption) ?_
                      (try simp only [Act.put, List.setIfInBounds_toArray, List.set_cons_zero, List.set_cons_succ, List.getElem_toArray, List.getElem_cons_zero, List.getElem_cons_succ])
                      refine wpAnyH_take (i := 39) rfl (by kernel_rfl) (by kernel_rfl) (by kernel_rfl) (fun _ _ _ h => h) (Or.inl ⟨by rfl, by intro w hSw; (have q0 := k0 _ hSw; have q1 := k1 _ hSw; have q2 := k2 _ hSw; have q3 := k3 _ hSw; have q4 := k4 _ hSw; have q5 := k5 _ hSw; have q6 := k6 _ hSw); (go_simp <;> with_reducible rfl)⟩) (by assumption) ?_
                      (try simp only [Act.put, List.setIfInBounds_toArray, List.set_cons_zero, List.set_cons_succ, List.getElem_toArray, List.getElem_cons_zero, List.getElem_cons_succ])
                      refine wpAnyH_take (i := 40) rfl (by kernel_rfl) (by kernel_rfl) (by kernel_rfl) (fun _ _ _ h => h) (Or.inl ⟨by rfl, by intro w hSw; (have q0 := k0 _ hSw; have q1 := k1 _ hSw; have q2 := k2 _ hSw; have q3 := k3 _ hSw; have q4 := k4 _ hSw; have q5 := k5 _ hSw; have q6 := k6 _ hSw); (go_simp <;> with_reducible rfl)⟩) (by assumption) ?_
                      (try simp only [Act.put, List.setIfInBounds_toArray, List.set_cons_zero, List.set_cons_succ, List.getElem_toArray, List.getElem_cons_zero, List.getElem_cons_succ])
                      refine wpAnyH_take (i := 41) rfl (by kernel_rfl) (by kernel_rfl) (by kernel_rfl) (fun _ _ _ h => h) (Or.inl ⟨by rfl, by intro w hSw; (have q0 := k0 _ hSw; have q1 := k1 _ hSw; have q2 := k2 _ hSw; have q3 := k3 _ hSw; have q4 := k4 _ hSw; have q5 := k5 _ hSw; have q6 := k6 _ hSw); (go_simp <;> with_reducible rfl)⟩) (by assumption) ?_
                      (try simp only [Act.put, List.setIfInBounds_toArray, List.set_cons_zero, List.set_cons_succ, List.getElem_toArray, List.getElem_cons_zero, List.getElem_cons_succ])
                      refine wpAnyH_take (i := 42) rfl (by kernel_rfl) (by kernel_rfl) (by kernel_rfl) (fun _ _ _ h => h) (Or.inl ⟨by rfl, by intro w hSw; (have q0 := k0 _ hSw; have q1 := k1 _ hSw; have q2 := k2 _ hSw; have q3 := k3 _ hSw; have q4 := k4 _ hSw; have q5 := k5 _ hSw; have q6 := k6 _ hSw); (go_simp <;> with_reducible rfl)⟩) (by assumption) ?_
                      (try simp only [Act.put, List.setIfInBounds_toArray, List.set_cons_zero, List.set_cons_succ, List.getElem_toArray, List.getElem_cons_zero, List.getElem_cons_succ])
                      refine wpAnyH_ready (rs := [1, 43]) (by kernel_rfl) (by simp) (AllReadyH.cons rfl (fun K hK => ?_) (AllReadyH.cons rfl (fun K hK => ?_) AllReadyH.nil))
                      · go_simp
                        refine hK.out _ _ (hbX.drew) (fun hHeld => ?_)
                        clear hK K
                        (try simp only [Act.put, List.setIfInBounds_toArray, List.set_cons_zero, List.set_cons_succ, List.getElem_toArray, List.getElem_cons_zero, List.getElem_cons_succ])
                        refine wpAnyH_ready (rs := [43]) (by kernel_rfl) (by simp) (AllReadyH.cons rfl (fun K hK => ?_) AllReadyH.nil)
                        go_simp
                        refine hK.out _ _ ((hbX.alloc (by omega) _).drew) (fun hHeld => ?_)
                        clear hK K
                        (try simp only [Act.put, List.setIfInBounds_toArray, List.set_cons_zero, List.set_cons_succ, List.getElem_toArray, List.getElem_cons_zero, List.getElem_cons_succ])
                        refine wpAnyH_ready (rs := [44]) (by kernel_rfl) (by simp) (AllReadyH.cons rfl (fun K hK => ?_) AllReadyH.nil)
                        refine step_append_off rfl _ _ 25 rfl (X + 1) 59 i7 (.agg #[.int .i64 0, .int .i64 0, .int .i64 0, .int .i64 0, .int .i64 0, .int .i64 0, .int .u32 0]) 7 56 Try.underlying25 hi7 hz70 hz71 hz72 rfl (by decide) _ _ _ rfl (hown.keptB ((Below.refl _ _).alloc (Nat.le_refl _) _).drew) _ 1 1 [.int .i64 x0, .int .i64 x1, .int .i64 x2, .int .i64 x3, .int .i64 x4, .int .i64 x5, .int .u32 x6] rfl rfl (fun j u h => news_rw wr _ _ j u h) (by simp [Value.oneCell']) (by unfold maxLen; omega) (by omega) (by simp; omega) ?_
                        intro v' w2 hown' hgrow _
                        have hon : Only (fun j => some j = (Value.slice a l.length cc).ownBlock) wr w2 := (Only.of_below ((Below.refl _ _).alloc (Nat.le_refl _) _).drew).trans (Only.of_grown hgrow)
                        have hge : ∀ j, some j = (Value.slice a l.length cc).ownBlock → X + 1 ≤ j := fun j e => (hown.lt j e.symm).1
                        have hX2 := (hon.block X hXl (fun e => by have := hge X e; omega)).trans hX
                        have hb2 := (hbX.trans (hon.below (B := X) (by omega) (fun j e => by have := hge j e; omega)))
                        obtain ⟨a', cc', rfl, hcc', hcm'⟩ := hown'.slice
                        have z0 : w2.cell? ⟨X, 1, none⟩ = some (.slice a l.length cc) := cell_blk hX2 rfl
                        have f0 : w2.frozen? ⟨X, 1, none⟩ = false := by simp [World.frozen?, hX2]
                        have hX3 : (w2.setCell ⟨X, 1, none⟩ (.slice a' (l.length + 1) cc')).heap[X]? = some (.cells #[.slice aP LP.length cP, (.slice a' (l.length + 1) cc'), .int .i64 0, .slice none 0 0, .int .i64 0, .slice none 0 0] 31 (0, 0)) := by simp [World.setCell, Array.getElem?_modify, hX2]
                        have hown3 : OwnsOff (w2.setCell ⟨X, 1, none⟩ (.slice a' (l.length + 1) cc')) (X + 1) 59 7 (.slice a' (l ++ [[x0, x1, x2, x3, x4, x5, x6]]).length cc') (l ++ [[x0, x1, x2, x3, x4, x5, x6]]).length (rcells [.i64, .i64, .i64, .i64, .i64, .i64, .u32] (l ++ [[x0, x1, x2, x3, x4, x5, x6]])) := by
                          have h := hown'.kept (Only.setCell w2 ⟨X, 1, none⟩ (.slice a' (l.length + 1) cc')) (fun k hk e => by have := (hown'.lt k hk).1; have : k = X := e; omega)
                          rw [List.length_append, rcells_app]; exact h
                        have hb3 := hb2.setCell (p := ⟨X, 1, none⟩) (Nat.le_refl _) (.slice a' (l.length + 1) cc')
                        have hownP3 := (hownP.kept hon (fun k hk e => hownP.apart hown (by decide) k hk e.symm)).kept (Only.setCell w2 ⟨X, 1, none⟩ (.slice a' (l.length + 1) cc')) (fun k hk e => by have := (hownP.lt k hk).1; have : k = X := e; omega)
                        have P3 := Lib.hid hownP3
                        clear hownP3 hownP
                        have B3 := Lib.hid hb3; have O3 := Lib.hid hown3; have X3 := Lib.hid hX3; have H2 := Lib.hid hb2
                        clear hown' hgrow hon hge hown3 hX3 hb3 hX2 hb2 hX hown hbX
                        refine hK.out _ _ H2.out (fun hHeld => ?_)
                        clear hK K
                        (try simp only [Act.put, List.setIfInBounds_toArray, List.set_cons_zero, List.set_cons_succ, List.getElem_toArray, List.getElem_cons_zero, List.getElem_cons_succ])
                        refine wpAnyH_take (i := 45) rfl (by kernel_rfl) (by kernel_rfl) (by kernel_rfl) (fun _ _ _ h => h) (Or.inl ⟨by rfl, by intro w hSw; (have q0 := k0 _ hSw; have q1 := k1 _ hSw; have q2 := k2 _ hSw; have q3 := k3 _ hSw; have q4 := k4 _ hSw; have q5 := k5 _ hSw; have q6 := k6 _ hSw); (go_simp <;> with_reducible rfl)⟩) (by assumption) ?_
                        (try simp only [Act.put, List.setIfInBounds_toArray, List.set_cons_zero, List.set_cons_succ, List.getElem_toArray, List.getElem_cons_zero, List.getElem_cons_succ])
                        refine wpAnyH_ready (rs := [46]) (by kernel_rfl) (by simp) (AllReadyH.cons rfl (fun K hK => ?_) AllReadyH.nil)
                        go_simp
                        refine hK.out _ _ B3.out (fun hHeld => ?_)
                        clear hK K
                        (try simp only [Act.put, List.setIfInBounds_toArray, List.set_cons_zero, List.set_cons_succ, List.getElem_toArray, List.getElem_cons_zero, List.getElem_cons_succ])
                        refine wpAnyH_done (by kernel_rfl) ?_ _
                        clear z0 i1a i1c i2a i2c i3a i3c i4a i4c i5a i5c i6a i6c v0 v1 v2 v3 v4 v5 v6 hki
                        go_wp2
                        go_roundw
                        case rel => exact ⟨i + 1, by omega, by go_num, l ++ [[x0, x1, x2, x3, x4, x5, x6]], a', cc', by rw [HS.out, HKI.out, HC.out, HX0.out, HX1.out, HX2.out, HX3.out, HX4.out, HX5.out, HX6.out], by simpa using X3.out, O3.out, P3.out, B3.out⟩
                        case measure => simp [intOf]; omega
                      · go_simp
                        refine hK.out _ _ ((hbX.alloc (by omega) _).drew) (fun hHeld => ?_)
                        clear hK K
                        (try simp only [Act.put, List.setIfInBounds_toArray, List.set_cons_zero, List.set_cons_succ, List.getElem_toArray, List.getElem_cons_zero, List.getElem_cons_succ])
                        refine wpAnyH_ready (rs := [1]) (by kernel_rfl) (by simp) (AllReadyH.cons rfl (fun K hK => ?_) AllReadyH.nil)
                        have z1 : (wr.alloc (.cells #[.int .i64 x0, .int .i64 x1, .int .i64 x2, .int .i64 x3, .int .i64 x4, .int .i64 x5, .int .u32 x6] 59)).cell? ⟨X, 1, none⟩ = some (.slice a l.length cc) := (((Below.refl _ _).alloc (Nat.le_refl _) _).cell (p := ⟨X, 1, none⟩) hXl).trans (cell_blk hX rfl)
                        go_simp
                        refine hK.out _ _ ((hbX.alloc (by omega) _).drew) (fun hHeld => ?_)
                        clear hK K
                        (try simp only [Act.put, List.setIfInBounds_toArray, List.set_cons_zero, List.set_cons_succ, List.getElem_toArray, List.getElem_cons_zero, List.getElem_cons_succ])
                        clear z1
                        refine wpAnyH_ready (rs := [44]) (by kernel_rfl) (by simp) (AllReadyH.cons rfl (fun K hK => ?_) AllReadyH.nil)
                        refine step_append_off rfl _ _ 25 rfl (X + 1) 59 i7 (.agg #[.int .i64 0, .int .i64 0, .int .i64 0, .int .i64 0, .int .i64 0, .int .i64 0, .int .u32 0]) 7 56 Try.underlying25 hi7 hz70 hz71 hz72 rfl (by decide) _ _ _ rfl (hown.keptB ((Below.refl _ _).alloc (Nat.le_refl _) _).drew) _ 1 1 [.int .i64 x0, .int .i64 x1, .int .i64 x2, .int .i64 x3, .int .i64 x4, .int .i64 x5, .int .u32 x6] rfl rfl (fun j u h => news_rw wr _ _ j u h) (by simp [Value.oneCell']) (by unfold maxLen; omega) (by omega) (by simp; omega) ?_
                        intro v' w2 hown' hgrow _
                        have hon : Only (fun j => some j = (Value.slice a l.length cc).ownBlock) wr w2 := (Only.of_below ((Below.refl _ _).alloc (Nat.le_refl _) _).drew).trans (Only.of_grown hgrow)
                        have hge : ∀ j, some j = (Value.slice a l.length cc).ownBlock → X + 1 ≤ j := fun j e => (hown.lt j e.symm).1
                        have hX2 := (hon.block X hXl (fun e => by have := hge X e; omega)).trans hX
                        have hb2 := (hbX.trans (hon.below (B := X) (by omega) (fun j e => by have := hge j e; omega)))
                        obtain ⟨a', cc', rfl, hcc', hcm'⟩ := hown'.slice
                        have z0 : w2.cell? ⟨X, 1, none⟩ = some (.slice a l.length cc) := cell_blk hX2 rfl
                        have f0 : w2.frozen? ⟨X, 1, none⟩ = false := by simp [World.frozen?, hX2]
                        have hX3 : (w2.setCell ⟨X, 1, none⟩ (.slice a' (l.length + 1) cc')).heap[X]? = some (.cells #[.slice aP LP.length cP, (.slice a' (l.length + 1) cc'), .int .i64 0, .slice none 0 0, .int .i64 0, .slice none 0 0] 31 (0, 0)) := by simp [World.setCell, Array.getElem?_modify, hX2]
                        have hown3 : OwnsOff (w2.setCell ⟨X, 1, none⟩ (.slice a' (l.length + 1) cc')) (X + 1) 59 7 (.slice a' (l ++ [[x0, x1, x2, x3, x4, x5, x6]]).length cc') (l ++ [[x0, x1, x2, x3, x4, x5, x6]]).length (rcells [.i64, .i64, .i64, .i64, .i64, .i64, .u32] (l ++ [[x0, x1, x2, x3, x4, x5, x6]])) := by
                          have h := hown'.kept (Only.setCell w2 ⟨X, 1, none⟩ (.slice a' (l.length + 1) cc')) (fun k hk e => by have := (hown'.lt k hk).1; have : k = X := e; omega)
                          rw [List.length_append, rcells_app]; exact h
                        have hb3 := hb2.setCell (p := ⟨X, 1, none⟩) (Nat.le_refl _) (.slice a' (l.length + 1) cc')
                        have hownP3 := (hownP.kept hon (fun k hk e => hownP.apart hown (by decide) k hk e.symm)).kept (Only.setCell w2 ⟨X, 1, none⟩ (.slice a' (l.length + 1) cc')) (fun k hk e => by have := (hownP.lt k hk).1; have : k = X := e; omega)
                        have P3 := Lib.hid hownP3
                        clear hownP3 hownP
                        have B3 := Lib.hid hb3; have O3 := Lib.hid hown3; have X3 := Lib.hid hX3; have H2 := Lib.hid hb2
                        clear hown' hgrow hon hge hown3 hX3 hb3 hX2 hb2 hX hown hbX
                        refine hK.out _ _ H2.out (fun hHeld => ?_)
                        clear hK K
                        (try simp only [Act.put, List.setIfInBounds_toArray, List.set_cons_zero, List.set_cons_succ, List.getElem_toArray, List.getElem_cons_zero, List.getElem_cons_succ])
                        refine wpAnyH_take (i := 45) rfl (by kernel_rfl) (by kernel_rfl) (by kernel_rfl) (fun _ _ _ h => h) (Or.inl ⟨by rfl, by intro w hSw; (have q0 := k0 _ hSw; have q1 := k1 _ hSw; have q2 := k2 _ hSw; have q3 := k3 _ hSw; have q4 := k4 _ hSw; have q5 := k5 _ hSw; have q6 := k6 _ hSw); (go_simp <;> with_reducible rfl)⟩) (by assumption) ?_
                        (try simp only [Act.put, List.setIfInBounds_toArray, List.set_cons_zero, List.set_cons_succ, List.getElem_toArray, List.getElem_cons_zero, List.getElem_cons_succ])
                        refine wpAnyH_ready (rs := [46]) (by kernel_rfl) (by simp) (AllReadyH.cons rfl (fun K hK => ?_) AllReadyH.nil)
                        go_simp
                        refine hK.out _ _ B3.out (fun hHeld => ?_)
                        clear hK K
                        (try simp only [Act.put, List.setIfInBounds_toArray, List.set_cons_zero, List.set_cons_succ, List.getElem_toArray, List.getElem_cons_zero, List.getElem_cons_succ])
                        refine wpAnyH_done (by kernel_rfl) ?_ _
                        clear z0 i1a i1c i2a i2c i3a i3c i4a i4c i5a i5c i6a i6c v0 v1 v2 v3 v4 v5 v6 hki
                        go_wp2
                        go_roundw
                        case rel => exact ⟨i + 1, by omega, by go_num, l ++ [[x0, x1, x2, x3, x4, x5, x6]], a', cc', by rw [HS.out, HKI.out, HC.out, HX0.out, HX1.out, HX2.out, HX3.out, HX4.out, HX5.out, HX6.out], by simpa using X3.out, O3.out, P3.out, B3.out⟩
                        case measure => simp [intOf]; omega
                    · have hlC : l = rowsAt xs (6 + 2 * m0) 7 m1 := by rw [← hl, show i = m1 by omega]
                      have HLC := Lib.hid hlC
                      have hownC := hown
                      have hlCl : l.length ≤ 64 := by rw [hlC, rowsAt_len]; omega
                      clear hl hlC hown
                      revert hownC hX HLC hlCl
                      generalize l = LC
                      generalize a = aC
                      generalize cc = cC
                      intro hX HLC hownC hlCl
                      have bb2 := wfW_at hw 2
                      generalize hx : xs.getD 2 0 = x2 at bb2
                      have HY2 := Lib.hid hx
                      clear hx
                      obtain ⟨yy2, tt2⟩ := bb2
                      have v2 := IntWalk.i64_in x2 (by omega)
                      have k2 : ∀ W', Below X W0 W' → W'.cell? ⟨b, o + 2, none⟩ = some (.int .u32 x2) := fun W' hW => word_on hb hc (by omega) HY2.out W' (HW0.out.trans (hW.mono hX0.out))
                      have ix2 : (2 : Int) < (xs.length : Int) := by omega
                      have bb4 := wfW_at hw 4
                      generalize hx : xs.getD 4 0 = x4 at bb4
                      have HY4 := Lib.hid hx
                      clear hx
                      obtain ⟨yy4, tt4⟩ := bb4
                      have v4 := IntWalk.i64_in x4 (by omega)
                      have k4 : ∀ W', Below X W0 W' → W'.cell? ⟨b, o + 4, none⟩ = some (.int .u32 x4) := fun W' hW => word_on hb hc (by omega) HY4.out W' (HW0.out.trans (hW.mono hX0.out))
                      have ix4 : (4 : Int) < (xs.length : Int) := by omega
                      go_wp2_with fail
                      refine wp_region_held_drew (S := (fun W' => Below X W0 W')) (by kernel_rfl) (hbX.drew) (fun hHeld => ?_)
                      refine wpAnyH_take (i := 0) rfl (by kernel_rfl) (by kernel_rfl) (by kernel_rfl) (fun _ _ _ h => h) (Or.inl ⟨by rfl, by intro w hSw; (have q0 := k2 _ hSw); (go_simp <;> with_reducible rfl)⟩) (by assumption) ?_
                      (try simp only [Act.put, List.setIfInBounds_toArray, List.set_cons_zero, List.set_cons_succ, List.getElem_toArray, List.getElem_cons_zero, List.getElem_cons_succ])
                      refine wpAnyH_take (i := 1) rfl (by kernel_rfl) (by kernel_rfl) (by kernel_rfl) (fun _ _ _ h => h) (Or.inl ⟨by rfl, by intro w hSw; (have q0 := k2 _ hSw); (go_simp <;> with_reducible rfl)⟩) (by assumption) ?_
                      (try simp only [Act.put, List.setIfInBounds_toArray, List.set_cons_zero, List.set_cons_succ, List.getElem_toArray, List.getElem_cons_zero, List.getElem_cons_succ])
                      refine wpAnyH_take (i := 2) rfl (by kernel_rfl) (by kernel_rfl) (by kernel_rfl) (fun _ _ _ h => h) (Or.inl ⟨by rfl, by intro w hSw; (have q0 := k2 _ hSw); (go_simp <;> with_reducible rfl)⟩) (by assumption) ?_
                      (try simp only [Act.put, List.setIfInBounds_toArray, List.set_cons_zero, List.set_cons_succ, List.getElem_toArray, List.getElem_cons_zero, List.getElem_cons_succ])
                      refine wpAnyH_take (i := 3) rfl (by kernel_rfl) (by kernel_rfl) (by kernel_rfl) (fun _ _ _ h => h) (Or.inl ⟨by rfl, by intro w hSw; (have q0 := k2 _ hSw); (go_simp <;> with_reducible rfl)⟩) (by assumption) ?_
                      (try simp only [Act.put, List.setIfInBounds_toArray, List.set_cons_zero, List.set_cons_succ, List.getElem_toArray, List.getElem_cons_zero, List.getElem_cons_succ])
                      refine wpAnyH_take (i := 4) rfl (by kernel_rfl) (by kernel_rfl) (by kernel_rfl) (fun _ _ _ h => h) (Or.inl ⟨by rfl, by intro w hSw; (have q0 := k2 _ hSw); (go_simp <;> with_reducible rfl)⟩) (by assumption) ?_
                      (try simp only [Act.put, List.setIfInBounds_toArray, List.set_cons_zero, List.set_cons_succ, List.getElem_toArray, List.getElem_cons_zero, List.getElem_cons_succ])
                      refine wpAnyH_take (i := 5) rfl (by kernel_rfl) (by kernel_rfl) (by kernel_rfl) (fun _ _ _ h => h) (Or.inl ⟨by rfl, by intro w hSw; (have q0 := k2 _ hSw); (go_simp <;> with_reducible rfl)⟩) (by assumption) ?_
                      (try simp only [Act.put, List.setIfInBounds_toArray, List.set_cons_zero, List.set_cons_succ, List.getElem_toArray, List.getElem_cons_zero, List.getElem_cons_succ])
                      refine wpAnyH_take (i := 6) rfl (by kernel_rfl) (by kernel_rfl) (by kernel_rfl) (fun _ _ _ h => h) (Or.inl ⟨by rfl, by intro w hSw; (have q0 := k2 _ hSw); (go_simp <;> with_reducible rfl)⟩) (by assumption) ?_
                      (try simp only [Act.put, List.setIfInBounds_toArray, List.set_cons_zero, List.set_cons_succ, List.getElem_toArray, List.getElem_cons_zero, List.getElem_cons_succ])
                      refine wpAnyH_take (i := 8) rfl (by kernel_rfl) (by kernel_rfl) (by kernel_rfl) (fun _ _ _ h => h) (Or.inl ⟨by rfl, by intro w hSw; (have q0 := k2 _ hSw); (go_simp <;> with_reducible rfl)⟩) (by assumption) ?_
                      (try simp only [Act.put, List.setIfInBounds_toArray, List.set_cons_zero, List.set_cons_succ, List.getElem_toArray, List.getElem_cons_zero, List.getElem_cons_succ])
                      refine wpAnyH_take (i := 11) rfl (by kernel_rfl) (by kernel_rfl) (by kernel_rfl) (fun _ _ _ h => h) (Or.inl ⟨by rfl, by intro w hSw; (have q0 := k2 _ hSw); (go_simp <;> with_reducible rfl)⟩) (by assumption) ?_
                      (try simp only [Act.put, List.setIfInBounds_toArray, List.set_cons_zero, List.set_cons_succ, List.getElem_toArray, List.getElem_cons_zero, List.getElem_cons_succ])
                      refine wpAnyH_ready (rs := [7]) (by kernel_rfl) (by simp) (AllReadyH.cons rfl (fun K hK => ?_) AllReadyH.nil)
                      go_simp
                      refine (count_is (6 + 2 * m0 + 7 * m1) m0 m1 0 0 _ (by omega) (by omega) (by omega) (by omega) (by omega)).mono ?_
                      rintro e w5 ⟨rfl, rfl⟩
                      refine hK.out _ _ (hbX.drew) (fun hHeld => ?_)
                      clear hK K
                      (try simp only [Act.put, List.setIfInBounds_toArray, List.set_cons_zero, List.set_cons_succ, List.getElem_toArray, List.getElem_cons_zero, List.getElem_cons_succ])
                      refine wpAnyH_ready (rs := [9]) (by kernel_rfl) (by simp) (AllReadyH.cons rfl (fun K hK => ?_) AllReadyH.nil)
                      go_simp
                      refine (wins_b xs (some ⟨b, o, none⟩) c (6 + 2 * m0 + 7 * m1) m3 _ hl ((hrow.below (HW0.out.trans (hbX.drew.mono hX0.out))).more (by have := hbX.size; have := HW0.out.size; simp; omega)) hw (by omega) (by omega)).mono ?_
                      rintro e w6 ⟨v, rfl, hownW, hbW⟩
                      obtain ⟨LA, hL⟩ : ∃ L, rowsAt xs (6 + 2 * m0 + 7 * m1) 3 m3 = L := ⟨_, rfl⟩
                      have HLA := Lib.hid hL
                      have hwf := rowsAt3_wf hw (6 + 2 * m0 + 7 * m1) m3
                      rw [hL] at hownW hwf
                      obtain ⟨aA, cA, rfl, laA, lbA, hrA, hnA, hbA⟩ := OwnsOff.rowN (ks := [.i64, .i64, .i64]) hownW hwf
                      have hbW1 : Below wr.heap.size wr w6 := ((Below.refl _ _).drew).trans hbW
                      have hX6 := (hbW1.block X hXl).trans hX
                      have hb6 := hbX.trans (hbW1.mono (by omega))
                      clear hL hownW hwf
                      have hownP6 := hownP.keptB hbW1
                      have hownC6 := hownC.keptB hbW1
                      refine hK.out _ _ hb6 (fun hHeld => ?_)
                      clear hK K
                      (try simp only [Act.put, List.setIfInBounds_toArray, List.set_cons_zero, List.set_cons_succ, List.getElem_toArray, List.getElem_cons_zero, List.getElem_cons_succ])
                      refine wpAnyH_take (i := 10) rfl (by kernel_rfl) (by kernel_rfl) (by kernel_rfl) (fun _ _ _ h => h) (Or.inl ⟨by rfl, by intro w hSw; (have q0 := k2 _ hSw); (go_simp <;> with_reducible rfl)⟩) (by assumption) ?_
                      (try simp only [Act.put, List.setIfInBounds_toArray, List.set_cons_zero, List.set_cons_succ, List.getElem_toArray, List.getElem_cons_zero, List.getElem_cons_succ])
                      have z0 : w6.cell? ⟨X, 2, none⟩ = some (.int .i64 0) := cell_blk hX6 rfl
                      have f0 : w6.frozen? ⟨X, 2, none⟩ = false := by simp [World.frozen?, hX6]
                      have z1 : w6.cell? ⟨X, 3, none⟩ = some (.slice none 0 0) := cell_blk hX6 rfl
                      have f1 : w6.frozen? ⟨X, 3, none⟩ = false := by simp [World.frozen?, hX6]
                      have hb7 := (hb6.setCell (p := ⟨X, 2, none⟩) (Nat.le_refl _) (.int .i64 x2)).setCell (p := ⟨X, 3, none⟩) (Nat.le_refl _) (.slice aA LA.length cA)
                      have HB7 := Lib.hid hb7
                      have HX6 := Lib.hid hX6
                      refine wpAnyH_take (i := 12) rfl (by kernel_rfl) (by kernel_rfl) (by kernel_rfl) (fun _ _ _ h => h) (Or.inl ⟨by rfl, by intro w hSw; (go_simp <;> with_reducible rfl)⟩) (by assumption) ?_
                      (try simp only [Act.put, List.setIfInBounds_toArray, List.set_cons_zero, List.set_cons_succ, List.getElem_toArray, List.getElem_cons_zero, List.getElem_cons_succ])
                      refine wpAnyH_ready (rs := [13]) (by kernel_rfl) (by simp) (AllReadyH.cons rfl (fun K hK => ?_) AllReadyH.nil)
                      go_simp
                      refine hK.out _ _ HB7.out (fun hHeld => ?_)
                      clear hK K
                      (try simp only [Act.put, List.setIfInBounds_toArray, List.set_cons_zero, List.set_cons_succ, List.getElem_toArray, List.getElem_cons_zero, List.getElem_cons_succ])
                      refine wpAnyH_done (by kernel_rfl) ?_ _
                      obtain ⟨wA, hwA⟩ : ∃ u, Hid (u = (w6.setCell ⟨X, 2, none⟩ (.int .i64 x2)).setCell ⟨X, 3, none⟩ (.slice aA LA.length cA)) := ⟨_, rfl⟩
                      rw [← hwA.out]
                      have hO7 : Only (fun k => k = X) w6 wA := by rw [hwA.out]; exact ((Only.setCell w6 ⟨X, 2, none⟩ (.int .i64 x2)).trans (Only.setCell _ ⟨X, 3, none⟩ (.slice aA LA.length cA)))
                      have hX7 : wA.heap[X]? = some (.cells #[.slice aP LP.length cP, .slice aC LC.length cC, .int .i64 x2, .slice aA LA.length cA, .int .i64 0, .slice none 0 0] 31 (0, 0)) := by rw [hwA.out]; simp [World.setCell, Array.getElem?_modify, HX6.out]
                      have hbX7 : Below X W0 wA := by rw [hwA.out]; exact HB7.out
                      have hs67 := hO7.size
                      have hsW := hbW1.size
                      have hownP7 := hownP6.kept hO7 (fun k hk e => by have := (hownP6.lt k hk).1; omega)
                      have hownC7 := hownC6.kept hO7 (fun k hk e => by have := (hownC6.lt k hk).1; omega)
                      have hrA7 := (hrA.only (Nat.le_refl _) hO7 (fun a ha e => by have := hbA a ha; have : a.block = X := e; simp at *; omega)).more hs67
                      have HBBA := Lib.hid (fun a (ha : aA = some a) => Nat.lt_of_lt_of_le hXl (show wr.heap.size ≤ a.block from hbA a ha))
                      have HNA := Lib.hid hnA
                      clear hX hbX hownP hownC hownP6 hownC6 hbW hbW1 hX6 hb6 z0 z1 f0 f1 hb7 hrA hO7
                      go_wp2_with fail
                      have hX := hX7
                      have hbX := hbX7
                      have hownP := hownP7
                      have hownC := hownC7
                      have hXl2 : X < wA.heap.size := (Array.getElem?_eq_some_iff.1 hX).1
                      clear hX7 hbX7 hownP7 hownC7 hXl HB7 HX6
                      have hXl := hXl2
                      obtain ⟨wr, hwr⟩ : ∃ u, u = wA := ⟨_, rfl⟩
                      subst hwr
                      refine wp_region_held_drew (S := (fun W' => Below X W0 W')) (by kernel_rfl) (hbX.drew) (fun hHeld => ?_)
                      refine wpAnyH_take (i := 0) rfl (by kernel_rfl) (by kernel_rfl) (by kernel_rfl) (fun _ _ _ h => h) (Or.inl ⟨by rfl, by intro w hSw; (have q0 := k4 _ hSw); (go_simp <;> with_reducible rfl)⟩) (by assumption) ?_
                      (try simp only [Act.put, List.setIfInBounds_toArray, List.set_cons_zero, List.set_cons_succ, List.getElem_toArray, List.getElem_cons_zero, List.getElem_cons_succ])
                      refine wpAnyH_take (i := 1) rfl (by kernel_rfl) (by kernel_rfl) (by kernel_rfl) (fun _ _ _ h => h) (Or.inl ⟨by rfl, by intro w hSw; (have q0 := k4 _ hSw); (go_simp <;> with_reducible rfl)⟩) (by assumption) ?_
                      (try simp only [Act.put, List.setIfInBounds_toArray, List.set_cons_zero, List.set_cons_succ, List.getElem_toArray, List.getElem_cons_zero, List.getElem_cons_succ])
                      refine wpAnyH_take (i := 2) rfl (by kernel_rfl) (by kernel_rfl) (by kernel_rfl) (fun _ _ _ h => h) (Or.inl ⟨by rfl, by intro w hSw; (have q0 := k4 _ hSw); (go_simp <;> with_reducible rfl)⟩) (by assumption) ?_
                      (try simp only [Act.put, List.setIfInBounds_toArray, List.set_cons_zero, List.set_cons_succ, List.getElem_toArray, List.getElem_cons_zero, List.getElem_cons_succ])
                      refine wpAnyH_take (i := 3) rfl (by kernel_rfl) (by kernel_rfl) (by kernel_rfl) (fun _ _ _ h => h) (Or.inl ⟨by rfl, by intro w hSw; (have q0 := k4 _ hSw); (go_simp <;> with_reducible rfl)⟩) (by assumption) ?_
                      (try simp only [Act.put, List.setIfInBounds_toArray, List.set_cons_zero, List.set_cons_succ, List.getElem_toArray, List.getElem_cons_zero, List.getElem_cons_succ])
                      refine wpAnyH_take (i := 4) rfl (by kernel_rfl) (by kernel_rfl) (by kernel_rfl) (fun _ _ _ h => h) (Or.inl ⟨by rfl, by intro w hSw; (have q0 := k4 _ hSw); (go_simp <;> with_reducible rfl)⟩) (by assumption) ?_
                      (try simp only [Act.put, List.setIfInBounds_toArray, List.set_cons_zero, List.set_cons_succ, List.getElem_toArray, List.getElem_cons_zero, List.getElem_cons_succ])
                      refine wpAnyH_take (i := 5) rfl (by kernel_rfl) (by kernel_rfl) (by kernel_rfl) (fun _ _ _ h => h) (Or.inl ⟨by rfl, by intro w hSw; (have q0 := k4 _ hSw); (go_simp <;> with_reducible rfl)⟩) (by assumption) ?_
                      (try simp only [Act.put, List.setIfInBounds_toArray, List.set_cons_zero, List.set_cons_succ, List.getElem_toArray, List.getElem_cons_zero, List.getElem_cons_succ])
                      refine wpAnyH_take (i := 6) rfl (by kernel_rfl) (by kernel_rfl) (by kernel_rfl) (fun _ _ _ h => h) (Or.inl ⟨by rfl, by intro w hSw; (have q0 := k4 _ hSw); (go_simp <;> with_reducible rfl)⟩) (by assumption) ?_
                      (try simp only [Act.put, List.setIfInBounds_toArray, List.set_cons_zero, List.set_cons_succ, List.getElem_toArray, List.getElem_cons_zero, List.getElem_cons_succ])
                      refine wpAnyH_take (i := 7) rfl (by kernel_rfl) (by kernel_rfl) (by kernel_rfl) (fun _ _ _ h => h) (Or.inl ⟨by rfl, by intro w hSw; (have q0 := k4 _ hSw); (go_simp <;> with_reducible rfl)⟩) (by assumption) ?_
                      (try simp only [Act.put, List.setIfInBounds_toArray, List.set_cons_zero, List.set_cons_succ, List.getElem_toArray, List.getElem_cons_zero, List.getElem_cons_succ])
                      refine wpAnyH_take (i := 9) rfl (by kernel_rfl) (by kernel_rfl) (by kernel_rfl) (fun _ _ _ h => h) (Or.inl ⟨by rfl, by intro w hSw; (have q0 := k4 _ hSw); (go_simp <;> with_reducible rfl)⟩) (by assumption) ?_
                      (try simp only [Act.put, List.setIfInBounds_toArray, List.set_cons_zero, List.set_cons_succ, List.getElem_toArray, List.getElem_cons_zero, List.getElem_cons_succ])
                      refine wpAnyH_take (i := 12) rfl (by kernel_rfl) (by kernel_rfl) (by kernel_rfl) (fun _ _ _ h => h) (Or.inl ⟨by rfl, by intro w hSw; (have q0 := k4 _ hSw); (go_simp <;> with_reducible rfl)⟩) (by assumption) ?_
                      (try simp only [Act.put, List.setIfInBounds_toArray, List.set_cons_zero, List.set_cons_succ, List.getElem_toArray, List.getElem_cons_zero, List.getElem_cons_succ])
                      refine wpAnyH_ready (rs := [8]) (by kernel_rfl) (by simp) (AllReadyH.cons rfl (fun K hK => ?_) AllReadyH.nil)
                      go_simp
                      refine (count_is (6 + 2 * m0 + 7 * m1 + 3 * m3) m0 m1 m3 0 _ (by omega) (by omega) (by omega) (by omega) (by omega)).mono ?_
                      rintro e w5 ⟨rfl, rfl⟩
                      refine hK.out _ _ (hbX.drew) (fun hHeld => ?_)
                      clear hK K
                      (try simp only [Act.put, List.setIfInBounds_toArray, List.set_cons_zero, List.set_cons_succ, List.getElem_toArray, List.getElem_cons_zero, List.getElem_cons_succ])
                      refine wpAnyH_ready (rs := [10]) (by kernel_rfl) (by simp) (AllReadyH.cons rfl (fun K hK => ?_) AllReadyH.nil)
                      go_simp
                      refine (wins_b xs (some ⟨b, o, none⟩) c (6 + 2 * m0 + 7 * m1 + 3 * m3) m5 _ hl ((hrow.below (HW0.out.trans (hbX.drew.mono hX0.out))).more (by have := hbX.size; have := HW0.out.size; simp; omega)) hw (by omega) (by omega)).mono ?_
                      rintro e w6 ⟨v, rfl, hownW, hbW⟩
                      obtain ⟨LB, hL⟩ : ∃ L, rowsAt xs (6 + 2 * m0 + 7 * m1 + 3 * m3) 3 m5 = L := ⟨_, rfl⟩
                      have HLB := Lib.hid hL
                      have hwf := rowsAt3_wf hw (6 + 2 * m0 + 7 * m1 + 3 * m3) m5
                      rw [hL] at hownW hwf
                      obtain ⟨aB, cB, rfl, laB, lbB, hrB, hnB, hbB⟩ := OwnsOff.rowN (ks := [.i64, .i64, .i64]) hownW hwf
                      have hbW1 : Below wr.heap.size wr w6 := ((Below.refl _ _).drew).trans hbW
                      have hX6 := (hbW1.block X hXl).trans hX
                      have hb6 := hbX.trans (hbW1.mono (by omega))
                      clear hL hownW hwf
                      have hownP6 := hownP.keptB hbW1
                      have hownC6 := hownC.keptB hbW1
                      refine hK.out _ _ hb6 (fun hHeld => ?_)
                      clear hK K
                      (try simp only [Act.put, List.setIfInBounds_toArray, List.set_cons_zero, List.set_cons_succ, List.getElem_toArray, List.getElem_cons_zero, List.getElem_cons_succ])
                      refine wpAnyH_take (i := 11) rfl (by kernel_rfl) (by kernel_rfl) (by kernel_rfl) (fun _ _ _ h => h) (Or.inl ⟨by rfl, by intro w hSw; (have q0 := k4 _ hSw); (go_simp <;> with_reducible rfl)⟩) (by assumption) ?_
                      (try simp only [Act.put, List.setIfInBounds_toArray, List.set_cons_zero, List.set_cons_succ, List.getElem_toArray, List.getElem_cons_zero, List.getElem_cons_succ])
                      have z0 : w6.cell? ⟨X, 4, none⟩ = some (.int .i64 0) := cell_blk hX6 rfl
                      have f0 : w6.frozen? ⟨X, 4, none⟩ = false := by simp [World.frozen?, hX6]
                      have z1 : w6.cell? ⟨X, 5, none⟩ = some (.slice none 0 0) := cell_blk hX6 rfl
                      have f1 : w6.frozen? ⟨X, 5, none⟩ = false := by simp [World.frozen?, hX6]
                      have hb7 := (hb6.setCell (p := ⟨X, 4, none⟩) (Nat.le_refl _) (.int .i64 x4)).setCell (p := ⟨X, 5, none⟩) (Nat.le_refl _) (.slice aB LB.length cB)
                      have HB7 := Lib.hid hb7
                      have HX6 := Lib.hid hX6
                      refine wpAnyH_take (i := 13) rfl (by kernel_rfl) (by kernel_rfl) (by kernel_rfl) (fun _ _ _ h => h) (Or.inl ⟨by rfl, by intro w hSw; (go_simp <;> with_reducible rfl)⟩) (by assumption) ?_
                      (try simp only [Act.put, List.setIfInBounds_toArray, List.set_cons_zero, List.set_cons_succ, List.getElem_toArray, List.getElem_cons_zero, List.getElem_cons_succ])
                      refine wpAnyH_ready (rs := [14]) (by kernel_rfl) (by simp) (AllReadyH.cons rfl (fun K hK => ?_) AllReadyH.nil)
                      go_simp
                      refine hK.out _ _ HB7.out (fun hHeld => ?_)
                      clear hK K
                      (try simp only [Act.put, List.setIfInBounds_toArray, List.set_cons_zero, List.set_cons_succ, List.getElem_toArray, List.getElem_cons_zero, List.getElem_cons_succ])
                      refine wpAnyH_done (by kernel_rfl) ?_ _
                      obtain ⟨wB, hwB⟩ : ∃ u, Hid (u = (w6.setCell ⟨X, 4, none⟩ (.int .i64 x4)).setCell ⟨X, 5, none⟩ (.slice aB LB.length cB)) := ⟨_, rfl⟩
                      rw [← hwB.out]
                      have hO7 : Only (fun k => k = X) w6 wB := by rw [hwB.out]; exact ((Only.setCell w6 ⟨X, 4, none⟩ (.int .i64 x4)).trans (Only.setCell _ ⟨X, 5, none⟩ (.slice aB LB.length cB)))
                      have hX7 : wB.heap[X]? = some (.cells #[.slice aP LP.length cP, .slice aC LC.length cC, .int .i64 x2, .slice aA LA.length cA, .int .i64 x4, .slice aB LB.length cB] 31 (0, 0)) := by rw [hwB.out]; simp [World.setCell, Array.getElem?_modify, HX6.out]
                      have hbX7 : Below X W0 wB := by rw [hwB.out]; exact HB7.out
                      have hs67 := hO7.size
                      have hsW := hbW1.size
                      have hownP7 := hownP6.kept hO7 (fun k hk e => by have := (hownP6.lt k hk).1; omega)
                      have hownC7 := hownC6.kept hO7 (fun k hk e => by have := (hownC6.lt k hk).1; omega)
                      have hrB7 := (hrB.only (Nat.le_refl _) hO7 (fun a ha e => by have := hbB a ha; have : a.block = X := e; simp at *; omega)).more hs67
                      have HBBB := Lib.hid (fun a (ha : aB = some a) => Nat.lt_of_lt_of_le hXl (show wr.heap.size ≤ a.block from hbB a ha))
                      have HNB := Lib.hid hnB
                      have hrA8' := (hrA7.later hbW1).only (Nat.le_refl _) hO7 (fun a ha e => by have := HBBA.out a ha; have : a.block = X := e; omega)
                      have hrA8' := hrA8'.more hs67
                      clear hX hbX hownP hownC hownP6 hownC6 hbW hbW1 hX6 hb6 z0 z1 f0 f1 hb7 hrB hO7 hrA7
                      have hrB := (hbX7.block w.heap.size (by omega)).trans HR0.out
                      have z0 : wB.cell? ⟨w.heap.size, 0, none⟩ = some (.slice none 0 0) := cell_blk hrB rfl
                      have f0 : wB.frozen? ⟨w.heap.size, 0, none⟩ = false := by simp [World.frozen?, hrB]
                      have n0 : wB.cell? ⟨X, 0, none⟩ = some (.slice aP LP.length cP) := cell_blk hX7 rfl
                      have z1 : wB.cell? ⟨w.heap.size, 1, none⟩ = some (.slice none 0 0) := cell_blk hrB rfl
                      have f1 : wB.frozen? ⟨w.heap.size, 1, none⟩ = false := by simp [World.frozen?, hrB]
                      have n1 : wB.cell? ⟨X, 1, none⟩ = some (.slice aC LC.length cC) := cell_blk hX7 rfl
                      have z2 : wB.cell? ⟨w.heap.size, 2, none⟩ = some (.int .i64 0) := cell_blk hrB rfl
                      have f2 : wB.frozen? ⟨w.heap.size, 2, none⟩ = false := by simp [World.frozen?, hrB]
                      have n2 : wB.cell? ⟨X, 2, none⟩ = some (.int .i64 x2) := cell_blk hX7 rfl
                      have z3 : wB.cell? ⟨w.heap.size, 3, none⟩ = some (.slice none 0 0) := cell_blk hrB rfl
                      have f3 : wB.frozen? ⟨w.heap.size, 3, none⟩ = false := by simp [World.frozen?, hrB]
                      have n3 : wB.cell? ⟨X, 3, none⟩ = some (.slice aA LA.length cA) := cell_blk hX7 rfl
                      have z4 : wB.cell? ⟨w.heap.size, 4, none⟩ = some (.int .i64 0) := cell_blk hrB rfl
                      have f4 : wB.frozen? ⟨w.heap.size, 4, none⟩ = false := by simp [World.frozen?, hrB]
                      have n4 : wB.cell? ⟨X, 4, none⟩ = some (.int .i64 x4) := cell_blk hX7 rfl
                      have z5 : wB.cell? ⟨w.heap.size, 5, none⟩ = some (.slice none 0 0) := cell_blk hrB rfl
                      have f5 : wB.frozen? ⟨w.heap.size, 5, none⟩ = false := by simp [World.frozen?, hrB]
                      have n5 : wB.cell? ⟨X, 5, none⟩ = some (.slice aB LB.length cB) := cell_blk hX7 rfl
                      obtain ⟨AP', cP', eP, laP, lbP, rP, nP', bP⟩ := OwnsOff.rowN (ks := [.i64, .i64]) hownP7 (HLP.out ▸ rowsAt2_wf hw 6 m0)
                      obtain ⟨AC', cC', eC, laC, lbC, rC, nC', bC⟩ := OwnsOff.rowN (ks := [.i64, .i64, .i64, .i64, .i64, .i64, .u32]) hownC7 (HLC.out ▸ rowsAt7_wf hw (6 + 2 * m0) m1)
                      injection eP with eP1 eP2 eP3
                      injection eC with eC1 eC2 eC3
                      subst eP1 eP3 eC1 eC3
                      have HrB := Lib.hid hrB
                      have HbP := Lib.hid bP; have HbC := Lib.hid bC; have HnP := Lib.hid nP'; have HnC := Lib.hid nC'
                      have HrP := Lib.hid rP; have HrC := Lib.hid rC; have HBX := Lib.hid hbX7
                      have hrA8 := Lib.hid hrA8'
                      have hrB7' := Lib.hid hrB7
                      clear hrB hX7 hownP7 hownC7 eP2 eC2 bP bC nP' nC' rP rC hbX7
                      go_wp2
                      generalize hwf : ((((((wB.setCell ⟨w.heap.size, 0, none⟩ (.slice aP LP.length cP)).setCell ⟨w.heap.size, 1, none⟩ (.slice aC LC.length cC)).setCell ⟨w.heap.size, 2, none⟩ (.int .i64 x2)).setCell ⟨w.heap.size, 3, none⟩ (.slice aA LA.length cA)).setCell ⟨w.heap.size, 4, none⟩ (.int .i64 x4)).setCell ⟨w.heap.size, 5, none⟩ (.slice aB LB.length cB)) = wf
                      have hfin : wf.heap[w.heap.size]? = some (.cells #[.slice aP LP.length cP, .slice aC LC.length cC, .int .i64 x2, .slice aA LA.length cA, .int .i64 x4, .slice aB LB.length cB] 31 (0, 0)) := by rw [← hwf]; simp [World.setCell, Array.getElem?_modify, HrB.out]
                      have y0 : wf.cell? ⟨w.heap.size, 0, none⟩ = some (.slice aP LP.length cP) := cell_blk hfin rfl
                      have y1 : wf.cell? ⟨w.heap.size, 1, none⟩ = some (.slice aC LC.length cC) := cell_blk hfin rfl
                      have y2 : wf.cell? ⟨w.heap.size, 2, none⟩ = some (.int .i64 x2) := cell_blk hfin rfl
                      have y3 : wf.cell? ⟨w.heap.size, 3, none⟩ = some (.slice aA LA.length cA) := cell_blk hfin rfl
                      have y4 : wf.cell? ⟨w.heap.size, 4, none⟩ = some (.int .i64 x4) := cell_blk hfin rfl
                      have y5 : wf.cell? ⟨w.heap.size, 5, none⟩ = some (.slice aB LB.length cB) := cell_blk hfin rfl
                      have hF : Only (fun j => j = w.heap.size) wB wf := by rw [← hwf]; exact (((((Only.setCell _ ⟨w.heap.size, 0, none⟩ _).trans (Only.setCell _ ⟨w.heap.size, 1, none⟩ _)).trans (Only.setCell _ ⟨w.heap.size, 2, none⟩ _)).trans (Only.setCell _ ⟨w.heap.size, 3, none⟩ _)).trans (Only.setCell _ ⟨w.heap.size, 4, none⟩ _)).trans (Only.setCell _ ⟨w.heap.size, 5, none⟩ _)
                      have HC : parseC xs = ⟨LP, LC, x2, LA, x4, LB⟩ := by unfold parseC; rw [N0.out, N1.out, N3.out, N5.out, HLP.out, HLC.out, HLA.out, HLB.out, HY2.out, HY4.out]
                      have hpost : GivesCfg w (parseO xs) (parseE xs) (.returned (.tuple #[.agg #[.slice aP LP.length cP, .slice aC LC.length cC, .int .i64 x2, .slice aA LA.length cA, .int .i64 x4, .slice aB LB.length cB], .int .i64 0])) wf := by
                        rw [parseO_yes HE.out, HE.out, HC]
                        exact ⟨⟨aP, cP, aC, cC, aA, cA, aB, cB⟩, rfl, ⟨(HrP.out.only (Nat.le_refl _) hF (fun a ha e => by have := HbP.out a ha; have : a.block = w.heap.size := e; omega)).more hF.size, (HrC.out.only (Nat.le_refl _) hF (fun a ha e => by have := HbC.out a ha; have : a.block = w.heap.size := e; omega)).more hF.size, (hrA8.out.only (Nat.le_refl _) hF (fun a ha e => by have := HBBA.out a ha; have : a.block = w.heap.size := e; omega)).more hF.size, (hrB7'.out.only (Nat.le_refl _) hF (fun a ha e => by have := HBBB.out a ha; have : a.block = w.heap.size := e; omega)).more hF.size, ⟨laP, lbP, HnP.out⟩, ⟨laC, lbC, HnC.out⟩, ⟨laA, lbA, HNA.out⟩, ⟨laB, lbB, HNB.out⟩⟩, HW0.out.trans ((HBX.out.mono hX0.out).trans (hF.below (by have := HW0.out.size; have := (HBX.out).size; omega) (fun k hk => by omega)))⟩
                      exact bodyPost_ret (v := .tuple #[.agg #[.slice aP LP.length cP, .slice aC LC.length cC, .int .i64 x2, .slice aA LA.length cA, .int .i64 x4, .slice aB LB.length cB], .int .i64 0]) (by simp [results, Try.results10, go_sem, y0, y1, y2, y3, y4, y5]) rfl hpost
end Go.Proofs.Ytjknmojjodghdaa
