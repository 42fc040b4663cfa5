/- Texts of the ring, joined, what is used of them. No condition but those in the statements. -/
import Derived.BigQuiet
import Derived.BigRegion
import Derived.Deep.MidRow
import Derived.Deep.RegionHeld3
import Derived.Deep.Upon
import Derived.IntWalk
import Derived.Test.YthcnooimegaloaaDoorQMQs
namespace Go.Proofs.YthcnooimegaloaaDoor
open Go.RowKit Go.Sort
set_option linter.unusedVariables false
set_option linter.unusedSimpArgs false
set_option linter.unusedVariables false
set_option linter.unusedSimpArgs false
set_option maxRecDepth 100000
set_option maxHeartbeats 6400000 in
theorem modelQueues_b (q : Int) (l : List Int) (A : Option Addr) (k : Nat) (w : World) (hT : TabsAt w) (hq : 0 ≤ q ∧ q ≤ 255) (hr : IntRowK .i8 w w.heap.size A l) (hw : ∀ x ∈ l, -128 ≤ x ∧ x ≤ 127) : Calls Tryd.prog 3 #[.int .u8 q, .slice A l.length k] w fun e w' => e = .returned (.bool true) ∧ Below w.heap.size w w' := by
  have HEX := fun w1 => example18_b w1
  have HWK := Lib.hid (wakes18_b w hT)
  have HT := Lib.hid hT; have HR := Lib.hid hr; have HWR := Lib.hid hw
  clear hT hr hw
  go_enter Tryd.func3, Tryd.ntmps3
  go_wp2_with fail
  refine HWK.out.mono ?_
  rintro e w1 ⟨rfl, hb1⟩
  have HB1 := Lib.hid hb1
  have HEX := Lib.hid (HEX w1)
  clear hb1 HWK
  by_cases hlong : l.length > 100
  · have s1 : (l.length : Int) > 100 := by omega
    go_wp2
    go_ret
    exact ⟨rfl, HB1.out⟩
  · have s1 : ¬ ((l.length : Int) > 100) := by omega
    have HLL := Lib.hid hlong
    clear hlong
    go_wp2_with fail
    refine HEX.out.mono ?_
    rintro e w2 ⟨pb, cb, ab, bb, rfl, h1, h2, h3, h4, l1, l2, l3, l4, hb2⟩
    clear HEX
    obtain ⟨w3, hw3⟩ : ∃ u, Hid (u = w2.alloc (.cells #[.slice (some ⟨pb, 0, none⟩) 2 2, .slice (some ⟨cb, 0, none⟩) 1 1, .int .i64 1, .slice (some ⟨ab, 0, none⟩) 1 1, .int .i64 1, .slice (some ⟨bb, 0, none⟩) 1 1] 31)) := ⟨_, rfl⟩
    have hb3 : Below w2.heap.size w2 w3 := by rw [hw3.out]; exact (Below.refl _ _).alloc (Nat.le_refl _) _
    have g0 : w3.heap[w2.heap.size]? = some (.cells #[.slice (some ⟨pb, 0, none⟩) 2 2, .slice (some ⟨cb, 0, none⟩) 1 1, .int .i64 1, .slice (some ⟨ab, 0, none⟩) 1 1, .int .i64 1, .slice (some ⟨bb, 0, none⟩) 1 1] 31 (0, 0)) := by rw [hw3.out]; exact heap_alloc_new _ _
    have lt : ∀ {b : Nat} {o : Obj}, w2.heap[b]? = some o → b < w2.heap.size := fun h => (Array.getElem?_eq_some_iff.1 h).1
    have g1 := (hb3.block _ (lt h1)).trans h1
    have g2 := (hb3.block _ (lt h2)).trans h2
    have g3 := (hb3.block _ (lt h3)).trans h3
    have g4 := (hb3.block _ (lt h4)).trans h4
    have d1 : w3.cell? ⟨w2.heap.size, 1, none⟩ = some (.slice (some ⟨cb, 0, none⟩) 1 1) := blk_at g0 (i := 1) rfl
    have d4 : w3.cell? ⟨cb, 4, none⟩ = some (.int .i64 2) := blk_at g2 (i := 4) rfl
    have f4 : w3.frozen? ⟨cb, 4, none⟩ = false := by simp [World.frozen?, g2]
    obtain ⟨d, hdd⟩ : ∃ d, RowKit.wrap64 (2 ^ (q % 4).toNat) = d := ⟨_, rfl⟩
    have HD : Hid (d = 1 ∨ d = 2 ∨ d = 4 ∨ d = 8) := Lib.hid (by
      rw [← hdd]
      rcases (show q % 4 = 0 ∨ q % 4 = 1 ∨ q % 4 = 2 ∨ q % 4 = 3 by omega) with e | e | e | e <;> rw [e]
      · exact .inl (show RowKit.wrap64 1 = 1 from IntWalk.wrap64_in 1 (by omega))
      · exact .inr (.inl (show RowKit.wrap64 2 = 2 from IntWalk.wrap64_in 2 (by omega)))
      · exact .inr (.inr (.inl (show RowKit.wrap64 4 = 4 from IntWalk.wrap64_in 4 (by omega))))
      · exact .inr (.inr (.inr (show RowKit.wrap64 8 = 8 from IntWalk.wrap64_in 8 (by omega)))))
    obtain ⟨w4, hw4⟩ : ∃ u, Hid (u = w3.setCell ⟨cb, 4, none⟩ (.int .i64 d)) := ⟨_, rfl⟩
    have ho4 : Only (fun j => j = cb) w3 w4 := by rw [hw4.out]; exact Only.setCell w3 ⟨cb, 4, none⟩ _
    have ne : ∀ {b : Nat} {cs : Array Value} {t : TypeId} {m : Nat × Nat}, w3.heap[b]? = some (.cells cs t m) → t ≠ 35 → b ≠ cb := fun h h' e => by
      rw [e, g2] at h; injection h with h; injection h with _ h; exact h' h.symm
    have k0 := ho4.at_ g0 (ne g0 (by decide))
    have k1 := ho4.at_ g1 (ne g1 (by decide))
    have k2 : w4.heap[cb]? = some (.cells #[.int .i64 2, .int .i64 0, .int .i64 1, .int .i64 3, .int .i64 d, .int .i64 0, .int .u32 0] 35 (0, 0)) := by rw [hw4.out]; exact blk_put g2 rfl
    have k3 := ho4.at_ g3 (ne g3 (by decide))
    have k4 := ho4.at_ g4 (ne g4 (by decide))
    have hRD : Rdy (exK (qL d)) := rdyQ HD.out
    have c0 : w4.cell? ⟨w2.heap.size, 0, none⟩ = some (.slice (some ⟨pb, 0, none⟩) 2 2) := blk_at k0 (i := 0) rfl
    have c1 : w4.cell? ⟨w2.heap.size, 1, none⟩ = some (.slice (some ⟨cb, 0, none⟩) 1 1) := blk_at k0 (i := 1) rfl
    have c2 : w4.cell? ⟨w2.heap.size, 2, none⟩ = some (.int .i64 1) := blk_at k0 (i := 2) rfl
    have c3 : w4.cell? ⟨w2.heap.size, 3, none⟩ = some (.slice (some ⟨ab, 0, none⟩) 1 1) := blk_at k0 (i := 3) rfl
    have c4 : w4.cell? ⟨w2.heap.size, 4, none⟩ = some (.int .i64 1) := blk_at k0 (i := 4) rfl
    have c5 : w4.cell? ⟨w2.heap.size, 5, none⟩ = some (.slice (some ⟨bb, 0, none⟩) 1 1) := blk_at k0 (i := 5) rfl
    have HNW : Calls Tryd.prog 7 #[.agg #[.slice (some ⟨pb, 0, none⟩) 2 2, .slice (some ⟨cb, 0, none⟩) 1 1, .int .i64 1, .slice (some ⟨ab, 0, none⟩) 1 1, .int .i64 1, .slice (some ⟨bb, 0, none⟩) 1 1]] w4 (GivesMd w4 (exK (qL d))) := new8_b (exK (qL d)) ⟨some ⟨pb, 0, none⟩, 2, some ⟨cb, 0, none⟩, 1, some ⟨ab, 0, none⟩, 1, some ⟨bb, 0, none⟩, 1⟩ w4 (exK_in k1 k2 k3 k4) hRD.wf hRD.few hRD.ac
    have HNW := Lib.hid HNW
    have HK := Lib.hid (And.intro k0 k2)
    have HB4 : Hid (Below w.heap.size w w4) := Lib.hid (HB1.out.trans (((hb2.trans (hb3.mono hb2.size)).trans (ho4.below (by have := hb2.size; have := hb3.size; omega) (fun k e => by omega))).mono HB1.out.size))
    have HRD := Lib.hid hRD
    clear h1 h2 h3 h4 l2 l1 l3 l4 hb2 hb3 g0 g1 g2 g3 g4 lt ho4 ne k0 k1 k2 k3 k4 hRD
    go_wp2_with (first | (rw [← hw3.out]) | (rw [← hw4.out]))
    refine HNW.out.mono ?_
    rintro e w5 hg
    obtain ⟨mb, rfl, hL⟩ := law_new hg
    have HLA := Lib.hid (show LawAt w4 mb (exK (qL d)) (mSet (exK (qL d)) 0) w5 from by rw [mSet_zero HRD.out]; exact hL)
    have HTT := Lib.hid (HT.out.later HB4.out)
    clear c0 c1 c2 c3 c4 c5 d1 d4 f4 hdd hg hL HNW hw3 hw4
    go_wp2_with fail
    go_loopw [32] (fun ix wr => ∃ (i : Nat), i ≤ 2 ∧ ix = .int .i64 i ∧ LawAt w4 mb (exK (qL d)) (mSet (exK (qL d)) i) wr) (fun ix _ => (2 : Int) - intOf ix |>.toNat)
    case atStart => exact ⟨0, by omega, rfl, HLA.out⟩
    case round =>
      obtain ⟨i, hi, rfl, hL⟩ := hrel
      by_cases hlt : i < 2
      · have i1 : (i : Int) < 2 := by omega
        have HC := Lib.hid (law_go HRD.out hL (Below.refl _ _) HTT.out (show 2 * i ≤ 100000 by omega) i hlt 1 i 0 (by decide) (WalkArith.wf_i64 (by omega)) (by decide) ok8 (mMid (exK (qL d)) i) (do_set HRD.out i hlt))
        have HI := Lib.hid hlt
        clear hL hlt hi
        go_wp2_with fail
        refine HC.out.mono ?_
        rintro e w6 ⟨rA, rk, rfl, -, -, hL⟩
        have HC := Lib.hid (law_go HRD.out hL (Below.refl _ _) HTT.out (show 2 * i + 1 ≤ 100000 by have := HI.out; omega) i HI.out 2 0 0 (by decide) (by decide) (by decide) ok8 (mSet (exK (qL d)) (i + 1)) (do_mid HRD.out i HI.out))
        clear hL
        go_wp2_with fail
        refine HC.out.mono ?_
        rintro e w7 ⟨rA7, rk7, rfl, -, -, hL⟩
        have HL := Lib.hid hL
        clear hL
        go_wp2
        go_roundw
        case rel => exact ⟨i + 1, by have := HI.out; omega, by go_num, HL.out⟩
        case measure => have := HI.out; simp [intOf]; omega
      · obtain rfl : i = 2 := by omega
        have HLA := Lib.hid hL
        clear hL hlt hi
        go_wp2_with fail
        go_loopw [8, 9, 49] (fun a b ix wr => ∃ (sent got i : Nat) (M : Md8), i ≤ l.length ∧ sent ≤ i ∧ got ≤ sent ∧ a = .int .i64 sent ∧ b = .int .i64 got ∧ ix = .int .i64 i ∧ ((sent - got : Nat) : Int) ≤ d ∧ QAt M sent got (4 + 2 * i) ∧ LawAt w4 mb (exK (qL d)) M wr) (fun a b ix _ => (l.length : Int) - intOf ix |>.toNat)
        case atStart => exact ⟨0, 0, 0, _, by omega, by omega, by omega, rfl, rfl, rfl, by have := HD.out; omega, q_zero, HLA.out⟩
        case round =>
          obtain ⟨sent, got, i, M, hi, hsi, hgs, rfl, rfl, rfl, hle, hqm, hlm⟩ := hrel
          have HLM := Lib.hid hlm; have HQ0 := Lib.hid hqm
          by_cases hlt : i < l.length
          · have i1 : (i : Int) < (l.length : Int) := by omega
            have HI := Lib.hid (show i < l.length ∧ sent ≤ i ∧ got ≤ sent ∧ ((sent - got : Nat) : Int) ≤ d ∧ l.length ≤ 100 from by have := HLL.out; omega)
            obtain ⟨lb, lo, eA, hlb, hlc⟩ := HR.out (by omega)
            subst eA
            have hcl := (hlm.2.cell (p := ⟨lb, lo + i, none⟩) (by have := HB4.out.size; show lb < _; omega)).trans ((HB4.out.cell (p := ⟨lb, lo + i, none⟩) hlb).trans (hlc i hlt))
            obtain ⟨v, hv⟩ : ∃ v, v = l.getD i 0 := ⟨_, rfl⟩
            have hvb : -128 ≤ v ∧ v ≤ 127 := by rw [hv, List.getD_eq_getElem?_getD, List.getElem?_eq_getElem hlt]; exact HWR.out _ (List.getElem_mem hlt)
            rw [← hv] at hcl
            have hiw : IntKind.i64.wrap v = v := IntWalk.i64_in _ (by omega)
            have hsw : IntKind.u32.wrap (sent : Int) = (sent : Int) := IntWalk.u32_in _ (by have := HI.out; omega)
            clear hv hlb hlc hlm hqm hlt hi
            by_cases h0 : 0 ≤ v
            · have hp2 : v % 2 = 0 ∨ v % 2 = 1 := by omega
              have htm : v.tmod 2 = v % 2 := Int.tmod_eq_emod_of_nonneg h0
              rcases hp2 with hp | hp
              · rw [hp] at htm
                obtain ⟨wa, hwa⟩ : ∃ u, Hid (u = wr.alloc (.cells #[.int .u32 (sent : Int), .int .u32 5] 33)) := ⟨_, rfl⟩
                have hwb := heap_alloc_new wr (.cells #[.int .u32 (sent : Int), .int .u32 5] 33)
                have hrow : IntRowK .u32 (wr.alloc (.cells #[.int .u32 (sent : Int), .int .u32 5] 33)) (wr.alloc (.cells #[.int .u32 (sent : Int), .int .u32 5] 33)).heap.size (some ⟨wr.heap.size, 0, none⟩) [(sent : Int)] := fun _ => ⟨_, 0, rfl, by simp, fun j hj => by
                  have : j = 0 := by simpa using hj
                  subst this
                  exact blk_at hwb (i := 0) rfl⟩
                have hdo := (q_send (q_facts HD.out) HQ0.out [(sent : Int)] (some ⟨wr.heap.size, 0, none⟩) 2 (.inl rfl))
                by_cases hf : ((sent - got : Nat) : Int) = d
                · have hdo := hdo.1
                  have HC := Lib.hid (law_call HLM.out (Below.refl _ _ |>.alloc (Nat.le_refl _) _) HRD.out.wf HRD.out.few HRD.out.ac HTT.out (by have := HQ0.out.t; have := HI.out; omega) 0 (by rw [HRD.out.hp]; decide) 5 0 [(sent : Int)] (some ⟨wr.heap.size, 0, none⟩) 1 2 0 0 rfl (by decide) (by decide) hrow ⟨by simp, by unfold maxLen; omega, fun e => by cases e⟩ (by simp) (fun _ a e => by cases e; exact Nat.le_refl _) (by decide) (by decide) _ _ (hdo hf))
                  rw [← hwa.out] at HC
                  have HQ := Lib.hid HQ0.out.tick
                  have hss : RowKit.wrap64 ((sent : Int) - (got : Int)) = (sent : Int) - (got : Int) := IntWalk.wrap64_in _ (by have := HI.out; omega)
                  have hlt2 : ¬ ((sent : Int) - (got : Int) < d) := by have := HI.out; omega
                  have hdec : decide ((sent : Int) - (got : Int) < d) = false := decide_eq_false hlt2

                  clear hf hrow
                  go_wp2_with (first | (rw [← hwa.out]))
                  refine HC.out.mono ?_
                  clear HC
                  rintro e w6 ⟨rA, rk, rfl, -, -, hL⟩
                  (try simp only [ok8, code8, List.length_nil])
                  obtain ⟨w7, hw7⟩ : ∃ u, Hid (u = w6.alloc (.cells #[.int .i64 2, .slice rA 0 rk, .bool false, .int .i64 0] 41)) := ⟨_, rfl⟩
                  have hb7 : Below w6.heap.size w6 w7 := by rw [hw7.out]; exact (Below.refl _ _).alloc (Nat.le_refl _) _
                  have h7 := heap_alloc_new w6 (.cells #[.int .i64 2, .slice rA 0 rk, .bool false, .int .i64 0] 41)
                  rw [← hw7.out] at h7
                  have a0 : w7.cell? ⟨w6.heap.size, 0, none⟩ = some (.int .i64 2) := blk_at h7 (i := 0) rfl
                  have a1 : w7.cell? ⟨w6.heap.size, 1, none⟩ = some (.slice rA 0 rk) := blk_at h7 (i := 1) rfl
                  have a3 : w7.cell? ⟨w6.heap.size, 3, none⟩ = some (.int .i64 0) := blk_at h7 (i := 3) rfl
                  have hk7 := hL.2.trans (hb7.mono hL.2.size)
                  have b1 : w7.cell? ⟨w2.heap.size, 1, none⟩ = some (.slice (some ⟨cb, 0, none⟩) 1 1) := blk_at ((hk7.block _ (Array.getElem?_eq_some_iff.1 HK.out.1).1).trans HK.out.1) (i := 1) rfl
                  have b4 : w7.cell? ⟨cb, 4, none⟩ = some (.int .i64 d) := blk_at ((hk7.block _ (Array.getElem?_eq_some_iff.1 HK.out.2).1).trans HK.out.2) (i := 4) rfl
                  have HL := Lib.hid (hL.later hb7)
                  clear hL hb7 h7 hk7
                  go_wp2_with (first | (rw [← hw7.out]))
                  go_quiet (fail)
                  obtain ⟨cn, hcn⟩ : ∃ n : Nat, n = (sent) - (got) := ⟨_, rfl⟩
                  have hqc := q_count (q_facts HD.out) HQ.out
                  rw [← hcn] at hqc
                  have hcw : RowKit.wrap64 ((sent : Int) - (got : Int)) = (cn : Int) := by have := HI.out; rw [IntWalk.wrap64_in _ (by omega)]; omega
                  have hcw2 : (sent : Int) - (got : Int) = (cn : Int) := by have := HI.out; omega
                  have HQC := Lib.hid hqc
                  clear hqc hcn
                  go_wp2_with fail
                  refine (law_go HRD.out HL.out (below_drewN (Below.refl _ _) _) HTT.out (by have := HQ.out.t; have := HI.out; omega) 1 (by decide) 7 1 0 (by decide) (by decide) (by decide) _ _ HQC.out).mono ?_
                  clear a0 a1 a3 hw7
                  rintro e w8 ⟨rA8, rk8, rfl, -, -, hL8⟩
                  (try simp only [List.length_nil])
                  obtain ⟨w9, hw9⟩ : ∃ u, Hid (u = w8.alloc (.cells #[.int .i64 0, .slice rA8 0 rk8, .bool false, .int .i64 (cn : Int)] 41)) := ⟨_, rfl⟩
                  have hb9 : Below w8.heap.size w8 w9 := by rw [hw9.out]; exact (Below.refl _ _).alloc (Nat.le_refl _) _
                  have h9 := heap_alloc_new w8 (.cells #[.int .i64 0, .slice rA8 0 rk8, .bool false, .int .i64 (cn : Int)] 41)
                  rw [← hw9.out] at h9
                  have a0 : w9.cell? ⟨w8.heap.size, 0, none⟩ = some (.int .i64 0) := blk_at h9 (i := 0) rfl
                  have a3 : w9.cell? ⟨w8.heap.size, 3, none⟩ = some (.int .i64 (cn : Int)) := blk_at h9 (i := 3) rfl
                  have HL9 := Lib.hid (hL8.later hb9)
                  clear hL8 hb9 h9
                  go_wp2_with (first | (rw [← hw9.out]))
                  refine ⟨?_, ?measure⟩
                  (repeat apply Exists.intro)
                  refine ⟨?rel, rfl⟩
                  case rel =>
                    exact ⟨sent, got, i + 1, _, by have := HI.out; omega, by have := HI.out; omega, by have := HI.out; omega, by go_num, by go_num, by go_num, by have := HI.out; omega, by have := HQ.out.tick; rw [show 4 + 2 * (i + 1) = 4 + 2 * i + 1 + 1 by omega]; exact this, by first | exact HL9.out | (have h := HL9.out; rw [hw9.out] at h; exact h)⟩
                  case measure => have := HI.out; simp [intOf]; omega
                · have hdo := hdo.2
                  obtain ⟨M', hdo, hq'⟩ := hdo hf
                  have HC := Lib.hid (law_call HLM.out (Below.refl _ _ |>.alloc (Nat.le_refl _) _) HRD.out.wf HRD.out.few HRD.out.ac HTT.out (by have := HQ0.out.t; have := HI.out; omega) 0 (by rw [HRD.out.hp]; decide) 5 0 [(sent : Int)] (some ⟨wr.heap.size, 0, none⟩) 1 2 0 0 rfl (by decide) (by decide) hrow ⟨by simp, by unfold maxLen; omega, fun e => by cases e⟩ (by simp) (fun _ a e => by cases e; exact Nat.le_refl _) (by decide) (by decide) _ _ hdo)
                  rw [← hwa.out] at HC
                  have HQ := Lib.hid hq'
                  have hss : RowKit.wrap64 ((sent : Int) - (got : Int)) = (sent : Int) - (got : Int) := IntWalk.wrap64_in _ (by have := HI.out; omega)
                  have hlt2 : ((sent : Int) - (got : Int) < d) := by have := HI.out; omega
                  have hdec : decide ((sent : Int) - (got : Int) < d) = true := decide_eq_true hlt2
                  clear hdo hq'
                  clear hf hrow
                  go_wp2_with (first | (rw [← hwa.out]))
                  refine HC.out.mono ?_
                  clear HC
                  rintro e w6 ⟨rA, rk, rfl, -, -, hL⟩
                  (try simp only [ok8, code8, List.length_nil])
                  obtain ⟨w7, hw7⟩ : ∃ u, Hid (u = w6.alloc (.cells #[.int .i64 0, .slice rA 0 rk, .bool false, .int .i64 0] 41)) := ⟨_, rfl⟩
                  have hb7 : Below w6.heap.size w6 w7 := by rw [hw7.out]; exact (Below.refl _ _).alloc (Nat.le_refl _) _
                  have h7 := heap_alloc_new w6 (.cells #[.int .i64 0, .slice rA 0 rk, .bool false, .int .i64 0] 41)
                  rw [← hw7.out] at h7
                  have a0 : w7.cell? ⟨w6.heap.size, 0, none⟩ = some (.int .i64 0) := blk_at h7 (i := 0) rfl
                  have a1 : w7.cell? ⟨w6.heap.size, 1, none⟩ = some (.slice rA 0 rk) := blk_at h7 (i := 1) rfl
                  have a3 : w7.cell? ⟨w6.heap.size, 3, none⟩ = some (.int .i64 0) := blk_at h7 (i := 3) rfl
                  have hk7 := hL.2.trans (hb7.mono hL.2.size)
                  have b1 : w7.cell? ⟨w2.heap.size, 1, none⟩ = some (.slice (some ⟨cb, 0, none⟩) 1 1) := blk_at ((hk7.block _ (Array.getElem?_eq_some_iff.1 HK.out.1).1).trans HK.out.1) (i := 1) rfl
                  have b4 : w7.cell? ⟨cb, 4, none⟩ = some (.int .i64 d) := blk_at ((hk7.block _ (Array.getElem?_eq_some_iff.1 HK.out.2).1).trans HK.out.2) (i := 4) rfl
                  have HL := Lib.hid (hL.later hb7)
                  clear hL hb7 h7 hk7
                  go_wp2_with (first | (rw [← hw7.out]))
                  go_quiet (fail)
                  obtain ⟨cn, hcn⟩ : ∃ n : Nat, n = (sent + 1) - (got) := ⟨_, rfl⟩
                  have hqc := q_count (q_facts HD.out) HQ.out
                  rw [← hcn] at hqc
                  have hcw : RowKit.wrap64 ((sent : Int) + 1 - (got : Int)) = (cn : Int) := by have := HI.out; rw [IntWalk.wrap64_in _ (by omega)]; omega
                  have hcw2 : (sent : Int) + 1 - (got : Int) = (cn : Int) := by have := HI.out; omega
                  have HQC := Lib.hid hqc
                  clear hqc hcn
                  go_wp2_with fail
                  refine (law_go HRD.out HL.out (below_drewN (Below.refl _ _) _) HTT.out (by have := HQ.out.t; have := HI.out; omega) 1 (by decide) 7 1 0 (by decide) (by decide) (by decide) _ _ HQC.out).mono ?_
                  clear a0 a1 a3 hw7
                  rintro e w8 ⟨rA8, rk8, rfl, -, -, hL8⟩
                  (try simp only [List.length_nil])
                  obtain ⟨w9, hw9⟩ : ∃ u, Hid (u = w8.alloc (.cells #[.int .i64 0, .slice rA8 0 rk8, .bool false, .int .i64 (cn : Int)] 41)) := ⟨_, rfl⟩
                  have hb9 : Below w8.heap.size w8 w9 := by rw [hw9.out]; exact (Below.refl _ _).alloc (Nat.le_refl _) _
                  have h9 := heap_alloc_new w8 (.cells #[.int .i64 0, .slice rA8 0 rk8, .bool false, .int .i64 (cn : Int)] 41)
                  rw [← hw9.out] at h9
                  have a0 : w9.cell? ⟨w8.heap.size, 0, none⟩ = some (.int .i64 0) := blk_at h9 (i := 0) rfl
                  have a3 : w9.cell? ⟨w8.heap.size, 3, none⟩ = some (.int .i64 (cn : Int)) := blk_at h9 (i := 3) rfl
                  have HL9 := Lib.hid (hL8.later hb9)
                  clear hL8 hb9 h9
                  go_wp2_with (first | (rw [← hw9.out]))
                  go_roundw
                  case rel =>
                    exact ⟨sent + 1, got, i + 1, _, by have := HI.out; omega, by have := HI.out; omega, by have := HI.out; omega, by go_num, by go_num, by go_num, by have := HI.out; omega, by have := HQ.out.tick; rw [show 4 + 2 * (i + 1) = 4 + 2 * i + 1 + 1 by omega]; exact this, by first | exact HL9.out | (have h := HL9.out; rw [hw9.out] at h; exact h)⟩
                  case measure => have := HI.out; simp [intOf]; omega
              · rw [hp] at htm
                obtain ⟨wa, hwa⟩ : ∃ u, Hid (u = wr.alloc (.cells #[.int .u32 (sent : Int), .int .u32 5] 33)) := ⟨_, rfl⟩
                have hwb := heap_alloc_new wr (.cells #[.int .u32 (sent : Int), .int .u32 5] 33)
                have hrow : IntRowK .u32 (wr.alloc (.cells #[.int .u32 (sent : Int), .int .u32 5] 33)) (wr.alloc (.cells #[.int .u32 (sent : Int), .int .u32 5] 33)).heap.size (some ⟨wr.heap.size, 0, none⟩) [(sent : Int), 5] := fun _ => ⟨_, 0, rfl, by simp, fun j hj => by
                  have : j = 0 ∨ j = 1 := by have : j < 2 := by simpa using hj
                                             omega
                  rcases this with rfl | rfl
                  · exact blk_at hwb (i := 0) rfl
                  · exact blk_at hwb (i := 1) rfl⟩
                have hdo := (q_send (q_facts HD.out) HQ0.out [(sent : Int), 5] (some ⟨wr.heap.size, 0, none⟩) 2 (.inr rfl))
                by_cases hf : ((sent - got : Nat) : Int) = d
                · have hdo := hdo.1
                  have HC := Lib.hid (law_call HLM.out (Below.refl _ _ |>.alloc (Nat.le_refl _) _) HRD.out.wf HRD.out.few HRD.out.ac HTT.out (by have := HQ0.out.t; have := HI.out; omega) 0 (by rw [HRD.out.hp]; decide) 5 0 [(sent : Int), 5] (some ⟨wr.heap.size, 0, none⟩) 2 2 0 0 rfl (by decide) (by decide) hrow ⟨by simp, by unfold maxLen; omega, fun e => by cases e⟩ (by simp) (fun _ a e => by cases e; exact Nat.le_refl _) (by decide) (by decide) _ _ (hdo hf))
                  rw [← hwa.out] at HC
                  have HQ := Lib.hid HQ0.out.tick
                  have hss : RowKit.wrap64 ((sent : Int) - (got : Int)) = (sent : Int) - (got : Int) := IntWalk.wrap64_in _ (by have := HI.out; omega)
                  have hlt2 : ¬ ((sent : Int) - (got : Int) < d) := by have := HI.out; omega
                  have hdec : decide ((sent : Int) - (got : Int) < d) = false := decide_eq_false hlt2

                  clear hf hrow
                  go_wp2_with (first | (rw [← hwa.out]))
                  refine HC.out.mono ?_
                  clear HC
                  rintro e w6 ⟨rA, rk, rfl, -, -, hL⟩
                  (try simp only [ok8, code8, List.length_nil])
                  obtain ⟨w7, hw7⟩ : ∃ u, Hid (u = w6.alloc (.cells #[.int .i64 2, .slice rA 0 rk, .bool false, .int .i64 0] 41)) := ⟨_, rfl⟩
                  have hb7 : Below w6.heap.size w6 w7 := by rw [hw7.out]; exact (Below.refl _ _).alloc (Nat.le_refl _) _
                  have h7 := heap_alloc_new w6 (.cells #[.int .i64 2, .slice rA 0 rk, .bool false, .int .i64 0] 41)
                  rw [← hw7.out] at h7
                  have a0 : w7.cell? ⟨w6.heap.size, 0, none⟩ = some (.int .i64 2) := blk_at h7 (i := 0) rfl
                  have a1 : w7.cell? ⟨w6.heap.size, 1, none⟩ = some (.slice rA 0 rk) := blk_at h7 (i := 1) rfl
                  have a3 : w7.cell? ⟨w6.heap.size, 3, none⟩ = some (.int .i64 0) := blk_at h7 (i := 3) rfl
                  have hk7 := hL.2.trans (hb7.mono hL.2.size)
                  have b1 : w7.cell? ⟨w2.heap.size, 1, none⟩ = some (.slice (some ⟨cb, 0, none⟩) 1 1) := blk_at ((hk7.block _ (Array.getElem?_eq_some_iff.1 HK.out.1).1).trans HK.out.1) (i := 1) rfl
                  have b4 : w7.cell? ⟨cb, 4, none⟩ = some (.int .i64 d) := blk_at ((hk7.block _ (Array.getElem?_eq_some_iff.1 HK.out.2).1).trans HK.out.2) (i := 4) rfl
                  have HL := Lib.hid (hL.later hb7)
                  clear hL hb7 h7 hk7
                  go_wp2_with (first | (rw [← hw7.out]))
                  go_quiet (fail)
                  obtain ⟨cn, hcn⟩ : ∃ n : Nat, n = (sent) - (got) := ⟨_, rfl⟩
                  have hqc := q_count (q_facts HD.out) HQ.out
                  rw [← hcn] at hqc
                  have hcw : RowKit.wrap64 ((sent : Int) - (got : Int)) = (cn : Int) := by have := HI.out; rw [IntWalk.wrap64_in _ (by omega)]; omega
                  have hcw2 : (sent : Int) - (got : Int) = (cn : Int) := by have := HI.out; omega
                  have HQC := Lib.hid hqc
                  clear hqc hcn
                  go_wp2_with fail
                  refine (law_go HRD.out HL.out (below_drewN (Below.refl _ _) _) HTT.out (by have := HQ.out.t; have := HI.out; omega) 1 (by decide) 7 1 0 (by decide) (by decide) (by decide) _ _ HQC.out).mono ?_
                  clear a0 a1 a3 hw7
                  rintro e w8 ⟨rA8, rk8, rfl, -, -, hL8⟩
                  (try simp only [List.length_nil])
                  obtain ⟨w9, hw9⟩ : ∃ u, Hid (u = w8.alloc (.cells #[.int .i64 0, .slice rA8 0 rk8, .bool false, .int .i64 (cn : Int)] 41)) := ⟨_, rfl⟩
                  have hb9 : Below w8.heap.size w8 w9 := by rw [hw9.out]; exact (Below.refl _ _).alloc (Nat.le_refl _) _
                  have h9 := heap_alloc_new w8 (.cells #[.int .i64 0, .slice rA8 0 rk8, .bool false, .int .i64 (cn : Int)] 41)
                  rw [← hw9.out] at h9
                  have a0 : w9.cell? ⟨w8.heap.size, 0, none⟩ = some (.int .i64 0) := blk_at h9 (i := 0) rfl
                  have a3 : w9.cell? ⟨w8.heap.size, 3, none⟩ = some (.int .i64 (cn : Int)) := blk_at h9 (i := 3) rfl
                  have HL9 := Lib.hid (hL8.later hb9)
                  clear hL8 hb9 h9
                  go_wp2_with (first | (rw [← hw9.out]))
                  refine ⟨?_, ?measure⟩
                  (repeat apply Exists.intro)
                  refine ⟨?rel, rfl⟩
                  case rel =>
                    exact ⟨sent, got, i + 1, _, by have := HI.out; omega, by have := HI.out; omega, by have := HI.out; omega, by go_num, by go_num, by go_num, by have := HI.out; omega, by have := HQ.out.tick; rw [show 4 + 2 * (i + 1) = 4 + 2 * i + 1 + 1 by omega]; exact this, by first | exact HL9.out | (have h := HL9.out; rw [hw9.out] at h; exact h)⟩
                  case measure => have := HI.out; simp [intOf]; omega
                · have hdo := hdo.2
                  obtain ⟨M', hdo, hq'⟩ := hdo hf
                  have HC := Lib.hid (law_call HLM.out (Below.refl _ _ |>.alloc (Nat.le_refl _) _) HRD.out.wf HRD.out.few HRD.out.ac HTT.out (by have := HQ0.out.t; have := HI.out; omega) 0 (by rw [HRD.out.hp]; decide) 5 0 [(sent : Int), 5] (some ⟨wr.heap.size, 0, none⟩) 2 2 0 0 rfl (by decide) (by decide) hrow ⟨by simp, by unfold maxLen; omega, fun e => by cases e⟩ (by simp) (fun _ a e => by cases e; exact Nat.le_refl _) (by decide) (by decide) _ _ hdo)
                  rw [← hwa.out] at HC
                  have HQ := Lib.hid hq'
                  have hss : RowKit.wrap64 ((sent : Int) - (got : Int)) = (sent : Int) - (got : Int) := IntWalk.wrap64_in _ (by have := HI.out; omega)
                  have hlt2 : ((sent : Int) - (got : Int) < d) := by have := HI.out; omega
                  have hdec : decide ((sent : Int) - (got : Int) < d) = true := decide_eq_true hlt2
                  clear hdo hq'
                  clear hf hrow
                  go_wp2_with (first | (rw [← hwa.out]))
                  refine HC.out.mono ?_
                  clear HC
                  rintro e w6 ⟨rA, rk, rfl, -, -, hL⟩
                  (try simp only [ok8, code8, List.length_nil])
                  obtain ⟨w7, hw7⟩ : ∃ u, Hid (u = w6.alloc (.cells #[.int .i64 0, .slice rA 0 rk, .bool false, .int .i64 0] 41)) := ⟨_, rfl⟩
                  have hb7 : Below w6.heap.size w6 w7 := by rw [hw7.out]; exact (Below.refl _ _).alloc (Nat.le_refl _) _
                  have h7 := heap_alloc_new w6 (.cells #[.int .i64 0, .slice rA 0 rk, .bool false, .int .i64 0] 41)
                  rw [← hw7.out] at h7
                  have a0 : w7.cell? ⟨w6.heap.size, 0, none⟩ = some (.int .i64 0) := blk_at h7 (i := 0) rfl
                  have a1 : w7.cell? ⟨w6.heap.size, 1, none⟩ = some (.slice rA 0 rk) := blk_at h7 (i := 1) rfl
                  have a3 : w7.cell? ⟨w6.heap.size, 3, none⟩ = some (.int .i64 0) := blk_at h7 (i := 3) rfl
                  have hk7 := hL.2.trans (hb7.mono hL.2.size)
                  have b1 : w7.cell? ⟨w2.heap.size, 1, none⟩ = some (.slice (some ⟨cb, 0, none⟩) 1 1) := blk_at ((hk7.block _ (Array.getElem?_eq_some_iff.1 HK.out.1).1).trans HK.out.1) (i := 1) rfl
                  have b4 : w7.cell? ⟨cb, 4, none⟩ = some (.int .i64 d) := blk_at ((hk7.block _ (Array.getElem?_eq_some_iff.1 HK.out.2).1).trans HK.out.2) (i := 4) rfl
                  have HL := Lib.hid (hL.later hb7)
                  clear hL hb7 h7 hk7
                  go_wp2_with (first | (rw [← hw7.out]))
                  go_quiet (fail)
                  obtain ⟨cn, hcn⟩ : ∃ n : Nat, n = (sent + 1) - (got) := ⟨_, rfl⟩
                  have hqc := q_count (q_facts HD.out) HQ.out
                  rw [← hcn] at hqc
                  have hcw : RowKit.wrap64 ((sent : Int) + 1 - (got : Int)) = (cn : Int) := by have := HI.out; rw [IntWalk.wrap64_in _ (by omega)]; omega
                  have hcw2 : (sent : Int) + 1 - (got : Int) = (cn : Int) := by have := HI.out; omega
                  have HQC := Lib.hid hqc
                  clear hqc hcn
                  go_wp2_with fail
                  refine (law_go HRD.out HL.out (below_drewN (Below.refl _ _) _) HTT.out (by have := HQ.out.t; have := HI.out; omega) 1 (by decide) 7 1 0 (by decide) (by decide) (by decide) _ _ HQC.out).mono ?_
                  clear a0 a1 a3 hw7
                  rintro e w8 ⟨rA8, rk8, rfl, -, -, hL8⟩
                  (try simp only [List.length_nil])
                  obtain ⟨w9, hw9⟩ : ∃ u, Hid (u = w8.alloc (.cells #[.int .i64 0, .slice rA8 0 rk8, .bool false, .int .i64 (cn : Int)] 41)) := ⟨_, rfl⟩
                  have hb9 : Below w8.heap.size w8 w9 := by rw [hw9.out]; exact (Below.refl _ _).alloc (Nat.le_refl _) _
                  have h9 := heap_alloc_new w8 (.cells #[.int .i64 0, .slice rA8 0 rk8, .bool false, .int .i64 (cn : Int)] 41)
                  rw [← hw9.out] at h9
                  have a0 : w9.cell? ⟨w8.heap.size, 0, none⟩ = some (.int .i64 0) := blk_at h9 (i := 0) rfl
                  have a3 : w9.cell? ⟨w8.heap.size, 3, none⟩ = some (.int .i64 (cn : Int)) := blk_at h9 (i := 3) rfl
                  have HL9 := Lib.hid (hL8.later hb9)
                  clear hL8 hb9 h9
                  go_wp2_with (first | (rw [← hw9.out]))
                  go_roundw
                  case rel =>
                    exact ⟨sent + 1, got, i + 1, _, by have := HI.out; omega, by have := HI.out; omega, by have := HI.out; omega, by go_num, by go_num, by go_num, by have := HI.out; omega, by have := HQ.out.tick; rw [show 4 + 2 * (i + 1) = 4 + 2 * i + 1 + 1 by omega]; exact this, by first | exact HL9.out | (have h := HL9.out; rw [hw9.out] at h; exact h)⟩
                  case measure => have := HI.out; simp [intOf]; omega
            · have hdo := q_recv (q_facts HD.out) HQ0.out
              by_cases hf : got = sent
              · have hdo := hdo.1
                have HC := Lib.hid (law_go HRD.out HLM.out (Below.refl _ _) HTT.out (by have := HQ0.out.t; have := HI.out; omega) 1 (by decide) 6 1 0 (by decide) (by decide) (by decide) _ _ (hdo hf))
                have HQ := Lib.hid HQ0.out.tick
                have hlt2 : ¬ ((got : Int) < (sent : Int)) := by omega

                have HF := Lib.hid hf
                clear hf
                go_wp2_with fail
                refine HC.out.mono ?_
                clear HC
                rintro e w6 ⟨rA, rk, rfl, hd, -, hL⟩
                (try simp only [ok8, code8, List.length_nil, List.length_cons])
                obtain ⟨w7, hw7⟩ : ∃ u, Hid (u = w6.alloc (.cells #[.int .i64 2, .slice rA 0 rk, .bool false, .int .i64 0] 41)) := ⟨_, rfl⟩
                have hb7 : Below w6.heap.size w6 w7 := by rw [hw7.out]; exact (Below.refl _ _).alloc (Nat.le_refl _) _
                have h7 := heap_alloc_new w6 (.cells #[.int .i64 2, .slice rA 0 rk, .bool false, .int .i64 0] 41)
                rw [← hw7.out] at h7
                have a0 : w7.cell? ⟨w6.heap.size, 0, none⟩ = some (.int .i64 2) := blk_at h7 (i := 0) rfl
                have a1 : w7.cell? ⟨w6.heap.size, 1, none⟩ = some (.slice rA 0 rk) := blk_at h7 (i := 1) rfl
                have a3 : w7.cell? ⟨w6.heap.size, 3, none⟩ = some (.int .i64 0) := blk_at h7 (i := 3) rfl
                have hk7 := hL.2.trans (hb7.mono hL.2.size)
                have b1 : w7.cell? ⟨w2.heap.size, 1, none⟩ = some (.slice (some ⟨cb, 0, none⟩) 1 1) := blk_at ((hk7.block _ (Array.getElem?_eq_some_iff.1 HK.out.1).1).trans HK.out.1) (i := 1) rfl
                have b4 : w7.cell? ⟨cb, 4, none⟩ = some (.int .i64 d) := blk_at ((hk7.block _ (Array.getElem?_eq_some_iff.1 HK.out.2).1).trans HK.out.2) (i := 4) rfl
                have HL := Lib.hid (hL.later hb7)
                clear hL hb7 h7 hk7 hd 
                have hf : sent ≤ got := by have := HF.out; omega
                obtain ⟨cn, hcn⟩ : ∃ n : Nat, n = (sent) - (got) := ⟨_, rfl⟩
                have hqc := q_count (q_facts HD.out) HQ.out
                rw [← hcn] at hqc
                have hcw : RowKit.wrap64 ((sent : Int) - (got : Int)) = (cn : Int) := by have := HI.out; rw [IntWalk.wrap64_in _ (by omega)]; omega
                have hcw2 : (sent : Int) - (got : Int) = (cn : Int) := by have := HI.out; omega
                have HQC := Lib.hid hqc
                clear hqc hcn
                go_wp2_with (first | (rw [← hw7.out]))
                refine (law_go HRD.out HL.out (Below.refl _ _) HTT.out (by have := HQ.out.t; have := HI.out; omega) 1 (by decide) 7 1 0 (by decide) (by decide) (by decide) _ _ HQC.out).mono ?_
                clear a0 a1 a3 hw7
                rintro e w8 ⟨rA8, rk8, rfl, -, -, hL8⟩
                (try simp only [List.length_nil])
                obtain ⟨w9, hw9⟩ : ∃ u, Hid (u = w8.alloc (.cells #[.int .i64 0, .slice rA8 0 rk8, .bool false, .int .i64 (cn : Int)] 41)) := ⟨_, rfl⟩
                have hb9 : Below w8.heap.size w8 w9 := by rw [hw9.out]; exact (Below.refl _ _).alloc (Nat.le_refl _) _
                have h9 := heap_alloc_new w8 (.cells #[.int .i64 0, .slice rA8 0 rk8, .bool false, .int .i64 (cn : Int)] 41)
                rw [← hw9.out] at h9
                have a0 : w9.cell? ⟨w8.heap.size, 0, none⟩ = some (.int .i64 0) := blk_at h9 (i := 0) rfl
                have a3 : w9.cell? ⟨w8.heap.size, 3, none⟩ = some (.int .i64 (cn : Int)) := blk_at h9 (i := 3) rfl
                have HL9 := Lib.hid (hL8.later hb9)
                clear hL8 hb9 h9
                go_wp2_with (first | (rw [← hw9.out]))
                refine ⟨?_, ?measure⟩
                (repeat apply Exists.intro)
                refine ⟨?rel, rfl⟩
                case rel =>
                  exact ⟨sent, got, i + 1, _, by have := HI.out; omega, by have := HI.out; omega, by have := HI.out; omega, by go_num, by go_num, by go_num, by have := HI.out; omega, by have := HQ.out.tick; rw [show 4 + 2 * (i + 1) = 4 + 2 * i + 1 + 1 by omega]; exact this, by first | exact HL9.out | (have h := HL9.out; rw [hw9.out] at h; exact h)⟩
                case measure => have := HI.out; simp [intOf]; omega
              · have hf : got < sent := by have := HI.out; omega
                have hdo := hdo.2
                obtain ⟨M', ds, hdo, hq'⟩ := hdo hf
                have HC := Lib.hid (law_go HRD.out HLM.out (Below.refl _ _) HTT.out (by have := HQ0.out.t; have := HI.out; omega) 1 (by decide) 6 1 0 (by decide) (by decide) (by decide) _ _ hdo)
                have HQ := Lib.hid hq'
                have hlt2 : ((got : Int) < (sent : Int)) := by omega
                clear hdo hq'
                have HF := Lib.hid hf
                clear hf
                go_wp2_with fail
                refine HC.out.mono ?_
                clear HC
                rintro e w6 ⟨rA, rk, rfl, hd, -, hL⟩
                (try simp only [ok8, code8, List.length_nil, List.length_cons])
                obtain ⟨w7, hw7⟩ : ∃ u, Hid (u = w6.alloc (.cells #[.int .i64 0, .slice rA (ds.length + 1) rk, .bool false, .int .i64 0] 41)) := ⟨_, rfl⟩
                have hb7 : Below w6.heap.size w6 w7 := by rw [hw7.out]; exact (Below.refl _ _).alloc (Nat.le_refl _) _
                have h7 := heap_alloc_new w6 (.cells #[.int .i64 0, .slice rA (ds.length + 1) rk, .bool false, .int .i64 0] 41)
                rw [← hw7.out] at h7
                have a0 : w7.cell? ⟨w6.heap.size, 0, none⟩ = some (.int .i64 0) := blk_at h7 (i := 0) rfl
                have a1 : w7.cell? ⟨w6.heap.size, 1, none⟩ = some (.slice rA (ds.length + 1) rk) := blk_at h7 (i := 1) rfl
                have a3 : w7.cell? ⟨w6.heap.size, 3, none⟩ = some (.int .i64 0) := blk_at h7 (i := 3) rfl
                obtain ⟨db, dof, rfl, hdb, hdc⟩ := hd (by simp) (by simp)
                have u0 := (hb7.cell (p := ⟨db, dof + 0, none⟩) hdb).trans (hdc 0 (by simp))
                rw [Nat.add_zero] at u0
                have u0 : w7.cell? ⟨db, dof, none⟩ = some (.int .u32 (got : Int)) := u0
                have hdl : ¬ ((((ds.length + 1 : Nat) : Int)) < 1) := by omega
                have hdl2 : ¬ ((ds.length : Int) + 1 < 1) := by omega
                have hdl3 : (0 : Int) < (ds.length : Int) + 1 := by omega
                have huw : IntKind.u32.wrap (got : Int) = (got : Int) := IntWalk.u32_in _ (by have := HI.out; omega)
                have hk7 := hL.2.trans (hb7.mono hL.2.size)
                have b1 : w7.cell? ⟨w2.heap.size, 1, none⟩ = some (.slice (some ⟨cb, 0, none⟩) 1 1) := blk_at ((hk7.block _ (Array.getElem?_eq_some_iff.1 HK.out.1).1).trans HK.out.1) (i := 1) rfl
                have b4 : w7.cell? ⟨cb, 4, none⟩ = some (.int .i64 d) := blk_at ((hk7.block _ (Array.getElem?_eq_some_iff.1 HK.out.2).1).trans HK.out.2) (i := 4) rfl
                have HL := Lib.hid (hL.later hb7)
                clear hL hb7 h7 hk7 hd hdc hdb
                have hf : got < sent := by have := HF.out; omega
                obtain ⟨cn, hcn⟩ : ∃ n : Nat, n = (sent) - (got + 1) := ⟨_, rfl⟩
                have hqc := q_count (q_facts HD.out) HQ.out
                rw [← hcn] at hqc
                have hcw : RowKit.wrap64 ((sent : Int) - ((got : Int) + 1)) = (cn : Int) := by have := HI.out; rw [IntWalk.wrap64_in _ (by omega)]; omega
                have hcw2 : (sent : Int) - ((got : Int) + 1) = (cn : Int) := by have := HI.out; omega
                have HQC := Lib.hid hqc
                clear hqc hcn
                go_wp2_with (first | (rw [← hw7.out]))
                refine (law_go HRD.out HL.out (Below.refl _ _) HTT.out (by have := HQ.out.t; have := HI.out; omega) 1 (by decide) 7 1 0 (by decide) (by decide) (by decide) _ _ HQC.out).mono ?_
                clear a0 a1 a3 hw7
                rintro e w8 ⟨rA8, rk8, rfl, -, -, hL8⟩
                (try simp only [List.length_nil])
                obtain ⟨w9, hw9⟩ : ∃ u, Hid (u = w8.alloc (.cells #[.int .i64 0, .slice rA8 0 rk8, .bool false, .int .i64 (cn : Int)] 41)) := ⟨_, rfl⟩
                have hb9 : Below w8.heap.size w8 w9 := by rw [hw9.out]; exact (Below.refl _ _).alloc (Nat.le_refl _) _
                have h9 := heap_alloc_new w8 (.cells #[.int .i64 0, .slice rA8 0 rk8, .bool false, .int .i64 (cn : Int)] 41)
                rw [← hw9.out] at h9
                have a0 : w9.cell? ⟨w8.heap.size, 0, none⟩ = some (.int .i64 0) := blk_at h9 (i := 0) rfl
                have a3 : w9.cell? ⟨w8.heap.size, 3, none⟩ = some (.int .i64 (cn : Int)) := blk_at h9 (i := 3) rfl
                have HL9 := Lib.hid (hL8.later hb9)
                clear hL8 hb9 h9
                go_wp2_with (first | (rw [← hw9.out]))
                refine ⟨?_, ?measure⟩
                (repeat apply Exists.intro)
                refine ⟨?rel, rfl⟩
                case rel =>
                  exact ⟨sent, got + 1, i + 1, _, by have := HI.out; omega, by have := HI.out; omega, by have := HI.out; omega, by go_num, by go_num, by go_num, by have := HI.out; omega, by have := HQ.out.tick; rw [show 4 + 2 * (i + 1) = 4 + 2 * i + 1 + 1 by omega]; exact this, by first | exact HL9.out | (have h := HL9.out; rw [hw9.out] at h; exact h)⟩
                case measure => have := HI.out; simp [intOf]; omega
          · have i1 : ¬ ((i : Int) < (l.length : Int)) := by omega
            go_wp2
            go_ret
            exact ⟨rfl, HB4.out.trans (HLM.out.2.mono HB4.out.size)⟩
end Go.Proofs.YthcnooimegaloaaDoor
