/- Texts of the ring, joined, what is used of them. No condition but those in the statements. -/
import Derived.BigQuiet
import Derived.BigRegion
import Derived.Deep.MidRow
import Derived.Deep.RegionHeld3
import Derived.Deep.Upon
import Derived.IntWalk
import Derived.Test.YthcnooimegaloaaDoorQMRs
import Derived.Test.YthcnooimegaloaaDoorQMSm
namespace Go.Proofs.YthcnooimegaloaaDoor
open Go.RowKit Go.Sort
set_option linter.unusedVariables false
set_option linter.unusedSimpArgs false
set_option linter.unusedVariables false
set_option linter.unusedSimpArgs false
set_option maxRecDepth 100000
set_option maxHeartbeats 25600000 in
theorem modelReads_b (l : List Int) (A : Option Addr) (k : Nat) (p : Int) (w : World) (hT : TabsAt w) (hp : 0 ≤ p ∧ p ≤ 255) (hr : IntRowK .u8 w w.heap.size A l) (hw : ∀ x ∈ l, 0 ≤ x ∧ x ≤ 255) : Calls Tryd.prog 4 #[.slice A l.length k, .int .u8 p] w fun e w' => e = .returned (.bool true) ∧ Below w.heap.size w w' := by
  have HEX := fun w1 => example18_b w1
  have HWK := Lib.hid (wakes18_b w hT)
  have HT := Lib.hid hT; have HR := Lib.hid hr; have HWR := Lib.hid hw
  clear hT hr hw
  go_enter Tryd.func4, Tryd.ntmps4
  go_wp2_with fail
  refine HWK.out.mono ?_
  rintro e w1 ⟨rfl, hb1⟩
  have HB1 := Lib.hid hb1
  have HEX := Lib.hid (HEX w1)
  clear hb1 HWK
  by_cases hlong : l.length > 100
  · have s1 : (l.length : Int) > 100 := by omega
    go_wp2
    go_ret
    exact ⟨rfl, HB1.out⟩
  · have s1 : ¬ ((l.length : Int) > 100) := by omega
    have HLL := Lib.hid hlong
    clear hlong
    go_wp2_with fail
    refine HEX.out.mono ?_
    rintro e w2 ⟨pb, cb, ab, bb, rfl, h1, h2, h3, h4, l1, l2, l3, l4, hb2⟩
    clear HEX
    obtain ⟨w3, hw3⟩ : ∃ u, Hid (u = w2.alloc (.cells #[.slice (some ⟨pb, 0, none⟩) 2 2, .slice (some ⟨cb, 0, none⟩) 1 1, .int .i64 1, .slice (some ⟨ab, 0, none⟩) 1 1, .int .i64 1, .slice (some ⟨bb, 0, none⟩) 1 1] 31)) := ⟨_, rfl⟩
    have hb3 : Below w2.heap.size w2 w3 := by rw [hw3.out]; exact (Below.refl _ _).alloc (Nat.le_refl _) _
    have g0 : w3.heap[w2.heap.size]? = some (.cells #[.slice (some ⟨pb, 0, none⟩) 2 2, .slice (some ⟨cb, 0, none⟩) 1 1, .int .i64 1, .slice (some ⟨ab, 0, none⟩) 1 1, .int .i64 1, .slice (some ⟨bb, 0, none⟩) 1 1] 31 (0, 0)) := by rw [hw3.out]; exact heap_alloc_new _ _
    have lt : ∀ {b : Nat} {o : Obj}, w2.heap[b]? = some o → b < w2.heap.size := fun h => (Array.getElem?_eq_some_iff.1 h).1
    have g1 := (hb3.block _ (lt h1)).trans h1
    have g2 := (hb3.block _ (lt h2)).trans h2
    have g3 := (hb3.block _ (lt h3)).trans h3
    have g4 := (hb3.block _ (lt h4)).trans h4
    have d1 : w3.cell? ⟨w2.heap.size, 1, none⟩ = some (.slice (some ⟨cb, 0, none⟩) 1 1) := blk_at g0 (i := 1) rfl
    have hpw : IntKind.i64.wrap p = p := IntWalk.i64_in _ (by omega)
    have hth := there_blk (W := w3) g2 (n := (#[.int .i64 1, .int .i64 0, .int .i64 1, .int .i64 2, .int .i64 0, .int .i64 p, .int .u32 0] : Array Value).size) rfl
    have hsz7 : (Tryd.prog.info? 35).map (·.size) = some (#[.int .i64 1, .int .i64 0, .int .i64 1, .int .i64 2, .int .i64 0, .int .i64 p, .int .u32 0] : Array Value).size := by kernel_rfl
    obtain ⟨w4, hw4⟩ : ∃ u, Hid (u = w3.setCells cb 0 (#[.int .i64 1, .int .i64 0, .int .i64 1, .int .i64 2, .int .i64 0, .int .i64 p, .int .u32 0] : Array Value).toList) := ⟨_, rfl⟩
    have ho4 : Only (fun j => j = cb) w3 w4 := by rw [hw4.out]; exact Only.sets (S := fun j => j = cb) rfl _ _ (Only.of_below (Below.refl _ _))
    have ne : ∀ {b : Nat} {cs : Array Value} {t : TypeId} {m : Nat × Nat}, w3.heap[b]? = some (.cells cs t m) → t ≠ 35 → b ≠ cb := fun h h' e => by
      rw [e, g2] at h; injection h with h; injection h with _ h; exact h' h.symm
    have k0 := ho4.at_ g0 (ne g0 (by decide))
    have k1 := ho4.at_ g1 (ne g1 (by decide))
    have k2 : w4.heap[cb]? = some (.cells #[.int .i64 1, .int .i64 0, .int .i64 1, .int .i64 2, .int .i64 0, .int .i64 p, .int .u32 0] 35 (0, 0)) := by
      rw [hw4.out]
      exact blk_put (blk_put (blk_put (blk_put (blk_put (blk_put (blk_put g2 rfl) rfl) rfl) rfl) rfl) rfl) rfl
    have k3 := ho4.at_ g3 (ne g3 (by decide))
    have k4 := ho4.at_ g4 (ne g4 (by decide))
    have hRD : Rdy (exK (rL p)) := rdyR hp
    have c0 : w4.cell? ⟨w2.heap.size, 0, none⟩ = some (.slice (some ⟨pb, 0, none⟩) 2 2) := blk_at k0 (i := 0) rfl
    have c1 : w4.cell? ⟨w2.heap.size, 1, none⟩ = some (.slice (some ⟨cb, 0, none⟩) 1 1) := blk_at k0 (i := 1) rfl
    have c2 : w4.cell? ⟨w2.heap.size, 2, none⟩ = some (.int .i64 1) := blk_at k0 (i := 2) rfl
    have c3 : w4.cell? ⟨w2.heap.size, 3, none⟩ = some (.slice (some ⟨ab, 0, none⟩) 1 1) := blk_at k0 (i := 3) rfl
    have c4 : w4.cell? ⟨w2.heap.size, 4, none⟩ = some (.int .i64 1) := blk_at k0 (i := 4) rfl
    have c5 : w4.cell? ⟨w2.heap.size, 5, none⟩ = some (.slice (some ⟨bb, 0, none⟩) 1 1) := blk_at k0 (i := 5) rfl
    have HNW : Calls Tryd.prog 7 #[.agg #[.slice (some ⟨pb, 0, none⟩) 2 2, .slice (some ⟨cb, 0, none⟩) 1 1, .int .i64 1, .slice (some ⟨ab, 0, none⟩) 1 1, .int .i64 1, .slice (some ⟨bb, 0, none⟩) 1 1]] w4 (GivesMd w4 (exK (rL p))) := new8_b (exK (rL p)) ⟨some ⟨pb, 0, none⟩, 2, some ⟨cb, 0, none⟩, 1, some ⟨ab, 0, none⟩, 1, some ⟨bb, 0, none⟩, 1⟩ w4 (exK_in k1 k2 k3 k4) hRD.wf hRD.few hRD.ac
    have HNW := Lib.hid HNW
    have HB4 : Hid (Below w.heap.size w w4) := Lib.hid (HB1.out.trans (((hb2.trans (hb3.mono hb2.size)).trans (ho4.below (by have := hb2.size; have := hb3.size; omega) (fun k e => by omega))).mono HB1.out.size))
    have HRD := Lib.hid hRD
    clear h1 h2 h3 h4 l2 l1 l3 l4 hb2 hb3 g0 g1 g2 g3 g4 lt ho4 ne k0 k1 k2 k3 k4 hRD
    go_wp2_with (first | (rw [← hw3.out]) | (with_reducible refine wpList_store_mid (by kernel_rfl) _ _ _ rfl cb 0 #[.int .i64 1, .int .i64 0, .int .i64 1, .int .i64 2, .int .i64 0, .int .i64 p, .int .u32 0] (by kernel_rfl) (by kernel_rfl) hth hsz7 (by kernel_rfl) ?_; rw [← hw4.out]))
    refine HNW.out.mono ?_
    rintro e w5 hg
    obtain ⟨mb, rfl, hL⟩ := law_new hg
    have HLA := Lib.hid (show LawAt w4 mb (exK (rL p)) (mSet (exK (rL p)) 0) w5 from by rw [mSet_zero HRD.out]; exact hL)
    have HTT := Lib.hid (HT.out.later HB4.out)
    clear c0 c1 c2 c3 c4 c5 d1 hg hL HNW hw3 hw4 hth hsz7
    go_wp2_with fail
    go_loopw [31] (fun ix wr => ∃ (i : Nat), i ≤ 2 ∧ ix = .int .i64 i ∧ LawAt w4 mb (exK (rL p)) (mSet (exK (rL p)) i) wr) (fun ix _ => (2 : Int) - intOf ix |>.toNat)
    case atStart => exact ⟨0, by omega, rfl, HLA.out⟩
    case round =>
      obtain ⟨i, hi, rfl, hL⟩ := hrel
      by_cases hlt : i < 2
      · have i1 : (i : Int) < 2 := by omega
        have HC := Lib.hid (law_go HRD.out hL (Below.refl _ _) HTT.out (show 2 * i ≤ 100000 by omega) i hlt 1 i 0 (by decide) (WalkArith.wf_i64 (by omega)) (by decide) ok8 (mMid (exK (rL p)) i) (do_set HRD.out i hlt))
        have HI := Lib.hid hlt
        clear hL hlt hi
        go_wp2_with fail
        refine HC.out.mono ?_
        rintro e w6 ⟨rA, rk, rfl, -, -, hL⟩
        have HC := Lib.hid (law_go HRD.out hL (Below.refl _ _) HTT.out (show 2 * i + 1 ≤ 100000 by have := HI.out; omega) i HI.out 2 0 0 (by decide) (by decide) (by decide) ok8 (mSet (exK (rL p)) (i + 1)) (do_mid HRD.out i HI.out))
        clear hL
        go_wp2_with fail
        refine HC.out.mono ?_
        rintro e w7 ⟨rA7, rk7, rfl, -, -, hL⟩
        have HL := Lib.hid hL
        clear hL
        go_wp2
        go_roundw
        case rel => exact ⟨i + 1, by have := HI.out; omega, by go_num, HL.out⟩
        case measure => have := HI.out; simp [intOf]; omega
      · obtain rfl : i = 2 := by omega
        have HLA := Lib.hid hL
        clear hL hlt hi
        go_wp2_with fail
        go_loopw [8, 9, 48] (fun a b ix wr => ∃ (lo : Option Nat) (i : Nat) (M : Md8), i ≤ l.length ∧ (∀ j, lo = some j → j < i) ∧ a = .int .i64 (lo.elim (-1) (fun j => (j : Int))) ∧ b = .int .i64 (lo.elim 0 (fun j => (j : Int) * 2)) ∧ ix = .int .i64 i ∧ RAt M lo (4 + i) ∧ LawAt w4 mb (exK (rL p)) M wr) (fun a b ix _ => (l.length : Int) - intOf ix |>.toNat)
        case atStart => exact ⟨none, 0, _, by omega, (fun j e => by cases e), rfl, rfl, rfl, r_zero, HLA.out⟩
        case round =>
          obtain ⟨lo, i, M, hi, hjs, rfl, rfl, rfl, hqm, hlm⟩ := hrel
          have HLM := Lib.hid hlm; have HQ0 := Lib.hid hqm
          by_cases hlt : i < l.length
          · have i1 : (i : Int) < (l.length : Int) := by omega
            have HI := Lib.hid (show i < l.length ∧ l.length ≤ 100 from by have := HLL.out; omega)
            obtain ⟨lb, lof, eA, hlb, hlc⟩ := HR.out (by omega)
            subst eA
            have hcl := (hlm.2.cell (p := ⟨lb, lof + i, none⟩) (by have := HB4.out.size; show lb < _; omega)).trans ((HB4.out.cell (p := ⟨lb, lof + i, none⟩) hlb).trans (hlc i hlt))
            obtain ⟨v, hv⟩ : ∃ v, v = l.getD i 0 := ⟨_, rfl⟩
            have hvb : 0 ≤ v ∧ v ≤ 255 := by rw [hv, List.getD_eq_getElem?_getD, List.getElem?_eq_getElem hlt]; exact HWR.out _ (List.getElem_mem hlt)
            rw [← hv] at hcl
            have hvw : IntKind.i64.wrap v = v := IntWalk.i64_in _ (by omega)
            have ht3 : v.tmod 3 = v % 3 := Int.tmod_eq_emod_of_nonneg hvb.1
            have ht5 : v.tmod 5 = v % 5 := Int.tmod_eq_emod_of_nonneg hvb.1
            clear hv hlb hlc hlm hqm hlt hi
            by_cases hm : v % 3 = 0
            · have m0 : (v % 3 == 0) = true := by rw [hm]; rfl
              obtain ⟨wa, hwa⟩ : ∃ u, Hid (u = wr.alloc (.cells #[.int .u32 (i : Int)] 33)) := ⟨_, rfl⟩
              have hwb := heap_alloc_new wr (.cells #[.int .u32 (i : Int)] 33)
              have hrow : IntRowK .u32 (wr.alloc (.cells #[.int .u32 (i : Int)] 33)) (wr.alloc (.cells #[.int .u32 (i : Int)] 33)).heap.size (some ⟨wr.heap.size, 0, none⟩) [(i : Int)] := fun _ => ⟨_, 0, rfl, by simp, fun j hj => by
                have : j = 0 := by simpa using hj
                subst this
                exact blk_at hwb (i := 0) rfl⟩
              obtain ⟨M', hdo, hq'⟩ := r_write (r_facts hp) HQ0.out i (some ⟨wr.heap.size, 0, none⟩) 1 ((i : Int) * 2 + 1)
              have HC := Lib.hid (law_call HLM.out (Below.refl _ _ |>.alloc (Nat.le_refl _) _) HRD.out.wf HRD.out.few HRD.out.ac HTT.out (by have := HQ0.out.t; have := HI.out; omega) 0 (by rw [HRD.out.hp]; decide) 3 0 [(i : Int)] (some ⟨wr.heap.size, 0, none⟩) 1 1 ((i : Int) * 2 + 1) ((i : Int) * 2) rfl (by decide) (by decide) hrow ⟨by simp, by unfold maxLen; omega, fun e => by cases e⟩ (by simp) (fun _ a e => by cases e; exact Nat.le_refl _) (by have := HI.out; omega) (by have := HI.out; omega) _ _ hdo)
              rw [← hwa.out] at HC
              have HQ := Lib.hid hq'
              have w1 : RowKit.wrap64 ((i : Int) * 2) = (i : Int) * 2 := IntWalk.wrap64_in _ (by have := HI.out; omega)
              have w2 : RowKit.wrap64 ((i : Int) * 2 + 1) = (i : Int) * 2 + 1 := IntWalk.wrap64_in _ (by have := HI.out; omega)
              have hiw : IntKind.u32.wrap (i : Int) = (i : Int) := IntWalk.u32_in _ (by have := HI.out; omega)
              clear hdo hq' hrow hwb
              go_wp2_with (first | (rw [← hwa.out]))
              refine HC.out.mono ?_
              clear HC
              rintro e w6 ⟨rA, rk, rfl, -, -, hL⟩
              (try simp only [ok8, code8, List.length_nil])
              obtain ⟨w7, hw7⟩ : ∃ u, Hid (u = w6.alloc (.cells #[.int .i64 0, .slice rA 0 rk, .bool false, .int .i64 0] 41)) := ⟨_, rfl⟩
              have hb7 : Below w6.heap.size w6 w7 := by rw [hw7.out]; exact (Below.refl _ _).alloc (Nat.le_refl _) _
              have h7 := heap_alloc_new w6 (.cells #[.int .i64 0, .slice rA 0 rk, .bool false, .int .i64 0] 41)
              rw [← hw7.out] at h7
              have a0 : w7.cell? ⟨w6.heap.size, 0, none⟩ = some (.int .i64 0) := blk_at h7 (i := 0) rfl
              have a1 : w7.cell? ⟨w6.heap.size, 1, none⟩ = some (.slice rA 0 rk) := blk_at h7 (i := 1) rfl
              have a3 : w7.cell? ⟨w6.heap.size, 3, none⟩ = some (.int .i64 0) := blk_at h7 (i := 3) rfl
              have HL := Lib.hid (hL.later hb7)
              clear hL hb7 h7
              go_wp2_with (first | (rw [← hw7.out]))
              go_roundw
              case rel => exact ⟨some i, i + 1, _, by have := HI.out; omega, (fun j e => by cases e; exact Nat.lt_succ_self _), by go_num, by go_num, by go_num, by rw [show 4 + (i + 1) = 4 + i + 1 by omega]; exact HQ.out, by first | exact HL.out | (have h := HL.out; rw [hw7.out] at h; exact h)⟩
              case measure => have := HI.out; simp [intOf]; omega
            · have m0 : (v % 3 == 0) = false := by rw [beq_eq_false_iff_ne]; exact hm
              obtain ⟨r5, hr5⟩ : ∃ r, v % 5 = r := ⟨_, rfl⟩
              have h5 : 0 ≤ r5 ∧ r5 ≤ 4 := by omega
              have w1 : RowKit.wrap64 ((i : Int) * 2) = (i : Int) * 2 := IntWalk.wrap64_in _ (by have := HI.out; omega)
              have w2' : RowKit.wrap64 ((i : Int) * 2 + r5) = (i : Int) * 2 + r5 := IntWalk.wrap64_in _ (by have := HI.out; omega)
              cases lo with
              | none =>
                (try simp only [Option.elim])
                obtain ⟨M', hdo, hq'⟩ := r_read (r_facts hp) HQ0.out ((i : Int) * 2 + r5)
                have hdo : do8 (exK (rL p)) M (cv8 ((1 : Nat) : Int) 4 1 [] none 0 ((i : Int) * 2 + r5) 0) = (code8 1, M') := hdo
                have HC := Lib.hid (law_go HRD.out HLM.out (Below.refl _ _) HTT.out (by have := HQ0.out.t; have := HI.out; omega) 1 (by decide) 4 1 ((i : Int) * 2 + r5) (by decide) (by decide) (by have := HI.out; omega) _ _ hdo)
                have HQ := Lib.hid hq'
                clear hdo hq'
                go_wp2_with fail
                refine HC.out.mono ?_
                clear HC
                rintro e w6 ⟨rA, rk, rfl, hd, -, hL⟩
                (try simp only [ok8, code8, List.length_nil, List.length_cons, Nat.zero_add])
                obtain ⟨w7, hw7⟩ : ∃ u, Hid (u = w6.alloc (.cells #[.int .i64 1, .slice rA 0 rk, .bool false, .int .i64 0] 41)) := ⟨_, rfl⟩
                have hb7 : Below w6.heap.size w6 w7 := by rw [hw7.out]; exact (Below.refl _ _).alloc (Nat.le_refl _) _
                have h7 : w7.heap[w6.heap.size]? = some (.cells #[.int .i64 1, .slice rA 0 rk, .bool false, .int .i64 0] 41 (0, 0)) := by rw [hw7.out]; exact heap_alloc_new _ _
                obtain ⟨w8, hw8⟩ : ∃ u, Hid (u = w7.alloc (.cells #[.int .i64 1, .slice none 0 0, .bool false, .int .i64 0] 41)) := ⟨_, rfl⟩
                have hb8 : Below w7.heap.size w7 w8 := by rw [hw8.out]; exact (Below.refl _ _).alloc (Nat.le_refl _) _
                have h8 : w8.heap[w7.heap.size]? = some (.cells #[.int .i64 1, .slice none 0 0, .bool false, .int .i64 0] 41 (0, 0)) := by rw [hw8.out]; exact heap_alloc_new _ _
                have l7 : w6.heap.size < w7.heap.size := (Array.getElem?_eq_some_iff.1 h7).1
                have h78 := (hb8.block _ l7).trans h7
                have a0 : w8.cell? ⟨w6.heap.size, 0, none⟩ = some (.int .i64 1) := blk_at h78 (i := 0) rfl
                have a1 : w8.cell? ⟨w6.heap.size, 1, none⟩ = some (.slice rA 0 rk) := blk_at h78 (i := 1) rfl
                have a2 : w8.cell? ⟨w6.heap.size, 2, none⟩ = some (.bool false) := blk_at h78 (i := 2) rfl
                have a3 : w8.cell? ⟨w6.heap.size, 3, none⟩ = some (.int .i64 0) := blk_at h78 (i := 3) rfl
                have b0 : w8.cell? ⟨w7.heap.size, 0, none⟩ = some (.int .i64 1) := blk_at h8 (i := 0) rfl
                have b1 : w8.cell? ⟨w7.heap.size, 1, none⟩ = some (.slice none 0 0) := blk_at h8 (i := 1) rfl
                have b2 : w8.cell? ⟨w7.heap.size, 2, none⟩ = some (.bool false) := blk_at h8 (i := 2) rfl
                have b3 : w8.cell? ⟨w7.heap.size, 3, none⟩ = some (.int .i64 0) := blk_at h8 (i := 3) rfl
                have HSA := Lib.hid (sameAns_eq 1 false 0 [] rA none rk 0 w8 (fun e => absurd e (by simp)) (fun e => absurd e (by simp)) (by simp))
                simp only [List.length_nil] at HSA
                have HL := Lib.hid ((hL.later hb7).later hb8)
                clear hL hb7 hb8 h7 h8 h78 l7 hd
                go_wp2_with (first | (rw [← hw7.out]) | (rw [← hw8.out]))
                refine HSA.out.mono ?_
                rintro e w12 ⟨rfl, hb12⟩
                have HLX := Lib.hid (HL.out.later hb12)
                clear hb12
                go_wp2
                refine ⟨?_, ?measure⟩
                (repeat apply Exists.intro)
                refine ⟨?rel, rfl⟩
                case rel => exact ⟨none, i + 1, _, by have := HI.out; omega, (fun j' e => by cases e), by go_num, by go_num, by go_num, by rw [show 4 + (i + 1) = 4 + i + 1 by omega]; exact HQ.out, HLX.out⟩
                case measure => have := HI.out; simp [intOf]; omega
              | some j =>
                (try simp only [Option.elim])
                obtain ⟨M', hdo, hq'⟩ := r_read (r_facts hp) HQ0.out ((i : Int) * 2 + r5)
                have hdo : do8 (exK (rL p)) M (cv8 ((1 : Nat) : Int) 4 1 [] none 0 ((i : Int) * 2 + r5) 0) = (⟨0, [(j : Int)], (decide ((i : Int) * 2 + r5 - (j : Int) * 2 ≤ p)), 0⟩, M') := hdo
                have hj := hjs j rfl
                have w3' : RowKit.wrap64 ((i : Int) * 2 + r5 - (j : Int) * 2) = (i : Int) * 2 + r5 - (j : Int) * 2 := IntWalk.wrap64_in _ (by have := HI.out; omega)
                have w4' : IntKind.u32.wrap (j : Int) = (j : Int) := IntWalk.u32_in _ (by have := HI.out; omega)
                have hj0 : (0 : Int) ≤ (j : Int) := by omega
                have HC := Lib.hid (law_go HRD.out HLM.out (Below.refl _ _) HTT.out (by have := HQ0.out.t; have := HI.out; omega) 1 (by decide) 4 1 ((i : Int) * 2 + r5) (by decide) (by decide) (by have := HI.out; omega) _ _ hdo)
                have HQ := Lib.hid hq'
                clear hdo hq'
                go_wp2_with fail
                refine HC.out.mono ?_
                clear HC
                rintro e w6 ⟨rA, rk, rfl, hd, -, hL⟩
                (try simp only [ok8, code8, List.length_nil, List.length_cons, Nat.zero_add])
                have hdr := hd (by simp)
                obtain ⟨V, hV⟩ : ∃ u, Hid (u = (((w6.alloc (.cells #[.int .i64 0, .slice rA 1 rk, .bool (decide ((i : Int) * 2 + r5 - (j : Int) * 2 ≤ p)), .int .i64 0] 41)).alloc (.cells #[.int .i64 0, .slice (some ⟨w6.heap.size + 1 + 1, 0, none⟩) 1 1, .bool (decide ((i : Int) * 2 + r5 - (j : Int) * 2 ≤ p)), .int .i64 0] 41)).alloc (.cells #[.int .u32 (j : Int)] 33))) := ⟨_, rfl⟩
                have q9 : V.heap[w6.heap.size + 1 + 1]? = some (.cells #[.int .u32 (j : Int)] 33 (0, 0)) := by rw [hV.out]; exact heap_new_at10 _ _ (by simp)
                have hbx : Below w6.heap.size w6 V := by rw [hV.out]; exact ((((Below.refl _ _).alloc (Nat.le_refl _) _).alloc (by simp; try omega) _).alloc (by simp; try omega) _)
                have HSA := Lib.hid (sameAns_eq 0 (decide ((i : Int) * 2 + r5 - (j : Int) * 2 ≤ p)) 0 [(j : Int)] rA (some ⟨w6.heap.size + 1 + 1, 0, none⟩) rk 1 V ((hdr.below hbx).more hbx.size) (fun _ => ⟨_, 0, rfl, (Array.getElem?_eq_some_iff.1 q9).1, fun k hk => by
                  have : k = 0 := by simpa using hk
                  subst this
                  exact blk_at q9 (i := 0) rfl⟩) (by simp))
                simp only [List.length_cons, List.length_nil, Nat.zero_add] at HSA
                have HL := Lib.hid (hL.later hbx)
                clear hL q9 hbx hd hdr
                go_wp2_with fail
                rw [← hV.out]
                refine HSA.out.mono ?_
                rintro e w12 ⟨rfl, hb12⟩
                have HLX := Lib.hid (HL.out.later hb12)
                clear hb12
                go_wp2
                refine ⟨?_, ?measure⟩
                (repeat apply Exists.intro)
                refine ⟨?rel, rfl⟩
                case rel => exact ⟨some j, i + 1, _, by have := HI.out; omega, (fun j' e => by cases e; omega), by go_num, by go_num, by go_num, by rw [show 4 + (i + 1) = 4 + i + 1 by omega]; exact HQ.out, HLX.out⟩
                case measure => have := HI.out; simp [intOf]; omega
          · have i1 : ¬ ((i : Int) < (l.length : Int)) := by omega
            go_wp2
            go_ret
            exact ⟨rfl, HB4.out.trans (HLM.out.2.mono HB4.out.size)⟩
end Go.Proofs.YthcnooimegaloaaDoor
