/- A block of integers; what each partition had. No condition but those in the statements. -/
import Derived.Test.YtfpcldkgcifciaaCorB
import Derived.BigQuiet
import Derived.IntWalk
import Derived.BigRegion
import Derived.OpenShut
namespace Go.Proofs.Ytfpcldkgcifciaa
open Go.RowKit Go.Sort Go.ChangeShapes Go.WideShapes
set_option linter.unusedVariables false
set_option linter.unusedSimpArgs false

set_option linter.unusedVariables false
set_option linter.unusedSimpArgs false

/-- A block of integers. -/
def IntsAt (w : World) (b : Nat) (bs : List Int) : Prop := w.heap[b]? = some (.cells (bs.map (Value.int .i64)).toArray 3 (0, 0))
theorem IntsAt.lt {w : World} {b : Nat} {bs : List Int} (h : IntsAt w b bs) : b < w.heap.size := (Array.getElem?_eq_some_iff.1 h).1
theorem IntsAt.cell {w : World} {b : Nat} {bs : List Int} (h : IntsAt w b bs) {k : Nat} {x : Int} (hk : bs[k]? = some x) : w.cell? ⟨b, k, none⟩ = some (.int .i64 x) := by
  unfold IntsAt at h
  simp [World.cell?, h, hk]
theorem IntsAt.frozen {w : World} {b : Nat} {bs : List Int} (h : IntsAt w b bs) (k : Nat) : w.frozen? ⟨b, k, none⟩ = false := by
  unfold IntsAt at h
  simp [World.frozen?, h]
theorem IntsAt.set {w : World} {b : Nat} {bs : List Int} (h : IntsAt w b bs) (k : Nat) (x : Int) : IntsAt (w.setCell ⟨b, k, none⟩ (.int .i64 x)) b (bs.set k x) := by
  unfold IntsAt at h ⊢
  rw [List.map_set]
  simp [World.setCell, Array.getElem?_modify, h]
theorem IntsAt.below {w w' : World} {b : Nat} {bs : List Int} (h : IntsAt w b bs) (hb : Below w.heap.size w w') : IntsAt w' b bs := (hb.block b h.lt).trans h
theorem IntsAt.only {w w' : World} {b : Nat} {bs : List Int} {S : Nat → Prop} (h : IntsAt w b bs) (ho : Only S w w') (hs : ¬ S b) : IntsAt w' b bs := (ho.block b h.lt hs).trans h
theorem made_ints (n : Nat) : madeCells #[Value.int .i64 0] n = ((List.replicate n (0 : Int)).map (Value.int .i64)).toArray := by
  apply Array.ext
  · simp [size_madeCells]
  · intro i h1 h2
    simp [madeCells, Nat.mod_one]
/-- What each of n partitions has by f. -/
def tabN (n : Nat) (f : Nat → Int) : List Int := (List.range n).map f
theorem tabN_at {n p : Nat} {f : Nat → Int} (h : p < n) : (tabN n f)[p]? = some (f p) := by simp [tabN, h]
theorem tabN_set {n p : Nat} {f g : Nat → Int} {v : Int} (hv : g p = v) (ho : ∀ q, q ≠ p → g q = f q) : (tabN n f).set p v = tabN n g := by
  apply List.ext_getElem
  · simp [tabN]
  · intro i h1 h2
    simp only [tabN, List.getElem_set, List.getElem_map, List.getElem_range]
    split
    · rename_i e; subst e; exact hv.symm
    · rename_i e; exact (ho i (fun e2 => e e2.symm)).symm
theorem tabN_congr {n : Nat} {f g : Nat → Int} (h : ∀ p, p < n → f p = g p) : tabN n f = tabN n g := by
  unfold tabN
  exact List.map_congr_left (fun p hp => h p (List.mem_range.1 hp))
theorem tabN_zero (n : Nat) : List.replicate n (0 : Int) = tabN n (fun _ => 0) := by
  apply List.ext_getElem
  · simp [tabN]
  · intro i h1 h2
    simp [tabN]
/-- For how many of the first i ticks from t on a partition has had its time. -/
def hadF (len : Int) (l : List (List Int)) (t : Int) (i p : Nat) : Int := ((upL openB len l (p : Int) t i).length : Int)
theorem hadF_in (len : Int) (l : List (List Int)) (t : Int) (i p : Nat) : 0 ≤ hadF len l t i p ∧ hadF len l t i p ≤ (i : Int) := by
  have := upL_len openB len l (p : Int) t i
  unfold hadF
  omega
theorem hadF_none {len : Int} {l : List (List Int)} {t : Int} {i : Nat} (h : whoO openB l ((t + (i : Int)) % len) = none) (p : Nat) : hadF len l t (i + 1) p = hadF len l t i p := by
  unfold hadF
  rw [upL_next, if_neg (by unfold hitB; rw [h]; simp), List.append_nil]
theorem hadF_hit {len : Int} {l : List (List Int)} {t : Int} {i p : Nat} (h : whoO openB l ((t + (i : Int)) % len) = some (p : Int)) : hadF len l t (i + 1) p = hadF len l t i p + 1 := by
  unfold hadF
  rw [upL_next, if_pos (by unfold hitB; rw [h]; exact decide_eq_true rfl), List.length_append]
  simp
theorem hadF_other {len : Int} {l : List (List Int)} {t : Int} {i p : Nat} (h : whoO openB l ((t + (i : Int)) % len) = some (p : Int)) {q : Nat} (hq : q ≠ p) : hadF len l t (i + 1) q = hadF len l t i q := by
  unfold hadF
  rw [upL_next, if_neg (by unfold hitB; rw [h]; simp; omega), List.append_nil]
theorem hadF_all {l : List (List Int)} {m : Nat} (hR : Rt m l) {t : Int} (ht : 0 ≤ t) (p : Nat) : hadF m l t m p = sumUp l (p : Int) l.length := share_open hR ht
theorem sumUp_hit {l : List (List Int)} {i p : Nat} {x1 x2 : Int} (h : l[i]? = some [(p : Int), x1, x2]) : sumUp l (p : Int) (i + 1) = sumUp l (p : Int) i + x2 := by
  show sumUp l (p : Int) i + (if fld (row l i) 0 = (p : Int) then fld (row l i) 2 else 0) = _
  rw [row_at h, if_pos (show fld [(p : Int), x1, x2] 0 = (p : Int) from rfl)]; rfl
theorem sumUp_other {l : List (List Int)} {i p q : Nat} {x1 x2 : Int} (h : l[i]? = some [(p : Int), x1, x2]) (hq : q ≠ p) : sumUp l (q : Int) (i + 1) = sumUp l (q : Int) i := by
  show sumUp l (q : Int) i + (if fld (row l i) 0 = (q : Int) then fld (row l i) 2 else 0) = _
  rw [row_at h, if_neg (show ¬ fld [(p : Int), x1, x2] 0 = (q : Int) from (fun e => hq (by have : (p : Int) = (q : Int) := e; omega))), Int.add_zero]
/-- Who has its time is one of the partitions. -/
theorem who_part {c : Cfg} (h : Acc15 c) {f : Int} (hf : f = 0 ∨ f = 1) {t q : Int} (hq : whoO openB (frW c f) t = some q) : ∃ p : Nat, q = (p : Int) ∧ p < c.parts.length := by
  obtain ⟨hr, hp⟩ := h.fr f hf
  obtain ⟨i, hi, _, hx⟩ := (who_iff (one_open (right_rt hr))).1 hq
  obtain ⟨p, h3, h4, _⟩ := hp i hi
  exact ⟨p, by rw [← hx, h3], h4⟩
set_option maxRecDepth 100000 in
set_option maxHeartbeats 1600000 in
theorem clock_b (c : Cfg) (x : CfgAt) (n : Int) (w : World) (hx : CfgIn w w.heap.size c x) (hc : CfgFr c) (hn : 0 ≤ n ∧ n ≤ 255) : Calls Try.prog 16 #[.agg (cfgCells c x), .int .i64 n] w (GivesClk w c n) := by
  obtain ⟨W, HW, hB0, hWs, bx⟩ := one_cbox w c x 29
  obtain ⟨c0, c1, c2, c3, c4, c5⟩ := bx _ (Below.refl _ _)
  have HB := Lib.hid hB0; have HFR := Lib.hid hc
  have HNW := Lib.hid (new_b c x W (hx.later hB0) hc)
  obtain ⟨hn0, hn1⟩ := hn
  simp only [cfgCells] at HW HNW ⊢
  clear hx hB0 hWs bx hc
  go_enter Try.func16, Try.ntmps16
  go_wp2_with (rw [← HW.out])
  refine HNW.out.mono ?_
  rintro e w4 ⟨b, y, rfl, hbl, hk4, hb4⟩
  have HB4 := Lib.hid hb4
  have HBL := Lib.hid hbl
  have HK4 := Lib.hid hk4
  clear hbl hk4 hb4 HNW c0 c1 c2 c3 c4 c5
  go_wp2_with fail
  go_loopw [11] (fun ix wr => ∃ i : Nat, (i : Int) ≤ n ∧ ix = .int .i64 i ∧ ClkAt wr b c y i ∧ Below W.heap.size W wr) (fun ix _ => (n - intOf ix).toNat)
  case atStart => exact ⟨0, by omega, rfl, HK4.out, HB4.out⟩
  case round =>
    obtain ⟨i, hi, rfl, hk, hbr⟩ := hrel
    by_cases hin : (i : Int) = n
    · have HK := Lib.hid hk; have HF := Lib.hid (HB.out.trans (hbr.mono HB.out.size)); have HLB := Lib.hid (Nat.le_trans HB.out.size HBL.out)
      subst hin
      clear hk hbr
      go_wp2
      go_ret
      exact ⟨_, _, rfl, HLB.out, HK.out, HF.out⟩
    · have HT := Lib.hid (tick_b c y b (i : Int) ((i : Int) + 1) wr hk HFR.out rfl (by omega) (by omega))
      have HBR := Lib.hid hbr
      have hsum := IntWalk.i64_in ((i : Int) + 1) (by omega)
      have hlt : (i : Int) < n := by omega
      clear hk hbr
      go_wp2_with fail
      refine HT.out.mono ?_
      rintro e w5 ⟨v, rfl, -, hk5, ho5⟩
      have HK5 := Lib.hid hk5
      have HB5 := Lib.hid (HBR.out.trans (ho5.below HBR.out.size (fun k e => by rw [e]; exact HBL.out)))
      clear hk5 ho5 HT
      go_wp2
      go_roundw
      case rel => exact ⟨i + 1, by omega, by go_num, by have h := HK5.out; rwa [Int.natCast_add], HB5.out⟩
      case measure => simp [intOf]; omega
end Go.Proofs.Ytfpcldkgcifciaa
