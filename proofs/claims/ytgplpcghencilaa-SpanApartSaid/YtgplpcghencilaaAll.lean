/- The document's addresses of spans, told one by one. No condition but those in the statements. -/
import Derived.Test.YtgplpcghencilaaLaws
import Derived.Test.YtgplpcghencilaaKitB
import Derived.Outline
namespace Go.Proofs.Ytgplpcghencilaa
open Go.RowKit Go.Sort

def segs (p : Int × Int) : List Int := if rightB p.1 p.2 then (List.range p.2.toNat).map (fun (k : Nat) => p.1 + (k : Int)) else []
def allOf (l : List (Int × Int)) : List Int := l.flatMap segs
theorem allOf_take (l : List (Int × Int)) (k : Nat) (h : k < l.length) : allOf (l.take (k + 1)) = allOf (l.take k) ++ segs (l.getD k (0, 0)) := by
  unfold allOf; rw [List.take_succ_eq_append_getElem h, List.flatMap_append]; simp [List.getD_eq_getElem?_getD, h]
theorem allOf_part (l : List (Int × Int)) (k : Nat) (h : k < l.length) : (allOf (l.take k)).length + (segs (l.getD k (0, 0))).length ≤ (allOf l).length := by
  have h1 : allOf l = allOf (l.take (k + 1)) ++ allOf (l.drop (k + 1)) := by
    unfold allOf; rw [← List.flatMap_append, List.take_append_drop]
  rw [h1, allOf_take l k h]; simp

theorem Try.infoI : (Try.prog.info? 3).map (fun i => (i.zero, i.size, i.bytes)) = some (some (.int .i64 0), 1, 8) := by kernel_rfl

set_option maxHeartbeats 800000 in
theorem rall_b (l : List (Int × Int)) (A : Option Addr) (c : Nat) (w : World) (hl : l.length ≤ 140737488355328) (hrow : PairRow w w.heap.size A l) (htot : (allOf l).length ≤ 1000000000) :
    Calls Try.prog 20 #[.slice A l.length c] w (GivesInts 3 w (allOf l)) := by
  obtain ⟨i0, hi, hz0, hz1, hz2⟩ := info_parts Try.infoI
  go_enter Try.func20, Try.ntmps20
  go_wp2
  go_loopw [3, 4] (fun o i wr => ∃ k : Nat, k ≤ l.length ∧ i = .int .i64 k ∧ wr.ownsRow w.heap.size 3 1 o (allOf (l.take k)).length ((allOf (l.take k)).map (Value.int .i64)) ∧ Below w.heap.size w wr) (fun _ i _ => l.length - (intOf i).toNat)
  case atStart => exact ⟨0, Nat.zero_le _, rfl, World.ownsRow_nil _ _ _ _, Below.refl _ _⟩
  case round =>
    obtain ⟨k, hk, rfl, hown, hbel⟩ := hrel
    by_cases hlt : k < l.length
    · obtain ⟨b, o, rfl, hbo, hcells⟩ := hrow (by omega)
      have hpart := allOf_part l k hlt
      have hnext := allOf_take l k hlt
      obtain ⟨f, s, hp⟩ : ∃ f s, l.getD k (0, 0) = (f, s) := ⟨_, _, rfl⟩
      have hc := hcells k hlt
      rw [hp] at hc hpart hnext
      obtain ⟨hc0, hc1⟩ := hc
      simp only at hc0 hc1
      have HN := Lib.hid hnext
      clear hcells hp hnext
      go_wp2
      obtain ⟨wo, hwo⟩ : ∃ wo : World, wo = wr := ⟨_, rfl⟩
      rw [← hwo] at hown hbel ⊢
      clear hwo wr
      go_loopw [3, 5] (fun o j wr => ∃ m : Nat, m ≤ (segs (f, s)).length ∧ j = .int .i64 m ∧ wr.ownsRow w.heap.size 3 1 o ((allOf (l.take k)).length + m) ((allOf (l.take k) ++ (segs (f, s)).take m).map (Value.int .i64)) ∧ Below w.heap.size w wr) (fun _ j _ => (segs (f, s)).length - (intOf j).toNat)
      case atStart => exact ⟨0, Nat.zero_le _, rfl, by simpa using hown, hbel⟩
      case round =>
        clear hown hbel
        obtain ⟨m, hm, rfl, hown, hbel⟩ := hrel
        have d0 := (hbel.cell (p := ⟨b, o + k * 2, none⟩) hbo).trans hc0
        have d1 := (hbel.cell (p := ⟨b, o + k * 2 + 1, none⟩) hbo).trans hc1
        have k0 := fun p : Regrown => cell_regrown d0 p.d p.os
        have k1 := fun p : Regrown => cell_regrown d1 p.d p.os
        have hbc := Below.refl wr.heap.size wr
        clear hc0 hc1
        by_cases hr : rightB f s = true
        · obtain ⟨r1, r2, r3, r4⟩ := rightB_yes.1 hr
          have hseg : (segs (f, s)).length = s.toNat := by simp [segs, hr]
          rw [hseg] at hm
          by_cases hms : (m : Int) < s
          · have hsm : (m + 1 : Nat) ≤ s.toNat := by omega
            have hstep : allOf (l.take k) ++ (segs (f, s)).take (m + 1) = (allOf (l.take k) ++ (segs (f, s)).take m) ++ [f + (m : Int)] := by
              rw [List.take_succ_eq_append_getElem (by rw [hseg]; omega), ← List.append_assoc]
              congr 2
              simp [segs, hr]
            have HS := Lib.hid hstep
            have hmI : f + (m : Int) ≤ 2147483647 := by omega
            have hmJ : 0 ≤ f + (m : Int) := by omega
            have hseg' := Lib.hid hseg
            rw [hseg] at hpart
            clear hstep hseg
            go_wp2_with (first | (at_builtin; refine wpList_append_own _ rfl _ _ 31 rfl w.heap.size 3 i0 (.int .i64 0) 1 8 Try.underlying31 hi hz0 hz1 hz2 rfl (by decide) _ _ _ rfl (hownc.alloc _) ⟨wc.heap.size, 0, none⟩ 1 1 [.int .i64 (f + m)] rfl rfl ?c1 ?c2 ?c3 ?c4 ?c5 ?_) | (with_reducible refine wpList_on hbc ?_; (repeat (go_big_quiet_step (first | exact regrown_is (by assumption) (rright_b _ _ _) | exact Calls.regrown_of (rright_b _ _ _)))); with_reducible refine wpQuiet_nil ?_; intro wc hbc; have e0 := cell_of (cell_on k0 hbc); have e1 := cell_of (cell_on k1 hbc); have hownc := own_below hown hbc))
            case c1 => exact news_one _ _ _
            case c2 => intro u hu; simp at hu; subst hu; rfl
            case c3 => unfold maxLen; omega
            case c4 => omega
            case c5 => have := hbc.size; have := hbel.size; simp; omega
            · intro v' w1 hown' hgrow _
              have hsz : w.heap.size ≤ wc.heap.size := Nat.le_trans hbel.size hbc.size
              have hfin : Below w.heap.size w w1 := ((hbel.trans (hbc.mono hbel.size)).alloc hsz _).grown hgrow (by simp; omega) (fun g hg => (hownc.lt g hg).1)
              clear hown hownc hgrow k0 k1 e0 e1 d0 d1
              go_wp2
              go_roundw
              case rel => exact ⟨m + 1, by rw [hseg'.out]; omega, by go_num, by rw [HS.out]; simpa [Nat.add_assoc] using hown', hfin⟩
              case measure => rw [hseg'.out]; simp [intOf]; omega
          · have hmm : m = (segs (f, s)).length := by omega
            have hall : allOf (l.take (k + 1)) = allOf (l.take k) ++ (segs (f, s)).take m := by rw [HN.out, hmm, List.take_length]
            have HA := Lib.hid hall
            have HL := Lib.hid (show (allOf (l.take (k + 1))).length = (allOf (l.take k)).length + m by rw [hall, hmm]; simp)
            have hms' : decide ((m : Int) < s) = false := by simpa using hms
            clear hall hmm hseg
            go_wp2_with (with_reducible refine wpList_on hbc ?_; (repeat (go_big_quiet_step (first | exact regrown_is (by assumption) (rright_b _ _ _) | exact Calls.regrown_of (rright_b _ _ _)))); with_reducible refine wpQuiet_nil ?_; intro wc hbc; have hownc := own_below hown hbc)
            go_roundw
            case rel => exact ⟨k + 1, by omega, by go_num, by rw [HL.out, HA.out]; exact hownc, hbel.trans (hbc.mono hbel.size)⟩
            case measure => simp [intOf]; omega
        · have hr' : rightB f s = false := by simpa using hr
          have hseg : segs (f, s) = [] := by simp [segs, hr']
          have hm0 : m = 0 := by rw [hseg] at hm; simpa using hm
          subst hm0
          have HA := Lib.hid (show allOf (l.take (k + 1)) = allOf (l.take k) by rw [HN.out, hseg]; simp)
          clear hseg
          go_wp2_with (with_reducible refine wpList_on hbc ?_; (repeat (go_big_quiet_step (first | exact regrown_is (by assumption) (rright_b _ _ _) | exact Calls.regrown_of (rright_b _ _ _)))); with_reducible refine wpQuiet_nil ?_; intro wc hbc; have hownc := own_below hown hbc)
          go_roundw
          case rel => exact ⟨k + 1, by omega, by go_num, by rw [HA.out]; simpa using hownc, hbel.trans (hbc.mono hbel.size)⟩
          case measure => simp [intOf]; omega
    · have hk' : k = l.length := by omega
      have HA := Lib.hid (show allOf l = allOf (l.take k) by rw [hk', List.take_length])
      clear hk'
      go_wp2
      go_ret
      exact ⟨_, rfl, by rw [HA.out]; exact hown, hbel⟩
end Go.Proofs.Ytgplpcghencilaa
