/- Grow (of nothing), Concat and Join as contracts. No condition but those in the statements. -/
import Derived.Test.YtajhfijpbfikkaaApp
import Derived.Test.YtajhfijpbfikkaaKitS
import Derived.Lib.AppendZeros
namespace Go.Proofs.Ytajhfijpbfikkaa
open Go.RowKit Go.Sort

theorem grow_b (n : Nat) (w : World) (hn : n ≤ 100000) : Calls Try.prog 20 #[.slice none 0 0, .int .i64 (n : Int)] w (GivesWords w []) := by
  obtain ⟨i0, hi, hz0, hz1, hz2⟩ := info_parts Try.infoW
  have g0 : ¬ ((n : Int) < 0) := by omega
  by_cases h0 : n = 0
  · subst h0
    go_enter Try.func20, Try.ntmps20
    go_wp2
    go_ret
    exact ⟨_, rfl, OwnsOff.nil _ _ _ _, Below.refl _ _⟩
  · have hrun := fun (w : World) (ty : TypeId) => Lib.run_append_nil_zeros (P := Try.prog) w 22 3 ty 31 i0 (.int .u32 0) .i64 .i64 Try.underlying22 Try.underlying3 hi hz0 n (by omega) (by omega) (by omega) (by rw [hz2]; omega)
    have hge := grownCap_ge w n 0 31
    have hcm := grownCap_le_maxLen w n 0 31 (by unfold maxLen; omega)
    have hup := fun w' => upto_row (P := Try.prog) Try.underlying22 hi (some ⟨w.heap.size, 0, none⟩) n (grownCap w n 0 31) 0 (by omega) w'
    have g1 : 0 < (n : Int) := by omega
    go_enter Try.func20, Try.ntmps20
    go_wp2_with (first | (at_builtin; refine Lib.wpList_append_run _ rfl _ _ _ _ rfl _ _ rfl rfl _ _ (hrun _ _) ?_) | (refine wpList_upto rfl _ _ _ rfl _ _ _ rfl rfl (hup _) ?_))
    go_ret
    have hb : Below w.heap.size w (w.alloc (.cells (Builtin.zeroCells #[Value.int .u32 0] n ++ Builtin.zeroCells #[Value.int .u32 0] (grownCap w n 0 31 - n)) 31)).drew := ((Below.refl _ _).alloc (Nat.le_refl _) _).drew
    refine ⟨_, rfl, ⟨by simp [wcells], .inr ⟨w.heap.size, 0, grownCap w n 0 31, _, rfl, Nat.le_refl _, heap_alloc_new w _, by simp, hcm, ?_, by simp [wcells]⟩⟩, hb⟩
    simp only [Array.size_append, size_zeroCells, List.size_toArray, List.length_cons, List.length_nil]
    omega

/-- The items of all, one behind the other. -/
def joinV (l : List PartV) : List Int := l.flatMap (·.items)
theorem joinV_next {l : List PartV} {j : Nat} {v : PartV} (h : l[j]? = some v) : joinV (l.take (j + 1)) = joinV (l.take j) ++ v.items := by
  unfold joinV
  rw [List.take_add_one, h]
  simp
theorem joinV_split (l : List PartV) (j : Nat) : joinV l = joinV (l.take j) ++ joinV (l.drop j) := by
  unfold joinV
  rw [← List.flatMap_append, List.take_append_drop]
theorem joinV_le (l : List PartV) (j : Nat) : (joinV (l.take j)).length ≤ (joinV l).length := by
  rw [joinV_split l j, List.length_append]; omega

set_option maxHeartbeats 800000 in
theorem concat_b (l : List PartV) (A : Option Addr) (c : Nat) (w : World) (hl : l.length ≤ 100000) (hj : (joinV l).length ≤ 100000) (hrow : PartRow .u32 w w.heap.size A l) :
    Calls Try.prog 19 #[.slice A l.length c] w (GivesWords w (joinV l)) := by
  obtain ⟨i0, hi, hz0, hz1, hz2⟩ := info_parts Try.infoW
  go_enter Try.func19, Try.ntmps19
  go_wp2
  go_loopw [3, 11] (fun sv ix wr => wr = w ∧ ∃ j : Nat, j ≤ l.length ∧ ix = .int .i64 j ∧ sv = .int .i64 ((joinV (l.take j)).length : Nat)) (fun _ ix _ => l.length - (intOf ix).toNat)
  case atStart => exact ⟨rfl, 0, Nat.zero_le _, rfl, rfl⟩
  case round =>
    obtain ⟨rfl, j, hjl, rfl, rfl⟩ := hrel
    have hle := joinV_le l j
    by_cases hlt : j < l.length
    · obtain ⟨b, o, rfl, hbo, v, hv, hvc, hvm, hvn, hcs⟩ := hrow.at_ hlt
      obtain ⟨c0, _⟩ := hcs _ (Below.refl _ _)
      have hn := joinV_next hv
      have hle2 := joinV_le l (j + 1)
      have hs : (joinV (l.take (j + 1))).length = (joinV (l.take j)).length + v.items.length := by rw [hn, List.length_append]
      have HS := Lib.hid hs
      obtain ⟨S, hS⟩ : ∃ S, (joinV (l.take j)).length = S := ⟨_, rfl⟩
      have HSS := Lib.hid hS
      rw [hS] at hle hs ⊢
      have g : ¬ ((S : Int) + (v.items.length : Int) < 0) := by omega
      clear hn hcs hS
      go_wp2
      go_roundw
      case rel => exact ⟨by trivial, j + 1, by omega, by go_num, by rw [HS.out, HSS.out]; go_num⟩
      case measure => simp [intOf]; omega
    · have hje : l.take j = l := List.take_of_length_le (by omega)
      rw [hje]
      obtain ⟨S, hS⟩ : ∃ S, (joinV l).length = S := ⟨_, rfl⟩
      have HSS := Lib.hid hS
      rw [hS]
      rw [hS] at hj
      clear hje hle hS
      go_wp2_with fail
      refine (grow_b S _ hj).mono ?_
      rintro e w1 ⟨v0, rfl, hown, hb⟩
      obtain ⟨wo, rfl⟩ : ∃ wo, wo = wr := ⟨_, rfl⟩
      go_wp2_with fail
      go_loopw [6, 27] (fun v ix wv => ∃ j : Nat, j ≤ l.length ∧ ix = .int .i64 j ∧ OwnsOff wv wo.heap.size 31 1 v (joinV (l.take j)).length (wcells (joinV (l.take j))) ∧ Below wo.heap.size wo wv) (fun _ ix _ => l.length - (intOf ix).toNat)
      case atStart => exact ⟨0, Nat.zero_le _, rfl, hown, hb⟩
      case round =>
        obtain ⟨j, hjl, rfl, hownr, hbr⟩ := hrel
        clear hown hb
        by_cases hlt : j < l.length
        · obtain ⟨b, o, rfl, hbo, v, hv, hvc, hvm, hvn, hcs⟩ := hrow.at_ hlt
          obtain ⟨c0, hri⟩ := hcs _ hbr
          have hn := joinV_next hv
          have hle := joinV_le l (j + 1)
          rw [hn, List.length_append, HSS.out] at hle
          obtain ⟨ps, hps⟩ : ∃ ps, joinV (l.take j) = ps := ⟨_, rfl⟩
          rw [hps] at hownr hn hle
          have HN := Lib.hid hn; have HB := Lib.hid hbr; have HV := Lib.hid hvn
          have hsz := hbr.size
          clear hn hcs hps hbr hvn
          go_wp2_with (at_builtin; refine wpList_append_words _ rfl _ _ 22 rfl wo.heap.size i0 Try.underlying22 hi hz0 hz1 hz2 _ _ _ rfl hownr _ v.addr _ v.cap v.items rfl rfl hri HV.out (by omega) hsz ?_)
          intro v' w2 hown' hgrow _
          have hb2 := Lib.hid (HB.out.grown hgrow hsz (fun q hq => (hownr.lt q hq).1))
          have hown2 : OwnsOff w2 wo.heap.size 31 1 v' (ps ++ v.items).length (wcells (ps ++ v.items)) := by rw [List.length_append, wcells_app]; exact hown'
          have W2 := Lib.hid hown2
          clear hown' hgrow hownr hown2
          go_wp2
          go_roundw
          case rel => exact ⟨j + 1, by omega, by go_num, by rw [HN.out]; exact W2.out, hb2.out⟩
          case measure => simp [intOf]; omega
        · have hje : l.take j = l := List.take_of_length_le (by omega)
          rw [hje] at hownr
          have HW := Lib.hid hownr; have HB := Lib.hid hbr
          clear hownr hbr hje
          go_wp2
          go_ret
          exact ⟨_, rfl, HW.out, HB.out⟩
theorem join_b (l : List PartV) (A : Option Addr) (c : Nat) (w : World) (hl : l.length ≤ 100000) (hj : (joinV l).length ≤ 100000) (hrow : PartRow .u32 w w.heap.size A l) :
    Calls Try.prog 15 #[.slice A l.length c] w (GivesWords w (joinV l)) := by
  go_enter Try.func15, Try.ntmps15
  go_wp2_with fail
  refine (concat_b l A c _ hl hj hrow).mono ?_
  rintro e w1 ⟨v, rfl, hown, hb⟩
  have HW := Lib.hid hown; have HB := Lib.hid hb
  clear hown hb
  go_wp2
  go_ret
  exact ⟨_, rfl, HW.out, HB.out⟩
end Go.Proofs.Ytajhfijpbfikkaa
