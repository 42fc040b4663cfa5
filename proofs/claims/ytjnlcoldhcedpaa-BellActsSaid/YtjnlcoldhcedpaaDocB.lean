/- The document's Take and Without as contracts. No condition but those in the statements. -/
import Derived.Test.YtjnlcoldhcedpaaDocA
namespace Go.Proofs.Ytjnlcoldhcedpaa
open Go.RowKit Go.Sort

/-- Is it, and not among the first j? -/
def yetB (q : Bool) (x : Int) (l : List Int) (j : Nat) : Bool := q && !decide (x ∈ l.take j)
theorem yetB_0 (q : Bool) (x : Int) (l : List Int) : yetB q x l 0 = q := by simp [yetB]
theorem yetB_next (q : Bool) (x : Int) (l : List Int) (j : Nat) (h : j < l.length) : yetB q x l (j + 1) = (yetB q x l j && !decide (l.getD j 0 = x)) := by
  unfold yetB
  rw [take_next l j h]
  by_cases h1 : x ∈ l.take j
  · simp [h1]
  · by_cases h2 : l.getD j 0 = x
    · subst h2
      simp
    · have h3 : ¬ x = l.getD j 0 := fun h => h2 h.symm
      simp only [List.mem_append, List.mem_singleton, h1, false_or, h2, h3]
      simp
theorem yetB_end (q : Bool) (x : Int) (l : List Int) (j : Nat) (h : l.length ≤ j) : yetB q x l j = (q && !decide (x ∈ l)) := by
  unfold yetB
  rw [List.take_of_length_le h]

set_option maxHeartbeats 3200000 in
theorem dtake_b (bs : List Bool) (l : List Int) (A A2 : Option Addr) (c c2 : Nat) (w : World) (hll : l.length ≤ 1000000) (hrow : BoolRow w w.heap.size A bs) (hrow2 : IntRowK .i64 w w.heap.size A2 l) :
    Calls Try.prog 11 #[.slice A bs.length c, .slice A2 l.length c2] w (GivesOff w (takeB bs l)) := by
  obtain ⟨i0, hi, hz0, hz1, hz2⟩ := info_parts Try.infoI
  go_enter Try.func11, Try.ntmps11
  go_wp2
  go_loopw [5, 6] (fun v ix wr => ∃ k : Nat, k ≤ l.length ∧ ix = .int .i64 k ∧ OwnsOff wr w.heap.size 3 1 v (takeB bs (l.take k)).length ((takeB bs (l.take k)).map (Value.int .i64)) ∧ Below w.heap.size w wr) (fun _ ix _ => l.length - (intOf ix).toNat)
  case atStart => exact ⟨0, Nat.zero_le _, rfl, OwnsOff.nil _ _ _ _, Below.refl _ _⟩
  case round =>
    obtain ⟨k, hk, rfl, hown, hb⟩ := hrel
    by_cases hlt : k < l.length
    · obtain ⟨b, o, rfl, hbo, hcs⟩ := hrow2.at_ hlt
      have c0 := hcs _ hb
      have hnext := take_next l k hlt
      have hol := takeB_len bs (l.take k)
      have hol2 : (l.take k).length ≤ k := by simp; omega
      obtain ⟨x, hx⟩ : ∃ x, l.getD k 0 = x := ⟨_, rfl⟩
      rw [hx] at c0 hnext
      obtain ⟨out, hout⟩ : ∃ out, takeB bs (l.take k) = out := ⟨_, rfl⟩
      rw [hout] at hown hol
      have hsn : takeB bs (l.take (k + 1)) = tk bs out x := by rw [hnext, takeB_snoc, hout]
      have HN := Lib.hid hsn
      have hlo : out.length ≤ k := by omega
      obtain ⟨A3, c3, rfl, hc3, hm3, hrow3, _⟩ := OwnsOff.intRowK hown
      clear hx hcs hnext hout hsn hol hol2
      by_cases hx0 : x < 0
      · have hq := hasB_neg bs x hx0
        have g1 : ¬ (0 : Int) ≤ x := by omega
        obtain ⟨q, hq2⟩ : ∃ q : Bool, q = false := ⟨_, rfl⟩
        rw [← hq2] at hq
        have HQ := Lib.hid hq; have HQ2 := Lib.hid hq2
        clear hq hq2
        obtain ⟨wo, rfl⟩ : ∃ wo, wo = wr := ⟨_, rfl⟩
        go_wp2
        go_loopw [8, 9] (fun okv jx wv => ∃ m : Nat, m ≤ out.length ∧ jx = .int .i64 m ∧ okv = .bool (yetB q x out m) ∧ wo = wv) (fun _ jx _ => out.length - (intOf jx).toNat)
        case atStart => exact ⟨0, Nat.zero_le _, rfl, by rw [yetB_0, HQ2.out], rfl⟩
        case round =>
          obtain ⟨m, hm, rfl, rfl, rfl⟩ := hrel
          by_cases hml : m < out.length
          · obtain ⟨b5, o5, rfl, hbo5, hcs5⟩ := hrow3.at_ hml
            have c5 := hcs5 _ (Below.refl _ _)
            have hyn := yetB_next q x out m hml
            obtain ⟨y, hy⟩ : ∃ y, out.getD m 0 = y := ⟨_, rfl⟩
            rw [hy] at c5 hyn
            obtain ⟨r, hr⟩ : ∃ r, yetB q x out m = r := ⟨_, rfl⟩
            rw [hr] at hyn
            rw [hr]
            have HY := Lib.hid hyn
            clear hcs5 hy hr hyn
            cases r
            · go_wp2
              go_roundw
              case rel => exact ⟨m + 1, by omega, by go_num, by rw [HY.out]; rfl, by trivial⟩
              case measure => simp [intOf]; omega
            · by_cases he : y = x
              · have e1 : (y != x) = false := by simpa using he
                have HE := Lib.hid he
                clear he
                go_wp2
                go_roundw
                case rel => exact ⟨m + 1, by omega, by go_num, by rw [HY.out, HE.out]; simp, by trivial⟩
                case measure => simp [intOf]; omega
              · have e1 : (y != x) = true := by simpa using he
                have HE := Lib.hid he
                clear he
                go_wp2
                go_roundw
                case rel => exact ⟨m + 1, by omega, by go_num, by rw [HY.out]; simp [HE.out], by trivial⟩
                case measure => simp [intOf]; omega
          · have hye := yetB_end q x out m (by omega)
            obtain ⟨r, hr⟩ : ∃ r, yetB q x out m = r := ⟨_, rfl⟩
            rw [hr] at hye
            rw [hr]
            have HE : Hid (tk bs out x = if r = true then out ++ [x] else out) := by
              refine Lib.hid ?_
              unfold tk
              rw [HQ.out, hye]
              by_cases h1 : q = true <;> by_cases h2 : x ∈ out <;> simp [h1, h2]
            clear hr hye
            obtain ⟨wr, rfl⟩ : ∃ wr, wr = wo := ⟨_, rfl⟩
            have hsz := hb.size
            cases r
            · go_wp2
              go_roundw
              case rel => exact ⟨k + 1, by omega, by go_num, by rw [HN.out, HE.out]; exact hown, hb⟩
              case measure => simp [intOf]; omega
            · go_wp2_with (at_builtin; refine wpList_append_off _ rfl _ _ 29 rfl w.heap.size 3 i0 (.int .i64 0) 1 8 Try.underlying29 hi hz0 hz1 hz2 rfl (by decide) _ _ _ rfl (hown.keptB ((Below.refl _ _).alloc (Nat.le_refl _) _)) ⟨wr.heap.size, 0, none⟩ 1 1 [.int .i64 x] rfl rfl (cell_one_new _ _ _) (by simp [Value.oneCell']) (by unfold maxLen; omega) (by omega) (by simp; omega) ?_)
              intro v' w2 hown' hgrow hfr
              have hb3 := below_own hb hown hgrow
              have hown3 : OwnsOff w2 w.heap.size 3 1 v' (out ++ [x]).length ((out ++ [x]).map (Value.int .i64)) := by simpa using hown'
              have W3 := Lib.hid hown3; have B3 := Lib.hid hb3
              clear hown' hgrow hfr hb3 hown3 hown hb
              go_wp2
              go_roundw
              case rel => exact ⟨k + 1, by omega, by go_num, by rw [HN.out, HE.out]; exact W3.out, B3.out⟩
              case measure => simp [intOf]; omega
      by_cases hx1 : (bs.length : Int) ≤ x
      · have hq := hasB_big bs x hx1
        have g1 : (0 : Int) ≤ x := by omega
        have g2 : ¬ x < (bs.length : Int) := by omega
        obtain ⟨q, hq2⟩ : ∃ q : Bool, q = false := ⟨_, rfl⟩
        rw [← hq2] at hq
        have HQ := Lib.hid hq; have HQ2 := Lib.hid hq2
        clear hq hq2
        obtain ⟨wo, rfl⟩ : ∃ wo, wo = wr := ⟨_, rfl⟩
        go_wp2
        go_loopw [8, 9] (fun okv jx wv => ∃ m : Nat, m ≤ out.length ∧ jx = .int .i64 m ∧ okv = .bool (yetB q x out m) ∧ wo = wv) (fun _ jx _ => out.length - (intOf jx).toNat)
        case atStart => exact ⟨0, Nat.zero_le _, rfl, by rw [yetB_0, HQ2.out], rfl⟩
        case round =>
          obtain ⟨m, hm, rfl, rfl, rfl⟩ := hrel
          by_cases hml : m < out.length
          · obtain ⟨b5, o5, rfl, hbo5, hcs5⟩ := hrow3.at_ hml
            have c5 := hcs5 _ (Below.refl _ _)
            have hyn := yetB_next q x out m hml
            obtain ⟨y, hy⟩ : ∃ y, out.getD m 0 = y := ⟨_, rfl⟩
            rw [hy] at c5 hyn
            obtain ⟨r, hr⟩ : ∃ r, yetB q x out m = r := ⟨_, rfl⟩
            rw [hr] at hyn
            rw [hr]
            have HY := Lib.hid hyn
            clear hcs5 hy hr hyn
            cases r
            · go_wp2
              go_roundw
              case rel => exact ⟨m + 1, by omega, by go_num, by rw [HY.out]; rfl, by trivial⟩
              case measure => simp [intOf]; omega
            · by_cases he : y = x
              · have e1 : (y != x) = false := by simpa using he
                have HE := Lib.hid he
                clear he
                go_wp2
                go_roundw
                case rel => exact ⟨m + 1, by omega, by go_num, by rw [HY.out, HE.out]; simp, by trivial⟩
                case measure => simp [intOf]; omega
              · have e1 : (y != x) = true := by simpa using he
                have HE := Lib.hid he
                clear he
                go_wp2
                go_roundw
                case rel => exact ⟨m + 1, by omega, by go_num, by rw [HY.out]; simp [HE.out], by trivial⟩
                case measure => simp [intOf]; omega
          · have hye := yetB_end q x out m (by omega)
            obtain ⟨r, hr⟩ : ∃ r, yetB q x out m = r := ⟨_, rfl⟩
            rw [hr] at hye
            rw [hr]
            have HE : Hid (tk bs out x = if r = true then out ++ [x] else out) := by
              refine Lib.hid ?_
              unfold tk
              rw [HQ.out, hye]
              by_cases h1 : q = true <;> by_cases h2 : x ∈ out <;> simp [h1, h2]
            clear hr hye
            obtain ⟨wr, rfl⟩ : ∃ wr, wr = wo := ⟨_, rfl⟩
            have hsz := hb.size
            cases r
            · go_wp2
              go_roundw
              case rel => exact ⟨k + 1, by omega, by go_num, by rw [HN.out, HE.out]; exact hown, hb⟩
              case measure => simp [intOf]; omega
            · go_wp2_with (at_builtin; refine wpList_append_off _ rfl _ _ 29 rfl w.heap.size 3 i0 (.int .i64 0) 1 8 Try.underlying29 hi hz0 hz1 hz2 rfl (by decide) _ _ _ rfl (hown.keptB ((Below.refl _ _).alloc (Nat.le_refl _) _)) ⟨wr.heap.size, 0, none⟩ 1 1 [.int .i64 x] rfl rfl (cell_one_new _ _ _) (by simp [Value.oneCell']) (by unfold maxLen; omega) (by omega) (by simp; omega) ?_)
              intro v' w2 hown' hgrow hfr
              have hb3 := below_own hb hown hgrow
              have hown3 : OwnsOff w2 w.heap.size 3 1 v' (out ++ [x]).length ((out ++ [x]).map (Value.int .i64)) := by simpa using hown'
              have W3 := Lib.hid hown3; have B3 := Lib.hid hb3
              clear hown' hgrow hfr hb3 hown3 hown hb
              go_wp2
              go_roundw
              case rel => exact ⟨k + 1, by omega, by go_num, by rw [HN.out, HE.out]; exact W3.out, B3.out⟩
              case measure => simp [intOf]; omega
      · obtain ⟨j, rfl⟩ := Int.eq_ofNat_of_zero_le (a := x) (by omega)
        have hj : j < bs.length := by omega
        obtain ⟨b4, o4, rfl, hbo4, hcs4⟩ := hrow.at_ hj
        have c4 := hcs4 _ hb
        have hq := hasB_nat bs j
        have g1 : (0 : Int) ≤ (j : Int) := by omega
        have g2 : (j : Int) < (bs.length : Int) := by omega
        obtain ⟨q, hq2⟩ : ∃ q : Bool, q = bs.getD j false := ⟨_, rfl⟩
        rw [← hq2] at c4
        clear hcs4 hx0 hx1
        rw [← hq2] at hq
        have HQ := Lib.hid hq; have HQ2 := Lib.hid hq2
        clear hq hq2
        obtain ⟨wo, rfl⟩ : ∃ wo, wo = wr := ⟨_, rfl⟩
        go_wp2
        go_loopw [8, 9] (fun okv jx wv => ∃ m : Nat, m ≤ out.length ∧ jx = .int .i64 m ∧ okv = .bool (yetB q (j : Int) out m) ∧ wo = wv) (fun _ jx _ => out.length - (intOf jx).toNat)
        case atStart => exact ⟨0, Nat.zero_le _, rfl, by rw [yetB_0, HQ2.out], rfl⟩
        case round =>
          obtain ⟨m, hm, rfl, rfl, rfl⟩ := hrel
          by_cases hml : m < out.length
          · obtain ⟨b5, o5, rfl, hbo5, hcs5⟩ := hrow3.at_ hml
            have c5 := hcs5 _ (Below.refl _ _)
            have hyn := yetB_next q (j : Int) out m hml
            obtain ⟨y, hy⟩ : ∃ y, out.getD m 0 = y := ⟨_, rfl⟩
            rw [hy] at c5 hyn
            obtain ⟨r, hr⟩ : ∃ r, yetB q (j : Int) out m = r := ⟨_, rfl⟩
            rw [hr] at hyn
            rw [hr]
            have HY := Lib.hid hyn
            clear hcs5 hy hr hyn
            cases r
            · go_wp2
              go_roundw
              case rel => exact ⟨m + 1, by omega, by go_num, by rw [HY.out]; rfl, by trivial⟩
              case measure => simp [intOf]; omega
            · by_cases he : y = (j : Int)
              · have e1 : (y != (j : Int)) = false := by simpa using he
                have HE := Lib.hid he
                clear he
                go_wp2
                go_roundw
                case rel => exact ⟨m + 1, by omega, by go_num, by rw [HY.out, HE.out]; simp, by trivial⟩
                case measure => simp [intOf]; omega
              · have e1 : (y != (j : Int)) = true := by simpa using he
                have HE := Lib.hid he
                clear he
                go_wp2
                go_roundw
                case rel => exact ⟨m + 1, by omega, by go_num, by rw [HY.out]; simp [HE.out], by trivial⟩
                case measure => simp [intOf]; omega
          · have hye := yetB_end q (j : Int) out m (by omega)
            obtain ⟨r, hr⟩ : ∃ r, yetB q (j : Int) out m = r := ⟨_, rfl⟩
            rw [hr] at hye
            rw [hr]
            have HE : Hid (tk bs out (j : Int) = if r = true then out ++ [(j : Int)] else out) := by
              refine Lib.hid ?_
              unfold tk
              rw [HQ.out, hye]
              by_cases h1 : q = true <;> by_cases h2 : (j : Int) ∈ out <;> simp [h1, h2]
            clear hr hye
            obtain ⟨wr, rfl⟩ : ∃ wr, wr = wo := ⟨_, rfl⟩
            have hsz := hb.size
            cases r
            · go_wp2
              go_roundw
              case rel => exact ⟨k + 1, by omega, by go_num, by rw [HN.out, HE.out]; exact hown, hb⟩
              case measure => simp [intOf]; omega
            · go_wp2_with (at_builtin; refine wpList_append_off _ rfl _ _ 29 rfl w.heap.size 3 i0 (.int .i64 0) 1 8 Try.underlying29 hi hz0 hz1 hz2 rfl (by decide) _ _ _ rfl (hown.keptB ((Below.refl _ _).alloc (Nat.le_refl _) _)) ⟨wr.heap.size, 0, none⟩ 1 1 [.int .i64 (j : Int)] rfl rfl (cell_one_new _ _ _) (by simp [Value.oneCell']) (by unfold maxLen; omega) (by omega) (by simp; omega) ?_)
              intro v' w2 hown' hgrow hfr
              have hb3 := below_own hb hown hgrow
              have hown3 : OwnsOff w2 w.heap.size 3 1 v' (out ++ [(j : Int)]).length ((out ++ [(j : Int)]).map (Value.int .i64)) := by simpa using hown'
              have W3 := Lib.hid hown3; have B3 := Lib.hid hb3
              clear hown' hgrow hfr hb3 hown3 hown hb
              go_wp2
              go_roundw
              case rel => exact ⟨k + 1, by omega, by go_num, by rw [HN.out, HE.out]; exact W3.out, B3.out⟩
              case measure => simp [intOf]; omega
    · have hkl : l.take k = l := List.take_of_length_le (by omega)
      rw [hkl] at hown
      have HW := Lib.hid hown; have HB := Lib.hid hb
      clear hown hb hkl
      go_wp2
      go_ret
      exact ⟨_, rfl, HW.out, HB.out⟩
end Go.Proofs.Ytjnlcoldhcedpaa
