/- The document's Without as a contract. No condition but those in the statements. -/
import Derived.Test.YtjnlcoldhcedpaaDocB
namespace Go.Proofs.Ytjnlcoldhcedpaa
open Go.RowKit Go.Sort

set_option maxHeartbeats 1600000 in
theorem dwithout_b (bs : List Bool) (l : List Int) (A A2 : Option Addr) (c c2 : Nat) (w : World) (hl : bs.length ≤ 1000000) (hll : l.length ≤ 1000000) (hrow : BoolRow w w.heap.size A bs) (hrow2 : IntRowK .i64 w w.heap.size A2 l) :
    Calls Try.prog 14 #[.slice A bs.length c, .slice A2 l.length c2] w (GivesBools w (leftB bs l)) := by
  obtain ⟨i0, hi, hz0, hz1, hz2⟩ := info_parts Try.infoB
  go_enter Try.func14, Try.ntmps14
  go_wp2
  go_loopw [5, 6] (fun v ix wr => ∃ k : Nat, k ≤ bs.length ∧ ix = .int .i64 k ∧ OwnsOff wr w.heap.size 4 1 v ((leftB bs l).take k).length (bcells ((leftB bs l).take k)) ∧ Below w.heap.size w wr) (fun _ ix _ => bs.length - (intOf ix).toNat)
  case atStart => exact ⟨0, Nat.zero_le _, rfl, OwnsOff.nil _ _ _ _, Below.refl _ _⟩
  case round =>
    obtain ⟨k, hk, rfl, hown, hb⟩ := hrel
    by_cases hlt : k < bs.length
    · obtain ⟨b, o, rfl, hbo, hcs⟩ := hrow.at_ hlt
      have c0 := hcs _ hb
      have hnext := take_nextB (leftB bs l) k (by simpa using hlt)
      rw [leftB_at bs l k hlt] at hnext
      have hol : ((leftB bs l).take k).length ≤ k := by simp; omega
      obtain ⟨q, hq⟩ : ∃ q, bs.getD k false = q := ⟨_, rfl⟩
      rw [hq] at c0 hnext
      obtain ⟨out, hout⟩ : ∃ out, (leftB bs l).take k = out := ⟨_, rfl⟩
      rw [hout] at hown hol hnext
      have HN := Lib.hid hnext
      clear hq hcs hnext hout
      obtain ⟨wo, rfl⟩ : ∃ wo, wo = wr := ⟨_, rfl⟩
      go_wp2
      go_loopw [7, 8] (fun okv jx wv => ∃ m : Nat, m ≤ l.length ∧ jx = .int .i64 m ∧ okv = .bool (yetB q (k : Int) l m) ∧ wo = wv) (fun _ jx _ => l.length - (intOf jx).toNat)
      case atStart => exact ⟨0, Nat.zero_le _, rfl, by rw [yetB_0], rfl⟩
      case round =>
        obtain ⟨m, hm, rfl, rfl, rfl⟩ := hrel
        by_cases hml : m < l.length
        · obtain ⟨b5, o5, rfl, hbo5, hcs5⟩ := hrow2.at_ hml
          have c5 := hcs5 _ hb
          have hyn := yetB_next q (k : Int) l m hml
          obtain ⟨y, hy⟩ : ∃ y, l.getD m 0 = y := ⟨_, rfl⟩
          rw [hy] at c5 hyn
          obtain ⟨r, hr⟩ : ∃ r, yetB q (k : Int) l m = r := ⟨_, rfl⟩
          rw [hr] at hyn
          rw [hr]
          have HY := Lib.hid hyn
          clear hcs5 hy hr hyn
          cases r
          · go_wp2
            go_roundw
            case rel => exact ⟨m + 1, by omega, by go_num, by rw [HY.out]; rfl, by trivial⟩
            case measure => simp [intOf]; omega
          · by_cases he : y = (k : Int)
            · have e1 : (y != (k : Int)) = false := by simpa using he
              have HE := Lib.hid he
              clear he
              go_wp2
              go_roundw
              case rel => exact ⟨m + 1, by omega, by go_num, by rw [HY.out, HE.out]; simp, by trivial⟩
              case measure => simp [intOf]; omega
            · have e1 : (y != (k : Int)) = true := by simpa using he
              have HE := Lib.hid he
              clear he
              go_wp2
              go_roundw
              case rel => exact ⟨m + 1, by omega, by go_num, by rw [HY.out]; simp [HE.out], by trivial⟩
              case measure => simp [intOf]; omega
        · have hye := yetB_end q (k : Int) l m (by omega)
          rw [← hye] at HN
          obtain ⟨r, hr⟩ : ∃ r, yetB q (k : Int) l m = r := ⟨_, rfl⟩
          rw [hr] at HN
          rw [hr]
          clear hr hye
          obtain ⟨wr, rfl⟩ : ∃ wr, wr = wo := ⟨_, rfl⟩
          have hsz := hb.size
          go_wp2_with (at_builtin; refine wpList_append_off _ rfl _ _ 28 rfl w.heap.size 4 i0 (.bool false) 1 1 Try.underlying28 hi hz0 hz1 hz2 rfl (by decide) _ _ _ rfl (hown.keptB ((Below.refl _ _).alloc (Nat.le_refl _) _)) ⟨wr.heap.size, 0, none⟩ 1 1 [.bool r] rfl rfl (cell_one_new _ _ _) (by simp [Value.oneCell']) (by unfold maxLen; omega) (by omega) (by simp; omega) ?_)
          intro v' w2 hown' hgrow hfr
          have hb3 := below_own hb hown hgrow
          have hown3 : OwnsOff w2 w.heap.size 4 1 v' (out ++ [r]).length (bcells (out ++ [r])) := by simpa [bcells] using hown'
          have W3 := Lib.hid hown3; have B3 := Lib.hid hb3
          clear hown' hgrow hfr hb3 hown3 hown hb
          go_wp2
          go_roundw
          case rel => exact ⟨k + 1, by omega, by go_num, by rw [HN.out]; exact W3.out, B3.out⟩
          case measure => simp [intOf]; omega
    · have hkl : (leftB bs l).take k = leftB bs l := List.take_of_length_le (by simp; omega)
      rw [hkl] at hown
      have HW := Lib.hid hown; have HB := Lib.hid hb
      clear hown hb hkl
      go_wp2
      go_ret
      exact ⟨_, rfl, HW.out, HB.out⟩
end Go.Proofs.Ytjnlcoldhcedpaa
