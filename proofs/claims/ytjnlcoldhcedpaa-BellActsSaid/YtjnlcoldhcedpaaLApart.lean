/- BellApart. No condition but those in the statements. -/
import Derived.Test.YtjnlcoldhcedpaaApartPure
namespace Go.Proofs.Ytjnlcoldhcedpaa
open Go.RowKit Go.Sort

theorem take_e (mb rb : Nat) (bs : List Bool) (A : Option Addr) (c : Nat) (w : World) (h : SetAt w mb rb bs) :
    Calls Try.prog 13 #[.pointer (some ⟨mb, 0, none⟩), .slice A 0 c] w (Takes w mb rb bs []) := by
  have HS := Lib.hid h
  clear h
  go_enter Try.func13, Try.ntmps13
  go_wp2
  go_loopw [5, 10] (fun v ix wr => v = .slice none 0 0 ∧ ix = .int .i64 0 ∧ w = wr) (fun _ _ _ => 0)
  case atStart => exact ⟨rfl, rfl, rfl⟩
  case round =>
    obtain ⟨rfl, rfl, rfl⟩ := hrel
    go_wp2
    go_ret
    exact ⟨_, rfl, OwnsOff.nil _ _ _ _, by simpa [takeB, leftB_nil] using HS.out, Only.refl _ _⟩
theorem take_c (mb rb : Nat) (bs : List Bool) (l : List Int) (A : Option Addr) (c : Nat) (w : World) (h : SetAt w mb rb bs) (hll : l.length ≤ 1000000)
    (hrow : IntRowK .i64 w w.heap.size A l) (hne : ∀ a, A = some a → 0 < l.length → a.block ≠ rb) :
    Calls Try.prog 13 #[.pointer (some ⟨mb, 0, none⟩), .slice A l.length c] w (Takes w mb rb bs l) := by
  by_cases hp : 0 < l.length
  · exact take_b mb rb bs l A c w h hll hrow (fun a ha => hne a ha hp)
  · obtain rfl : l = [] := List.eq_nil_of_length_eq_zero (by omega)
    exact take_e mb rb bs A c w h
theorem own_other {w w' : World} {A : Option Addr} {l : List Int} {mb rb : Nat} {bs : List Bool} (h : IntRowK .i64 w w.heap.size A l) (ho : Only (fun k => k = rb) w w') (hS : SetAt w mb rb bs) : IntRowK .i64 w' w.heap.size A l := fun hp => by
  obtain ⟨b, o, rfl, hb, hc⟩ := h hp
  refine ⟨b, o, rfl, hb, fun i hi => ?_⟩
  rw [← hc i hi]
  have hbr : b ≠ rb := by
    rintro rfl
    have h1 := hc 0 hp
    have h2 := hS.row
    unfold BoolsAt at h2
    simp [World.cell?, h2, bcells, List.getElem?_map] at h1
  simp [World.cell?, ho.block b hb hbr]

set_option maxRecDepth 100000 in
set_option maxHeartbeats 6400000 in
theorem apart_walk (l t : List Int) (A A2 : Option Addr) (c c2 : Nat) (k : Nat) (w : World) (hk : k ≤ 255) (hl : l.length ≤ 9223372036854775807) (ht : t.length ≤ 9223372036854775807) (hrow : IntRowK .i64 w w.heap.size A l) (hrow2 : IntRowK .i64 w w.heap.size A2 t) (hlt2 : ∀ a, A2 = some a → 0 < t.length → a.block < w.heap.size) :
    Calls Try.prog 6 #[.slice A l.length c, .slice A2 t.length c2, .int .u8 (k : Int)] w fun e w' => e = .returned (.bool true) ∧ Below w.heap.size w w' := by
  by_cases hbig : 100 < l.length
  · go_enter Try.func6, Try.ntmps6
    go_wp2_with fail
    refine (wakes_b _).mono ?_
    rintro e w0 ⟨rfl, hb0⟩
    go_wp2
    go_ret
    exact ⟨rfl, hb0⟩
  by_cases hbig2 : 100 < t.length
  · go_enter Try.func6, Try.ntmps6
    go_wp2_with fail
    refine (wakes_b _).mono ?_
    rintro e w0 ⟨rfl, hb0⟩
    go_wp2
    go_ret
    exact ⟨rfl, hb0⟩
  have hll : l.length ≤ 100 := by omega
  have htl : t.length ≤ 100 := by omega
  have HLT := Lib.hid hlt2
  clear hbig hbig2 hl ht hlt2
  go_enter Try.func6, Try.ntmps6
  go_wp2_with fail
  refine (wakes_b _).mono ?_
  rintro e w0 ⟨rfl, hb0⟩
  go_wp2_with fail
  refine (new_in 64 64 rfl _ (by omega)).mono ?_
  rintro e w1 ⟨ma, ra, rfl, h1, h2, hS, hB⟩
  have hb1 := hb0.trans (hB.mono hb0.size)
  have Ha := Lib.hid (Nat.le_trans hb0.size h2)
  have hlt1 := hS.lt
  clear hB hb0 h1 h2
  go_wp2_with fail
  refine (new_in 64 64 rfl _ (by omega)).mono ?_
  rintro e w2 ⟨mb, rb, rfl, h3, h4, hT, hB⟩
  have hS := hS.below hB
  have hb2 := hb1.trans (hB.mono hb1.size)
  have Hb := Lib.hid (Nat.le_trans hb1.size h4)
  have HD : Hid (ma ≠ rb ∧ ra ≠ rb ∧ mb ≠ ra ∧ rb ≠ ra) := Lib.hid ⟨by omega, by omega, by omega, by omega⟩
  clear hB hb1 h3 h4 hlt1
  go_wp2_with fail
  go_loopw [53] (fun ix wr => ∃ j : Nat, j ≤ l.length ∧ ix = .int .i64 j ∧ SetAt wr ma ra (rungB 64 (l.take j)) ∧ SetAt wr mb rb (rungB 64 ((turned l k).take j)) ∧ Below w.heap.size w wr) (fun ix _ => l.length - (intOf ix).toNat)
  case atStart => exact ⟨0, Nat.zero_le _, rfl, hS, hT, hb2⟩
  case round =>
    clear hS hb2 hT
    obtain ⟨j, hj, rfl, hS, hT, hb⟩ := hrel
    by_cases hlt : j < l.length
    · have hm : (j + k) % l.length < l.length := Nat.mod_lt _ (by omega)
      obtain ⟨b, o, rfl, hbo, hcs⟩ := hrow.at_ hlt
      obtain ⟨b', o', eb, hbo', hcs'⟩ := hrow.at_ hm
      obtain ⟨rfl, rfl⟩ : b = b' ∧ o = o' := by simpa using eb
      have c0 := hcs wr hb
      have hnext := take_next l j hlt
      have hnextT := take_next (turned l k) j (by simpa using hlt)
      rw [turned_at l k j hlt] at hnextT
      obtain ⟨x, hx⟩ : ∃ x, l.getD j 0 = x := ⟨_, rfl⟩
      obtain ⟨y, hy⟩ : ∃ y, l.getD ((j + k) % l.length) 0 = y := ⟨_, rfl⟩
      rw [hx] at c0 hnext
      rw [hy] at hnextT
      simp only [hy] at hcs'
      have hsn : rungB 64 (l.take (j + 1)) = ringB (rungB 64 (l.take j)) x := by rw [hnext, rungB_snoc]
      have hsnT : rungB 64 ((turned l k).take (j + 1)) = ringB (rungB 64 ((turned l k).take j)) y := by rw [hnextT, rungB_snoc]
      have HN := Lib.hid hsn; have HNT := Lib.hid hsnT; have HC := Lib.hid hcs'
      clear hcs hx hy hnext hnextT hsn hsnT hcs' eb hbo'
      go_wp2_with fail
      refine (ring_any ma ra _ x _ hS).mono ?_
      rintro e w3 ⟨c3, rfl, _, hS3, hO3⟩
      have hb3 := only_below hb hb.size hO3 Ha.out
      have hT3 := hT.kept hO3 HD.out.2.2.1 HD.out.2.2.2
      clear hS hO3 hb c0 hT
      have c1 := HC.out w3 hb3
      obtain ⟨m, hmm⟩ : ∃ m, m = (j + k) % l.length := ⟨_, rfl⟩
      rw [← hmm] at c1 hm
      have em : ((j : Int) + (k : Int)) % (l.length : Int) = (m : Int) := by rw [hmm]; simp
      have hne : ¬ (l.length : Int) = 0 := by omega
      clear hmm
      go_wp2_with fail
      refine (ring_any mb rb _ y _ hT3).mono ?_
      rintro e w4 ⟨c4, rfl, _, hT4, hO4⟩
      have hb4 := only_below hb3 hb3.size hO4 Hb.out
      have hS4 := hS3.kept hO4 HD.out.1 HD.out.2.1
      clear hT3 hO4 hb3 hS3 c1 em
      go_wp2
      go_roundw
      case rel => exact ⟨j + 1, by omega, by go_num, by rw [HN.out]; exact hS4, by rw [HNT.out]; exact hT4, hb4⟩
      case measure => simp [intOf]; omega
    · rw [List.take_of_length_le (by omega)] at hS
      rw [List.take_of_length_le (by simp; omega), rungB_turned] at hT
      have hbl : (rungB 64 l).length = 64 := by simp
      obtain ⟨bs, hbs⟩ : ∃ bs, rungB 64 l = bs := ⟨_, rfl⟩
      rw [hbs] at hS hT hbl
      have hcount := take_count bs t
      have hhas := allB_has bs
      have hal := allB_len bs
      have htk := takeB_len bs t
      have hleft := fun x => hasB_left bs (takeB bs t) x
      have hlal := allB_len (leftB bs (takeB bs t))
      rw [leftB_len] at hlal
      have hll6 : (leftB bs (takeB bs t)).length = 64 := by rw [leftB_len]; exact hbl
      clear hrow hbs
      go_wp2_with fail
      refine (toldAll_b ma ra bs 99 _ (by omega) (by omega) hS).mono ?_
      intro e w3 hG
      obtain ⟨A3, c3, rfl, _, _, hrow3, hb3⟩ := hG.row
      have hS3 := hS.below hb3
      have hT3 := hT.below hb3
      have hb3 := hb.trans (hb3.mono hb.size)
      clear hG hS hT hb
      go_wp2_with fail
      refine (toldAll_b mb rb bs 99 _ (by omega) (by omega) hT3).mono ?_
      intro e w4 hG
      obtain ⟨A4, c4, rfl, _, _, hrow4, hb4⟩ := hG.row
      have hS4 := hS3.below hb4
      have hr3 := hrow3.later hb4
      have hb4 := hb3.trans (hb4.mono hb3.size)
      clear hG hS3 hT3 hb3 hrow3
      go_wp2_with fail
      refine (same_yes _ (allB bs) A3 A4 c3 c4 _ rfl hr3 hrow4 (by omega)).mono ?_
      rintro e w5 ⟨rfl, hb5⟩
      have hS5 := hS4.below hb5
      have hb5 := hb4.trans (hb5.mono hb4.size)
      clear hS4 hr3 hrow4 hb4
      go_wp2_with fail
      refine (toldAll_b ma ra bs 99 _ (by omega) (by omega) hS5).mono ?_
      intro e w6 hG
      obtain ⟨A6, c6, rfl, _, _, hrow6, hb6⟩ := hG.row
      have hS6 := hS5.below hb6
      have hb6 := hb5.trans (hb6.mono hb5.size)
      clear hG hS5 hb5
      have hr2 : IntRowK .i64 w6 w6.heap.size A2 t := (hrow2.below hb6).more hb6.size
      have hneA : ∀ a, A2 = some a → 0 < t.length → a.block ≠ ra := fun a ha hp => by have := HLT.out a ha hp; have := Ha.out; omega
      have hn6 := hS6.lt
      clear hrow2
      go_wp2_with fail
      refine (take_c ma ra bs t A2 c2 _ hS6 (by omega) hr2 hneA).mono ?_
      intro e w7 hT
      obtain ⟨A7, c7, rfl, _, _, hrow7, hA7, hS7, hO7⟩ := hT.row
      have hb7 := only_below hb6 hb6.size hO7 Ha.out
      have hrow6' : IntRowK .i64 w7 w6.heap.size A6 (allB bs) := own_other hrow6 hO7 hS6
      obtain ⟨ts, hts⟩ : ∃ ts, takeB bs t = ts := ⟨_, rfl⟩
      simp only [hts] at hrow7 hA7 hS7 hcount htk hleft hlal hll6 ⊢
      obtain ⟨ws, hws⟩ : ∃ ws, allB bs = ws := ⟨_, rfl⟩
      simp only [hws] at hrow6' hcount hhas hal ⊢
      obtain ⟨ls, hls⟩ : ∃ ls, leftB bs ts = ls := ⟨_, rfl⟩
      simp only [hls] at hS7 hcount hleft hlal hll6
      have HH := Lib.hid hhas; have HLE := Lib.hid hleft; have HCO := Lib.hid hcount
      clear hT hO7 hS6 hb6 hrow6 hr2 hneA hts hws hls hhas hleft hcount
      obtain ⟨wo, rfl⟩ : ∃ wo, wo = w7 := ⟨_, rfl⟩
      go_wp2
      go_loopw [88] (fun ix wv => ∃ m : Nat, m ≤ ws.length ∧ ix = .int .i64 m ∧ wo = wv) (fun ix _ => ws.length - (intOf ix).toNat)
      case atStart => exact ⟨0, Nat.zero_le _, rfl, rfl⟩
      case round =>
        obtain ⟨m, hm, rfl, rfl⟩ := hrel
        by_cases hml : m < ws.length
        · obtain ⟨b5, o5, rfl, hbo5, hcs5⟩ := hrow6'.at_ hml
          have c5 := hcs5 _ (Below.refl _ _)
          have hhx := HH.out m hml
          obtain ⟨x, hx⟩ : ∃ x, ws.getD m 0 = x := ⟨_, rfl⟩
          rw [hx] at c5 hhx
          have hlx := HLE.out x
          rw [hhx] at hlx
          have HLX := Lib.hid hlx
          clear hcs5 hx hhx hlx
          go_wp2
          go_loopw [16, 94] (fun g jx wv => ∃ n : Nat, n ≤ ts.length ∧ jx = .int .i64 n ∧ g = .bool (decide (x ∈ ts.take n)) ∧ wo = wv) (fun _ jx _ => ts.length - (intOf jx).toNat)
          case atStart => exact ⟨0, Nat.zero_le _, rfl, by simp, rfl⟩
          case round =>
            obtain ⟨n, hn, rfl, rfl, rfl⟩ := hrel
            by_cases hnl : n < ts.length
            · obtain ⟨b8, o8, rfl, hbo8, hcs8⟩ := hrow7.at_ hnl
              have c8 := hcs8 _ (Below.refl _ _)
              have hnx := take_next ts n hnl
              obtain ⟨y, hy⟩ : ∃ y, ts.getD n 0 = y := ⟨_, rfl⟩
              rw [hy] at c8 hnx
              have hmem : decide (x ∈ ts.take (n + 1)) = (decide (x ∈ ts.take n) || decide (y = x)) := by
                rw [hnx]
                by_cases h1 : x ∈ ts.take n
                · simp [h1]
                · by_cases h2 : y = x
                  · simp [h2]
                  · have h3 : ¬ x = y := fun h => h2 h.symm
                    simp [h1, h2, h3]
              obtain ⟨g, hg⟩ : ∃ g, decide (x ∈ ts.take n) = g := ⟨_, rfl⟩
              rw [hg] at hmem ⊢
              have HM := Lib.hid hmem
              clear hcs8 hy hnx hg hmem
              cases g
              · by_cases he : y = x
                · have e1 : (y == x) = true := by simpa using he
                  have HE := Lib.hid he
                  clear he
                  go_wp2
                  go_roundw
                  case rel => exact ⟨n + 1, by omega, by go_num, by rw [HM.out, HE.out]; simp, by trivial⟩
                  case measure => simp [intOf]; omega
                · have e1 : (y == x) = false := by simpa using he
                  have HE := Lib.hid he
                  clear he
                  go_wp2
                  go_roundw
                  case rel => exact ⟨n + 1, by omega, by go_num, by rw [HM.out]; simp [HE.out], by trivial⟩
                  case measure => simp [intOf]; omega
              · go_wp2
                go_roundw
                case rel => exact ⟨n + 1, by omega, by go_num, by rw [HM.out]; simp, by trivial⟩
                case measure => simp [intOf]; omega
            · rw [List.take_of_length_le (show ts.length ≤ n by omega)]
              obtain ⟨g, hg⟩ : ∃ g, decide (x ∈ ts) = g := ⟨_, rfl⟩
              rw [hg] at HLX ⊢
              clear hg
              go_wp2_with fail
              refine (has_b ma ra ls x _ hS7).mono ?_
              rintro e w' ⟨rfl, rfl⟩
              rw [HLX.out]
              cases g
              · go_wp2
                go_roundw
                case rel => exact ⟨m + 1, by omega, by go_num, by trivial⟩
                case measure => simp [intOf]; omega
              · go_wp2
                go_roundw
                case rel => exact ⟨m + 1, by omega, by go_num, by trivial⟩
                case measure => simp [intOf]; omega
        · go_wp2_with fail
          refine (toldAll_b ma ra ls 99 _ (by omega) (by omega) hS7).mono ?_
          intro e w8 hG
          obtain ⟨A8, c8, rfl, _, _, hrow8, hb8⟩ := hG.row
          have HF := Lib.hid (hb7.trans (hb8.mono hb7.size))
          have hc1 : ((allB ls).length : Int) + (ts.length : Int) = (ws.length : Int) := by have := HCO.out; omega
          have hal8 : (allB ls).length ≤ 64 := by have := allB_len ls; omega
          clear hG hrow8 hb8 hb7 hrow7 hS7
          go_wp2
          go_ret
          exact ⟨by simp, HF.out⟩

theorem apart_all (l t : List Int) (A A2 : Option Addr) (c c2 : Nat) (q : Int) (w : World) (hc : l.length ≤ c) (hm : c ≤ maxLen) (hrow : IntRowK .i64 w w.heap.size A l) (hc2 : t.length ≤ c2) (hm2 : c2 ≤ maxLen) (hrow2 : IntRowK .i64 w w.heap.size A2 t) (hq : (Lit.int .u8 q).wf = true) :
    Calls Try.prog 6 #[.slice A l.length c, .slice A2 t.length c2, .int .u8 q] w fun e w' => e = .returned (.bool true) ∧ Below w.heap.size w w' := by
  obtain ⟨h0, h1⟩ := bounds_u8 hq
  obtain ⟨n, rfl⟩ := Int.eq_ofNat_of_zero_le h0
  refine apart_walk l t A A2 c c2 n w (by omega) (by unfold maxLen at hm; omega) (by unfold maxLen at hm2; omega) hrow hrow2 (fun a ha hp => ?_)
  obtain ⟨b, o, rfl, hb, _⟩ := hrow2 hp
  cases ha
  exact hb
end Go.Proofs.Ytjnlcoldhcedpaa
