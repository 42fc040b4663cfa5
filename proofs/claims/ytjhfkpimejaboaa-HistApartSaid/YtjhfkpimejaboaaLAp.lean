/- HistApart answers true. No condition but those in the statements. -/
import Derived.Test.YtjhfkpimejaboaaHWk
import Derived.BigQuiet
import Derived.IntWalk
import Derived.BigRegion
import Derived.OpenShut
import Derived.Deep.MidRow

namespace Go.Proofs.Ytjhfkpimejaboaa
open Go.RowKit Go.Sort Go.ChangeShapes Go.WideShapes
set_option linter.unusedVariables false
set_option linter.unusedSimpArgs false


theorem lastIx_ge {l : List CV} {p : Int} : ∀ {i j : Nat}, j < i → isOf l p j = true → ∃ k, lastIx l p i = some k ∧ j ≤ k
  | 0, j, h, _ => by omega
  | i + 1, j, h, hj => by
    by_cases e : isOf l p i = true
    · exact ⟨i, lastIx_hit e, by omega⟩
    · have hji : j < i := by
        by_cases e2 : j = i
        · subst e2; exact absurd hj e
        · omega
      obtain ⟨k, h1, h2⟩ := lastIx_ge hji hj
      exact ⟨k, by rw [lastIx_miss (by simpa using e)]; exact h1, h2⟩
theorem sound_ahead {l : List CV} (h : soundB l = true) : ∀ (i j : Nat) (x y : CV), j < i → l[i]? = some x → l[j]? = some y → y.part = x.part → aheadB y x = true := by
  intro i
  induction i using Nat.strongRecOn with
  | ind i ih =>
    intro j x y hji hx hy hp
    have hil : i < l.length := (List.getElem?_eq_some_iff.1 hx).1
    obtain ⟨-, -, -, -, hfol⟩ := ok_parts hx (sound_up h i hil)
    obtain ⟨k, hk, hjk⟩ := lastIx_ge hji (show isOf l x.part j = true by unfold isOf; rw [hy]; simp [hp])
    obtain ⟨hki, hkof⟩ := lastIx_lt hk
    obtain ⟨z, hz⟩ : ∃ z, l[k]? = some z := ⟨_, List.getElem?_eq_getElem (by omega)⟩
    have hzp : z.part = x.part := by unfold isOf at hkof; rw [hz] at hkof; simpa using hkof
    unfold followsB at hfol
    rw [hk] at hfol
    simp only [hz] at hfol
    have haz : aheadB z x = true := by unfold afterB at hfol; simp at hfol; exact hfol.1
    by_cases e : j = k
    · subst e
      rw [hy] at hz
      injection hz with hz
      subst hz
      exact haz
    · have hyz := ih k hki j z y (by omega) hz hy (hp.trans hzp.symm)
      obtain ⟨-, ht, -, -, -⟩ := ok_parts hz (sound_up h k (by omega))
      unfold aheadB at haz hyz ⊢
      simp at haz hyz ⊢
      have := ht.2.2.2.1 haz.1
      exact ⟨hyz.1, by omega⟩
theorem sound_behind {l : List CV} (h : soundB l = true) {i j : Nat} {x y : CV} (hji : j < i) (hx : l[i]? = some x) (hy : l[j]? = some y) (hp : y.part = x.part) : aheadB x y = false := by
  have h1 := sound_ahead h i j x y hji hx hy hp
  have hil : i < l.length := (List.getElem?_eq_some_iff.1 hx).1
  obtain ⟨-, ht, -, -, -⟩ := ok_parts hx (sound_up h i hil)
  obtain ⟨-, hs, -, -, -⟩ := ok_parts hy (sound_up h j (by omega))
  unfold aheadB at h1 ⊢
  simp at h1 ⊢
  intro hd
  have h2 := ht.2.2.2.1 hd
  have h3 := hs.2.2.2.1 h1.1
  omega

set_option maxRecDepth 100000 in
set_option maxHeartbeats 16000000 in
theorem lapart_b (A : Option Addr) (l : List CV) (c : Nat) (w : World) (hr : CRow w w.heap.size A l) (hlc : l.length ≤ c) (hcm : c ≤ maxLen) : Calls Try.prog 6 #[.slice A l.length c] w fun e w' => e = .returned (.bool true) ∧ Below w.heap.size w w' := by
  have HR := Lib.hid hr
  clear hr
  go_enter Try.func6, Try.ntmps6
  go_wp2_with fail
  refine (wakes_b _).mono ?_
  rintro e w1 ⟨rfl, hb1⟩
  have HB1 := Lib.hid hb1
  clear hb1
  by_cases hl : (60 : Int) < (l.length : Int)
  · go_wp2
    go_ret
    exact ⟨rfl, HB1.out⟩
  have hld : decide ((60 : Int) < (l.length : Int)) = false := decide_eq_false hl
  have hl60 : l.length ≤ 60 := by omega
  cases hso : soundB l with
  | false =>
    have HSO := Lib.hid hso
    clear hso
    go_wp2_with fail
    refine (sound_q A l c false _ (HR.out.later HB1.out) hl60 HSO.out).mono ?_
    rintro e w2 ⟨rfl, hb2⟩
    have HB2 := Lib.hid (HB1.out.trans (hb2.mono HB1.out.size))
    clear hb2
    go_wp2
    go_ret
    exact ⟨rfl, HB2.out⟩
  | true =>
    have HSO := Lib.hid hso
    clear hso
    go_wp2_with fail
    refine (sound_q A l c true _ (HR.out.later HB1.out) hl60 HSO.out).mono ?_
    rintro e w2 ⟨rfl, hb2⟩
    have HB2 := Lib.hid (HB1.out.trans (hb2.mono HB1.out.size))
    clear hb2 hl hld
    go_wp2
    go_loopw [19] (fun ix wr => ∃ i : Nat, i ≤ l.length ∧ ix = .int .i64 i ∧ Below w.heap.size w wr) (fun ix _ => l.length - (intOf ix).toNat)
    case atStart => exact ⟨0, Nat.zero_le _, rfl, HB2.out⟩
    case round =>
      obtain ⟨i, hi, rfl, hbr⟩ := hrel
      by_cases hlt : i < l.length
      · obtain ⟨b, o, x, rfl, hbl, hx, hxw, hxc⟩ := HR.out.at_ hlt
        have HXI := Lib.hid hx
        have HXR := Lib.hid (hxc _ hbr).1
        obtain ⟨X1, X2, HX1, HX2, hth, hxb1, hxb2, hxs, hxv⟩ := var17 wr x #[.int .i64 0, .int .i64 0, .int .i64 0, .int .u64 0, .slice none 0 0, .int .i64 0, .slice none 0 0, .bool false, .int .i64 0, .bool false, .int .i64 0, .int .i64 0, .int .i64 0, .int .i64 0, .int .i64 0, .int .i64 0, .int .i64 0, .int .i64 0, .int .i64 0, .int .i64 0] rfl
        have HXB := Lib.hid hxb2; have HXV := Lib.hid hxv; have HTH := Lib.hid hth
        clear hxb1 hxb2 hxs hxv hth
        have HXD : Hid (∀ W', Below X2.heap.size X2 W' → CAt W' wr.heap.size 0 x) := Lib.hid (fun W' h => HXV.out.later h HXV.out.lt)
        have HBX := Lib.hid (hbr.trans (HXB.out.mono hbr.size))
        have hi2 : (i : Int) < (l.length : Int) := by omega
        have hsl := fun w' => upto_row Try.underlying22 (show Try.prog.info? 34 = some _ from rfl) (some ⟨b, o, none⟩) l.length c i (by omega) w'
        clear hx hxw hxc hbl hbr
        obtain ⟨wo, rfl⟩ : ∃ wo, wo = wr := ⟨_, rfl⟩
        go_wp2_with (first | (rw [← HX1.out]) | (with_reducible refine wpList_store_mid (by kernel_rfl) _ _ _ rfl wo.heap.size 0 (cCells x).toArray (by kernel_rfl) (by kernel_rfl) HTH.out (cCells_infoA x) (cCells_one x) ?_) | (rw [← HX2.out]) | (with_reducible refine wpList_loadC (by with_unfolding_all rfl) _ rfl _ _ _ (by with_unfolding_all rfl) HXR.out ?_))
        go_loopw [28] (fun jx wv => ∃ j : Nat, j ≤ i ∧ jx = .int .i64 j ∧ Below X2.heap.size X2 wv ∧ wo = wo) (fun jx _ => i - (intOf jx).toNat)
        case atStart => exact ⟨0, Nat.zero_le _, rfl, Below.refl _ _, by trivial⟩
        case round =>
          obtain ⟨j, hj, rfl, hbv, -⟩ := hrel
          obtain ⟨wv, hwv⟩ : ∃ wv, wv = wr := ⟨_, rfl⟩
          rw [← hwv] at hbv ⊢
          clear hwv wr
          by_cases hji : j < i
          · obtain ⟨b', o', y, hA, -, hy, -, hyc⟩ := HR.out.at_ (i := j) (by omega)
            injection hA with hA
            injection hA with hA1 hA2
            subst hA1 hA2
            have HYR := Lib.hid (hyc _ (HBX.out.trans (hbv.mono HBX.out.size))).1
            obtain ⟨Xa1, Xa2, HXa1, HXa2, htha, hxba1, hxba2, hxsa, hxva⟩ := var17 wv y #[.int .i64 0, .int .i64 0, .int .i64 0, .int .u64 0, .slice none 0 0, .int .i64 0, .slice none 0 0, .bool false, .int .i64 0, .bool false, .int .i64 0, .int .i64 0, .int .i64 0, .int .i64 0, .int .i64 0, .int .i64 0, .int .i64 0, .int .i64 0, .int .i64 0, .int .i64 0] rfl
            have HXBa := Lib.hid hxba2; have HXVa := Lib.hid hxva; have HTHa := Lib.hid htha
            clear hxba1 hxba2 hxsa hxva htha
            have HXA := Lib.hid (hbv.trans (HXBa.out.mono hbv.size))
            have y_part := HXVa.out.b_part
            have y_at := Lib.hid HXVa.out
            have hx2 := HXD.out _ HXA.out
            have x_part := hx2.b_part
            have x_at := Lib.hid hx2
            have hj2 : (j : Int) < (i : Int) := by omega
            clear hx2 hyc hbv
            by_cases hp : y.part = x.part
            · have HQ1 := Lib.hid (sound_ahead HSO.out i j x y hji HXI.out hy hp)
              have HQ2 := Lib.hid (sound_behind HSO.out hji HXI.out hy hp)
              have hpa : (y.part == x.part) = true := by simp [hp]
              clear hp
              go_wp2_with (first | (rw [← HXa1.out]) | (with_reducible refine wpList_store_mid (by kernel_rfl) _ _ _ rfl wv.heap.size 0 (cCells y).toArray (by kernel_rfl) (by kernel_rfl) HTHa.out (cCells_infoA y) (cCells_one y) ?_) | (rw [← HXa2.out]) | (with_reducible refine wpList_loadC (by with_unfolding_all rfl) _ rfl _ _ _ (by with_unfolding_all rfl) HYR.out ?_) | (with_reducible refine wpList_loadC (by with_unfolding_all rfl) _ rfl _ _ _ (by with_unfolding_all rfl) y_at.out ?_) | (with_reducible refine wpList_loadC (by with_unfolding_all rfl) _ rfl _ _ _ (by with_unfolding_all rfl) x_at.out ?_))
              refine (ahead_q y x true _ HQ1.out).mono ?_
              rintro e w5 ⟨rfl, hb5⟩
              have y_at := Lib.hid (HXVa.out.later hb5 HXVa.out.lt)
              have x_at := Lib.hid (x_at.out.later hb5 x_at.out.lt)
              have HB5 := Lib.hid (HXA.out.trans (hb5.mono HXA.out.size))
              clear hb5 y_part x_part
              go_wp2_with (first | (with_reducible refine wpList_loadC (by with_unfolding_all rfl) _ rfl _ _ _ (by with_unfolding_all rfl) y_at.out ?_) | (with_reducible refine wpList_loadC (by with_unfolding_all rfl) _ rfl _ _ _ (by with_unfolding_all rfl) x_at.out ?_))
              refine (ahead_q x y false _ HQ2.out).mono ?_
              rintro e w6 ⟨rfl, hb6⟩
              have HB6 := Lib.hid (HB5.out.trans (hb6.mono HB5.out.size))
              clear hb6
              go_wp2
              go_roundw
              case rel => exact ⟨j + 1, by omega, by go_num, HB6.out, by trivial⟩
              case measure => simp [intOf]; omega
            · clear hy
              have hpa : (y.part == x.part) = false := by simp [hp]
              clear hp
              go_wp2_with (first | (rw [← HXa1.out]) | (with_reducible refine wpList_store_mid (by kernel_rfl) _ _ _ rfl wv.heap.size 0 (cCells y).toArray (by kernel_rfl) (by kernel_rfl) HTHa.out (cCells_infoA y) (cCells_one y) ?_) | (rw [← HXa2.out]) | (with_reducible refine wpList_loadC (by with_unfolding_all rfl) _ rfl _ _ _ (by with_unfolding_all rfl) HYR.out ?_) | (with_reducible refine wpList_loadC (by with_unfolding_all rfl) _ rfl _ _ _ (by with_unfolding_all rfl) y_at.out ?_) | (with_reducible refine wpList_loadC (by with_unfolding_all rfl) _ rfl _ _ _ (by with_unfolding_all rfl) x_at.out ?_))
              go_roundw
              case rel => exact ⟨j + 1, by omega, by go_num, HXA.out, by trivial⟩
              case measure => simp [intOf]; omega
          · have HBV := Lib.hid (HBX.out.trans (hbv.mono HBX.out.size))
            have hjd : decide ((j : Int) < (i : Int)) = false := decide_eq_false (by omega)
            clear hbv
            go_wp2
            go_roundw
            case rel => exact ⟨i + 1, by omega, by go_num, HBV.out⟩
            case measure => simp [intOf]; omega
      · have HBR := Lib.hid hbr
        clear hbr
        go_wp2
        go_ret
        exact ⟨rfl, HBR.out⟩
end Go.Proofs.Ytjhfkpimejaboaa
