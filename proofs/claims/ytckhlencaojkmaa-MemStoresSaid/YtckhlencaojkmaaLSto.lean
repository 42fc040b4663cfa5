/- MemStores. No condition but those in the statements. -/
import Derived.Test.YtckhlencaojkmaaPuts
import Derived.OpenShut
namespace Go.Proofs.Ytckhlencaojkmaa
open Go.RowKit Go.Sort

set_option maxHeartbeats 3200000 in
theorem memStores_walk (n : Nat) (l : List (Int × Int)) (A : Option Addr) (c : Nat) (at_ : Int) (w : World) (hn : n ≤ 255) (hl : l.length ≤ 9223372036854775807) (hrow : PairRowK .u64 .u32 w w.heap.size A l)
    (hwf : ∀ p ∈ l, 0 ≤ p.1) (hat : 0 ≤ at_) : Calls Try.prog 4 #[.int .u8 (n : Int), .slice A l.length c, .int .u64 at_] w fun e w' => e = .returned (.bool true) ∧ Below w.heap.size w w' := by
  by_cases hbig : 200 < l.length
  · go_enter Try.func4, Try.ntmps4
    go_wp2_with fail
    refine (wakes_b _).mono ?_
    rintro e w0 ⟨rfl, hb0⟩
    go_wp2
    go_ret
    exact ⟨rfl, hb0⟩
  have hl2 : l.length ≤ 200 := by omega
  clear hbig hl
  have HWF := Lib.hid hwf
  clear hwf
  go_enter Try.func4, Try.ntmps4
  go_wp2_with fail
  refine (wakes_b _).mono ?_
  rintro e w0 ⟨rfl, hb0⟩
  go_wp2_with fail
  refine (memNew_at n _ rfl _ (by omega)).mono ?_
  rintro e w1 ⟨mb, rb, rfl, h1, h2, hM, hB⟩
  have hb1 := hb0.trans (hB.mono hb0.size)
  have hrow1 := hrow.below hb1
  have hmb : w.heap.size ≤ mb := Nat.le_trans hb0.size h1
  have hrb : w.heap.size ≤ rb := Nat.le_trans hb0.size h2
  clear hB hb0 h1 h2
  go_wp2_with fail
  go_loopw [38] (fun i wr => ∃ k : Nat, k ≤ l.length ∧ i = .int .i64 k ∧ MemAt wr mb rb (puts (List.replicate n 0) (l.take k)) ∧ Below w.heap.size w wr) (fun i _ => l.length - (intOf i).toNat)
  case atStart => exact ⟨0, Nat.zero_le _, rfl, hM, hb1⟩
  case round =>
    clear hM hb1 hrow1
    obtain ⟨k, hk, rfl, hM, hb⟩ := hrel
    by_cases hlt : k < l.length
    · have hpt := puts_take (List.replicate n 0) l k hlt
      obtain ⟨b, o, rfl, hbo, hcs⟩ := hrow.at_ hlt
      obtain ⟨c0, c1⟩ := hcs wr hb
      have hpos := HWF.out _ (List.getElem_mem hlt)
      rw [show l[k] = l.getD k (0, 0) by simp [List.getD_eq_getElem?_getD, hlt]] at hpos
      obtain ⟨f, s, hp⟩ : ∃ f s, l.getD k (0, 0) = (f, s) := ⟨_, _, rfl⟩
      rw [hp] at c0 c1 hpt hpos
      simp only at c0 c1 hpt hpos
      have HP := Lib.hid hpt
      have hMlen : (puts (List.replicate n 0) (l.take k)).length = n := by simp
      obtain ⟨ws, hws⟩ : ∃ ws, ws = puts (List.replicate n 0) (l.take k) := ⟨_, rfl⟩
      rw [← hws] at hM hMlen HP
      clear hcs hp hws hpt
      obtain ⟨a, rfl⟩ := Int.eq_ofNat_of_zero_le hpos
      have hbx : Below wr.heap.size wr (wr.alloc (.cells #[.int .u64 (a : Int), .int .u32 s] 35)) := (Below.refl _ _).alloc (Nat.le_refl _) _
      have hMx := hM.below hbx
      have hbw := hb.trans (hbx.mono hb.size)
      have hx := box2_cells wr (.int .u64 (a : Int)) (.int .u32 s) 35
      have hxl : wr.heap.size < (wr.alloc (.cells #[.int .u64 (a : Int), .int .u32 s] 35)).heap.size := by simp
      have hrl := hM.lt.2
      obtain ⟨wx, hwx⟩ : ∃ wx, Hid (wx = wr.alloc (.cells #[.int .u64 (a : Int), .int .u32 s] 35)) := ⟨_, rfl⟩
      rw [← hwx.out] at hMx hbw hx hxl
      obtain ⟨x0, x1⟩ := hx
      clear hM hb hbx hpos
      by_cases han : a < n
      · go_wp2_with fail
        rw [← hwx.out]
        go_wp2_with fail
        refine (memStore_at mb rb ws a _ s rfl _ hMx (by omega) (by omega)).mono ?_
        rintro e w2 ⟨rfl, hM2, hg⟩
        have y0 := hg.cell x0 (by simp; omega)
        have hb2 := below_store hbw hg hbw.size hrb
        clear x0 x1 hg hbw hMx
        have hd : ((a : Int) < (n : Int)) := by omega
        go_wp2
        go_roundw
        case rel => exact ⟨k + 1, by omega, by go_num, by rw [HP.out]; simpa using hM2, hb2⟩
        case measure => simp [intOf]; omega
      · go_wp2_with fail
        rw [← hwx.out]
        go_wp2_with fail
        refine (memStore_out mb rb ws a s _ hMx (by omega) (by omega)).mono ?_
        rintro e w2 ⟨rfl, rfl⟩
        have hd : ¬ ((a : Int) < (n : Int)) := by omega
        have hd2 : decide ((a : Int) < (n : Int)) = false := by simpa using hd
        go_wp2
        go_roundw
        case rel => exact ⟨k + 1, by omega, by go_num, by rw [HP.out, List.set_eq_of_length_le (by simp; omega)]; exact hMx, hbw⟩
        case measure => simp [intOf]; omega
    · have hkk : k = l.length := by omega
      rw [hkk, List.take_length] at hM
      have hw := fun j hj => puts_word n j hj l HWF.out
      have hMlen : (puts (List.replicate n 0) l).length = n := by simp
      obtain ⟨ws, hws⟩ : ∃ ws, ws = puts (List.replicate n 0) l := ⟨_, rfl⟩
      rw [← hws] at hM hMlen hw
      have HW := Lib.hid hw
      clear hws hw hkk
      subst hMlen
      go_wp2_with fail
      refine (memWords_b mb rb ws _ hM (by omega)).mono ?_
      rintro e w2 ⟨g, rfl, hg, hW, hb2⟩
      have hM2 := hM.below hb2
      have hb3 := hb.trans (hb2.mono hb.size)
      have hrow2 := hrow.below hb3
      clear hM hb hb2 hg hrow
      have HB := Lib.hid hb3
      clear hb3
      go_wp2_with fail
      go_loop [74] (fun i => ∃ j : Nat, j ≤ ws.length ∧ i = .int .i64 j) (fun i => ws.length - (intOf i).toNat)
      case atStart => exact ⟨0, Nat.zero_le _, rfl⟩
      case round =>
        obtain ⟨j, hj, rfl⟩ := hrel
        by_cases hjl : j < ws.length
        · have hc := hW.cell hjl
          have hword := HW.out j hjl
          obtain ⟨v, hv⟩ : ∃ v, v = ws.getD j 0 := ⟨_, rfl⟩
          rw [← hv] at hc hword
          have HV := Lib.hid hv
          have HWd := Lib.hid hword
          clear hv hword
          go_wp2_with fail
          refine (memLoad_at mb rb ws j _ rfl _ hM2 (by omega) hjl).mono ?_
          rintro e w' ⟨rfl, rfl⟩
          rw [← HV.out]
          go_wp2_with fail
          refine (word_b l A c j _ _ (by omega) hrow2).mono ?_
          rintro e w' ⟨rfl, rfl⟩
          rw [← HWd.out]
          go_wp2
          go_round
          case rel => exact ⟨j + 1, by omega, by go_num⟩
          case measure => simp [intOf]; omega
        · obtain ⟨a, rfl⟩ := Int.eq_ofNat_of_zero_le hat
          by_cases ha : a < ws.length
          · go_wp2_with fail
            refine (memLoad_at mb rb ws a _ rfl _ hM2 (by omega) ha).mono ?_
            rintro e w' ⟨rfl, rfl⟩
            have hd : ((a : Int) < (ws.length : Int)) := by omega
            go_wp2
            go_ret
            exact ⟨by simp, HB.out⟩
          · go_wp2_with fail
            refine (memLoad_out mb rb ws a _ hM2 (by omega) (by omega)).mono ?_
            rintro e w' ⟨rfl, rfl⟩
            have hd : decide ((a : Int) < (ws.length : Int)) = false := by simpa using ha
            go_wp2
            go_ret
            exact ⟨by simp, HB.out⟩

theorem memStores_all (q : Int) (l : List (Int × Int)) (A : Option Addr) (c : Nat) (x : Int) (w : World) (hq : (Lit.int .u8 q).wf = true) (hc : l.length ≤ c) (hm : c ≤ maxLen) (hrow : PairRowK .u64 .u32 w w.heap.size A l)
    (wf : ∀ p ∈ l, (Lit.int .u64 p.1).wf = true ∧ (Lit.int .u32 p.2).wf = true) (hx : (Lit.int .u64 x).wf = true) : Calls Try.prog 4 #[.int .u8 q, .slice A l.length c, .int .u64 x] w fun e w' => e = .returned (.bool true) ∧ Below w.heap.size w w' := by
  obtain ⟨h0, h1⟩ := bounds_u8 hq
  obtain ⟨n, rfl⟩ := Int.eq_ofNat_of_zero_le h0
  exact memStores_walk n l A c x w (by omega) (by unfold maxLen at hm; omega) hrow (fun p hp => (bounds_u64 (wf p hp).1).1) (bounds_u64 hx).1
end Go.Proofs.Ytckhlencaojkmaa
