/- MemOthers. No condition but those in the statements. -/
import Derived.Test.YtckhlencaojkmaaPuts
import Derived.OpenShut
namespace Go.Proofs.Ytckhlencaojkmaa
open Go.RowKit Go.Sort

set_option maxHeartbeats 3200000 in
theorem memOthers_walk (n : Nat) (l : List (Int × Int)) (A : Option Addr) (c : Nat) (a : Nat) (x : Int) (w : World) (hn : n ≤ 255) (hl : l.length ≤ 9223372036854775807) (hrow : PairRowK .u64 .u32 w w.heap.size A l)
    (hwf : ∀ p ∈ l, 0 ≤ p.1) : Calls Try.prog 6 #[.int .u8 (n : Int), .slice A l.length c, .agg #[.int .u64 (a : Int), .int .u32 x]] w fun e w' => e = .returned (.bool true) ∧ Below w.heap.size w w' := by
  have hbP : Below w.heap.size w (w.alloc (.cells #[.int .u64 (a : Int), .int .u32 x] 35)) := (Below.refl _ _).alloc (Nat.le_refl _) _
  have hPx := box2_cells w (.int .u64 (a : Int)) (.int .u32 x) 35
  have hPl : w.heap.size < (w.alloc (.cells #[.int .u64 (a : Int), .int .u32 x] 35)).heap.size := by simp
  obtain ⟨wP, hwP⟩ : ∃ wx, Hid (wx = w.alloc (.cells #[.int .u64 (a : Int), .int .u32 x] 35)) := ⟨_, rfl⟩
  rw [← hwP.out] at hbP hPx hPl
  obtain ⟨p0, p1⟩ := hPx
  by_cases hbig : 200 < l.length
  · clear p0 p1
    go_enter Try.func6, Try.ntmps6
    go_wp2_with fail
    rw [← hwP.out]
    refine (wakes_b _).mono ?_
    rintro e w0 ⟨rfl, hb0⟩
    go_wp2
    go_ret
    exact ⟨rfl, hbP.trans (hb0.mono hbP.size)⟩
  have hl2 : l.length ≤ 200 := by omega
  clear hbig hl
  have HWF := Lib.hid hwf
  clear hwf
  have hrowP := hrow.below hbP
  go_enter Try.func6, Try.ntmps6
  go_wp2_with fail
  rw [← hwP.out]
  refine (wakes_b _).mono ?_
  rintro e w0 ⟨rfl, hb0⟩
  go_wp2_with fail
  refine (memNew_at n _ rfl _ (by omega)).mono ?_
  rintro e w1 ⟨mb, rb, rfl, h1, h2, hM, hB⟩
  have hb1 := hb0.trans (hB.mono hb0.size)
  have hmb : wP.heap.size ≤ mb := Nat.le_trans hb0.size h1
  have hrb : wP.heap.size ≤ rb := Nat.le_trans hb0.size h2
  clear hB hb0 h1 h2
  have HP0 := Lib.hid p0
  have HP1 := Lib.hid p1
  clear p0 p1
  go_wp2_with fail
  go_loopw [33] (fun i wr => ∃ k : Nat, k ≤ l.length ∧ i = .int .i64 k ∧ (∃ ws, MemAt wr mb rb ws ∧ Hid (ws.length = n)) ∧ Below wP.heap.size wP wr) (fun i _ => l.length - (intOf i).toNat)
  case atStart => exact ⟨0, Nat.zero_le _, rfl, ⟨_, hM, Lib.hid (by simp)⟩, hb1⟩
  case round =>
    clear hM hb1
    obtain ⟨k, hk, rfl, ⟨ws, hM, hws⟩, hb⟩ := hrel
    by_cases hlt : k < l.length
    · obtain ⟨b, o, rfl, hbo, hcs⟩ := hrowP.at_ hlt
      obtain ⟨c0, c1⟩ := hcs wr (hb.mono hbP.size)
      have hpos := HWF.out _ (List.getElem_mem hlt)
      rw [show l[k] = l.getD k (0, 0) by simp [List.getD_eq_getElem?_getD, hlt]] at hpos
      obtain ⟨f, s, hp⟩ : ∃ f s, l.getD k (0, 0) = (f, s) := ⟨_, _, rfl⟩
      rw [hp] at c0 c1 hpos
      simp only at c0 c1 hpos
      clear hcs hp
      have hbx : Below wr.heap.size wr (wr.alloc (.cells #[.int .u64 f, .int .u32 s] 35)) := (Below.refl _ _).alloc (Nat.le_refl _) _
      have hMx := hM.below hbx
      have hbw := hb.trans (hbx.mono hb.size)
      have hx := box2_cells wr (.int .u64 f) (.int .u32 s) 35
      obtain ⟨wx, hwx⟩ : ∃ wx, Hid (wx = wr.alloc (.cells #[.int .u64 f, .int .u32 s] 35)) := ⟨_, rfl⟩
      rw [← hwx.out] at hMx hbw hx
      obtain ⟨x0, x1⟩ := hx
      clear hM hb hbx
      go_wp2_with fail
      rw [← hwx.out]
      go_wp2_with fail
      refine (memStore_any mb rb ws f s _ hMx (by have := hws.out; omega) hpos).mono ?_
      rintro e w2 ⟨cc, rfl, hM2, hg⟩
      have hb2 := below_store hbw hg hbw.size hrb
      clear x0 x1 hg hbw hMx
      go_wp2
      go_roundw
      case rel => exact ⟨k + 1, by omega, by go_num, ⟨_, hM2, Lib.hid (by rw [List.length_set]; exact hws.out)⟩, hb2⟩
      case measure => simp [intOf]; omega
    · have hlen := hws.out
      have hl5 : ws.length ≤ 255 := by omega
      clear hws hlen hn
      go_wp2_with fail
      refine (memWords_b mb rb ws _ hM (by omega)).mono ?_
      rintro e w2 ⟨g, rfl, hg, hW, hb2⟩
      have hM2 := hM.below hb2
      have hb3 := hb.trans (hb2.mono hb.size)
      have hge := hb.size
      have hrl := hM.lt.2
      clear hM hb hb2
      have p0 := (hb3.cell (p := ⟨w.heap.size, 0, none⟩) hPl).trans HP0.out
      have p1 := (hb3.cell (p := ⟨w.heap.size, 1, none⟩) hPl).trans HP1.out
      go_wp2_with fail
      refine (memStore_any mb rb ws a x _ hM2 (by omega) (by omega)).mono ?_
      rintro e w3 ⟨cc, rfl, hM3, hgr⟩
      have hb4 := below_store hb3 hgr hb3.size hrb
      have hW3 : WordsAt w3 g ws := hW.of (hgr.block g hW.lt (by
        have hne : g ≠ rb := by omega
        simpa using hne))
      have hlen3 : (ws.set a x).length = ws.length := by simp
      simp only [Int.toNat_natCast] at hM3
      clear p0 p1 hb3 hgr hM2
      go_wp2_with fail
      refine (memWords_b mb rb (ws.set a x) _ hM3 (by simp; omega)).mono ?_
      rintro e w5 ⟨g5, rfl, _, hW5, hb5⟩
      have hM5 := hM3.below hb5
      have hW35 := hW3.below hb5
      have hb6 := hb4.trans (hb5.mono hb4.size)
      have p0 := (hb6.cell (p := ⟨w.heap.size, 0, none⟩) hPl).trans HP0.out
      have p1 := (hb6.cell (p := ⟨w.heap.size, 1, none⟩) hPl).trans HP1.out
      rw [hlen3]
      have HB := Lib.hid hb6
      have HL := Lib.hid hlen3
      clear hb4 hb5 hM3 hW3 hb6 hlen3
      go_wp2_with fail
      go_loop [55] (fun i => ∃ j : Nat, j ≤ ws.length ∧ i = .int .i64 j) (fun i => ws.length - (intOf i).toNat)
      case atStart => exact ⟨0, Nat.zero_le _, rfl⟩
      case round =>
        obtain ⟨j, hj, rfl⟩ := hrel
        by_cases hjl : j < ws.length
        · have hc := hW5.cell (k := j) (by rw [HL.out]; exact hjl)
          have hc2 := hW35.cell hjl
          by_cases hja : j = a
          · subst hja
            have e1 : (ws.set j x).getD j 0 = x := by simp [List.getD_eq_getElem?_getD, hjl]
            rw [e1] at hc
            have hd : ((j : Int) == (j : Int)) = true := by simp
            clear e1
            go_wp2
            go_round
            case rel => exact ⟨j + 1, by omega, by go_num⟩
            case measure => simp [intOf]; omega
          · have e1 : (ws.set a x).getD j 0 = ws.getD j 0 := by simp [List.getD_eq_getElem?_getD, Ne.symm hja]
            rw [e1] at hc
            have hd : ((j : Int) == (a : Int)) = false := by simp; omega
            have hd2 : (((j : Int) != (a : Int))) = true := by simp; omega
            obtain ⟨v, hv⟩ : ∃ v, v = ws.getD j 0 := ⟨_, rfl⟩
            rw [← hv] at hc hc2
            clear e1 hv
            go_wp2
            go_round
            case rel => exact ⟨j + 1, by omega, by go_num⟩
            case measure => simp [intOf]; omega
        · go_wp2_with fail
          refine (memWords_b mb rb (ws.set a x) _ hM5 (by rw [HL.out]; omega)).mono ?_
          rintro e w7 ⟨g7, rfl, _, _, hb7⟩
          rw [HL.out]
          go_wp2
          go_ret
          exact ⟨by simp, hbP.trans ((HB.out.trans (hb7.mono HB.out.size)).mono hbP.size)⟩

theorem memOthers_all (q : Int) (l : List (Int × Int)) (A : Option Addr) (c : Nat) (a x : Int) (w : World) (hq : (Lit.int .u8 q).wf = true) (hc : l.length ≤ c) (hm : c ≤ maxLen) (hrow : PairRowK .u64 .u32 w w.heap.size A l)
    (wf : ∀ p ∈ l, (Lit.int .u64 p.1).wf = true ∧ (Lit.int .u32 p.2).wf = true) (ha : (Lit.int .u64 a).wf = true) : Calls Try.prog 6 #[.int .u8 q, .slice A l.length c, .agg #[.int .u64 a, .int .u32 x]] w fun e w' => e = .returned (.bool true) ∧ Below w.heap.size w w' := by
  obtain ⟨h0, h1⟩ := bounds_u8 hq
  obtain ⟨n, rfl⟩ := Int.eq_ofNat_of_zero_le h0
  obtain ⟨k, rfl⟩ := Int.eq_ofNat_of_zero_le (bounds_u64 ha).1
  exact memOthers_walk n l A c k x w (by omega) (by unfold maxLen at hm; omega) hrow (fun p hp => (bounds_u64 (wf p hp).1).1)
end Go.Proofs.Ytckhlencaojkmaa
