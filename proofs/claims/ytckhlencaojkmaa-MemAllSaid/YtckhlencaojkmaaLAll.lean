/- MemAll. No condition but those in the statements. -/
import Derived.Test.YtckhlencaojkmaaPuts
import Derived.Test.YtckhlencaojkmaaMIter
import Derived.Test.YtckhlencaojkmaaMSame
import Derived.OpenShut
namespace Go.Proofs.Ytckhlencaojkmaa
open Go.RowKit Go.Sort Go.Shelf
attribute [local go_sem] Oper.semAt_some

/-- Between two rounds: so many words have been told; the boxes and blocks stand. -/
structure MI (w : World) (bs bt br bw g2 mb rb : Nat) (stop : Nat) (ws : List Int) (pre : List Nat) (W : World) : Prop where
  isr : pre = List.range pre.length
  le : pre.length ≤ stop
  bS : Boxed W bs 5 (.int .u8 (stop : Int))
  bT : Boxed W bt 3 (.int .i64 (pre.length : Int))
  bR : Boxed W br 4 (.bool false)
  bW : Boxed W bw 28 (.slice (some ⟨g2, 0, none⟩) ws.length ws.length)
  row : WordsAt W g2 ws
  mem : MemAt W mb rb ws
  below : Below w.heap.size w W
/-- A round has left: by the break, or (at no place of the words) by the return. -/
def MX (w : World) (bs bt br bw g2 mb rb : Nat) (stop : Nat) (ws : List Int) (c : Code) (xs : List Nat) (W : World) : Prop :=
  (c = .exit 2 ∧ ∃ pre x, xs = pre ++ [x] ∧ pre.length = stop ∧ MI w bs bt br bw g2 mb rb stop ws pre W) ∨ (c = .ret ∧ ¬ xs <+: List.range ws.length)
theorem MI.turn {w : World} {bs bt br bw g2 mb rb : Nat} {stop : Nat} {ws : List Int} {n₀ : Nat} (hn : w.heap.size ≤ n₀) : OwnFrom n₀ (MI w bs bt br bw g2 mb rb stop ws) := by
  rintro s W W' row h hg hr
  have keep : ∀ (k : Nat) (o : Obj), W.heap[k]? = some o → o.isCells = true → W'.heap[k]? = W.heap[k]? := fun k o hk ho =>
    hg.block k (Array.getElem?_eq_some_iff.1 hk).1 (fun e => by obtain ⟨_, o', ho', hc⟩ := hr k e.symm; rw [hk] at ho'; cases ho'; rw [ho] at hc; cases hc)
  have k1 := fun {k t v} (hb : Boxed W k t v) => (keep k _ hb rfl).trans hb
  exact ⟨h.isr, h.le, k1 h.bS, k1 h.bT, k1 h.bR, k1 h.bW, h.row.of (keep _ _ h.row rfl), h.mem.of (keep _ _ h.mem.head rfl) (keep _ _ h.mem.row rfl), h.below.grown hg h.below.size (fun k e => by have := (hr k e).1; omega)⟩
theorem MX.turn {w : World} {bs bt br bw g2 mb rb : Nat} {stop : Nat} {ws : List Int} {n₀ : Nat} (hn : w.heap.size ≤ n₀) (c : Code) : OwnFrom n₀ (MX w bs bt br bw g2 mb rb stop ws c) := by
  rintro s W W' row (⟨h1, pre, x, h2, h3, h4⟩ | h) hg hr
  · exact .inl ⟨h1, pre, x, h2, h3, MI.turn hn _ _ _ _ h4 hg hr⟩
  · exact .inr h

set_option maxRecDepth 100000 in
set_option maxHeartbeats 6400000 in
theorem memAll_in (n stop : Nat) (l : List (Int × Int)) (A : Option Addr) (c : Nat) (w : World) (hn : n ≤ 255) (hs : stop ≤ 255) (hl : l.length ≤ 200) (hrow : PairRowK .u64 .u32 w w.heap.size A l)
    (hwf : ∀ p ∈ l, 0 ≤ p.1) : CallsIn Fence.wide 5 Try.prog 5 #[.int .u8 (n : Int), .slice A l.length c, .int .u8 (stop : Int)] w fun e w' => e = .returned (.bool true) ∧ Below w.heap.size w w' := by
  have bS0 : Boxed ((w.alloc (.cells #[.int .u8 (stop : Int)] 5)).alloc (.cells #[.bool false] 4)) w.heap.size 5 (.int .u8 (stop : Int)) := (Boxed.new w _ _).alloc _
  have bR0 : Boxed ((w.alloc (.cells #[.int .u8 (stop : Int)] 5)).alloc (.cells #[.bool false] 4)) (w.heap.size + 1) 4 (.bool false) := by have := Boxed.new (w.alloc (.cells #[.int .u8 (stop : Int)] 5)) 4 (.bool false); rwa [World.size_alloc] at this
  have hbP : Below w.heap.size w ((w.alloc (.cells #[.int .u8 (stop : Int)] 5)).alloc (.cells #[.bool false] 4)) := ((Below.refl _ _).alloc (Nat.le_refl _) _).alloc (by simp) _
  have hPz : ((w.alloc (.cells #[.int .u8 (stop : Int)] 5)).alloc (.cells #[.bool false] 4)).heap.size = w.heap.size + 2 := by simp
  obtain ⟨wP, hwP⟩ : ∃ wx, Hid (wx = (w.alloc (.cells #[.int .u8 (stop : Int)] 5)).alloc (.cells #[.bool false] 4)) := ⟨_, rfl⟩
  rw [← hwP.out] at hbP bS0 bR0 hPz
  have HZ := Lib.hid hPz
  have hz2 : w.heap.size + 2 ≤ wP.heap.size := by omega
  have HWF := Lib.hid hwf
  have hneq := neq_nil2
  clear hwf hPz
  refine callsIn_of_wp_marks Try.func5 rfl trivial ?_ rfl
  simp only [Try.ntmps5, List.size_toArray, List.length_cons, List.length_nil, Nat.reduceAdd, Nat.reduceSub, Array.replicate_succ, Array.replicate_zero, List.push_toArray, List.append_toArray, List.nil_append, List.cons_append]
  gi_wp2_with fail
  rw [← hwP.out]
  refine ⟨trivial, (callsIn_wide.2 (wakes_b _)).mono ?_⟩
  rintro e w0 ⟨rfl, hb0⟩
  gi_wp2_with fail
  refine ⟨trivial, (callsIn_wide.2 (memNew_at n _ rfl _ (by omega))).mono ?_⟩
  rintro e w1 ⟨mb, rb, rfl, h1, h2, hM, hB⟩
  have hb1 := hb0.trans (hB.mono hb0.size)
  have hmb : wP.heap.size ≤ mb := Nat.le_trans hb0.size h1
  have hrb : wP.heap.size ≤ rb := Nat.le_trans hb0.size h2
  have hrowP := hrow.below hbP
  clear hB hb0 h1 h2 hrow
  gi_wp2_with fail
  gi_loopw [37] (fun i wr => ∃ k : Nat, k ≤ l.length ∧ i = .int .i64 k ∧ (∃ ws, MemAt wr mb rb ws ∧ Hid (ws.length = n)) ∧ Below wP.heap.size wP wr) (fun i _ => l.length - (intOf i).toNat)
  case atStart => exact ⟨0, Nat.zero_le _, rfl, ⟨_, hM, Lib.hid (by simp)⟩, hb1⟩
  case round =>
    clear hM hb1
    obtain ⟨k, hk, rfl, ⟨ws, hM, hws⟩, hb⟩ := hrel
    by_cases hlt : k < l.length
    · obtain ⟨b, o, rfl, hbo, hcs⟩ := hrowP.at_ hlt
      obtain ⟨c0, c1⟩ := hcs wr (hb.mono hbP.size)
      have hpos := HWF.out _ (List.getElem_mem hlt)
      rw [show l[k] = l.getD k (0, 0) by simp [List.getD_eq_getElem?_getD, hlt]] at hpos
      obtain ⟨f, s, hp⟩ : ∃ f s, l.getD k (0, 0) = (f, s) := ⟨_, _, rfl⟩
      rw [hp] at c0 c1 hpos
      simp only at c0 c1 hpos
      clear hcs hp
      have hbx : Below wr.heap.size wr (wr.alloc (.cells #[.int .u64 f, .int .u32 s] 35)) := (Below.refl _ _).alloc (Nat.le_refl _) _
      have hMx := hM.below hbx
      have hbw := hb.trans (hbx.mono hb.size)
      have hx := box2_cells wr (.int .u64 f) (.int .u32 s) 35
      obtain ⟨wx, hwx⟩ : ∃ wx, Hid (wx = wr.alloc (.cells #[.int .u64 f, .int .u32 s] 35)) := ⟨_, rfl⟩
      rw [← hwx.out] at hMx hbw hx
      obtain ⟨x0, x1⟩ := hx
      clear hM hb hbx
      gi_wp2_with fail
      rw [← hwx.out]
      gi_wp2_with fail
      refine ⟨trivial, (callsIn_wide.2 (memStore_any mb rb ws f s _ hMx (by have := hws.out; omega) hpos)).mono ?_⟩
      rintro e w2 ⟨cc, rfl, hM2, hg⟩
      have hb2 := below_store hbw hg hbw.size hrb
      clear x0 x1 hg hbw hMx
      gi_wp2
      go_roundw
      case rel => exact ⟨k + 1, by omega, by go_num, ⟨_, hM2, Lib.hid (by rw [List.length_set]; exact hws.out)⟩, hb2⟩
      case measure => simp [intOf]; omega
    · obtain rfl : ws.length = n := hws.out
      have hl5 : ws.length ≤ 255 := hn
      clear hws hn
      gi_wp2_with fail
      refine ⟨trivial, (callsIn_wide.2 (memWords_b mb rb ws _ hM (by omega))).mono ?_⟩
      rintro e w2 ⟨g, rfl, hg, hW, hb2⟩
      have hM2 := hM.below hb2
      have hb3 := hb.trans (hb2.mono hb.size)
      have hge := hb.size
      have hml := hM.lt
      clear hM hb hb2
      have hW4 : WordsAt ((w2.alloc (.cells #[.slice (some ⟨g, 0, none⟩) ws.length ws.length] 28)).alloc (.cells #[.int .i64 0] 3)) g ws := (hW.below ((Below.refl _ _).alloc (Nat.le_refl _) _)).below ((Below.refl _ _).alloc (Nat.le_refl _) _)
      have hM4 : MemAt ((w2.alloc (.cells #[.slice (some ⟨g, 0, none⟩) ws.length ws.length] 28)).alloc (.cells #[.int .i64 0] 3)) mb rb ws := (hM2.below ((Below.refl _ _).alloc (Nat.le_refl _) _)).below ((Below.refl _ _).alloc (Nat.le_refl _) _)
      have bW4 : Boxed ((w2.alloc (.cells #[.slice (some ⟨g, 0, none⟩) ws.length ws.length] 28)).alloc (.cells #[.int .i64 0] 3)) w2.heap.size 28 (.slice (some ⟨g, 0, none⟩) ws.length ws.length) := (Boxed.new w2 _ _).alloc _
      have bT4 : Boxed ((w2.alloc (.cells #[.slice (some ⟨g, 0, none⟩) ws.length ws.length] 28)).alloc (.cells #[.int .i64 0] 3)) (w2.heap.size + 1) 3 (.int .i64 0) := by have := Boxed.new (w2.alloc (.cells #[.slice (some ⟨g, 0, none⟩) ws.length ws.length] 28)) 3 (.int .i64 0); rwa [World.size_alloc] at this
      have hb4 : Below wP.heap.size wP ((w2.alloc (.cells #[.slice (some ⟨g, 0, none⟩) ws.length ws.length] 28)).alloc (.cells #[.int .i64 0] 3)) := (hb3.alloc hb3.size _).alloc (by have := hb3.size; simp; omega) _
      have hz4 : ((w2.alloc (.cells #[.slice (some ⟨g, 0, none⟩) ws.length ws.length] 28)).alloc (.cells #[.int .i64 0] 3)).heap.size = w2.heap.size + 2 := by simp
      have hgl := hW.lt
      have hml2 := hM2.lt
      obtain ⟨w4, hw4⟩ : ∃ wx, Hid (wx = (w2.alloc (.cells #[.slice (some ⟨g, 0, none⟩) ws.length ws.length] 28)).alloc (.cells #[.int .i64 0] 3)) := ⟨_, rfl⟩
      rw [← hw4.out] at hW4 hM4 bW4 bT4 hb4 hz4
      obtain ⟨bw, hbw⟩ : ∃ b, b = w2.heap.size := ⟨_, rfl⟩
      obtain ⟨bt, hbt⟩ : ∃ b, b = w2.heap.size + 1 := ⟨_, rfl⟩
      rw [← hbw] at bW4
      rw [← hbt] at bT4
      gi_wp2_with fail
      rw [← hw4.out]
      refine ⟨trivial, (callsIn_wide.2 (memAll_b mb _)).mono ?_⟩
      rintro e w5 ⟨cb, rfl, hcb, hcB, hb5⟩
      simp only [← hbt]
      simp only [← hbw]
      have hlt1 : bw < bt := by omega
      have hlt2 : mb < bw ∧ rb < bw ∧ g < bw := by omega
      have hlt3 : wP.heap.size ≤ bw := by have := hb3.size; omega
      have hlt4 : bt < w4.heap.size := by omega
      have hlt5 : wP.heap.size ≤ g := by omega
      have hlt6 : mb < g ∧ rb < g := by omega
      have hb6 := hb4.trans (hb5.mono hb4.size)
      have hI0 : MI w w.heap.size bt (w.heap.size + 1) bw g mb rb stop ws [] w5 := by
        have hz := HZ.out
        have s0 : Boxed w5 w.heap.size 5 (.int .u8 (stop : Int)) := (hb6.block _ (by omega)).trans bS0
        have r0 : Boxed w5 (w.heap.size + 1) 4 (.bool false) := (hb6.block _ (by omega)).trans bR0
        exact ⟨rfl, Nat.zero_le _, s0, (hb5.block _ hlt4).trans bT4, r0, (hb5.block _ (by omega)).trans bW4, hW4.below hb5, hM4.below hb5, hbP.trans (hb6.mono hbP.size)⟩
      have hcl : cb < w5.heap.size := (Array.getElem?_eq_some_iff.1 hcB).1
      have h5s := hb5.size
      have hM5 := hM4.below hb5
      clear hM4 hW4 hw4 hbw hbt hb3 hb4 hz4 bW4 bT4 hM2 hW hge hml hg hgl hml2 bS0 bR0 hrowP hwP hb6 hb5
      gi_wp2
      refine wpIn_rangeFunc_ownG rfl (by omega) (gf := 17) (lb := #[.pointer (some ⟨cb, 0, none⟩)]) rfl trivial (enters_of Try.func17 (by kernel_rfl) rfl)
        (memIter_stops (5 - 1) (by omega) mb rb cb ws (by omega) w5 hcB hM5) (fun h k => h.trans k) (fun W lp o o' hle _ _ _ => keepsB_put o' (by simp; omega)) (Below.refl _ _) (fun _ => rfl)
        (MI w w.heap.size bt (w.heap.size + 1) bw g mb rb stop ws) (MX w w.heap.size bt (w.heap.size + 1) bw g mb rb stop ws) (MI.turn (by omega)) (MX.turn (by omega)) hI0
        ?a1 ?assign ?body ?done ?stop
      case assign =>
        intro lp x W K hK
        gi_wp2
        exact hK
      case body =>
        rintro lp pre x W hI hlt
        have hcS := hI.bS.cell
        have hcT := hI.bT.cell
        have hcR := hI.bR.cell
        have hfR := hI.bR.frozen
        have hfT := hI.bT.frozen
        have hcW := hI.bW.cell
        have hle := hI.le
        have HI := Lib.hid hI
        clear hI
        by_cases hst : pre.length = stop
        · have ht : (stop : Int) ≤ (pre.length : Int) := by omega
          have HS := Lib.hid hst
          clear hst
          gi_wp2
          exact ⟨KeepsFrom.refl _ _, .inl ⟨rfl, pre, x, rfl, HS.out, HI.out⟩⟩
        · have ht : ¬ (stop : Int) ≤ (pre.length : Int) := by omega
          by_cases hx : x = pre.length
          · subst hx
            have hd : (((pre.length : Int)) != ((pre.length : Int))) = false := by simp
            have hc := HI.out.row.cell hlt
            obtain ⟨v, hv⟩ : ∃ v, ws.getD pre.length 0 = v := ⟨_, rfl⟩
            have hv2 : ws[pre.length]?.getD 0 = v := by rw [← hv]; simp [List.getD_eq_getElem?_getD]
            have hv3 : ws[pre.length] = v := by rw [← hv]; simp [List.getD_eq_getElem?_getD, hlt]
            simp only [hv] at hc
            simp only [hv2]
            have hge : ¬ ((ws.length : Int) ≤ (pre.length : Int)) := by omega
            have hd2 : (v != v) = false := by simp
            clear hv hv2 hv3
            gi_wp2
            have hb := HI.out.below
            refine ⟨(KeepsOthers.setCell _ _ _).from _, keepsB_set _ (by simp; omega), ?_⟩
            have h := HI.out
            have oth : ∀ k, k ≠ bt → (W.setCell ⟨bt, 0, none⟩ (.int .i64 ((pre.length : Int) + 1))).heap[k]? = W.heap[k]? := fun k hk => Below.heap_setCell _ _ _ _ hk
            exact ⟨by rw [List.length_append, List.length_singleton, List.range_succ, ← h.isr], by simp; omega, (oth _ (by omega)).trans h.bS, by simpa using h.bT.set (.int .i64 ((pre.length : Int) + 1)), (oth _ (by omega)).trans h.bR, (oth _ (by omega)).trans h.bW, h.row.of (oth _ (by omega)), h.mem.of (oth _ (by omega)) (oth _ (by omega)), h.below.setCell (by simp; omega) _⟩
          · have hd : (((x : Int)) != ((pre.length : Int))) = true := by simp; omega
            have hnp : ¬ (pre ++ [x]) <+: List.range ws.length := by
              rintro ⟨r, hr⟩
              have h1 := congrArg (fun l => l[pre.length]?) hr
              simp [hlt] at h1
              exact hx h1
            have HN := Lib.hid hnp
            clear hnp
            gi_wp2
            exact ⟨(KeepsOthers.setCell _ _ _).from _, .inr ⟨rfl, HN.out⟩⟩
      case done =>
        rintro D xs W hD rfl hI hK
        have hlen : (List.range ws.length).length = ws.length := by simp
        have hTle := hI.le
        have hT := hI.bT
        rw [hlen] at hTle hT
        have hcS := hI.bS.cell
        have hcT := Boxed.cell hT
        clear hT hlen
        have hnl : ¬ ((stop : Int) < (ws.length : Int)) := by omega
        have hM := hI.mem
        have hW2 := hI.row
        have bW := hI.bW
        have bR := hI.bR
        have hB := hI.below
        clear hI
        gi_wp2_with fail
        refine ⟨trivial, (callsIn_wide.2 (memWords_b mb rb ws _ hM (by omega))).mono ?_⟩
        rintro e w6 ⟨g6, rfl, hg6, hW6, hb6⟩
        have hM6 := hM.below hb6
        have hW26 := hW2.below hb6
        have bw6 : Boxed w6 bw 28 (.slice (some ⟨g, 0, none⟩) ws.length ws.length) := (hb6.block bw bW.lt).trans bW
        have br6 : Boxed w6 (w.heap.size + 1) 4 (.bool false) := (hb6.block _ bR.lt).trans bR
        have hD6 := (hb6.block D (Array.getElem?_eq_some_iff.1 hK).1).trans hK
        have hB6 := hB.trans (hb6.mono hB.size)
        have hne : g ≠ g6 := by have := hW2.lt; omega
        have hc6 := bw6.cell
        clear hM hW2 bW bR hK hB hb6 hcS hcT
        gi_wp2
        gi_loopw [91] (fun ix wr => ∃ (k : Nat) (vs : List Int), k ≤ ws.length ∧ ix = .int .i64 k ∧ Hid (vs.length = ws.length) ∧ WordsAt wr g vs ∧ WordsAt wr g6 ws ∧ MemAt wr mb rb ws ∧ Boxed wr bw 28 (.slice (some ⟨g, 0, none⟩) ws.length ws.length) ∧ Boxed wr (w.heap.size + 1) 4 (.bool false) ∧ wr.heap[D]? = some (.deferred (some [])) ∧ Below w.heap.size w wr) (fun ix _ => ws.length - (intOf ix).toNat)
        case atStart => exact ⟨0, ws, Nat.zero_le _, rfl, rfl, hW26, hW6, hM6, bw6, br6, hD6, hB6⟩
        case round =>
          clear hW26 hW6 hM6 bw6 br6 hD6 hB6 hc6
          obtain ⟨k, vs, hk, rfl, hvl, hV, hW6, hM6, bw6, br6, hD6, hB6⟩ := hrel
          have hc6 := bw6.cell
          by_cases hlt : k < ws.length
          · have hck := hV.cell (k := k) (by have := hvl.out; omega)
            have hfk := hV.frozen k
            obtain ⟨v, hv⟩ : ∃ v, v = vs.getD k 0 := ⟨_, rfl⟩
            rw [← hv] at hck
            have hDg : D ≠ g := by rintro rfl; rw [show _ = _ from hV] at hD6; cases hD6
            clear hv
            gi_wp2
            go_roundw
            case rel => exact ⟨k + 1, _, by omega, by go_num, Lib.hid (by rw [List.length_set]; exact hvl.out), hV.set k _, hW6.of (Below.heap_setCell _ _ _ _ (by simpa using hne.symm)), hM6.of (Below.heap_setCell _ _ _ _ (by simp; omega)) (Below.heap_setCell _ _ _ _ (by simp; omega)), (Below.heap_setCell _ _ _ _ (by simp; omega)).trans bw6, (Below.heap_setCell _ _ _ _ (by simp; omega)).trans br6, (Below.heap_setCell _ _ _ _ (by simpa using hDg)).trans hD6, hB6.setCell (by simp; omega) _⟩
            case measure => simp [intOf]; omega
          · gi_wp2_with fail
            refine ⟨trivial, (callsIn_wide.2 (memWords_b mb rb ws _ hM6 (by omega))).mono ?_⟩
            rintro e w7 ⟨g7, rfl, hg7, hW7, hb7⟩
            have hW67 := hW6.below hb7
            have br7 : Boxed w7 (w.heap.size + 1) 4 (.bool false) := (hb7.block _ br6.lt).trans br6
            have hD7 := (hb7.block D (Array.getElem?_eq_some_iff.1 hD6).1).trans hD6
            have hB7 := hB6.trans (hb7.mono hB6.size)
            clear hM6 hW6 br6 hD6 hB6 hb7 bw6 hc6 hV hg7
            gi_wp2_with fail
            refine ⟨trivial, (callsIn_wide.2 (rsameW_yes ws g7 g6 _ _ _ hW7 hW67 (by omega))).mono ?_⟩
            rintro e w8 ⟨rfl, hb8⟩
            have br8 : Boxed w8 (w.heap.size + 1) 4 (.bool false) := (hb8.block _ br7.lt).trans br7
            have hD8 := (hb8.block D (Array.getElem?_eq_some_iff.1 hD7).1).trans hD7
            have hB8 := hB7.trans (hb8.mono hB7.size)
            have hc8 := br8.cell
            have hf8 := br8.frozen
            have hDr : D ≠ w.heap.size + 1 := by omega
            clear hW7 hW67 br7 hD7 hB7 hb8
            gi_wp2
            have hD9 : (w8.setCell ⟨w.heap.size + 1, 0, none⟩ (.bool true)).heap[D]? = some (.deferred (some [])) := (Below.heap_setCell _ _ _ _ (by simpa using hDr)).trans hD8
            have br9 := br8.set (.bool true)
            refine ⟨by simp, .inl ⟨_, _, rfl, run_takeDeferred hD9, ?_⟩⟩
            have br10 : Boxed ((w8.setCell ⟨w.heap.size + 1, 0, none⟩ (.bool true)).putObj D (.deferred none)) (w.heap.size + 1) 4 (.bool true) := (World.putObj_heap_other hDr.symm).trans br9
            exact ⟨_, results_cell_bool rfl Try.underlying4 _ _ (w.heap.size + 1) true rfl br10.cell, rfl, (hB8.setCell (by simp) _).trans (belowK_b (w := w) (Nat.le_refl _) _ D _ _ (by omega) hD9 rfl rfl)⟩
      case stop =>
        rintro D cc xs W hD hpx (⟨rfl, pre, x, rfl, hpl, hI⟩ | ⟨_, hnp⟩) hK
        · have hlt : stop < ws.length := by
            have := hpx.length_le
            simp at this; omega
          have hT := hI.bT
          rw [hpl] at hT
          have hcS := hI.bS.cell
          have hcT := Boxed.cell hT
          clear hT hpl hpx
          have hnl : ((stop : Int) < (ws.length : Int)) := by omega
          have hM := hI.mem
          have hW2 := hI.row
          have bW := hI.bW
          have bR := hI.bR
          have hB := hI.below
          clear hI
          gi_wp2_with fail
          refine ⟨trivial, (callsIn_wide.2 (memWords_b mb rb ws _ hM (by omega))).mono ?_⟩
          rintro e w6 ⟨g6, rfl, hg6, hW6, hb6⟩
          have hM6 := hM.below hb6
          have hW26 := hW2.below hb6
          have bw6 : Boxed w6 bw 28 (.slice (some ⟨g, 0, none⟩) ws.length ws.length) := (hb6.block bw bW.lt).trans bW
          have br6 : Boxed w6 (w.heap.size + 1) 4 (.bool false) := (hb6.block _ bR.lt).trans bR
          have hD6 := (hb6.block D (Array.getElem?_eq_some_iff.1 hK).1).trans hK
          have hB6 := hB.trans (hb6.mono hB.size)
          have hne : g ≠ g6 := by have := hW2.lt; omega
          have hc6 := bw6.cell
          clear hM hW2 bW bR hK hB hb6 hcS hcT
          gi_wp2
          gi_loopw [91] (fun ix wr => ∃ (k : Nat) (vs : List Int), k ≤ ws.length ∧ ix = .int .i64 k ∧ Hid (vs.length = ws.length) ∧ WordsAt wr g vs ∧ WordsAt wr g6 ws ∧ MemAt wr mb rb ws ∧ Boxed wr bw 28 (.slice (some ⟨g, 0, none⟩) ws.length ws.length) ∧ Boxed wr (w.heap.size + 1) 4 (.bool false) ∧ wr.heap[D]? = some (.deferred (some [])) ∧ Below w.heap.size w wr) (fun ix _ => ws.length - (intOf ix).toNat)
          case atStart => exact ⟨0, ws, Nat.zero_le _, rfl, rfl, hW26, hW6, hM6, bw6, br6, hD6, hB6⟩
          case round =>
            clear hW26 hW6 hM6 bw6 br6 hD6 hB6 hc6
            obtain ⟨k, vs, hk, rfl, hvl, hV, hW6, hM6, bw6, br6, hD6, hB6⟩ := hrel
            have hc6 := bw6.cell
            by_cases hlt : k < ws.length
            · have hck := hV.cell (k := k) (by have := hvl.out; omega)
              have hfk := hV.frozen k
              obtain ⟨v, hv⟩ : ∃ v, v = vs.getD k 0 := ⟨_, rfl⟩
              rw [← hv] at hck
              have hDg : D ≠ g := by rintro rfl; rw [show _ = _ from hV] at hD6; cases hD6
              clear hv
              gi_wp2
              go_roundw
              case rel => exact ⟨k + 1, _, by omega, by go_num, Lib.hid (by rw [List.length_set]; exact hvl.out), hV.set k _, hW6.of (Below.heap_setCell _ _ _ _ (by simpa using hne.symm)), hM6.of (Below.heap_setCell _ _ _ _ (by simp; omega)) (Below.heap_setCell _ _ _ _ (by simp; omega)), (Below.heap_setCell _ _ _ _ (by simp; omega)).trans bw6, (Below.heap_setCell _ _ _ _ (by simp; omega)).trans br6, (Below.heap_setCell _ _ _ _ (by simpa using hDg)).trans hD6, hB6.setCell (by simp; omega) _⟩
              case measure => simp [intOf]; omega
            · gi_wp2_with fail
              refine ⟨trivial, (callsIn_wide.2 (memWords_b mb rb ws _ hM6 (by omega))).mono ?_⟩
              rintro e w7 ⟨g7, rfl, hg7, hW7, hb7⟩
              have hW67 := hW6.below hb7
              have br7 : Boxed w7 (w.heap.size + 1) 4 (.bool false) := (hb7.block _ br6.lt).trans br6
              have hD7 := (hb7.block D (Array.getElem?_eq_some_iff.1 hD6).1).trans hD6
              have hB7 := hB6.trans (hb7.mono hB6.size)
              clear hM6 hW6 br6 hD6 hB6 hb7 bw6 hc6 hV hg7
              gi_wp2_with fail
              refine ⟨trivial, (callsIn_wide.2 (rsameW_yes ws g7 g6 _ _ _ hW7 hW67 (by omega))).mono ?_⟩
              rintro e w8 ⟨rfl, hb8⟩
              have br8 : Boxed w8 (w.heap.size + 1) 4 (.bool false) := (hb8.block _ br7.lt).trans br7
              have hD8 := (hb8.block D (Array.getElem?_eq_some_iff.1 hD7).1).trans hD7
              have hB8 := hB7.trans (hb8.mono hB7.size)
              have hc8 := br8.cell
              have hf8 := br8.frozen
              have hDr : D ≠ w.heap.size + 1 := by omega
              clear hW7 hW67 br7 hD7 hB7 hb8
              gi_wp2
              have hD9 : (w8.setCell ⟨w.heap.size + 1, 0, none⟩ (.bool true)).heap[D]? = some (.deferred (some [])) := (Below.heap_setCell _ _ _ _ (by simpa using hDr)).trans hD8
              have br9 := br8.set (.bool true)
              refine ⟨by simp, .inl ⟨_, _, rfl, run_takeDeferred hD9, ?_⟩⟩
              have br10 : Boxed ((w8.setCell ⟨w.heap.size + 1, 0, none⟩ (.bool true)).putObj D (.deferred none)) (w.heap.size + 1) 4 (.bool true) := (World.putObj_heap_other hDr.symm).trans br9
              exact ⟨_, results_cell_bool rfl Try.underlying4 _ _ (w.heap.size + 1) true rfl br10.cell, rfl, (hB8.setCell (by simp) _).trans (belowK_b (w := w) (Nat.le_refl _) _ D _ _ (by omega) hD9 rfl rfl)⟩
        · exact absurd hpx hnp

set_option maxHeartbeats 800000 in
theorem memAll_big (n stop : Int) (l : List (Int × Int)) (A : Option Addr) (c : Nat) (w : World) (hl : 200 < l.length) (hl2 : l.length ≤ 9223372036854775807) :
    Calls Try.prog 5 #[.int .u8 n, .slice A l.length c, .int .u8 stop] w fun e w' => e = .returned (.bool true) ∧ Below w.heap.size w w' := by
  have bR0 : Boxed ((w.alloc (.cells #[.int .u8 stop] 5)).alloc (.cells #[.bool false] 4)) (w.heap.size + 1) 4 (.bool false) := by have := Boxed.new (w.alloc (.cells #[.int .u8 stop] 5)) 4 (.bool false); rwa [World.size_alloc] at this
  have hbP : Below w.heap.size w ((w.alloc (.cells #[.int .u8 stop] 5)).alloc (.cells #[.bool false] 4)) := ((Below.refl _ _).alloc (Nat.le_refl _) _).alloc (by simp) _
  obtain ⟨wP, hwP⟩ : ∃ wx, Hid (wx = (w.alloc (.cells #[.int .u8 stop] 5)).alloc (.cells #[.bool false] 4)) := ⟨_, rfl⟩
  rw [← hwP.out] at hbP bR0
  go_enter Try.func5, Try.ntmps5
  go_wp2_with fail
  rw [← hwP.out]
  refine (wakes_b _).mono ?_
  rintro e w0 ⟨rfl, hb0⟩
  have br : Boxed w0 (w.heap.size + 1) 4 (.bool false) := (hb0.block _ bR0.lt).trans bR0
  have hc := br.cell
  have hf := br.frozen
  go_wp2
  exact bodyPost_ret (results_cell_bool rfl Try.underlying4 _ _ (w.heap.size + 1) true rfl (br.set (.bool true)).cell) rfl ⟨rfl, (hbP.trans (hb0.mono hbP.size)).setCell (by simp) _⟩

theorem memAll_all (q s : Int) (l : List (Int × Int)) (A : Option Addr) (c : Nat) (w : World) (hq : (Lit.int .u8 q).wf = true) (hc : l.length ≤ c) (hm : c ≤ maxLen) (hrow : PairRowK .u64 .u32 w w.heap.size A l)
    (wf : ∀ p ∈ l, (Lit.int .u64 p.1).wf = true ∧ (Lit.int .u32 p.2).wf = true) (hs : (Lit.int .u8 s).wf = true) : Calls Try.prog 5 #[.int .u8 q, .slice A l.length c, .int .u8 s] w fun e w' => e = .returned (.bool true) ∧ Below w.heap.size w w' := by
  obtain ⟨h0, h1⟩ := bounds_u8 hq
  obtain ⟨n, rfl⟩ := Int.eq_ofNat_of_zero_le h0
  obtain ⟨g0, g1⟩ := bounds_u8 hs
  obtain ⟨k, rfl⟩ := Int.eq_ofNat_of_zero_le g0
  by_cases hl : 200 < l.length
  · exact memAll_big _ _ l A c w hl (by unfold maxLen at hm; omega)
  · exact callsIn_wide.1 (memAll_in n k l A c w (by omega) (by omega) (by omega) hrow (fun p hp => (bounds_u64 (wf p hp).1).1))
end Go.Proofs.Ytckhlencaojkmaa
