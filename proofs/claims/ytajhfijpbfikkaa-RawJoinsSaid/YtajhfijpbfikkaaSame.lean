/- The document's Take and Done; Same; the numbers that are words. No condition but those in the statements. -/
import Derived.Test.YtajhfijpbfikkaaDoc
namespace Go.Proofs.Ytajhfijpbfikkaa
open Go.RowKit Go.Sort

theorem ddone_b (B b : Nat) (ws : List Int) (k : Nat) (sh : Bool) (w : World) (h : DBoxAt w B b ws k sh) :
    Calls Try.prog 14 #[.pointer (some ⟨b, 0, none⟩)] w fun e w' => e = .returned (.bool (decide (k = ws.length) && !sh)) ∧ Below w.heap.size w w' := by
  obtain ⟨A, c, c0, c1, c2, hf, h1, h4⟩ := h.cells
  have hbc := Below.refl w.heap.size w
  clear h h1 h4
  by_cases hk : k = ws.length
  · have g1 : ((k : Int) == (ws.length : Int)) = true := beq_iff_eq.2 (by omega)
    have g2 : decide (k = ws.length) = true := by simpa using hk
    rw [g2]
    clear hk g2
    go_enter Try.func14, Try.ntmps14
    go_wp2_with fail
    (with_reducible refine wp_on hbc (by kernel_rfl) (by kernel_rfl) ?_); (repeat (go_big_quiet_step (fail))); with_reducible refine wpQuiet_nil ?_; intro wc hbc
    go_wp2
    go_ret
    exact ⟨by simp, hbc⟩
  · have g1 : ((k : Int) == (ws.length : Int)) = false := beq_eq_false_iff_ne.2 (by omega)
    have g2 : decide (k = ws.length) = false := by simpa using hk
    rw [g2]
    clear hk g2
    go_enter Try.func14, Try.ntmps14
    go_wp2_with fail
    (with_reducible refine wp_on hbc (by kernel_rfl) (by kernel_rfl) ?_); (repeat (go_big_quiet_step (fail))); with_reducible refine wpQuiet_nil ?_; intro wc hbc
    go_wp2
    go_ret
    exact ⟨by simp, hbc⟩

theorem take_next (xs : List Int) (k : Nat) (h : k < xs.length) : xs.take (k + 1) = xs.take k ++ [xs.getD k 0] := by
  rw [List.take_succ_eq_append_getElem h]; simp [List.getD_eq_getElem?_getD, h]
theorem take_same (xs ys : List Int) (k : Nat) (h1 : k < xs.length) (h2 : k < ys.length) (ht : xs.take k = ys.take k) (he : xs.getD k 0 = ys.getD k 0) : xs.take (k + 1) = ys.take (k + 1) := by
  rw [take_next xs k h1, take_next ys k h2, ht, he]

/-- Behind the document's Take. -/
def DTakes (w : World) (B b : Nat) (out ws : List Int) (k : Nat) (sh : Bool) (e : Ending) (w' : World) : Prop :=
  ∃ v, e = .returned v ∧ OwnsOff w' w.heap.size 31 1 v out.length (wcells out) ∧ DBoxAt w' B b ws k sh ∧ Only (fun k => k = b) w w'
theorem dtake_out (B b : Nat) (ws : List Int) (k m : Nat) (sh : Bool) (w : World) (h : DBoxAt w B b ws k sh) (hl : ws.length ≤ 1000000) (hk : k ≤ ws.length) (hm : ws.length < k + m) :
    Calls Try.prog 12 #[.pointer (some ⟨b, 0, none⟩), .int .i64 (m : Int)] w (DTakes w B b [] ws k true) := by
  have hh := Lib.hid h
  obtain ⟨A, c, c0, c1, c2, hf, h1, h4⟩ := h.cells
  have g1 : (ws.length : Int) - (k : Int) < (m : Int) := by omega
  have hbc := Below.refl w.heap.size w
  clear h h1 h4
  go_enter Try.func12, Try.ntmps12
  go_wp2_with fail
  (with_reducible refine wp_on hbc (by kernel_rfl) (by kernel_rfl) ?_); (repeat (go_big_quiet_step (fail))); with_reducible refine wpQuiet_nil ?_; intro wc hbc
  have hx := hh.out.keptB hbc
  obtain ⟨A', c', c0', c1', c2', hf', h1', h4'⟩ := hx.cells
  have d2 := cell_of c2'
  have f2 := hf' 2
  have hp := Lib.hid hx.short
  have hB := Lib.hid hbc
  clear c0 c1 c2 hf hbc hx c0' c1' c2' hf' h1' h4'
  go_wp2
  go_ret
  exact ⟨_, rfl, OwnsOff.nil _ _ _ _, hp.out, (Only.of_below hB.out).trans (Only.setCell wc ⟨b, 2, none⟩ _)⟩
set_option maxHeartbeats 800000 in
theorem dtake_in (B b : Nat) (ws : List Int) (k m : Nat) (sh : Bool) (w : World) (h : DBoxAt w B b ws k sh) (hl : ws.length ≤ 1000000) (hm : k + m ≤ ws.length) :
    Calls Try.prog 12 #[.pointer (some ⟨b, 0, none⟩), .int .i64 (m : Int)] w (DTakes w B b ((ws.drop k).take m) ws (k + m) sh) := by
  obtain ⟨i0, hi, hz0, hz1, hz2⟩ := info_parts Try.infoW
  have hbw := h.lt
  have hh := Lib.hid h
  obtain ⟨A, c, c0, c1, c2, hf, h1, h4⟩ := h.cells
  have g1 : ¬ (ws.length : Int) - (k : Int) < (m : Int) := by omega
  have hbc := Below.refl w.heap.size w
  clear h h1 h4
  go_enter Try.func12, Try.ntmps12
  go_wp2_with fail
  (with_reducible refine wp_on hbc (by kernel_rfl) (by kernel_rfl) ?_); (repeat (go_big_quiet_step (fail))); with_reducible refine wpQuiet_nil ?_; intro wc hbc
  have hx := hh.out.keptB hbc
  have hoc : Only (fun j => j = b) w wc := Only.of_below hbc
  clear c0 c1 c2 hf hh hbc
  go_wp2
  go_loopw [5, 6] (fun v ix wr => ∃ j : Nat, j ≤ m ∧ ix = .int .i64 j ∧ OwnsOff wr w.heap.size 31 1 v ((ws.drop k).take j).length (wcells ((ws.drop k).take j)) ∧ DBoxAt wr B b ws (k + j) sh ∧ Only (fun j => j = b) w wr) (fun _ ix _ => m - (intOf ix).toNat)
  case atStart => exact ⟨0, Nat.zero_le _, rfl, OwnsOff.nil _ _ _ _, hx, hoc⟩
  case round =>
    obtain ⟨j, hj, rfl, hown, hD, hO⟩ := hrel
    clear hx hoc
    by_cases hlt : j < m
    · have hnext := take_next (ws.drop k) j (by simp; omega)
      have hx0 : (ws.drop k).getD j 0 = ws.getD (k + j) 0 := by simp [List.getD_eq_getElem?_getD]
      rw [hx0] at hnext
      obtain ⟨out, hout⟩ : ∃ out, (ws.drop k).take j = out := ⟨_, rfl⟩
      have hol : out.length ≤ j := by rw [← hout]; simp; omega
      rw [hout] at hown hnext
      have HN := Lib.hid hnext
      clear hx0 hout hnext
      go_wp2_with fail
      refine (dnext_in B b ws (k + j) sh _ hD hl (by omega)).mono ?_
      rintro e w1 ⟨rfl, hD1, hO1⟩
      have hown1 := hown.kept hO1 (fun g hg e => by have := (hown.lt g hg).1; omega)
      have hO2 := hO.trans hO1
      obtain ⟨x, hxx⟩ : ∃ x, ws.getD (k + j) 0 = x := ⟨_, rfl⟩
      rw [hxx] at HN ⊢
      have hsz := hO2.size
      have HD := Lib.hid hD1; have HO := Lib.hid hO2
      clear hxx hown hD hD1 hO hO1 hO2
      go_wp2_with (at_builtin; refine wpList_append_off _ rfl _ _ 22 rfl w.heap.size 31 i0 (.int .u32 0) 1 4 Try.underlying22 hi hz0 hz1 hz2 rfl (by decide) _ _ _ rfl (hown1.keptB ((Below.refl _ _).alloc (Nat.le_refl _) _)) ⟨w1.heap.size, 0, none⟩ 1 1 [.int .u32 x] rfl rfl (cell_one_new _ _ _) (by simp [Value.oneCell']) (by unfold maxLen; omega) (by omega) (by simp; omega) ?_)
      intro v' w2 hown' hgrow hfr
      have hon : Only (fun i => some i = u5.ownBlock) w1 w2 := (Only.of_below ((Below.refl _ _).alloc (Nat.le_refl _) _)).trans (Only.of_grown hgrow)
      have hge : ∀ i, some i = u5.ownBlock → w.heap.size ≤ i := fun i e => (hown1.lt i e.symm).1
      have hD3 := HD.out.kept hon (fun i e => by have := hge i e; have := HD.out.1; omega) (fun e => by have := hge b e; omega)
      have hO3 : Only (fun j => j = b) w w2 := ⟨hon.os.trans HO.out.os, hon.tape.trans HO.out.tape, hon.output.trans HO.out.output, Nat.le_trans HO.out.size hon.size, fun i hi hs => (hon.block i (Nat.lt_of_lt_of_le hi HO.out.size) (fun e => by have := hge i e; omega)).trans (HO.out.block i hi hs)⟩
      have hown3 : OwnsOff w2 w.heap.size 31 1 v' (out ++ [x]).length (wcells (out ++ [x])) := by simpa [wcells] using hown'
      have H3 := Lib.hid hD3; have O3 := Lib.hid hO3; have W3 := Lib.hid hown3
      clear hown' hgrow hfr hon hge hD3 hO3 hown3
      go_wp2
      go_roundw
      case rel => exact ⟨j + 1, by omega, by go_num, by rw [HN.out]; exact W3.out, H3.out, O3.out⟩
      case measure => simp [intOf]; omega
    · have hjm : j = m := by omega
      subst hjm
      have HW := Lib.hid hown; have HB := Lib.hid hO; have HD := Lib.hid hD
      clear hown hO hD
      go_wp2
      go_ret
      exact ⟨_, rfl, HW.out, HD.out, HB.out⟩

theorem same_b (xs ys : List Int) (A A' : Option Addr) (c c' : Nat) (w : World) (hx : IntRowK .u32 w w.heap.size A xs) (hy : IntRowK .u32 w w.heap.size A' ys) (hlx : xs.length ≤ 1000000000) :
    Calls Try.prog 11 #[.slice A xs.length c, .slice A' ys.length c'] w fun e w' => e = .returned (.bool (decide (xs = ys))) ∧ Below w.heap.size w w' := by
  by_cases hlen : xs.length = ys.length
  · have hL := Lib.hid hlen
    have hne : ((xs.length : Int) != (ys.length : Int)) = false := by simp [hlen]
    clear hlen
    go_enter Try.func11, Try.ntmps11
    go_wp2
    go_loopw [5] (fun ix wr => ∃ k : Nat, k ≤ xs.length ∧ ix = .int .i64 k ∧ xs.take k = ys.take k ∧ Below w.heap.size w wr) (fun ix _ => xs.length - (intOf ix).toNat)
    case atStart => exact ⟨0, Nat.zero_le _, rfl, rfl, Below.refl _ _⟩
    case round =>
      obtain ⟨k, hk, rfl, htk, hbc⟩ := hrel
      have HT := Lib.hid htk
      clear htk
      by_cases hlt : k < xs.length
      · have hlt2 : k < ys.length := by have := hL.out; omega
        obtain ⟨b, o, rfl, _, k0⟩ := hx.at_ hlt
        obtain ⟨b', o', rfl, _, k1⟩ := hy.at_ hlt2
        have k0 := k0 _ hbc
        have k1 := k1 _ hbc
        obtain ⟨x, hxx⟩ : ∃ x, x = xs.getD k 0 := ⟨_, rfl⟩
        obtain ⟨y, hyy⟩ : ∃ y, y = ys.getD k 0 := ⟨_, rfl⟩
        rw [← hxx] at k0
        rw [← hyy] at k1
        have HX := Lib.hid hxx; have HY := Lib.hid hyy
        have k0 : ∀ p : Regrown, (grow (redrawn wr p.d) p.os).cell? ⟨b, o + k, none⟩ = some (.int .u32 x) := fun p => cell_regrown k0 p.d p.os
        have k1 : ∀ p : Regrown, (grow (redrawn wr p.d) p.os).cell? ⟨b', o' + k, none⟩ = some (.int .u32 y) := fun p => cell_regrown k1 p.d p.os
        have hbr := Below.refl wr.heap.size wr
        clear hxx hyy hx hy
        by_cases he : x = y
        · have he1 : (x != y) = false := by simp [he]
          have HE := Lib.hid he
          clear he
          go_wp2_with ((first | with_reducible refine wpList_on hbr ?_ | with_reducible refine wp_on hbr (by kernel_rfl) (by kernel_rfl) ?_); (repeat (go_big_quiet_step (fail))); with_reducible refine wpQuiet_nil ?_; intro wc hbr)
          go_roundw
          case rel => exact ⟨k + 1, by omega, by go_num, take_same _ _ _ hlt hlt2 HT.out (by rw [← HX.out, ← HY.out, HE.out]), hbc.trans (hbr.mono hbc.size)⟩
          case measure => simp [intOf]; omega
        · have he1 : (x != y) = true := by simp [he]
          have HE := Lib.hid he
          clear he
          go_wp2_with ((first | with_reducible refine wpList_on hbr ?_ | with_reducible refine wp_on hbr (by kernel_rfl) (by kernel_rfl) ?_); (repeat (go_big_quiet_step (fail))); with_reducible refine wpQuiet_nil ?_; intro wc hbr)
          go_ret
          exact ⟨by
            have : xs ≠ ys := fun h => HE.out (by rw [HX.out, HY.out, h])
            simp [this], hbc.trans (hbr.mono hbc.size)⟩
      · have hkk : k = xs.length := by omega
        have HS := Lib.hid (show xs = ys by have h := HT.out; rw [hkk, List.take_length, List.take_of_length_le (by have := hL.out; omega)] at h; exact h)
        clear hkk
        go_wp2
        go_ret
        exact ⟨by simp [HS.out], hbc⟩
  · have hne : ((xs.length : Int) != (ys.length : Int)) = true := by simp; omega
    have HE := Lib.hid hlen
    clear hlen
    go_enter Try.func11, Try.ntmps11
    go_wp2
    go_ret
    exact ⟨by
      have : xs ≠ ys := fun h => HE.out (by rw [h])
      simp [this], Below.refl _ _⟩
theorem same_yes (n n' : Nat) (xs : List Int) (A A' : Option Addr) (c c' : Nat) (w : World) (hn : n = xs.length) (hn' : n' = xs.length) (hx : IntRowK .u32 w w.heap.size A xs) (hy : IntRowK .u32 w w.heap.size A' xs) (hl : n ≤ 1000000) :
    Calls Try.prog 11 #[.slice A n c, .slice A' n' c'] w fun e w' => e = .returned (.bool true) ∧ Below w.heap.size w w' := by
  subst hn hn'
  exact (same_b xs xs A A' c c' w hx hy (by omega)).mono fun e w' ⟨h1, h2⟩ => ⟨by rw [h1]; simp, h2⟩
end Go.Proofs.Ytajhfijpbfikkaa
