/- portholeref01.Same at two lists of integers; the document's Ticks, as contracts. No condition but those in the statements. -/
import Derived.Test.YtfnpdoppdbhlcaaNext
import Derived.Test.YtfnpdoppdbhlcaaSeq
import Derived.Test.YtfnpdoppdbhlcaaVals
import Derived.BigQuiet
import Derived.IntWalk
import Derived.BigRegion
import Derived.OpenShut
namespace Go.Proofs.Ytfnpdoppdbhlcaa
open Go.RowKit Go.Sort Go.ChangeShapes Go.WideShapes
set_option linter.unusedVariables false
set_option linter.unusedSimpArgs false


theorem take_same (xs ys : List Int) (k : Nat) (hx : k < xs.length) (hy : k < ys.length) (h : xs.take k = ys.take k) (he : xs.getD k 0 = ys.getD k 0) : xs.take (k + 1) = ys.take (k + 1) := by
  rw [List.take_succ_eq_append_getElem hx, List.take_succ_eq_append_getElem hy, h]
  simp [List.getD_eq_getElem?_getD, hx, hy] at he
  rw [he]
theorem IntRowK.atR {K : IntKind} {w : World} {B : Nat} {A : Option Addr} {xs : List Int} (h : IntRowK K w B A xs) {k : Nat} (hk : k < xs.length) :
    ∃ b o, A = some ⟨b, o, none⟩ ∧ ∀ p : Regrown, (grow (redrawn w p.d) p.os).cell? ⟨b, o + k, none⟩ = some (.int K (xs.getD k 0)) := by
  obtain ⟨b, o, rfl, hb, hc⟩ := h (by omega)
  exact ⟨b, o, rfl, fun p => cell_regrown (hc k hk) p.d p.os⟩
set_option maxHeartbeats 1600000 in
theorem same_b (xs ys : List Int) (A A' : Option Addr) (c c' : Nat) (w : World) (hx : IntRowK .i64 w w.heap.size A xs) (hy : IntRowK .i64 w w.heap.size A' ys) (hlx : xs.length ≤ 1000000000) :
    Calls Try.prog 18 #[.slice A xs.length c, .slice A' ys.length c'] w fun e w' => e = .returned (.bool (decide (xs = ys))) ∧ Below w.heap.size w w' := by
  by_cases hlen : xs.length = ys.length
  · have hL := Lib.hid hlen
    have hne : ((xs.length : Int) != (ys.length : Int)) = false := by simp [hlen]
    clear hlen
    go_enter Try.func18, Try.ntmps18
    go_wp2
    go_loopw [5] (fun ix wr => ∃ k : Nat, k ≤ xs.length ∧ ix = .int .i64 k ∧ xs.take k = ys.take k ∧ Below w.heap.size w wr) (fun ix _ => xs.length - (intOf ix).toNat)
    case atStart => exact ⟨0, Nat.zero_le _, rfl, rfl, Below.refl _ _⟩
    case round =>
      obtain ⟨k, hk, rfl, htk, hbc⟩ := hrel
      have HT := Lib.hid htk
      clear htk
      by_cases hlt : k < xs.length
      · have hlt2 : k < ys.length := by have := hL.out; omega
        obtain ⟨b, o, rfl, k0⟩ := hx.atR hlt
        obtain ⟨b', o', rfl, k1⟩ := hy.atR hlt2
        obtain ⟨x, hxx⟩ : ∃ x, x = xs.getD k 0 := ⟨_, rfl⟩
        obtain ⟨y, hyy⟩ : ∃ y, y = ys.getD k 0 := ⟨_, rfl⟩
        rw [← hxx] at k0
        rw [← hyy] at k1
        have HX := Lib.hid hxx; have HY := Lib.hid hyy
        clear hxx hyy hx hy
        by_cases he : x = y
        · have he1 : (x != y) = false := by simp [he]
          have HE := Lib.hid he
          clear he
          go_wp2_with ((first | with_reducible refine wpList_on hbc ?_ | with_reducible refine wp_on hbc (by kernel_rfl) (by kernel_rfl) ?_); (repeat (go_big_quiet_step (fail))); with_reducible refine wpQuiet_nil ?_; intro wc hbc)
          go_roundw
          case rel => exact ⟨k + 1, by omega, by go_num, take_same _ _ _ hlt hlt2 HT.out (by rw [← HX.out, ← HY.out, HE.out]), hbc⟩
          case measure => simp [intOf]; omega
        · have he1 : (x != y) = true := by simp [he]
          have HE := Lib.hid he
          clear he
          go_wp2_with ((first | with_reducible refine wpList_on hbc ?_ | with_reducible refine wp_on hbc (by kernel_rfl) (by kernel_rfl) ?_); (repeat (go_big_quiet_step (fail))); with_reducible refine wpQuiet_nil ?_; intro wc hbc)
          go_ret
          exact ⟨by
            have : xs ≠ ys := fun h => HE.out (by rw [HX.out, HY.out, h])
            simp [this], hbc⟩
      · have hkk : k = xs.length := by omega
        have HS := Lib.hid (show xs = ys by have h := HT.out; rw [hkk, List.take_length, List.take_of_length_le (by have := hL.out; omega)] at h; exact h)
        clear hkk
        go_wp2
        go_ret
        exact ⟨by simp [HS.out], hbc⟩
  · have hne : ((xs.length : Int) != (ys.length : Int)) = true := by simp; omega
    have HE := Lib.hid hlen
    clear hlen
    go_enter Try.func18, Try.ntmps18
    go_wp2
    go_ret
    exact ⟨by
      have : xs ≠ ys := fun h => HE.out (by rw [h])
      simp [this], Below.refl _ _⟩
theorem same_yes (n : Nat) (xs : List Int) (A A' : Option Addr) (c c' : Nat) (w : World) (hn : n = xs.length) (hx : IntRowK .i64 w w.heap.size A xs) (hy : IntRowK .i64 w w.heap.size A' xs) (hl : n ≤ 1000000) :
    Calls Try.prog 18 #[.slice A n c, .slice A' n c'] w fun e w' => e = .returned (.bool true) ∧ Below w.heap.size w w' := by
  subst hn
  exact (same_b xs xs A A' c c' w hx hy (by omega)).mono fun e w' ⟨h1, h2⟩ => ⟨by rw [h1]; simp, h2⟩

theorem rat_at {len : Int} {l : List (List Int)} {u : Int} {o : Option Int} (hm : mayB len l u = true) (h : whoO openB l (u % len) = o) : atO openB len l u = o := by unfold atO; rw [if_pos hm]; exact h
/-- What is told, as many as are asked for. -/
def ticksO (len : Int) (l : List (List Int)) (part t : Int) (many : Nat) : List Int := if nextO len l part t = none then [] else toldT (upL openB len l part t len.toNat) len many
set_option maxRecDepth 100000 in
set_option maxHeartbeats 4000000 in
theorem rticks_b (len : Int) (l : List (List Int)) (A : Option Addr) (c : Nat) (part t : Int) (many : Nat) (w : World) (hf : FIn w len l A) (hm7 : many ≤ 7) (ht : t < 1099511626776) : Calls Try.prog 19 #[.agg #[.int .i64 len, .slice A l.length c], .int .i64 part, .int .i64 t, .int .i64 many] w (GivesNums w (ticksO len l part t many)) := by
  obtain ⟨W, HW, hB, hWs, bx⟩ := fbox_new w len A l.length c 24
  have hfW := hf.later hB
  have HB := Lib.hid hB
  clear hB hf
  obtain ⟨i0, hi0, hz0, hz1, hz2⟩ := info_parts Try.infoI
  obtain ⟨c0, c1⟩ := bx _ (Below.refl _ _)
  cases hno : nextO len l part t with
  | none =>
    have HX := Lib.hid (show ticksO len l part t many = [] by unfold ticksO; rw [if_pos hno])
    have HNO := Lib.hid hno
    clear hno
    go_enter Try.func19, Try.ntmps19
    go_wp2_with (first | (rw [← HW.out]) | fail)
    refine (rnext_no len l A c part t _ hfW HNO.out).mono ?_
    rintro e w5 ⟨rfl, hb5⟩
    go_wp2
    go_ret
    exact ⟨_, rfl, by rw [HX.out]; exact OwnsOff.nil _ _ _ _, HB.out.trans (hb5.mono HB.out.size)⟩
  | some n0 =>
    obtain ⟨hm, -⟩ := next_some hno
    obtain ⟨hR, t0, t1, hq⟩ := may_rt hm
    have hhi := hR.hi
    have hlo := hR.lo
    obtain ⟨m, hlm⟩ := Int.eq_ofNat_of_zero_le (a := len) (by omega)
    subst hlm
    have hne : ¬ upL openB m l part t m = [] := fun h => by rw [(next_never hm).2 h] at hno; cases hno
    have hp0 : 0 < (upL openB m l part t m).length := List.length_pos_iff.2 hne
    have HP := Lib.hid hp0
    have HM : Hid (many * m ≤ 448) := Lib.hid (by have := Nat.mul_le_mul hm7 (show m ≤ 64 by omega); omega)
    have HX := Lib.hid (show ticksO m l part t many = toldT (upL openB m l part t m) m many by unfold ticksO; rw [if_neg (by rw [hno]; simp), show ((m : Int)).toNat = m by omega])
    have HNO := Lib.hid hno
    have HQ := Lib.hid hq
    clear hno hm hR hq hne hp0
    go_enter Try.func19, Try.ntmps19
    go_wp2_with (first | (rw [← HW.out]) | fail)
    refine (rnext_yes m l A c part t n0 _ hfW HNO.out).mono ?_
    rintro e w5 ⟨rfl, hb5⟩
    have H5 := Lib.hid hb5
    clear hb5 c0 c1
    go_wp2
    go_loopw [9, 12] (fun v tv wr => ∃ n : Nat, n ≤ 1000 ∧ tv = .int .i64 (t + (n : Int)) ∧ (upL openB m l part t n).length ≤ many ∧ OwnsOff wr W.heap.size 3 1 v (upL openB m l part t n).length (icells (upL openB m l part t n)) ∧ Below W.heap.size W wr) (fun _ tv _ => (t + 1001 - intOf tv).toNat)
    case atStart => exact ⟨0, by omega, by go_num, Nat.zero_le _, OwnsOff.nil _ _ _ _, H5.out⟩
    case round =>
      obtain ⟨n, hn, rfl, hle, hown, hbc⟩ := hrel
      obtain ⟨c0, c1⟩ := bx _ hbc
      have HNX := upL_next openB m l part t n
      have HLESS := Lib.hid (fun h : (upL openB m l part t n).length < many => up_less HP.out h)
      have HTOLD := Lib.hid (up_told (is := openB) (l := l) (part := part) (a := t) rfl HP.out (by omega) n)
      obtain ⟨ys, hys⟩ : ∃ ys, upL openB m l part t n = ys := ⟨_, rfl⟩
      rw [hys] at hle hown HNX HLESS HTOLD
      clear hys
      obtain ⟨a9, c9, rfl, hc9, _⟩ := hown.slice
      by_cases hlt : ys.length < many
      · have hnm := HLESS.out hlt
        have hM := HM.out
        have hn2 : n < 448 := by omega
        have hle2 : t + (n : Int) ≤ 1099511627776 := by omega
        have hmay : mayB m l (t + (n : Int)) = true := by unfold mayB; rw [HQ.out]; exact decide_eq_true ⟨by omega, by omega⟩
        have HMAY := Lib.hid hmay
        have hx1 := hfW.later hbc
        have hlti : (ys.length : Int) < (many : Int) := by omega
        clear hnm hmay HLESS HTOLD hM
        cases ho : whoO openB l ((t + (n : Int)) % (m : Int)) with
        | none =>
          have HN := Lib.hid (show upL openB m l part t (n + 1) = ys by rw [HNX, if_neg (by unfold hitB; rw [ho]; simp)]; simp)
          have HO := Lib.hid ho
          clear ho HNX
          go_wp2_with fail
          refine (rat_no m l A c (t + (n : Int)) _ hx1 (rat_at HMAY.out HO.out)).mono ?_
          rintro e w6 ⟨rfl, hb6⟩
          have HWC := Lib.hid (hbc.trans (hb6.mono hbc.size))
          have H3 := Lib.hid (hown.keptB hb6)
          clear hown hb6 hbc hx1 c0 c1
          go_wp2
          go_roundw
          case rel => exact ⟨n + 1, by omega, by go_num, by rw [HN.out]; exact hle, by rw [HN.out]; exact H3.out, HWC.out⟩
          case measure => simp [intOf]; omega
        | some q =>
          by_cases hq : q = part
          · subst hq
            have HN := Lib.hid (show upL openB m l q t (n + 1) = ys ++ [t + (n : Int)] by rw [HNX, if_pos (by unfold hitB; rw [ho]; simp)])
            have HO := Lib.hid ho
            clear ho HNX
            go_wp2_with fail
            refine (rat_yes m l A c (t + (n : Int)) q _ hx1 (rat_at HMAY.out HO.out)).mono ?_
            rintro e w6 ⟨rfl, hb6⟩
            have hwc := hbc.trans (hb6.mono hbc.size)
            have hown5 := hown.keptB hb6
            clear hown hb6 hbc hx1 c0 c1
            go_wp2_with (at_builtin; refine wpList_append_off _ rfl _ _ 32 rfl W.heap.size 3 i0 (.int .i64 0) 1 8 Try.underlying32 hi0 hz0 hz1 hz2 rfl (by decide) _ _ _ rfl (hown5.keptB ((Below.refl _ _).alloc (Nat.le_refl _) _)) ⟨w6.heap.size, 0, none⟩ 1 1 [.int .i64 (t + (n : Int))] rfl rfl (news_new _ _ _) (by simp [Value.oneCell']) (by unfold maxLen; omega) (by omega) (by have := hwc.size; simp; omega) ?_)
            intro v' w7 hown' hgrow _
            have hb6 := Lib.hid ((hwc.alloc hwc.size _).grown hgrow (by have := hwc.size; simp; omega) (fun i e => (hown5.lt i e).1))
            have hown3 : OwnsOff w7 W.heap.size 3 1 v' (ys ++ [t + (n : Int)]).length (icells (ys ++ [t + (n : Int)])) := by rw [List.length_append, icells_app]; exact hown'
            have H3 := Lib.hid hown3
            clear hown' hgrow hown3 hown5
            go_wp2
            go_roundw
            case rel => exact ⟨n + 1, by omega, by go_num, by rw [HN.out, List.length_append]; simp; omega, by rw [HN.out]; exact H3.out, hb6.out⟩
            case measure => simp [intOf]; omega
          · have HN := Lib.hid (show upL openB m l part t (n + 1) = ys by rw [HNX, if_neg (by unfold hitB; rw [ho]; simp; exact hq)]; simp)
            have HO := Lib.hid ho
            have hqa : (q == part) = false := by simp [hq]
            clear ho HNX hq
            go_wp2_with fail
            refine (rat_yes m l A c (t + (n : Int)) q _ hx1 (rat_at HMAY.out HO.out)).mono ?_
            rintro e w6 ⟨rfl, hb6⟩
            have HWC := Lib.hid (hbc.trans (hb6.mono hbc.size))
            have H3 := Lib.hid (hown.keptB hb6)
            clear hown hb6 hbc hx1 c0 c1
            go_wp2
            go_roundw
            case rel => exact ⟨n + 1, by omega, by go_num, by rw [HN.out]; exact hle, by rw [HN.out]; exact H3.out, HWC.out⟩
            case measure => simp [intOf]; omega
      · have HE := Lib.hid (show ticksO m l part t many = ys by rw [HX.out]; have h := HTOLD.out; rw [show ys.length = many by omega] at h; exact h.symm)
        have hlti : ¬ (ys.length : Int) < (many : Int) := by omega
        have H3 := Lib.hid hown
        clear hown HLESS HTOLD HNX
        go_wp2
        go_ret
        exact ⟨_, rfl, by rw [HE.out]; exact H3.out.mono HB.out.size, HB.out.trans (hbc.mono HB.out.size)⟩
end Go.Proofs.Ytfnpdoppdbhlcaa
