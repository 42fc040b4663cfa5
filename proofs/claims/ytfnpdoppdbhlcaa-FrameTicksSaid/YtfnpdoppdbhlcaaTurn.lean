/- turn, at both predicates, as a contract. No condition but those in the statements. -/
import Derived.Test.YtfnpdoppdbhlcaaWhose
import Derived.BigQuiet
import Derived.IntWalk
import Derived.BigRegion
import Derived.OpenShut
namespace Go.Proofs.Ytfnpdoppdbhlcaa
open Go.RowKit Go.Sort Go.ChangeShapes Go.WideShapes
set_option linter.unusedVariables false
set_option linter.unusedSimpArgs false


def icells (xs : List Int) : List Value := xs.map (Value.int .i64)
theorem icells_app (a b : List Int) : icells (a ++ b) = icells a ++ icells b := by simp [icells]
/-- A call that hands back a new list of integers, and turns nothing that was there. -/
def GivesNums (w : World) (xs : List Int) (e : Ending) (w' : World) : Prop := ∃ v, e = .returned v ∧ OwnsOff w' w.heap.size 3 1 v xs.length (icells xs) ∧ Below w.heap.size w w'
theorem news_new (w : World) (cs : Array Value) (t : TypeId) : ∀ j u, cs.toList[j]? = some u → (w.alloc (.cells cs t)).cell? ((⟨w.heap.size, 0, none⟩ : Addr).add j) = some u := fun j u hu => by
  rw [Addr.add_lit, Nat.zero_add]
  exact cell_blk (heap_alloc_new w _) (by simpa using hu)
theorem Try.infoI : (Try.prog.info? 3).map (fun i => (i.zero, i.size, i.bytes)) = some (some (.int .i64 0), 1, 8) := by kernel_rfl
theorem whose_open_no (len : Int) (l : List (List Int)) (A : Option Addr) (c : Nat) (t : Int) (w : World) (hf : FIn w len l A) (hR : Rt len l) (h0 : 0 ≤ t) (h1 : t ≤ 2199023255552) (h : whoO openB l (t % len) = none) : Calls Try.prog 22 #[.agg #[.int .i64 len, .slice A l.length c], .int .i64 t, .func (.func 23) #[] #[]] w fun e w' => e = .returned (.tuple #[.int .i64 0, .bool false]) ∧ Below w.heap.size w w' := by
  have := whose_open_b len l A c t w hf hR h0 h1
  rwa [h] at this
theorem whose_open_yes (len : Int) (l : List (List Int)) (A : Option Addr) (c : Nat) (t : Int) (q : Int) (w : World) (hf : FIn w len l A) (hR : Rt len l) (h0 : 0 ≤ t) (h1 : t ≤ 2199023255552) (h : whoO openB l (t % len) = some q) : Calls Try.prog 22 #[.agg #[.int .i64 len, .slice A l.length c], .int .i64 t, .func (.func 23) #[] #[]] w fun e w' => e = .returned (.tuple #[.int .i64 q, .bool true]) ∧ Below w.heap.size w w' := by
  have := whose_open_b len l A c t w hf hR h0 h1
  rwa [h] at this

set_option maxRecDepth 100000 in
set_option maxHeartbeats 4000000 in
theorem turn_open_b (len : Int) (l : List (List Int)) (A : Option Addr) (c : Nat) (part a : Int) (w : World) (hf : FIn w len l A) (hR : Rt len l) (h0 : 0 ≤ a) (h1 : a ≤ 1099511627777) : Calls Try.prog 26 #[.agg #[.int .i64 len, .slice A l.length c], .int .i64 part, .int .i64 a, .func (.func 23) #[] #[]] w (GivesNums w (upL openB len l part a len.toNat)) := by
  obtain ⟨W, HW, hB, hWs, bx⟩ := fbox_new w len A l.length c 24
  have hfW := hf.later hB
  have HB := Lib.hid hB
  clear hB hf
  obtain ⟨i0, hi0, hz0, hz1, hz2⟩ := info_parts Try.infoI
  have hlo := hR.lo
  have hhi := hR.hi
  have HR := Lib.hid hR
  obtain ⟨n, hn⟩ := Int.eq_ofNat_of_zero_le (a := len) (by omega)
  subst hn
  have hnn : ((n : Int)).toNat = n := by omega
  rw [hnn]
  clear hR hnn
  obtain ⟨c0, c1⟩ := bx _ (Below.refl _ _)
  go_enter Try.func26, Try.ntmps26
  go_wp2_with (rw [← HW.out])
  clear c0 c1
  go_loopw [9, 15] (fun v ix wr => ∃ i : Nat, i ≤ n ∧ ix = .int .i64 i ∧ OwnsOff wr W.heap.size 3 1 v (upL openB n l part a i).length (icells (upL openB n l part a i)) ∧ Below W.heap.size W wr) (fun _ ix _ => n - (intOf ix).toNat)
  case atStart => exact ⟨0, Nat.zero_le _, rfl, OwnsOff.nil _ _ _ _, Below.refl _ _⟩
  case round =>
    obtain ⟨i, hi, rfl, hown, hbc⟩ := hrel
    obtain ⟨c0, c1⟩ := bx _ hbc
    have hll := upL_len openB n l part a i
    have HNX := upL_next openB n l part a i
    obtain ⟨ys, hys⟩ : ∃ ys, upL openB n l part a i = ys := ⟨_, rfl⟩
    have HYS := Lib.hid hys
    rw [hys] at hown hll HNX
    clear hys
    by_cases hlt : i < n
    · have hx1 := hfW.later hbc
      cases ho : whoO openB l ((a + (i : Int)) % (n : Int)) with
      | none =>
        have HN := Lib.hid (show upL openB n l part a (i + 1) = ys by rw [HNX, if_neg (by unfold hitB; rw [ho]; simp)]; simp)
        have HO := Lib.hid ho
        clear ho HNX
        go_wp2_with fail
        refine (whose_open_no n l A c (a + (i : Int)) _ hx1 HR.out (by omega) (by omega) HO.out).mono ?_
        rintro e w5 ⟨rfl, hb5⟩
        have hwc := hbc.trans (hb5.mono hbc.size)
        have hown5 := hown.keptB hb5
        clear hown hb5 hbc hx1 c0 c1
        have HWC := Lib.hid hwc
        have H3 := Lib.hid hown5
        clear hwc hown5
        go_wp2
        go_roundw
        case rel => exact ⟨i + 1, by omega, by go_num, by rw [HN.out]; exact H3.out, HWC.out⟩
        case measure => simp [intOf]; omega
      | some q =>
        by_cases hq : q = part
        · subst hq
          have HN := Lib.hid (show upL openB n l q a (i + 1) = ys ++ [a + (i : Int)] by rw [HNX, if_pos (by unfold hitB; rw [ho]; exact decide_eq_true rfl)])
          have HO := Lib.hid ho
          clear ho HNX
          go_wp2_with fail
          refine (whose_open_yes n l A c (a + (i : Int)) q _ hx1 HR.out (by omega) (by omega) HO.out).mono ?_
          rintro e w5 ⟨rfl, hb5⟩
          have hwc := hbc.trans (hb5.mono hbc.size)
          have hown5 := hown.keptB hb5
          clear hown hb5 hbc hx1 c0 c1
          go_wp2_with (at_builtin; refine wpList_append_off _ rfl _ _ 32 rfl W.heap.size 3 i0 (.int .i64 0) 1 8 Try.underlying32 hi0 hz0 hz1 hz2 rfl (by decide) _ _ _ rfl (hown5.keptB ((Below.refl _ _).alloc (Nat.le_refl _) _)) ⟨w5.heap.size, 0, none⟩ 1 1 [.int .i64 (a + (i : Int))] rfl rfl (news_new _ _ _) (by simp [Value.oneCell']) (by unfold maxLen; omega) (by omega) (by have := hwc.size; simp; omega) ?_)
          intro v' w6 hown' hgrow _
          have hb6 := Lib.hid ((hwc.alloc hwc.size _).grown hgrow (by have := hwc.size; simp; omega) (fun i e => (hown5.lt i e).1))
          have hown3 : OwnsOff w6 W.heap.size 3 1 v' (ys ++ [a + (i : Int)]).length (icells (ys ++ [a + (i : Int)])) := by rw [List.length_append, icells_app]; exact hown'
          have H3 := Lib.hid hown3
          clear hown' hgrow hown3 hown5
          go_wp2
          go_roundw
          case rel => exact ⟨i + 1, by omega, by go_num, by rw [HN.out]; exact H3.out, hb6.out⟩
          case measure => simp [intOf]; omega
        · have HN := Lib.hid (show upL openB n l part a (i + 1) = ys by rw [HNX, if_neg (by unfold hitB; rw [ho]; simp; exact hq)]; simp)
          have HO := Lib.hid ho
          have hqa : (q == part) = false := by simp [hq]
          clear ho HNX hq
          go_wp2_with fail
          refine (whose_open_yes n l A c (a + (i : Int)) q _ hx1 HR.out (by omega) (by omega) HO.out).mono ?_
          rintro e w5 ⟨rfl, hb5⟩
          have hwc := hbc.trans (hb5.mono hbc.size)
          have hown5 := hown.keptB hb5
          clear hown hb5 hbc hx1 c0 c1
          have HWC := Lib.hid hwc
          have H3 := Lib.hid hown5
          clear hwc hown5
          go_wp2
          go_roundw
          case rel => exact ⟨i + 1, by omega, by go_num, by rw [HN.out]; exact H3.out, HWC.out⟩
          case measure => simp [intOf]; omega
    · have HE := Lib.hid (show upL openB n l part a n = ys by rw [← HYS.out, show i = n by omega])
      have H3 := Lib.hid hown
      clear hown
      go_wp2
      go_ret
      exact ⟨_, rfl, by rw [HE.out]; exact H3.out.mono HB.out.size, HB.out.trans (hbc.mono HB.out.size)⟩
theorem whose_ent_no (len : Int) (l : List (List Int)) (A : Option Addr) (c : Nat) (t : Int) (w : World) (hf : FIn w len l A) (hR : Rt len l) (h0 : 0 ≤ t) (h1 : t ≤ 2199023255552) (h : whoO entB l (t % len) = none) : Calls Try.prog 22 #[.agg #[.int .i64 len, .slice A l.length c], .int .i64 t, .func (.func 24) #[] #[]] w fun e w' => e = .returned (.tuple #[.int .i64 0, .bool false]) ∧ Below w.heap.size w w' := by
  have := whose_ent_b len l A c t w hf hR h0 h1
  rwa [h] at this
theorem whose_ent_yes (len : Int) (l : List (List Int)) (A : Option Addr) (c : Nat) (t : Int) (q : Int) (w : World) (hf : FIn w len l A) (hR : Rt len l) (h0 : 0 ≤ t) (h1 : t ≤ 2199023255552) (h : whoO entB l (t % len) = some q) : Calls Try.prog 22 #[.agg #[.int .i64 len, .slice A l.length c], .int .i64 t, .func (.func 24) #[] #[]] w fun e w' => e = .returned (.tuple #[.int .i64 q, .bool true]) ∧ Below w.heap.size w w' := by
  have := whose_ent_b len l A c t w hf hR h0 h1
  rwa [h] at this

set_option maxRecDepth 100000 in
set_option maxHeartbeats 4000000 in
theorem turn_ent_b (len : Int) (l : List (List Int)) (A : Option Addr) (c : Nat) (part a : Int) (w : World) (hf : FIn w len l A) (hR : Rt len l) (h0 : 0 ≤ a) (h1 : a ≤ 1099511627777) : Calls Try.prog 26 #[.agg #[.int .i64 len, .slice A l.length c], .int .i64 part, .int .i64 a, .func (.func 24) #[] #[]] w (GivesNums w (upL entB len l part a len.toNat)) := by
  obtain ⟨W, HW, hB, hWs, bx⟩ := fbox_new w len A l.length c 24
  have hfW := hf.later hB
  have HB := Lib.hid hB
  clear hB hf
  obtain ⟨i0, hi0, hz0, hz1, hz2⟩ := info_parts Try.infoI
  have hlo := hR.lo
  have hhi := hR.hi
  have HR := Lib.hid hR
  obtain ⟨n, hn⟩ := Int.eq_ofNat_of_zero_le (a := len) (by omega)
  subst hn
  have hnn : ((n : Int)).toNat = n := by omega
  rw [hnn]
  clear hR hnn
  obtain ⟨c0, c1⟩ := bx _ (Below.refl _ _)
  go_enter Try.func26, Try.ntmps26
  go_wp2_with (rw [← HW.out])
  clear c0 c1
  go_loopw [9, 15] (fun v ix wr => ∃ i : Nat, i ≤ n ∧ ix = .int .i64 i ∧ OwnsOff wr W.heap.size 3 1 v (upL entB n l part a i).length (icells (upL entB n l part a i)) ∧ Below W.heap.size W wr) (fun _ ix _ => n - (intOf ix).toNat)
  case atStart => exact ⟨0, Nat.zero_le _, rfl, OwnsOff.nil _ _ _ _, Below.refl _ _⟩
  case round =>
    obtain ⟨i, hi, rfl, hown, hbc⟩ := hrel
    obtain ⟨c0, c1⟩ := bx _ hbc
    have hll := upL_len entB n l part a i
    have HNX := upL_next entB n l part a i
    obtain ⟨ys, hys⟩ : ∃ ys, upL entB n l part a i = ys := ⟨_, rfl⟩
    have HYS := Lib.hid hys
    rw [hys] at hown hll HNX
    clear hys
    by_cases hlt : i < n
    · have hx1 := hfW.later hbc
      cases ho : whoO entB l ((a + (i : Int)) % (n : Int)) with
      | none =>
        have HN := Lib.hid (show upL entB n l part a (i + 1) = ys by rw [HNX, if_neg (by unfold hitB; rw [ho]; simp)]; simp)
        have HO := Lib.hid ho
        clear ho HNX
        go_wp2_with fail
        refine (whose_ent_no n l A c (a + (i : Int)) _ hx1 HR.out (by omega) (by omega) HO.out).mono ?_
        rintro e w5 ⟨rfl, hb5⟩
        have hwc := hbc.trans (hb5.mono hbc.size)
        have hown5 := hown.keptB hb5
        clear hown hb5 hbc hx1 c0 c1
        have HWC := Lib.hid hwc
        have H3 := Lib.hid hown5
        clear hwc hown5
        go_wp2
        go_roundw
        case rel => exact ⟨i + 1, by omega, by go_num, by rw [HN.out]; exact H3.out, HWC.out⟩
        case measure => simp [intOf]; omega
      | some q =>
        by_cases hq : q = part
        · subst hq
          have HN := Lib.hid (show upL entB n l q a (i + 1) = ys ++ [a + (i : Int)] by rw [HNX, if_pos (by unfold hitB; rw [ho]; exact decide_eq_true rfl)])
          have HO := Lib.hid ho
          clear ho HNX
          go_wp2_with fail
          refine (whose_ent_yes n l A c (a + (i : Int)) q _ hx1 HR.out (by omega) (by omega) HO.out).mono ?_
          rintro e w5 ⟨rfl, hb5⟩
          have hwc := hbc.trans (hb5.mono hbc.size)
          have hown5 := hown.keptB hb5
          clear hown hb5 hbc hx1 c0 c1
          go_wp2_with (at_builtin; refine wpList_append_off _ rfl _ _ 32 rfl W.heap.size 3 i0 (.int .i64 0) 1 8 Try.underlying32 hi0 hz0 hz1 hz2 rfl (by decide) _ _ _ rfl (hown5.keptB ((Below.refl _ _).alloc (Nat.le_refl _) _)) ⟨w5.heap.size, 0, none⟩ 1 1 [.int .i64 (a + (i : Int))] rfl rfl (news_new _ _ _) (by simp [Value.oneCell']) (by unfold maxLen; omega) (by omega) (by have := hwc.size; simp; omega) ?_)
          intro v' w6 hown' hgrow _
          have hb6 := Lib.hid ((hwc.alloc hwc.size _).grown hgrow (by have := hwc.size; simp; omega) (fun i e => (hown5.lt i e).1))
          have hown3 : OwnsOff w6 W.heap.size 3 1 v' (ys ++ [a + (i : Int)]).length (icells (ys ++ [a + (i : Int)])) := by rw [List.length_append, icells_app]; exact hown'
          have H3 := Lib.hid hown3
          clear hown' hgrow hown3 hown5
          go_wp2
          go_roundw
          case rel => exact ⟨i + 1, by omega, by go_num, by rw [HN.out]; exact H3.out, hb6.out⟩
          case measure => simp [intOf]; omega
        · have HN := Lib.hid (show upL entB n l part a (i + 1) = ys by rw [HNX, if_neg (by unfold hitB; rw [ho]; simp; exact hq)]; simp)
          have HO := Lib.hid ho
          have hqa : (q == part) = false := by simp [hq]
          clear ho HNX hq
          go_wp2_with fail
          refine (whose_ent_yes n l A c (a + (i : Int)) q _ hx1 HR.out (by omega) (by omega) HO.out).mono ?_
          rintro e w5 ⟨rfl, hb5⟩
          have hwc := hbc.trans (hb5.mono hbc.size)
          have hown5 := hown.keptB hb5
          clear hown hb5 hbc hx1 c0 c1
          have HWC := Lib.hid hwc
          have H3 := Lib.hid hown5
          clear hwc hown5
          go_wp2
          go_roundw
          case rel => exact ⟨i + 1, by omega, by go_num, by rw [HN.out]; exact H3.out, HWC.out⟩
          case measure => simp [intOf]; omega
    · have HE := Lib.hid (show upL entB n l part a n = ys by rw [← HYS.out, show i = n by omega])
      have H3 := Lib.hid hown
      clear hown
      go_wp2
      go_ret
      exact ⟨_, rfl, by rw [HE.out]; exact H3.out.mono HB.out.size, HB.out.trans (hbc.mono HB.out.size)⟩
end Go.Proofs.Ytfnpdoppdbhlcaa
