/- slices.rotateCmpFunc: two ranges side by side change places. No condition but those in the statements. -/
import Derived.Test.YtmonneeikkgllaaWSw
import Derived.Shelf.SlSortCmp.KitK
import Derived.Lib.Hide
import Derived.WalkArith
import Derived.Sort.WalkB2
import Derived.Sort.WalkB12
import Derived.Deep.LoopGhost

namespace Go.Proofs.Ytmonneeikkgllaa
open Go.Shelf Go.RowKit Go.Lib Go.Sort StP
set_option linter.unusedVariables false
set_option linter.unusedSimpArgs false
variable {P : Program} {α : Type} [Inhabited α]


set_option maxHeartbeats 4000000 in
set_option maxRecDepth 1000000 in
theorem rot_b {k : Nat} (L : StL P k) (enc : α → List Value) (g : Nat) (cb : Array Value) (blk off cap : Nat) (d0 d : Array α) (w0 w : World) (a m b : Nat) (R : RowK enc k w0 blk off d0) (hs : d0.size = d.size) (S : SWK enc k w0 blk off d w) (ham : a < m) (hmb : m < b) (hb : b ≤ d.size) (hsz : d.size < 4611686018427387904) :
    Calls P 35 #[.slice (some ⟨blk, off, none⟩) d.size cap, .int .i64 a, .int .i64 m, .int .i64 b, .func (.func g) #[] cb] w fun e w' => e = .returned (.tuple #[]) ∧ ∃ d', RotP d d' a m b ∧ SWK enc k w0 blk off d' w' := by
  have mixed := L.mixed; have aE := L.aE; have zE := L.zE; have t0 := L.t0; have a0 := L.a0; have z0 := L.z0; have v0 := L.v0; have t1 := L.t1; have a1 := L.a1; have z1 := L.z1; have v1 := L.v1; have t2 := L.t2; have a2 := L.a2; have z2 := L.z2; have v2 := L.v2; have t3 := L.t3; have a3 := L.a3; have z3 := L.z3; have v3 := L.v3; have t4 := L.t4; have a4 := L.a4; have z4 := L.z4; have v4 := L.v4; have t5 := L.t5; have a5 := L.a5; have z5 := L.z5; have v5 := L.v5
  have S0 : Aside (SWK enc k w0 blk off d w) := S
  have FG := L.fro
  have esw : ∀ args w, (callFunc 36 args).run P w = .ok (.enter 36 args) w := enters_of L.fsw (by kernel_rfl) rfl
  clear S
  have e1 : ((m - a : Nat) : Int) = (m : Int) - (a : Int) := by omega
  have e2 : ((b - m : Nat) : Int) = (b : Int) - (m : Int) := by omega
  have H0 : Aside (∀ dF, RotP d dF (m - (m - a)) m (m + (b - m)) → RotP d dF a m b) := fun dF h => by
    rwa [show m - (m - a) = a by omega, show m + (b - m) = b by omega] at h
  go_enter FG, Try.ntmps35
  go_wp2
  go_loopg [10, 11] (m - a + (b - m)) (fun kx s10 s11 wr => ∃ (i j : Nat) (dk : Array α), s10 = .int .i64 i ∧ s11 = .int .i64 j ∧ 0 < i ∧ 0 < j ∧ i ≤ m - a ∧ j ≤ b - m ∧ i + j ≤ kx ∧ dk.size = d.size ∧ Aside (∀ dF, RotP dk dF (m - i) m (m + j) → RotP d dF a m b) ∧ Aside (SWK enc k w0 blk off dk wr))
  case atStart => exact ⟨m - a, b - m, d, by rw [e1], by rw [e2], by omega, by omega, Nat.le_refl _, Nat.le_refl _, Nat.le_refl _, rfl, H0, S0⟩
  case round =>
    clear S0 H0 e1 e2
    obtain ⟨i, j, dk, rfl, rfl, hi0, hj0, hia, hjb, hkx, hds, H1, S1⟩ := hrel
    have ci : (m : Int) - (i : Int) = ((m - i : Nat) : Int) := by omega
    by_cases hij : i = j
    · subst hij
      have hsw := (swapR_b L enc g cb blk off cap d0 dk w0 wr (m - i) (m) (i) R (by omega) S1.out (by omega) (by omega) (by omega))
      rw [show dk.size = d.size from hds] at hsw
      have HSW := Lib.hid hsw
      clear hsw
      go_wp2_with (go_at_fn 36; refine HSW.out.mono ?_; rintro e w2 ⟨rfl, d2, hR, hS⟩)
      have HR : Aside _ := hR
      have HS : Aside _ := hS
      clear hR hS
      go_wp2
      go_end0
      exact ⟨rfl, d2, H1.out _ (RotP.last HR.out (by omega) (by omega)), HS.out⟩
    · have hijz : ((i : Int) == (j : Int)) = false := by simp; omega
      have hijn : ¬ (i : Int) = (j : Int) := by omega
      by_cases hlt : j < i
      · have hltz : (j : Int) < (i : Int) := by omega
        have hsw := (swapR_b L enc g cb blk off cap d0 dk w0 wr (m - i) (m) (j) R (by omega) S1.out (by omega) (by omega) (by omega))
        rw [show dk.size = d.size from hds] at hsw
        have HSW := Lib.hid hsw
        clear hsw
        go_wp2_with (go_at_fn 36; refine HSW.out.mono ?_; rintro e w2 ⟨rfl, d2, hR, hS⟩)
        have hz2 := hR.size
        have HS : Aside _ := hS
        have HN : Aside (∀ dF, RotP d2 dF (m - (i - j)) m (m + j) → RotP d dF a m b) := fun dF h => H1.out _ (RotP.more hR hlt (by omega) (by omega) h)
        clear hR hS
        go_wp2
        go_roundg (i - j + j)
        case measure => omega
        case rel => exact ⟨i - j, j, d2, by go_num, rfl, by omega, hj0, by omega, hjb, Nat.le_refl _, by omega, HN, HS⟩
      · have hltz : ¬ (j : Int) < (i : Int) := by omega
        have cj : (m : Int) + (j : Int) - (i : Int) = ((m + j - i : Nat) : Int) := by omega
        have hsw := (swapR_b L enc g cb blk off cap d0 dk w0 wr (m - i) (m + j - i) (i) R (by omega) S1.out (by omega) (by omega) (by omega))
        rw [show dk.size = d.size from hds] at hsw
        have HSW := Lib.hid hsw
        clear hsw
        go_wp2_with (go_at_fn 36; refine HSW.out.mono ?_; rintro e w2 ⟨rfl, d2, hR, hS⟩)
        have hz2 := hR.size
        have HS : Aside _ := hS
        have HN : Aside (∀ dF, RotP d2 dF (m - i) m (m + (j - i)) → RotP d dF a m b) := fun dF h => H1.out _ (RotP.less hR (by omega) (by omega) (by omega) h)
        clear hR hS
        go_wp2
        go_roundg (i + (j - i))
        case measure => omega
        case rel => exact ⟨i, j - i, d2, rfl, by go_num, hi0, by omega, hia, by omega, Nat.le_refl _, by omega, HN, HS⟩
end Go.Proofs.Ytmonneeikkgllaa
