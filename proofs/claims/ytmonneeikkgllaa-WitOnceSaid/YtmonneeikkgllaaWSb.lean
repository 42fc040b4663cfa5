/- slices.symMergeCmpFunc, slices.stableCmpFunc, slices.SortStableFunc. No condition but those in the statements. -/
import Derived.Test.YtmonneeikkgllaaWS3
import Derived.Test.YtmonneeikkgllaaWS4
import Derived.Shelf.SlSortCmp.KitK
import Derived.Lib.Hide
import Derived.WalkArith
import Derived.Sort.WalkB2
import Derived.Sort.WalkB12
import Derived.Deep.LoopGhost

namespace Go.Proofs.Ytmonneeikkgllaa
open Go.Shelf Go.RowKit Go.Lib Go.Sort StP
set_option linter.unusedVariables false
set_option linter.unusedSimpArgs false
variable {P : Program} {α : Type} [Inhabited α]


theorem sym_b {k : Nat} (L : StL P k) (enc : α → List Value) (g : Nat) (cb : Array Value) (blk off cap : Nat) (d0 : Array α) (w0 : World) (cf : α → α → Int) (eg : ∀ args w, (callFunc g args).run P w = .ok (.enter g args) w) (hcmp : CmpLays P g cb enc k cf blk off d0.size w0) (lt : α → α → Bool) (hS : SWO lt) (href : ∀ x y, ltOf cf x y = true → lt x y = true) (R : RowK enc k w0 blk off d0) (hsz : d0.size < 4611686018427387904) : ∀ (N a m b : Nat) (d : Array α) (w : World), b - a ≤ N → d0.size = d.size → SWK enc k w0 blk off d w → Mg (ltOf cf) lt a m b d → Calls P 34 #[.slice (some ⟨blk, off, none⟩) d.size cap, .int .i64 a, .int .i64 m, .int .i64 b, .func (.func g) #[] cb] w fun e w' => e = .returned (.tuple #[]) ∧ ∃ d', Mgd lt a b d d' ∧ SWK enc k w0 blk off d' w' := by
  intro N
  induction N with
  | zero => intro a m b d w h hs S M; have := M.am; have := M.mb; omega
  | succ N IH =>
    intro a m b d w h hs S M
    have ham := M.am; have hmb := M.mb
    by_cases h1 : m = a + 1
    · exact sym1_b L enc g cb blk off cap d0 w0 cf eg hcmp lt hS href a m b d w R hs S M (by omega) h1
    by_cases h2 : b = m + 1
    · exact sym2_b L enc g cb blk off cap d0 w0 cf eg hcmp lt hS href a m b d w R hs S M (by omega) h1 h2
    by_cases g : (a + b) / 2 < m
    · exact sym3a_b L enc _ cb blk off cap d0 w0 cf eg hcmp lt hS href a m b d w R hs S M (by omega) (fun a' m' b' d' w' h' => IH a' m' b' d' w' (by omega)) h1 h2 _ rfl g
    · exact sym3b_b L enc _ cb blk off cap d0 w0 cf eg hcmp lt hS href a m b d w R hs S M (by omega) (fun a' m' b' d' w' h' => IH a' m' b' d' w' (by omega)) h1 h2 _ rfl g
set_option maxHeartbeats 8000000 in
set_option maxRecDepth 1000000 in
theorem stable_b {k : Nat} (L : StL P k) (enc : α → List Value) (g : Nat) (cb : Array Value) (blk off cap : Nat) (d0 : Array α) (w0 : World) (cf : α → α → Int) (eg : ∀ args w, (callFunc g args).run P w = .ok (.enter g args) w) (hcmp : CmpLays P g cb enc k cf blk off d0.size w0) (lt : α → α → Bool) (hS : SWO lt) (href : ∀ x y, ltOf cf x y = true → lt x y = true) (einx : ∀ args w, (callFunc 33 args).run P w = .ok (.enter 33 args) w) (hins : ∀ (a b : Nat) (d : Array α) (w : World), a ≤ b → b ≤ d.size → d0.size = d.size → SWK enc k w0 blk off d w → Calls P 33 #[.slice (some ⟨blk, off, none⟩) d.size cap, .int .i64 a, .int .i64 b, .func (.func g) #[] cb] w fun e w' => e = .returned (.tuple #[]) ∧ SWK enc k w0 blk off (Sort.insertionSort (ltOf cf) d a b) w') (d : Array α) (w : World) (R : RowK enc k w0 blk off d0) (hs : d0.size = d.size) (S : SWK enc k w0 blk off d w) (M : Stb (ltOf cf) lt 0 d.size d) (hsz : d.size ≤ 1000000) :
    Calls P 29 #[.slice (some ⟨blk, off, none⟩) d.size cap, .int .i64 d.size, .func (.func g) #[] cb] w fun e w' => e = .returned (.tuple #[]) ∧ ∃ d', Mgd lt 0 d.size d d' ∧ SWK enc k w0 blk off d' w' := by
  have mixed := L.mixed; have aE := L.aE; have zE := L.zE; have t0 := L.t0; have a0 := L.a0; have z0 := L.z0; have v0 := L.v0; have t1 := L.t1; have a1 := L.a1; have z1 := L.z1; have v1 := L.v1; have t2 := L.t2; have a2 := L.a2; have z2 := L.z2; have v2 := L.v2; have t3 := L.t3; have a3 := L.a3; have z3 := L.z3; have v3 := L.v3; have t4 := L.t4; have a4 := L.a4; have z4 := L.z4; have v4 := L.v4; have t5 := L.t5; have a5 := L.a5; have z5 := L.z5; have v5 := L.v5
  have FG := L.fst
  have ein : ∀ args w, (callFunc 33 args).run P w = .ok (.enter 33 args) w := einx
  have esy : ∀ args w, (callFunc 34 args).run P w = .ok (.enter 34 args) w := enters_of L.fsy (by kernel_rfl) rfl
  have S0 : Aside (SWK enc k w0 blk off d w) := S
  have HINS := Lib.hid hins
  have HSY := Lib.hid (sym_b L enc g cb blk off cap d0 w0 cf eg hcmp lt hS href R (by omega))
  have H0 : Aside (Blk0 (ltOf cf) lt d.size 0 d d) := ⟨M, permIn_refl _ _ _, fun i j _ h => by omega⟩
  obtain ⟨n, hn⟩ : ∃ n, d.size = n := ⟨_, rfl⟩
  rw [hn] at H0 hs hsz ⊢
  have HN := Lib.hid hn
  clear hins hcmp S M einx hn
  go_enter FG, Try.ntmps29
  go_wp2
  go_loopg [7, 8] (n + 1) (fun kx s7 s8 wr => ∃ (q a b : Nat) (dk : Array α), s7 = .int .i64 (a : Int) ∧ s8 = .int .i64 (b : Int) ∧ Aside (20 * q = a) ∧ Aside (b = a + 20) ∧ a < b ∧ a ≤ n ∧ b ≤ n + 20 ∧ n + 1 - a ≤ kx ∧ dk.size = n ∧ Aside (Blk0 (ltOf cf) lt n q d dk) ∧ Aside (SWK enc k w0 blk off dk wr))
  case atStart => exact ⟨0, 0, 20, d, rfl, rfl, rfl, rfl, by omega, by omega, by omega, by omega, HN.out, H0, S0⟩
  case round =>
    clear S0 H0
    obtain ⟨q, a, b, dk, rfl, rfl, HA, HAB, hba, hq, hbq, hkx, hds, H1, S1⟩ := hrel
    have hbn : n ≤ d.size := by rw [HN.out]; exact Nat.le_refl _
    have HBN := Lib.hid hbn
    clear hbn
    by_cases hlt : b ≤ n
    · have hltz : (b : Int) ≤ (n : Int) := by omega
      have hst := H1.out.stb.mono (Nat.zero_le a) hlt
      have hmg := ins_sorts hS href (show a ≤ b by omega) (by omega) hst
      have hcc := HINS.out a b dk wr (by omega) (by omega) (by omega) S1.out
      rw [hds] at hcc
      have HCC := Lib.hid hcc
      obtain ⟨d2, hd2⟩ : ∃ d2, insertionSort (ltOf cf) dk a b = d2 := ⟨_, rfl⟩
      rw [hd2] at hmg hcc
      have HCC := Lib.hid hcc
      have hz2 : d2.size = n := hmg.1.1.trans hds
      have HX : Aside (Blk0 (ltOf cf) lt n (q + 1) d d2) := Blk0.next H1.out HBN.out (by rw [HA.out, ← HAB.out]; exact hlt) (by rw [HA.out, ← HAB.out]; exact hmg)
      have E20 : Aside (20 * (q + 1) = b) := by show 20 * (q + 1) = b; have := HA.out; have := HAB.out; omega
      clear hst hmg hcc hd2 H1 S1
      go_wp2_with fail
      refine HCC.out.mono ?_
      rintro e w2 ⟨rfl, hS2⟩
      have S2 : Aside _ := hS2
      clear hS2 HCC
      go_wp2
      go_roundg (n + 1 - b)
      case measure => omega
      case rel => exact ⟨q + 1, b, b + 20, d2, rfl, by go_num, E20, rfl, by omega, hlt, by omega, Nat.le_refl _, hz2, HX, S2⟩
    · have hltz : ¬ (b : Int) ≤ (n : Int) := by omega
      have hltd : decide ((b : Int) ≤ (n : Int)) = false := decide_eq_false hltz
      have hst := H1.out.stb.mono (Nat.zero_le a) (Nat.le_refl n)
      have hmg := ins_sorts hS href hq (by omega) hst
      have hcc := HINS.out a n dk wr hq (by omega) (by omega) S1.out
      rw [hds] at hcc
      obtain ⟨d2, hd2⟩ : ∃ d2, insertionSort (ltOf cf) dk a n = d2 := ⟨_, rfl⟩
      rw [hd2] at hmg hcc
      have HCC := Lib.hid hcc
      have hz2 : d2.size = n := hmg.1.1.trans hds
      have HX : Aside (Blk (ltOf cf) lt 20 n d d2) := Blk0.done H1.out HBN.out (by rw [HA.out]; exact hq) (by rw [HA.out, ← HAB.out]; omega) (by rw [HA.out]; exact hmg)
      clear hst hmg hcc hd2 H1 S1 hkx
      go_wp2_with fail
      refine HCC.out.mono ?_
      rintro e w2 ⟨rfl, hS2⟩
      have S2 : Aside _ := hS2
      clear hS2 HCC hltz hltd hlt hba HAB HA hq hbq
      go_wp2
      go_loopg [6, 7, 8, 9] n (fun kx s6 s7 s8 s9 wr => ∃ (bs : Nat) (dk : Array α), s6 = .int .i64 (bs : Int) ∧ 0 < bs ∧ bs ≤ 2 * n + 20 ∧ n - bs ≤ kx ∧ dk.size = n ∧ Aside (Blk (ltOf cf) lt bs n d dk) ∧ Aside (SWK enc k w0 blk off dk wr))
      case atStart => exact ⟨20, d2, rfl, by omega, by omega, by omega, hz2, HX, S2⟩
      case round =>
        clear HX S2 hz2 hds
        obtain ⟨bs, dk, rfl, hb0, hb1, hkx, hds, H1, S1⟩ := hrel
        by_cases hlt : bs < n
        · have hltz : (bs : Int) < (n : Int) := by omega
          have H2 : Aside (Blk2 (ltOf cf) lt bs n 0 d dk) := H1.out.start
          obtain ⟨b2, hb2⟩ : ∃ b2 : Nat, b2 = 2 * bs := ⟨_, rfl⟩
          have cb2 : 2 * (bs : Int) = (b2 : Int) := by omega
          clear H1 hb2
          go_wp2
          go_loopg [7, 8] (n + 1) (fun ky s7 s8 wr => ∃ (q a b : Nat) (dk : Array α), s7 = .int .i64 (a : Int) ∧ s8 = .int .i64 (b : Int) ∧ b = a + 2 * bs ∧ a ≤ n ∧ n + 1 - a ≤ ky ∧ dk.size = n ∧ Aside (a = 2 * bs * q) ∧ Aside (Blk2 (ltOf cf) lt bs n q d dk) ∧ Aside (SWK enc k w0 blk off dk wr))
          case atStart => exact ⟨0, 0, b2, dk, rfl, rfl, by omega, Nat.zero_le _, by omega, hds, rfl, H2, S1⟩
          case round =>
            clear H2 S1 hds
            obtain ⟨q, a, b, dk, rfl, rfl, hab, han, hky, hds, HA, H1, S1⟩ := hrel
            have hba : a < b := by omega
            have hbb : b ≤ 5 * n + 40 := by omega
            obtain ⟨m, hm⟩ : ∃ m : Nat, (a : Int) + (bs : Int) = (m : Int) := ⟨a + bs, by omega⟩
            have HAB := Lib.hid hab
            have hmb : m < b := by omega
            have HM := Lib.hid (show m = a + bs by omega)
            by_cases hle : b ≤ n
            · have hlez : (b : Int) ≤ (n : Int) := by omega
              have hmg : Mg (ltOf cf) lt a m b dk := by rw [HM.out, HA.out]; exact H1.out.mg hb0 HBN.out (by rw [← HA.out]; omega) (by rw [← HA.out]; omega) hle
              have hcc := HSY.out (b - a) a m b dk wr (Nat.le_refl _) (by omega) S1.out hmg
              rw [hds] at hcc
              have HCC := Lib.hid hcc
              clear hcc hmg hab
              go_wp2_with fail
              refine HCC.out.mono ?_
              rintro e w4 ⟨rfl, d4, hg4, hS4⟩
              have S4 : Aside _ := hS4
              have hz4 : d4.size = n := hg4.1.1.trans hds
              have HX : Aside (Blk2 (ltOf cf) lt bs n (q + 1) d d4) := Blk2.next H1.out hb0 HBN.out (by rw [← HA.out, ← HAB.out]; exact hle) (by rw [← HA.out, ← HAB.out]; exact hg4)
              have HA2 : Aside (b = 2 * bs * (q + 1)) := by show b = 2 * bs * (q + 1); rw [Nat.mul_add, Nat.mul_one, ← HA.out]; exact HAB.out
              clear hS4 hg4 HCC H1 S1 hm
              go_wp2
              go_roundg (n + 1 - b)
              case measure => omega
              case rel => exact ⟨q + 1, b, b + b2, d4, rfl, by go_num, by omega, hle, Nat.le_refl _, hz4, HA2, HX, S4⟩
            · have hlez : ¬ (b : Int) ≤ (n : Int) := by omega
              have hled : decide ((b : Int) ≤ (n : Int)) = false := decide_eq_false hlez
              by_cases hmn : m < n
              · have hmnz : (m : Int) < (n : Int) := by omega
                have hmg : Mg (ltOf cf) lt a m n dk := by rw [HM.out, HA.out]; exact H1.out.mg hb0 HBN.out (by rw [← HA.out]; omega) (by rw [← HA.out]; omega) (Nat.le_refl _)
                have hcc := HSY.out (n - a) a m n dk wr (Nat.le_refl _) (by omega) S1.out hmg
                rw [hds] at hcc
                have HCC := Lib.hid hcc
                clear hcc hmg hab
                go_wp2_with fail
                refine HCC.out.mono ?_
                rintro e w4 ⟨rfl, d4, hg4, hS4⟩
                have S4 : Aside _ := hS4
                have hz4 : d4.size = n := hg4.1.1.trans hds
                have HX : Aside (Blk (ltOf cf) lt (bs * 2) n d d4) := by show Blk (ltOf cf) lt (bs * 2) n d d4; rw [Nat.mul_comm]; exact Blk2.done H1.out hb0 HBN.out (by rw [← HA.out]; exact han) (by rw [← HA.out]; have := HAB.out; omega) (by rw [← HA.out]; exact hg4)
                clear hS4 hg4 HCC H1 S1 hm hky
                go_wp2
                go_roundg (n - bs * 2)
                case measure => omega
                case rel => exact ⟨bs * 2, d4, by go_num, by omega, by omega, Nat.le_refl _, hz4, HX, S4⟩
              · have hmnz : ¬ (m : Int) < (n : Int) := by omega
                have hmnd : decide ((m : Int) < (n : Int)) = false := decide_eq_false hmnz
                have HX : Aside (Blk (ltOf cf) lt (bs * 2) n d dk) := by show Blk (ltOf cf) lt (bs * 2) n d dk; rw [Nat.mul_comm]; exact Blk2.done H1.out hb0 HBN.out (by rw [← HA.out]; exact han) (by rw [← HA.out]; have := HAB.out; omega) (Blk2.short H1.out hb0 (by rw [← HA.out]; have := HM.out; omega))
                clear hab H1 hky
                go_wp2
                go_roundg (n - bs * 2)
                case measure => omega
                case rel => exact ⟨bs * 2, dk, by go_num, by omega, by omega, Nat.le_refl _, hds, HX, S1⟩
        · have hltz : ¬ (bs : Int) < (n : Int) := by omega
          have hltd : decide ((bs : Int) < (n : Int)) = false := decide_eq_false hltz
          go_wp2
          go_end0
          exact ⟨rfl, dk, H1.out.all (by omega), S1.out⟩
end Go.Proofs.Ytmonneeikkgllaa
