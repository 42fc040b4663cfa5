/- slices.symMergeCmpFunc where both parts have more than one element. No condition but those in the statements. -/
import Derived.Test.YtmonneeikkgllaaWS2
import Derived.Shelf.SlSortCmp.KitK
import Derived.Lib.Hide
import Derived.WalkArith
import Derived.Sort.WalkB2
import Derived.Sort.WalkB12
import Derived.Deep.LoopGhost

namespace Go.Proofs.Ytmonneeikkgllaa
open Go.Shelf Go.RowKit Go.Lib Go.Sort StP
set_option linter.unusedVariables false
set_option linter.unusedSimpArgs false
variable {P : Program} {α : Type} [Inhabited α]


set_option maxHeartbeats 16000000 in
set_option maxRecDepth 1000000 in
theorem sym3b_b {k : Nat} (L : StL P k) (enc : α → List Value) (g : Nat) (cb : Array Value) (blk off cap : Nat) (d0 : Array α) (w0 : World) (cf : α → α → Int) (eg : ∀ args w, (callFunc g args).run P w = .ok (.enter g args) w) (hcmp : CmpLays P g cb enc k cf blk off d0.size w0) (lt : α → α → Bool) (hS : SWO lt) (href : ∀ x y, ltOf cf x y = true → lt x y = true) (a m b : Nat) (d : Array α) (w : World) (R : RowK enc k w0 blk off d0) (hs : d0.size = d.size) (S : SWK enc k w0 blk off d w) (M : Mg (ltOf cf) lt a m b d) (hsz : d.size < 4611686018427387904) (ih : ∀ (a' m' b' : Nat) (d' : Array α) (w' : World), b' - a' < b - a → d0.size = d'.size → SWK enc k w0 blk off d' w' → Mg (ltOf cf) lt a' m' b' d' → Calls P 34 #[.slice (some ⟨blk, off, none⟩) d'.size cap, .int .i64 a', .int .i64 m', .int .i64 b', .func (.func g) #[] cb] w' fun e w'' => e = .returned (.tuple #[]) ∧ ∃ d'', Mgd lt a' b' d' d'' ∧ SWK enc k w0 blk off d'' w'') (h1 : ¬ m = a + 1) (h2 : ¬ b = m + 1) (mid : Nat) (hmid : mid = (a + b) / 2) (gm : ¬ mid < m) : Calls P 34 #[.slice (some ⟨blk, off, none⟩) d.size cap, .int .i64 a, .int .i64 m, .int .i64 b, .func (.func g) #[] cb] w fun e w' => e = .returned (.tuple #[]) ∧ ∃ d', Mgd lt a b d d' ∧ SWK enc k w0 blk off d' w' := by
  have mixed := L.mixed; have aE := L.aE; have zE := L.zE; have t0 := L.t0; have a0 := L.a0; have z0 := L.z0; have v0 := L.v0; have t1 := L.t1; have a1 := L.a1; have z1 := L.z1; have v1 := L.v1; have t2 := L.t2; have a2 := L.a2; have z2 := L.z2; have v2 := L.v2; have t3 := L.t3; have a3 := L.a3; have z3 := L.z3; have v3 := L.v3; have t4 := L.t4; have a4 := L.a4; have z4 := L.z4; have v4 := L.v4; have t5 := L.t5; have a5 := L.a5; have z5 := L.z5; have v5 := L.v5
  have S0 : Aside (SWK enc k w0 blk off d w) := S
  have FG := L.fsy
  have HC : Aside (CmpLays P g cb enc k cf blk off d0.size w0) := hcmp
  have hbs := M.bs
  have ham := M.am
  have hmb := M.mb
  have HM := Lib.hid M
  clear S hcmp M

  have h1z : ((m : Int) - (a : Int) == 1) = false := by simp; omega
  have h2z : ((b : Int) - (m : Int) == 1) = false := by simp; omega
  have h1n : ¬ (m : Int) - (a : Int) = 1 := by omega
  have h2n : ¬ (b : Int) - (m : Int) = 1 := by omega
  have esw : ∀ args w, (callFunc 35 args).run P w = .ok (.enter 35 args) w := enters_of L.fro (by kernel_rfl) rfl
  have esy : ∀ args w, (callFunc 34 args).run P w = .ok (.enter 34 args) w := enters_of L.fsy (by kernel_rfl) rfl
  have qmid : ((a : Int) + (b : Int)) / 2 = (mid : Int) := by omega
  have gmz : ¬ (mid : Int) < (m : Int) := by omega
  obtain ⟨s0, hs0⟩ : ∃ s0, a = s0 := ⟨_, rfl⟩
  obtain ⟨r0, hr0⟩ : ∃ r0, m = r0 := ⟨_, rfl⟩
  have cs : True := trivial
  have HLIM := Lib.hid (show Lim a m b mid (mid + m) s0 r0 from ⟨hmid, rfl, fun _ => by omega, fun _ => by omega⟩)
  have hF : a ≤ s0 ∧ s0 ≤ r0 ∧ r0 ≤ m ∧ r0 ≤ mid ∧ mid + m ≤ b + s0 ∧ a < mid := by omega
  have HI : Aside (Cut lt (mid + m - 1) s0 r0 s0 r0 d) := ⟨Nat.le_refl _, by omega, Nat.le_refl _, fun c k1 k2 => by omega, fun c k1 k2 => by omega⟩
  obtain ⟨F1, F2, F3, F4, F5, F6⟩ := hF
  subst hs0 hr0
  have hm1 : a ≤ mid := by omega
  have hm2 : mid < b := by omega
  obtain ⟨p, hp⟩ : ∃ p, p = mid + m - 1 := ⟨_, rfl⟩
  have cp : (mid : Int) + (m : Int) - 1 = (p : Int) := by omega
  have HMID := Lib.hid hmid
  clear hp hmid h1 h2 
  go_enter FG, Try.ntmps34
  go_wp2
  go_loopg [20, 21] (m - a) (fun kx s20 s21 wr => ∃ i j : Nat, s20 = .int .i64 i ∧ s21 = .int .i64 j ∧ a ≤ i ∧ i ≤ j ∧ j ≤ m ∧ j - i ≤ kx ∧ Aside (Cut lt (mid + m - 1) a m i j d) ∧ Aside (SWK enc k w0 blk off d wr))
  case atStart => exact ⟨a, m, by first | rfl | rw [cs] | simp [cs], by first | rfl | simp, Nat.le_refl _, by omega, Nat.le_refl _, Nat.le_refl _, HI, S0⟩
  case round =>
    clear S0 HI
    obtain ⟨i, j, rfl, rfl, hmi, hij, hjb, hkx, H1, S1⟩ := hrel
    by_cases hlt : i < j
    · have hltz : (i : Int) < (j : Int) := by omega
      obtain ⟨c, hc⟩ : ∃ c : Nat, c = (i + j) / 2 := ⟨_, rfl⟩
      have Qc := Lib.hid (show (((i : Nat) : Int) + ((j : Nat) : Int)) / 2 = (c : Int) by omega)
      have gc0 : i ≤ c := by omega
      have gc1 : c < j := by omega
      clear hc

      obtain ⟨f1, f2, f3, f4, f5⟩ := HLIM.out.at_ ham hmb (show a ≤ c by omega) (show c < m by omega)
      obtain ⟨q, hq⟩ : ∃ q, mid + m - 1 - c = q := ⟨_, rfl⟩
      have HQ := Lib.hid hq
      rw [hq] at f3 f4
      have cq : (p : Int) - (c : Int) = (q : Int) := by omega
      clear hq
      go_wp2_with fail
      rw [Qc.out]
      cases hL : ltOf cf d[q]! d[c]! with
      | true =>
        have hl : lt d[q]! d[c]! = true := by rw [← HM.out.cmp href f1 f2 f3 f4]; exact hL
        have HN : Aside (Cut lt (mid + m - 1) a m i c d) := Cut.yes hS H1.out HLIM.out HM.out gc0 gc1 (by rw [HQ.out]; exact hl)
        clear H1 hl
        have eaA : ((q : Int)).toNat = q := by omega
        have paA : (0 : Int) ≤ (q : Int) := by omega
        have baA : (q : Int) < (d.size : Int) := by omega
        have raA : IntKind.i64.wrap ((q : Int)) = (q : Int) := by rw [IntKind.wrap_i64]; omega
        have ecA : ((c : Int)).toNat = c := by omega
        have pcA : (0 : Int) ≤ (c : Int) := by omega
        have bcA : (c : Int) < (d.size : Int) := by omega
        have rcA : IntKind.i64.wrap ((c : Int)) = (c : Int) := by rw [IntKind.wrap_i64]; omega
        obtain ⟨xA, hxA⟩ : ∃ x, x = d[q]! := ⟨_, rfl⟩
        obtain ⟨yA, hyA⟩ : ∃ x, x = d[c]! := ⟨_, rfl⟩
        have lAa := S1.out.ld R (by omega) P (q) (by omega)
        have lAb := S1.out.ld R (by omega) P (c) (by omega)
        rw [← hxA] at lAa
        rw [← hyA] at lAb
        have hcA := S1.out.cmp HC.out (by omega) xA yA
        have hvA : cf xA yA < 0 := by rw [hxA, hyA]; exact of_decide_eq_true hL
        have hdA : decide (cf xA yA < 0) = true := decide_eq_true hvA
        clear hxA hyA
        go_wp2_with fail
        go_quiet_grown (first | (go_at_fn g; refine Calls.grown_of (hcA _ _)))
        have S2 : Aside (SWK enc k w0 blk off d (grow (wr.drewN nq) osq)) := S1.out.grown nq osq
        clear lAa lAb hcA S1
        generalize grow (wr.drewN nq) osq = w2 at S2 ⊢
        clear nq osq

        go_wp2
        go_roundg (c - i)
        case measure => omega
        case rel => exact ⟨i, c, rfl, rfl, by omega, by omega, by omega, Nat.le_refl _, HN, S2⟩
      | false =>
        have hl : lt d[q]! d[c]! = false := by rw [← HM.out.cmp href f1 f2 f3 f4]; exact hL
        have HN : Aside (Cut lt (mid + m - 1) a m (c + 1) j d) := Cut.no hS H1.out HLIM.out HM.out gc0 gc1 (by rw [HQ.out]; exact hl)
        clear H1 hl
        have eaA : ((q : Int)).toNat = q := by omega
        have paA : (0 : Int) ≤ (q : Int) := by omega
        have baA : (q : Int) < (d.size : Int) := by omega
        have raA : IntKind.i64.wrap ((q : Int)) = (q : Int) := by rw [IntKind.wrap_i64]; omega
        have ecA : ((c : Int)).toNat = c := by omega
        have pcA : (0 : Int) ≤ (c : Int) := by omega
        have bcA : (c : Int) < (d.size : Int) := by omega
        have rcA : IntKind.i64.wrap ((c : Int)) = (c : Int) := by rw [IntKind.wrap_i64]; omega
        obtain ⟨xA, hxA⟩ : ∃ x, x = d[q]! := ⟨_, rfl⟩
        obtain ⟨yA, hyA⟩ : ∃ x, x = d[c]! := ⟨_, rfl⟩
        have lAa := S1.out.ld R (by omega) P (q) (by omega)
        have lAb := S1.out.ld R (by omega) P (c) (by omega)
        rw [← hxA] at lAa
        rw [← hyA] at lAb
        have hcA := S1.out.cmp HC.out (by omega) xA yA
        have hvA : ¬ cf xA yA < 0 := by rw [hxA, hyA]; exact of_decide_eq_false hL
        have hdA : decide (cf xA yA < 0) = false := decide_eq_false hvA
        clear hxA hyA
        go_wp2_with fail
        go_quiet_grown (first | (go_at_fn g; refine Calls.grown_of (hcA _ _)))
        have S2 : Aside (SWK enc k w0 blk off d (grow (wr.drewN nq) osq)) := S1.out.grown nq osq
        clear lAa lAb hcA S1
        generalize grow (wr.drewN nq) osq = w2 at S2 ⊢
        clear nq osq

        go_wp2
        go_roundg (j - (c + 1))
        case measure => omega
        case rel => exact ⟨c + 1, j, by go_num, rfl, by omega, by omega, hjb, Nat.le_refl _, HN, S2⟩
    · have hltz : ¬ (i : Int) < (j : Int) := by omega
      have hltd : decide ((i : Int) < (j : Int)) = false := decide_eq_false hltz
      obtain ⟨s, rfl⟩ : ∃ s, s = i := ⟨_, rfl⟩
      obtain rfl : j = s := by omega
      obtain ⟨e, he⟩ : ∃ e, e = mid + m - j := ⟨_, rfl⟩
      have ce : (mid : Int) + (m : Int) - (j : Int) = (e : Int) := by omega
      have hhv : ∀ d2, RotP d d2 j m e → Halves (ltOf cf) lt a j mid e b d d2 := fun d2 hR => by
        rw [he] at hR ⊢
        exact Cut.halves hS H1.out HLIM.out HM.out (by omega) hR
      obtain ⟨u1, u2, u3, u4, u5⟩ : j ≤ m ∧ m ≤ e ∧ j ≤ mid ∧ e ≤ b ∧ a ≤ j := by omega
      have u6 : j = m ∨ m = e ∨ j < m ∧ m < e := by omega
      clear he H1 hlt hkx hmi hjb hij hltz hltd cs
      by_cases h01 : j < m
      · have h01z : (j : Int) < (m : Int) := by omega
        have h01d : decide ((j : Int) < (m : Int)) = true := decide_eq_true h01z
        by_cases h02 : m < e
        · have h02z : (m : Int) < (e : Int) := by omega
          have h02d : decide ((m : Int) < (e : Int)) = true := decide_eq_true h02z
          have hcc := rot_b L enc g cb blk off cap d0 d w0 wr j m e R hs S1.out h01 h02 (by omega) hsz
          have HCC := Lib.hid hcc
          clear hcc
          go_wp2_with fail
          refine HCC.out.mono ?_
          rintro e3 w3 ⟨rfl, d2, hR, hS3⟩
          have hz2 : d2.size = d.size := hR.size
          have HH := Lib.hid (hhv d2 hR)
          have S3 : Aside _ := hS3
          clear hR hS3 HCC S1 hhv h01z h01d h02z h02d
          by_cases h11 : a < j
          · have h11z : (a : Int) < (j : Int) := by omega
            have h11d : decide ((a : Int) < (j : Int)) = true := decide_eq_true h11z
            by_cases h12 : j < mid
            · have h12z : (j : Int) < (mid : Int) := by omega
              have h12d : decide ((j : Int) < (mid : Int)) = true := decide_eq_true h12z
              have hmg := HH.out.mg1 hbs h11 h12
              have hcc := ih a j mid d2 w3 (by omega) (by rw [hz2]; exact hs) S3.out hmg
              rw [hz2] at hcc
              have HCC := Lib.hid hcc
              clear hmg hcc
              go_wp2_with fail
              refine HCC.out.mono ?_
              rintro e4 w4 ⟨rfl, d3, hg3, hS4⟩
              have hz3 : d3.size = d.size := hg3.1.1.trans hz2
              have G3 := Lib.hid hg3
              have S4 : Aside _ := hS4
              clear hg3 hS4 HCC S3 h11z h11d h12z h12d
              by_cases h21 : mid < e
              · have h21z : (mid : Int) < (e : Int) := by omega
                have h21d : decide ((mid : Int) < (e : Int)) = true := decide_eq_true h21z
                by_cases h22 : e < b
                · have h22z : (e : Int) < (b : Int) := by omega
                  have h22d : decide ((e : Int) < (b : Int)) = true := decide_eq_true h22z
                  have hmg := HH.out.mg2 hbs G3.out h21 h22
                  have hcc := ih mid e b d3 w4 (by omega) (by rw [hz3]; exact hs) S4.out hmg
                  rw [hz3] at hcc
                  have HCC := Lib.hid hcc
                  clear hmg hcc
                  go_wp2_with fail
                  refine HCC.out.mono ?_
                  rintro e5 w5 ⟨rfl, d4, hg4, hS5⟩
                  have HG4 := Lib.hid hg4
                  have S5 : Aside _ := hS5
                  clear hg4 hS5
                  go_wp2
                  go_end0
                  exact ⟨rfl, d4, HH.out.join hbs G3.out HG4.out, S5.out⟩
                · have h22z : ¬ (e : Int) < (b : Int) := by omega
                  have h22d : decide ((e : Int) < (b : Int)) = false := decide_eq_false h22z
                  have hn2 : ¬ (mid < e ∧ e < b) := fun h => h22 h.2
                  go_wp2
                  go_end0
                  exact ⟨rfl, d3, HH.out.join hbs G3.out (HH.out.no2 G3.out hn2), S4.out⟩
              · have h21z : ¬ (mid : Int) < (e : Int) := by omega
                have h21d : decide ((mid : Int) < (e : Int)) = false := decide_eq_false h21z
                have hn2 : ¬ (mid < e ∧ e < b) := fun h => h21 h.1
                go_wp2
                go_end0
                exact ⟨rfl, d3, HH.out.join hbs G3.out (HH.out.no2 G3.out hn2), S4.out⟩
            · have h12z : ¬ (j : Int) < (mid : Int) := by omega
              have h12d : decide ((j : Int) < (mid : Int)) = false := decide_eq_false h12z
              have hn1 : ¬ (a < j ∧ j < mid) := fun h => h12 h.2
              obtain ⟨d3, hd3⟩ : ∃ d3, d3 = d2 := ⟨_, rfl⟩
              have hz3 : d3.size = d.size := by rw [hd3]; exact hz2
              have G3 := Lib.hid (show Mgd lt a mid d2 d3 by rw [hd3]; exact HH.out.no1 hn1)
              have S4 : Aside (SWK enc k w0 blk off d3 w3) := by rw [hd3]; exact S3.out
              clear hd3 S3
              by_cases h21 : mid < e
              · have h21z : (mid : Int) < (e : Int) := by omega
                have h21d : decide ((mid : Int) < (e : Int)) = true := decide_eq_true h21z
                by_cases h22 : e < b
                · have h22z : (e : Int) < (b : Int) := by omega
                  have h22d : decide ((e : Int) < (b : Int)) = true := decide_eq_true h22z
                  have hmg := HH.out.mg2 hbs G3.out h21 h22
                  have hcc := ih mid e b d3 w3 (by omega) (by rw [hz3]; exact hs) S4.out hmg
                  rw [hz3] at hcc
                  have HCC := Lib.hid hcc
                  clear hmg hcc
                  go_wp2_with fail
                  refine HCC.out.mono ?_
                  rintro e5 w5 ⟨rfl, d4, hg4, hS5⟩
                  have HG4 := Lib.hid hg4
                  have S5 : Aside _ := hS5
                  clear hg4 hS5
                  go_wp2
                  go_end0
                  exact ⟨rfl, d4, HH.out.join hbs G3.out HG4.out, S5.out⟩
                · have h22z : ¬ (e : Int) < (b : Int) := by omega
                  have h22d : decide ((e : Int) < (b : Int)) = false := decide_eq_false h22z
                  have hn2 : ¬ (mid < e ∧ e < b) := fun h => h22 h.2
                  go_wp2
                  go_end0
                  exact ⟨rfl, d3, HH.out.join hbs G3.out (HH.out.no2 G3.out hn2), S4.out⟩
              · have h21z : ¬ (mid : Int) < (e : Int) := by omega
                have h21d : decide ((mid : Int) < (e : Int)) = false := decide_eq_false h21z
                have hn2 : ¬ (mid < e ∧ e < b) := fun h => h21 h.1
                go_wp2
                go_end0
                exact ⟨rfl, d3, HH.out.join hbs G3.out (HH.out.no2 G3.out hn2), S4.out⟩
          · have h11z : ¬ (a : Int) < (j : Int) := by omega
            have h11d : decide ((a : Int) < (j : Int)) = false := decide_eq_false h11z
            have hn1 : ¬ (a < j ∧ j < mid) := fun h => h11 h.1
            obtain ⟨d3, hd3⟩ : ∃ d3, d3 = d2 := ⟨_, rfl⟩
            have hz3 : d3.size = d.size := by rw [hd3]; exact hz2
            have G3 := Lib.hid (show Mgd lt a mid d2 d3 by rw [hd3]; exact HH.out.no1 hn1)
            have S4 : Aside (SWK enc k w0 blk off d3 w3) := by rw [hd3]; exact S3.out
            clear hd3 S3
            by_cases h21 : mid < e
            · have h21z : (mid : Int) < (e : Int) := by omega
              have h21d : decide ((mid : Int) < (e : Int)) = true := decide_eq_true h21z
              by_cases h22 : e < b
              · have h22z : (e : Int) < (b : Int) := by omega
                have h22d : decide ((e : Int) < (b : Int)) = true := decide_eq_true h22z
                have hmg := HH.out.mg2 hbs G3.out h21 h22
                have hcc := ih mid e b d3 w3 (by omega) (by rw [hz3]; exact hs) S4.out hmg
                rw [hz3] at hcc
                have HCC := Lib.hid hcc
                clear hmg hcc
                go_wp2_with fail
                refine HCC.out.mono ?_
                rintro e5 w5 ⟨rfl, d4, hg4, hS5⟩
                have HG4 := Lib.hid hg4
                have S5 : Aside _ := hS5
                clear hg4 hS5
                go_wp2
                go_end0
                exact ⟨rfl, d4, HH.out.join hbs G3.out HG4.out, S5.out⟩
              · have h22z : ¬ (e : Int) < (b : Int) := by omega
                have h22d : decide ((e : Int) < (b : Int)) = false := decide_eq_false h22z
                have hn2 : ¬ (mid < e ∧ e < b) := fun h => h22 h.2
                go_wp2
                go_end0
                exact ⟨rfl, d3, HH.out.join hbs G3.out (HH.out.no2 G3.out hn2), S4.out⟩
            · have h21z : ¬ (mid : Int) < (e : Int) := by omega
              have h21d : decide ((mid : Int) < (e : Int)) = false := decide_eq_false h21z
              have hn2 : ¬ (mid < e ∧ e < b) := fun h => h21 h.1
              go_wp2
              go_end0
              exact ⟨rfl, d3, HH.out.join hbs G3.out (HH.out.no2 G3.out hn2), S4.out⟩
        · have h02z : ¬ (m : Int) < (e : Int) := by omega
          have h02d : decide ((m : Int) < (e : Int)) = false := decide_eq_false h02z
          have hn0 : ¬ (j < m ∧ m < e) := fun h => h02 h.2
          obtain ⟨d2, hd2⟩ : ∃ d2, d2 = d := ⟨_, rfl⟩
          have hz2 : d2.size = d.size := by rw [hd2]
          have HH := Lib.hid (hhv d2 (by rw [hd2]; exact RotP.none d (by omega)))
          have S3 : Aside (SWK enc k w0 blk off d2 wr) := by rw [hd2]; exact S1.out
          clear hd2 S1 hhv
          by_cases h11 : a < j
          · have h11z : (a : Int) < (j : Int) := by omega
            have h11d : decide ((a : Int) < (j : Int)) = true := decide_eq_true h11z
            by_cases h12 : j < mid
            · have h12z : (j : Int) < (mid : Int) := by omega
              have h12d : decide ((j : Int) < (mid : Int)) = true := decide_eq_true h12z
              have hmg := HH.out.mg1 hbs h11 h12
              have hcc := ih a j mid d2 wr (by omega) (by rw [hz2]; exact hs) S3.out hmg
              rw [hz2] at hcc
              have HCC := Lib.hid hcc
              clear hmg hcc
              go_wp2_with fail
              refine HCC.out.mono ?_
              rintro e4 w4 ⟨rfl, d3, hg3, hS4⟩
              have hz3 : d3.size = d.size := hg3.1.1.trans hz2
              have G3 := Lib.hid hg3
              have S4 : Aside _ := hS4
              clear hg3 hS4 HCC S3 h11z h11d h12z h12d
              by_cases h21 : mid < e
              · have h21z : (mid : Int) < (e : Int) := by omega
                have h21d : decide ((mid : Int) < (e : Int)) = true := decide_eq_true h21z
                by_cases h22 : e < b
                · have h22z : (e : Int) < (b : Int) := by omega
                  have h22d : decide ((e : Int) < (b : Int)) = true := decide_eq_true h22z
                  have hmg := HH.out.mg2 hbs G3.out h21 h22
                  have hcc := ih mid e b d3 w4 (by omega) (by rw [hz3]; exact hs) S4.out hmg
                  rw [hz3] at hcc
                  have HCC := Lib.hid hcc
                  clear hmg hcc
                  go_wp2_with fail
                  refine HCC.out.mono ?_
                  rintro e5 w5 ⟨rfl, d4, hg4, hS5⟩
                  have HG4 := Lib.hid hg4
                  have S5 : Aside _ := hS5
                  clear hg4 hS5
                  go_wp2
                  go_end0
                  exact ⟨rfl, d4, HH.out.join hbs G3.out HG4.out, S5.out⟩
                · have h22z : ¬ (e : Int) < (b : Int) := by omega
                  have h22d : decide ((e : Int) < (b : Int)) = false := decide_eq_false h22z
                  have hn2 : ¬ (mid < e ∧ e < b) := fun h => h22 h.2
                  go_wp2
                  go_end0
                  exact ⟨rfl, d3, HH.out.join hbs G3.out (HH.out.no2 G3.out hn2), S4.out⟩
              · have h21z : ¬ (mid : Int) < (e : Int) := by omega
                have h21d : decide ((mid : Int) < (e : Int)) = false := decide_eq_false h21z
                have hn2 : ¬ (mid < e ∧ e < b) := fun h => h21 h.1
                go_wp2
                go_end0
                exact ⟨rfl, d3, HH.out.join hbs G3.out (HH.out.no2 G3.out hn2), S4.out⟩
            · have h12z : ¬ (j : Int) < (mid : Int) := by omega
              have h12d : decide ((j : Int) < (mid : Int)) = false := decide_eq_false h12z
              have hn1 : ¬ (a < j ∧ j < mid) := fun h => h12 h.2
              obtain ⟨d3, hd3⟩ : ∃ d3, d3 = d2 := ⟨_, rfl⟩
              have hz3 : d3.size = d.size := by rw [hd3]; exact hz2
              have G3 := Lib.hid (show Mgd lt a mid d2 d3 by rw [hd3]; exact HH.out.no1 hn1)
              have S4 : Aside (SWK enc k w0 blk off d3 wr) := by rw [hd3]; exact S3.out
              clear hd3 S3
              by_cases h21 : mid < e
              · have h21z : (mid : Int) < (e : Int) := by omega
                have h21d : decide ((mid : Int) < (e : Int)) = true := decide_eq_true h21z
                by_cases h22 : e < b
                · have h22z : (e : Int) < (b : Int) := by omega
                  have h22d : decide ((e : Int) < (b : Int)) = true := decide_eq_true h22z
                  have hmg := HH.out.mg2 hbs G3.out h21 h22
                  have hcc := ih mid e b d3 wr (by omega) (by rw [hz3]; exact hs) S4.out hmg
                  rw [hz3] at hcc
                  have HCC := Lib.hid hcc
                  clear hmg hcc
                  go_wp2_with fail
                  refine HCC.out.mono ?_
                  rintro e5 w5 ⟨rfl, d4, hg4, hS5⟩
                  have HG4 := Lib.hid hg4
                  have S5 : Aside _ := hS5
                  clear hg4 hS5
                  go_wp2
                  go_end0
                  exact ⟨rfl, d4, HH.out.join hbs G3.out HG4.out, S5.out⟩
                · have h22z : ¬ (e : Int) < (b : Int) := by omega
                  have h22d : decide ((e : Int) < (b : Int)) = false := decide_eq_false h22z
                  have hn2 : ¬ (mid < e ∧ e < b) := fun h => h22 h.2
                  go_wp2
                  go_end0
                  exact ⟨rfl, d3, HH.out.join hbs G3.out (HH.out.no2 G3.out hn2), S4.out⟩
              · have h21z : ¬ (mid : Int) < (e : Int) := by omega
                have h21d : decide ((mid : Int) < (e : Int)) = false := decide_eq_false h21z
                have hn2 : ¬ (mid < e ∧ e < b) := fun h => h21 h.1
                go_wp2
                go_end0
                exact ⟨rfl, d3, HH.out.join hbs G3.out (HH.out.no2 G3.out hn2), S4.out⟩
          · have h11z : ¬ (a : Int) < (j : Int) := by omega
            have h11d : decide ((a : Int) < (j : Int)) = false := decide_eq_false h11z
            have hn1 : ¬ (a < j ∧ j < mid) := fun h => h11 h.1
            obtain ⟨d3, hd3⟩ : ∃ d3, d3 = d2 := ⟨_, rfl⟩
            have hz3 : d3.size = d.size := by rw [hd3]; exact hz2
            have G3 := Lib.hid (show Mgd lt a mid d2 d3 by rw [hd3]; exact HH.out.no1 hn1)
            have S4 : Aside (SWK enc k w0 blk off d3 wr) := by rw [hd3]; exact S3.out
            clear hd3 S3
            by_cases h21 : mid < e
            · have h21z : (mid : Int) < (e : Int) := by omega
              have h21d : decide ((mid : Int) < (e : Int)) = true := decide_eq_true h21z
              by_cases h22 : e < b
              · have h22z : (e : Int) < (b : Int) := by omega
                have h22d : decide ((e : Int) < (b : Int)) = true := decide_eq_true h22z
                have hmg := HH.out.mg2 hbs G3.out h21 h22
                have hcc := ih mid e b d3 wr (by omega) (by rw [hz3]; exact hs) S4.out hmg
                rw [hz3] at hcc
                have HCC := Lib.hid hcc
                clear hmg hcc
                go_wp2_with fail
                refine HCC.out.mono ?_
                rintro e5 w5 ⟨rfl, d4, hg4, hS5⟩
                have HG4 := Lib.hid hg4
                have S5 : Aside _ := hS5
                clear hg4 hS5
                go_wp2
                go_end0
                exact ⟨rfl, d4, HH.out.join hbs G3.out HG4.out, S5.out⟩
              · have h22z : ¬ (e : Int) < (b : Int) := by omega
                have h22d : decide ((e : Int) < (b : Int)) = false := decide_eq_false h22z
                have hn2 : ¬ (mid < e ∧ e < b) := fun h => h22 h.2
                go_wp2
                go_end0
                exact ⟨rfl, d3, HH.out.join hbs G3.out (HH.out.no2 G3.out hn2), S4.out⟩
            · have h21z : ¬ (mid : Int) < (e : Int) := by omega
              have h21d : decide ((mid : Int) < (e : Int)) = false := decide_eq_false h21z
              have hn2 : ¬ (mid < e ∧ e < b) := fun h => h21 h.1
              go_wp2
              go_end0
              exact ⟨rfl, d3, HH.out.join hbs G3.out (HH.out.no2 G3.out hn2), S4.out⟩
      · have h01z : ¬ (j : Int) < (m : Int) := by omega
        have h01d : decide ((j : Int) < (m : Int)) = false := decide_eq_false h01z
        have hn0 : ¬ (j < m ∧ m < e) := fun h => h01 h.1
        obtain ⟨d2, hd2⟩ : ∃ d2, d2 = d := ⟨_, rfl⟩
        have hz2 : d2.size = d.size := by rw [hd2]
        have HH := Lib.hid (hhv d2 (by rw [hd2]; exact RotP.none d (by omega)))
        have S3 : Aside (SWK enc k w0 blk off d2 wr) := by rw [hd2]; exact S1.out
        clear hd2 S1 hhv
        by_cases h11 : a < j
        · have h11z : (a : Int) < (j : Int) := by omega
          have h11d : decide ((a : Int) < (j : Int)) = true := decide_eq_true h11z
          by_cases h12 : j < mid
          · have h12z : (j : Int) < (mid : Int) := by omega
            have h12d : decide ((j : Int) < (mid : Int)) = true := decide_eq_true h12z
            have hmg := HH.out.mg1 hbs h11 h12
            have hcc := ih a j mid d2 wr (by omega) (by rw [hz2]; exact hs) S3.out hmg
            rw [hz2] at hcc
            have HCC := Lib.hid hcc
            clear hmg hcc
            go_wp2_with fail
            refine HCC.out.mono ?_
            rintro e4 w4 ⟨rfl, d3, hg3, hS4⟩
            have hz3 : d3.size = d.size := hg3.1.1.trans hz2
            have G3 := Lib.hid hg3
            have S4 : Aside _ := hS4
            clear hg3 hS4 HCC S3 h11z h11d h12z h12d
            by_cases h21 : mid < e
            · have h21z : (mid : Int) < (e : Int) := by omega
              have h21d : decide ((mid : Int) < (e : Int)) = true := decide_eq_true h21z
              by_cases h22 : e < b
              · have h22z : (e : Int) < (b : Int) := by omega
                have h22d : decide ((e : Int) < (b : Int)) = true := decide_eq_true h22z
                have hmg := HH.out.mg2 hbs G3.out h21 h22
                have hcc := ih mid e b d3 w4 (by omega) (by rw [hz3]; exact hs) S4.out hmg
                rw [hz3] at hcc
                have HCC := Lib.hid hcc
                clear hmg hcc
                go_wp2_with fail
                refine HCC.out.mono ?_
                rintro e5 w5 ⟨rfl, d4, hg4, hS5⟩
                have HG4 := Lib.hid hg4
                have S5 : Aside _ := hS5
                clear hg4 hS5
                go_wp2
                go_end0
                exact ⟨rfl, d4, HH.out.join hbs G3.out HG4.out, S5.out⟩
              · have h22z : ¬ (e : Int) < (b : Int) := by omega
                have h22d : decide ((e : Int) < (b : Int)) = false := decide_eq_false h22z
                have hn2 : ¬ (mid < e ∧ e < b) := fun h => h22 h.2
                go_wp2
                go_end0
                exact ⟨rfl, d3, HH.out.join hbs G3.out (HH.out.no2 G3.out hn2), S4.out⟩
            · have h21z : ¬ (mid : Int) < (e : Int) := by omega
              have h21d : decide ((mid : Int) < (e : Int)) = false := decide_eq_false h21z
              have hn2 : ¬ (mid < e ∧ e < b) := fun h => h21 h.1
              go_wp2
              go_end0
              exact ⟨rfl, d3, HH.out.join hbs G3.out (HH.out.no2 G3.out hn2), S4.out⟩
          · have h12z : ¬ (j : Int) < (mid : Int) := by omega
            have h12d : decide ((j : Int) < (mid : Int)) = false := decide_eq_false h12z
            have hn1 : ¬ (a < j ∧ j < mid) := fun h => h12 h.2
            obtain ⟨d3, hd3⟩ : ∃ d3, d3 = d2 := ⟨_, rfl⟩
            have hz3 : d3.size = d.size := by rw [hd3]; exact hz2
            have G3 := Lib.hid (show Mgd lt a mid d2 d3 by rw [hd3]; exact HH.out.no1 hn1)
            have S4 : Aside (SWK enc k w0 blk off d3 wr) := by rw [hd3]; exact S3.out
            clear hd3 S3
            by_cases h21 : mid < e
            · have h21z : (mid : Int) < (e : Int) := by omega
              have h21d : decide ((mid : Int) < (e : Int)) = true := decide_eq_true h21z
              by_cases h22 : e < b
              · have h22z : (e : Int) < (b : Int) := by omega
                have h22d : decide ((e : Int) < (b : Int)) = true := decide_eq_true h22z
                have hmg := HH.out.mg2 hbs G3.out h21 h22
                have hcc := ih mid e b d3 wr (by omega) (by rw [hz3]; exact hs) S4.out hmg
                rw [hz3] at hcc
                have HCC := Lib.hid hcc
                clear hmg hcc
                go_wp2_with fail
                refine HCC.out.mono ?_
                rintro e5 w5 ⟨rfl, d4, hg4, hS5⟩
                have HG4 := Lib.hid hg4
                have S5 : Aside _ := hS5
                clear hg4 hS5
                go_wp2
                go_end0
                exact ⟨rfl, d4, HH.out.join hbs G3.out HG4.out, S5.out⟩
              · have h22z : ¬ (e : Int) < (b : Int) := by omega
                have h22d : decide ((e : Int) < (b : Int)) = false := decide_eq_false h22z
                have hn2 : ¬ (mid < e ∧ e < b) := fun h => h22 h.2
                go_wp2
                go_end0
                exact ⟨rfl, d3, HH.out.join hbs G3.out (HH.out.no2 G3.out hn2), S4.out⟩
            · have h21z : ¬ (mid : Int) < (e : Int) := by omega
              have h21d : decide ((mid : Int) < (e : Int)) = false := decide_eq_false h21z
              have hn2 : ¬ (mid < e ∧ e < b) := fun h => h21 h.1
              go_wp2
              go_end0
              exact ⟨rfl, d3, HH.out.join hbs G3.out (HH.out.no2 G3.out hn2), S4.out⟩
        · have h11z : ¬ (a : Int) < (j : Int) := by omega
          have h11d : decide ((a : Int) < (j : Int)) = false := decide_eq_false h11z
          have hn1 : ¬ (a < j ∧ j < mid) := fun h => h11 h.1
          obtain ⟨d3, hd3⟩ : ∃ d3, d3 = d2 := ⟨_, rfl⟩
          have hz3 : d3.size = d.size := by rw [hd3]; exact hz2
          have G3 := Lib.hid (show Mgd lt a mid d2 d3 by rw [hd3]; exact HH.out.no1 hn1)
          have S4 : Aside (SWK enc k w0 blk off d3 wr) := by rw [hd3]; exact S3.out
          clear hd3 S3
          by_cases h21 : mid < e
          · have h21z : (mid : Int) < (e : Int) := by omega
            have h21d : decide ((mid : Int) < (e : Int)) = true := decide_eq_true h21z
            by_cases h22 : e < b
            · have h22z : (e : Int) < (b : Int) := by omega
              have h22d : decide ((e : Int) < (b : Int)) = true := decide_eq_true h22z
              have hmg := HH.out.mg2 hbs G3.out h21 h22
              have hcc := ih mid e b d3 wr (by omega) (by rw [hz3]; exact hs) S4.out hmg
              rw [hz3] at hcc
              have HCC := Lib.hid hcc
              clear hmg hcc
              go_wp2_with fail
              refine HCC.out.mono ?_
              rintro e5 w5 ⟨rfl, d4, hg4, hS5⟩
              have HG4 := Lib.hid hg4
              have S5 : Aside _ := hS5
              clear hg4 hS5
              go_wp2
              go_end0
              exact ⟨rfl, d4, HH.out.join hbs G3.out HG4.out, S5.out⟩
            · have h22z : ¬ (e : Int) < (b : Int) := by omega
              have h22d : decide ((e : Int) < (b : Int)) = false := decide_eq_false h22z
              have hn2 : ¬ (mid < e ∧ e < b) := fun h => h22 h.2
              go_wp2
              go_end0
              exact ⟨rfl, d3, HH.out.join hbs G3.out (HH.out.no2 G3.out hn2), S4.out⟩
          · have h21z : ¬ (mid : Int) < (e : Int) := by omega
            have h21d : decide ((mid : Int) < (e : Int)) = false := decide_eq_false h21z
            have hn2 : ¬ (mid < e ∧ e < b) := fun h => h21 h.1
            go_wp2
            go_end0
            exact ⟨rfl, d3, HH.out.join hbs G3.out (HH.out.no2 G3.out hn2), S4.out⟩
end Go.Proofs.Ytmonneeikkgllaa
