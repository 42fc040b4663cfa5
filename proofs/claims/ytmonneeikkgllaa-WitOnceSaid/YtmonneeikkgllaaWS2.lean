/- slices.symMergeCmpFunc where the right part has one element. No condition but those in the statements. -/
import Derived.Test.YtmonneeikkgllaaWS1
import Derived.Shelf.SlSortCmp.KitK
import Derived.Lib.Hide
import Derived.WalkArith
import Derived.Sort.WalkB2
import Derived.Sort.WalkB12
import Derived.Deep.LoopGhost

namespace Go.Proofs.Ytmonneeikkgllaa
open Go.Shelf Go.RowKit Go.Lib Go.Sort StP
set_option linter.unusedVariables false
set_option linter.unusedSimpArgs false
variable {P : Program} {α : Type} [Inhabited α]


set_option maxHeartbeats 8000000 in
set_option maxRecDepth 1000000 in
theorem sym2_b {k : Nat} (L : StL P k) (enc : α → List Value) (g : Nat) (cb : Array Value) (blk off cap : Nat) (d0 : Array α) (w0 : World) (cf : α → α → Int) (eg : ∀ args w, (callFunc g args).run P w = .ok (.enter g args) w) (hcmp : CmpLays P g cb enc k cf blk off d0.size w0) (lt : α → α → Bool) (hS : SWO lt) (href : ∀ x y, ltOf cf x y = true → lt x y = true) (a m b : Nat) (d : Array α) (w : World) (R : RowK enc k w0 blk off d0) (hs : d0.size = d.size) (S : SWK enc k w0 blk off d w) (M : Mg (ltOf cf) lt a m b d) (hsz : d.size < 4611686018427387904) (h1 : ¬ m = a + 1) (h2 : b = m + 1) : Calls P 34 #[.slice (some ⟨blk, off, none⟩) d.size cap, .int .i64 a, .int .i64 m, .int .i64 b, .func (.func g) #[] cb] w fun e w' => e = .returned (.tuple #[]) ∧ ∃ d', Mgd lt a b d d' ∧ SWK enc k w0 blk off d' w' := by
  have mixed := L.mixed; have aE := L.aE; have zE := L.zE; have t0 := L.t0; have a0 := L.a0; have z0 := L.z0; have v0 := L.v0; have t1 := L.t1; have a1 := L.a1; have z1 := L.z1; have v1 := L.v1; have t2 := L.t2; have a2 := L.a2; have z2 := L.z2; have v2 := L.v2; have t3 := L.t3; have a3 := L.a3; have z3 := L.z3; have v3 := L.v3; have t4 := L.t4; have a4 := L.a4; have z4 := L.z4; have v4 := L.v4; have t5 := L.t5; have a5 := L.a5; have z5 := L.z5; have v5 := L.v5
  have S0 : Aside (SWK enc k w0 blk off d w) := S
  have FG := L.fsy
  have HC : Aside (CmpLays P g cb enc k cf blk off d0.size w0) := hcmp
  have hbs := M.bs
  have ham := M.am
  have hmb := M.mb
  have HM := Lib.hid M
  clear S hcmp M

  have h1z : ((m : Int) - (a : Int) == 1) = false := by simp; omega
  have h2z : ((b : Int) - (m : Int) == 1) = true := by simp; omega
  have h1n : ¬ (m : Int) - (a : Int) = 1 := by omega
  have HL := Lib.hid HM.out.left
  have H12 := Lib.hid h2
  have HI : Aside (In2 lt a m a m d) := ⟨Nat.le_refl _, by omega, Nat.le_refl _, fun h k1 k2 => by omega, fun h k1 k2 => by omega⟩
  have hmd : m < d.size := by omega
  clear h1 h2
  go_enter FG, Try.ntmps34
  go_wp2
  go_loopg [14, 15] (m - a) (fun kx s14 s15 wr => ∃ i j : Nat, s14 = .int .i64 i ∧ s15 = .int .i64 j ∧ a ≤ i ∧ i ≤ j ∧ j ≤ m ∧ j - i ≤ kx ∧ Aside (In2 lt a m i j d) ∧ Aside (SWK enc k w0 blk off d wr))
  case atStart => exact ⟨a, m, rfl, rfl, Nat.le_refl _, by omega, Nat.le_refl _, Nat.le_refl _, HI, S0⟩
  case round =>
    clear S0 HI
    obtain ⟨i, j, rfl, rfl, hmi, hij, hjb, hkx, H1, S1⟩ := hrel
    by_cases hlt : i < j
    · have hltz : (i : Int) < (j : Int) := by omega
      obtain ⟨c, hc⟩ : ∃ c : Nat, c = (i + j) / 2 := ⟨_, rfl⟩
      have Qc := Lib.hid (show (((i : Nat) : Int) + ((j : Nat) : Int)) / 2 = (c : Int) by omega)
      have gc0 : i ≤ c := by omega
      have gc1 : c < j := by omega
      clear hc

      go_wp2_with fail
      rw [Qc.out]
      cases hL : ltOf cf d[m]! d[c]! with
      | true =>
        have hl : lt d[m]! d[c]! = true := by rw [← HM.out.cmp href (by omega) (show c < m by omega) (Nat.le_refl _) (by omega)]; exact hL
        have HN : Aside (In2 lt a m i c d) := In2.yes hS H1.out HL.out gc0 gc1 hl
        clear H1 hl
        have eaA : ((m : Int)).toNat = m := by omega
        have paA : (0 : Int) ≤ (m : Int) := by omega
        have baA : (m : Int) < (d.size : Int) := by omega
        have raA : IntKind.i64.wrap ((m : Int)) = (m : Int) := by rw [IntKind.wrap_i64]; omega
        have ecA : ((c : Int)).toNat = c := by omega
        have pcA : (0 : Int) ≤ (c : Int) := by omega
        have bcA : (c : Int) < (d.size : Int) := by omega
        have rcA : IntKind.i64.wrap ((c : Int)) = (c : Int) := by rw [IntKind.wrap_i64]; omega
        obtain ⟨xA, hxA⟩ : ∃ x, x = d[m]! := ⟨_, rfl⟩
        obtain ⟨yA, hyA⟩ : ∃ x, x = d[c]! := ⟨_, rfl⟩
        have lAa := S1.out.ld R (by omega) P (m) (by omega)
        have lAb := S1.out.ld R (by omega) P (c) (by omega)
        rw [← hxA] at lAa
        rw [← hyA] at lAb
        have hcA := S1.out.cmp HC.out (by omega) xA yA
        have hvA : cf xA yA < 0 := by rw [hxA, hyA]; exact of_decide_eq_true hL
        have hdA : decide (cf xA yA < 0) = true := decide_eq_true hvA
        clear hxA hyA
        go_wp2_with fail
        go_quiet_grown (first | (go_at_fn g; refine Calls.grown_of (hcA _ _)))
        have S2 : Aside (SWK enc k w0 blk off d (grow (wr.drewN nq) osq)) := S1.out.grown nq osq
        clear lAa lAb hcA S1
        generalize grow (wr.drewN nq) osq = w2 at S2 ⊢
        clear nq osq

        go_wp2
        go_roundg (c - i)
        case measure => omega
        case rel => exact ⟨i, c, rfl, rfl, by omega, by omega, by omega, Nat.le_refl _, HN, S2⟩
      | false =>
        have hl : lt d[m]! d[c]! = false := by rw [← HM.out.cmp href (by omega) (show c < m by omega) (Nat.le_refl _) (by omega)]; exact hL
        have HN : Aside (In2 lt a m (c + 1) j d) := In2.no hS H1.out HL.out gc0 gc1 hl
        clear H1 hl
        have eaA : ((m : Int)).toNat = m := by omega
        have paA : (0 : Int) ≤ (m : Int) := by omega
        have baA : (m : Int) < (d.size : Int) := by omega
        have raA : IntKind.i64.wrap ((m : Int)) = (m : Int) := by rw [IntKind.wrap_i64]; omega
        have ecA : ((c : Int)).toNat = c := by omega
        have pcA : (0 : Int) ≤ (c : Int) := by omega
        have bcA : (c : Int) < (d.size : Int) := by omega
        have rcA : IntKind.i64.wrap ((c : Int)) = (c : Int) := by rw [IntKind.wrap_i64]; omega
        obtain ⟨xA, hxA⟩ : ∃ x, x = d[m]! := ⟨_, rfl⟩
        obtain ⟨yA, hyA⟩ : ∃ x, x = d[c]! := ⟨_, rfl⟩
        have lAa := S1.out.ld R (by omega) P (m) (by omega)
        have lAb := S1.out.ld R (by omega) P (c) (by omega)
        rw [← hxA] at lAa
        rw [← hyA] at lAb
        have hcA := S1.out.cmp HC.out (by omega) xA yA
        have hvA : ¬ cf xA yA < 0 := by rw [hxA, hyA]; exact of_decide_eq_false hL
        have hdA : decide (cf xA yA < 0) = false := decide_eq_false hvA
        clear hxA hyA
        go_wp2_with fail
        go_quiet_grown (first | (go_at_fn g; refine Calls.grown_of (hcA _ _)))
        have S2 : Aside (SWK enc k w0 blk off d (grow (wr.drewN nq) osq)) := S1.out.grown nq osq
        clear lAa lAb hcA S1
        generalize grow (wr.drewN nq) osq = w2 at S2 ⊢
        clear nq osq

        go_wp2
        go_roundg (j - (c + 1))
        case measure => omega
        case rel => exact ⟨c + 1, j, by go_num, rfl, by omega, by omega, hjb, Nat.le_refl _, HN, S2⟩
    · have hltz : ¬ (i : Int) < (j : Int) := by omega
      obtain rfl : i = j := by omega
      have H0 : Aside (Sh2 d d m m) := Sh2.zero d m
      go_wp2
      go_loopg [17] (m - i) (fun ky s17 wr2 => ∃ (q : Nat) (dk : Array α), s17 = .int .i64 q ∧ i ≤ q ∧ q ≤ m ∧ q - i ≤ ky ∧ dk.size = d.size ∧ Aside (Sh2 d dk m q) ∧ Aside (SWK enc k w0 blk off dk wr2))
      case atStart => exact ⟨m, d, rfl, by omega, Nat.le_refl _, Nat.le_refl _, rfl, H0, S1⟩
      case round =>
        clear H0 S1
        obtain ⟨q, dk, rfl, haq, hqi, hky, hds, H2, S2⟩ := hrel
        by_cases hq : i < q
        · obtain ⟨p, rfl⟩ : ∃ p, q = p + 1 := ⟨q - 1, by omega⟩
          have hqz : (i : Int) < (p : Int) + 1 := by omega
          have HN : Aside (Sh2 d (swp dk (p + 1) p) m p) := Sh2.step H2.out (by omega) hmd
          clear H2 hltz
          go_wp2_with fail
          have eaB : ((p : Int) + 1).toNat = p + 1 := by omega
          have paB : (0 : Int) ≤ (p : Int) + 1 := by omega
          have baB : (p : Int) + 1 < (d.size : Int) := by omega
          have raB : IntKind.i64.wrap ((p : Int) + 1) = (p : Int) + 1 := by rw [IntKind.wrap_i64]; omega
          have ecB : ((p : Int)).toNat = p := by omega
          have pcB : (0 : Int) ≤ (p : Int) := by omega
          have bcB : (p : Int) < (d.size : Int) := by omega
          have rcB : IntKind.i64.wrap ((p : Int)) = (p : Int) := by rw [IntKind.wrap_i64]; omega
          have S3 : Aside (SWK enc k w0 blk off (swp dk (p + 1) (p)) ((wr.drew.setCells blk (off + (p + 1) * k) (enc dk[p]!)).setCells blk (off + (p) * k) (enc dk[p + 1]!))) := S2.out.swapped R (p + 1) (p) (by omega) (by omega)
          have lBa := S2.out.ld1 R (by omega) P (p + 1) (by omega)
          have lBb := S2.out.ld1 R (by omega) P (p) (by omega)
          have sBa := S2.out.st1 R (by omega) P (p + 1) (by omega) dk[p]!
          have sBb := S2.out.st2 R (by omega) P (p + 1) (p) (by omega) (by omega) dk[p]! dk[p + 1]!
          have nBa : (enc dk[p + 1]!).length = k := R.hk _
          have nBb : (enc dk[p]!).length = k := R.hk _
          generalize enc dk[p + 1]! = cIB at S3 lBa sBb nBa
          generalize enc dk[p]! = cJB at S3 lBb sBa sBb nBb
          clear S2
          go_wp2_with fail
          go_big_region_o
          clear lBa lBb sBa sBb
          generalize (wr.drew.setCells blk (off + (p + 1) * k) cJB).setCells blk (off + (p) * k) cIB = w3 at S3 ⊢

          go_wp2
          go_roundg (p - i)
          case measure => omega
          case rel => exact ⟨p, _, by go_num, by omega, by omega, Nat.le_refl _, by rw [size_swp]; exact hds, HN, S3⟩
        · have hqz : ¬ (i : Int) < (q : Int) := by omega
          obtain rfl : q = i := by omega
          clear hltz
          go_wp2
          (try simp only [Exit.inBlock, Exit.then])
          refine bodyPost_ret (results_none rfl _ _ _) rfl ?_
          exact ⟨rfl, dk, by rw [H12.out]; exact Sh2.done hS H2.out H1.out HL.out (by omega), S2.out⟩
end Go.Proofs.Ytmonneeikkgllaa
