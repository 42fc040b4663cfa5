/- Texts of the ring, joined, what is used of them. No condition but those in the statements. -/
import Derived.BigQuiet
import Derived.BigRegion
import Derived.Deep.MidRow
import Derived.Deep.RegionHeld3
import Derived.Deep.Upon
import Derived.IntWalk
import Derived.Shelf.Abstract
import Derived.Test.YtfdgokkngejbhaaGreatQLK
import Derived.Test.YtfdgokkngejbhaaGreatQRIt
import Derived.Test.YtfdgokkngejbhaaGreatQRStp
namespace Go.Proofs.YtfdgokkngejbhaaGreat
open Go.RowKit Go.Sort
set_option linter.unusedVariables false
set_option linter.unusedSimpArgs false
set_option linter.unusedVariables false
set_option linter.unusedSimpArgs false
open Go.Proofs.YtfdgokkngejbhaaGreat.Simp
set_option maxRecDepth 100000
set_option maxHeartbeats 3200000
/-- Channel k of a configuration is a queue whose words are F's. -/
structure QrOf (c : Cfg) (k : Nat) (F : Qr) : Prop where
  src : (srcSpan c k).1 = F.src
  dst : (dstSpan c k).1 = F.dst
  cell : ∀ i : Nat, i < F.d → (cellSpan c k i).1 = ((F.src + 1 + i * (F.n + 1) : Nat) : Int)
  lk : k < c.chans.length
  words : fld (row c.chans k) 3 = F.n
  depth : fld (row c.chans k) 4 = F.d
  low : 1 ≤ F.n ∧ F.n ≤ 16 ∧ 1 ≤ F.d ∧ F.d ≤ 8
  chans : c.chans.length ≤ 8
  inn : F.src + 1 + F.d * (F.n + 1) ≤ F.dst ∧ F.dst < (sizeN c).toNat
  size : 0 ≤ sizeN c ∧ sizeN c ≤ 65536
theorem chanUpQ {c : Cfg} (h : Accd c) (k : Nat) (hk : k < c.chans.length) : beforeN c k + srcN (row c.chans k) + 1 ≤ beforeN c c.chans.length := by
  have step : ∀ d, k + 1 + d ≤ c.chans.length → beforeN c (k + 1) ≤ beforeN c (k + 1 + d) := by
    intro d
    induction d with
    | zero => intro _; exact Int.le_refl _
    | succ d ih =>
      intro hd
      have h1 := ih (by omega)
      have h2 := beforeN_succ c (k + 1 + d)
      have h3 := srcN_of h (i := k + 1 + d) (by omega)
      have e : k + 1 + (d + 1) = k + 1 + d + 1 := by omega
      rw [e]; omega
  have h1 := step (c.chans.length - (k + 1)) (by omega)
  rw [show k + 1 + (c.chans.length - (k + 1)) = c.chans.length by omega] at h1
  have h2 := beforeN_succ c k
  omega
def qrOfN (c : Cfg) (k : Nat) : Qr := ⟨(beforeN c k).toNat, (beforeN c k + srcN (row c.chans k)).toNat, (fld (row c.chans k) 3).toNat, (fld (row c.chans k) 4).toNat⟩
theorem qrOf {c : Cfg} (ha : acceptsB c = true) (k : Nat) (hk : k < c.chans.length) (h2 : fld (row c.chans k) 0 = 2) : QrOf c k (qrOfN c k) := by
  have hA := accd_of ha
  have hc : chanB c k = true := (chanB_iff ha k).2 ⟨by omega, by omega⟩
  have hb := beforeN_in hA (k := k) (by omega)
  have hb2 := beforeN_in hA (k := c.chans.length) (Nat.le_refl _)
  obtain ⟨-, w1, w2, w3, w4, -, w6, -⟩ := hA.chan k hk
  have w6 := w6 h2
  have hm := chanUpQ hA k hk
  have hs : srcN (row c.chans k) = 1 + fld (row c.chans k) 4 + fld (row c.chans k) 4 * fld (row c.chans k) 3 := by unfold srcN; rw [if_neg (by omega)]
  have hz : sizeN c = beforeN c c.chans.length := if_pos ha
  have e1 : srcSpan c k = (beforeN c k, srcN (row c.chans k)) := (if_pos hc).trans (by rw [Int.toNat_natCast])
  have e2 : dstSpan c k = (beforeN c k + srcN (row c.chans k), 1) := (if_pos hc).trans (by rw [Int.toNat_natCast])
  obtain ⟨n, hn⟩ := Int.eq_ofNat_of_zero_le (show 0 ≤ fld (row c.chans k) 3 by omega)
  obtain ⟨d, hd⟩ := Int.eq_ofNat_of_zero_le (show 0 ≤ fld (row c.chans k) 4 by omega)
  obtain ⟨b, hbn⟩ := Int.eq_ofNat_of_zero_le hb.1
  have hdn : ((d * (n + 1) : Nat) : Int) = (d : Int) + (d : Int) * (n : Int) := by rw [Nat.mul_add]; push_cast; omega
  have hs2 : srcN (row c.chans k) = 1 + ((d * (n + 1) : Nat) : Int) := by rw [hs, hn, hd, hdn]; omega
  have hF : qrOfN c k = ⟨b, b + 1 + d * (n + 1), n, d⟩ := by
    unfold qrOfN
    rw [hs2, hn, hd, hbn]
    congr 1
    all_goals omega
  rw [hF]
  refine ⟨?_, ?_, fun i hi => ?_, hk, hn, hd, ⟨by show 1 ≤ n; omega, by show n ≤ 16; omega, by show 1 ≤ d; omega, by show d ≤ 8; omega⟩, hA.chans, ⟨Nat.le_refl _, ?_⟩, by omega⟩
  · rw [e1]; exact hbn
  · rw [e2, hs2, hbn]; show (b : Int) + _ = ((b + 1 + d * (n + 1) : Nat) : Int); omega
  · have e3 : cellSpan c k i = (beforeN c k + 1 + (i : Int) * (fld (row c.chans k) 3 + 1), fld (row c.chans k) 3 + 1) :=
      (if_pos ⟨hc, by rw [Int.toNat_natCast]; exact ⟨h2, by omega, by rw [hd]; have : i < d := hi; omega⟩⟩).trans (by rw [Int.toNat_natCast])
    rw [e3, hn, hbn]
    show (b : Int) + 1 + (i : Int) * ((n : Int) + 1) = ((b + 1 + i * (n + 1) : Nat) : Int)
    push_cast
    omega
  · show b + 1 + d * (n + 1) < (sizeN c).toNat
    omega
end Go.Proofs.YtfdgokkngejbhaaGreat
