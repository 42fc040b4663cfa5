/- slices.swapRangeCmpFunc: two ranges change places. No condition but those in the statements. -/
import Derived.Test.YtmonneeikkgllaaProg
import Derived.Test.YtmonneeikkgllaaWSt
import Derived.Shelf.SlSortCmp.KitK
import Derived.Lib.Hide
import Derived.WalkArith
import Derived.Sort.WalkB2
import Derived.Sort.WalkB12
import Derived.Deep.LoopGhost

namespace Go.Proofs.Ytmonneeikkgllaa
open Go.Shelf Go.RowKit Go.Lib Go.Sort StP
set_option linter.unusedVariables false
set_option linter.unusedSimpArgs false
variable {P : Program} {α : Type} [Inhabited α]


/-- What the sort's functions ask of a program: their bodies, their types; the element's type has k cells. -/
structure StL (P : Program) (k : Nat) : Prop where
  mixed : P.follows .mixedOrders = true
  fsw : P.funcs[36]? = some Try.f36
  fro : P.funcs[35]? = some Try.f35
  fsy : P.funcs[34]? = some Try.f34
  fst : P.funcs[29]? = some Try.f29
  fss : P.funcs[21]? = some Try.f21
  t0 : P.underlying 0 = some (TypeDesc.tuple #[])
  a0 : ∀ w, (isAgg 0).run P w = .ok false w
  z0 : ∀ w, (Go.sizeOf 0).run P w = .ok 1 w
  v0 : ∀ w, (zeroValue 0).run P w = .ok (Value.tuple #[]) w
  t1 : P.underlying 3 = some (TypeDesc.int IntKind.i64)
  a1 : ∀ w, (isAgg 3).run P w = .ok false w
  z1 : ∀ w, (Go.sizeOf 3).run P w = .ok 1 w
  v1 : ∀ w, (zeroValue 3).run P w = .ok (Value.int IntKind.i64 0) w
  t2 : P.underlying 4 = some (TypeDesc.bool)
  a2 : ∀ w, (isAgg 4).run P w = .ok false w
  z2 : ∀ w, (Go.sizeOf 4).run P w = .ok 1 w
  v2 : ∀ w, (zeroValue 4).run P w = .ok (Value.bool false) w
  t3 : P.underlying 83 = some (TypeDesc.int IntKind.u64)
  a3 : ∀ w, (isAgg 83).run P w = .ok false w
  z3 : ∀ w, (Go.sizeOf 83).run P w = .ok 1 w
  v3 : ∀ w, (zeroValue 83).run P w = .ok (Value.int IntKind.u64 0) w
  t4 : P.underlying 61 = some (TypeDesc.slice 64)
  a4 : ∀ w, (isAgg 61).run P w = .ok false w
  z4 : ∀ w, (Go.sizeOf 61).run P w = .ok 1 w
  v4 : ∀ w, (zeroValue 61).run P w = .ok (Value.slice none 0 0) w
  t5 : P.underlying 70 = some (TypeDesc.func #[64, 64] #[3] false)
  a5 : ∀ w, (isAgg 70).run P w = .ok false w
  z5 : ∀ w, (Go.sizeOf 70).run P w = .ok 1 w
  v5 : ∀ w, (zeroValue 70).run P w = .ok (Value.nilFunc) w
  aE : ∀ w, (isAgg 64).run P w = .ok true w
  zE : ∀ w, (Go.sizeOf 64).run P w = .ok k w
set_option maxHeartbeats 4000000 in
set_option maxRecDepth 1000000 in
theorem swapR_b {k : Nat} (L : StL P k) (enc : α → List Value) (g : Nat) (cb : Array Value) (blk off cap : Nat) (d0 d : Array α) (w0 w : World) (a b n : Nat) (R : RowK enc k w0 blk off d0) (hs : d0.size = d.size) (S : SWK enc k w0 blk off d w) (hab : a + n ≤ b) (hb : b + n ≤ d.size) (hsz : d.size < 4611686018427387904) :
    Calls P 36 #[.slice (some ⟨blk, off, none⟩) d.size cap, .int .i64 a, .int .i64 b, .int .i64 n, .func (.func g) #[] cb] w fun e w' => e = .returned (.tuple #[]) ∧ ∃ d', SwR d d' a b n ∧ SWK enc k w0 blk off d' w' := by
  have mixed := L.mixed; have aE := L.aE; have zE := L.zE; have t0 := L.t0; have a0 := L.a0; have z0 := L.z0; have v0 := L.v0; have t1 := L.t1; have a1 := L.a1; have z1 := L.z1; have v1 := L.v1; have t2 := L.t2; have a2 := L.a2; have z2 := L.z2; have v2 := L.v2; have t3 := L.t3; have a3 := L.a3; have z3 := L.z3; have v3 := L.v3; have t4 := L.t4; have a4 := L.a4; have z4 := L.z4; have v4 := L.v4; have t5 := L.t5; have a5 := L.a5; have z5 := L.z5; have v5 := L.v5
  have S0 : Aside (SWK enc k w0 blk off d w) := S
  have FG := L.fsw
  clear S L
  go_enter FG, Try.ntmps36
  go_wp2
  go_loopg [10] n (fun kx s10 wr => ∃ (i : Nat) (dk : Array α), s10 = .int .i64 i ∧ i ≤ n ∧ n - i ≤ kx ∧ Aside (SwR d dk a b i) ∧ Aside (SWK enc k w0 blk off dk wr))
  case atStart => exact ⟨0, d, rfl, Nat.zero_le _, Nat.le_refl _, SwR.zero d a b, S0⟩
  case round =>
    clear S0
    obtain ⟨i, dk, rfl, hi, hkx, HR, S1⟩ := hrel
    have hds := HR.out.size
    by_cases hlt : i < n
    · have hltz : (i : Int) < (n : Int) := by omega
      have HN : Aside (SwR d (swp dk (a + i) (b + i)) a b (i + 1)) := HR.out.step hlt hab hb
      clear HR
      go_wp2_with fail
      have eaA : ((a : Int) + (i : Int)).toNat = a + i := by omega
      have paA : (0 : Int) ≤ (a : Int) + (i : Int) := by omega
      have baA : (a : Int) + (i : Int) < (d.size : Int) := by omega
      have raA : IntKind.i64.wrap ((a : Int) + (i : Int)) = (a : Int) + (i : Int) := by rw [IntKind.wrap_i64]; omega
      have ecA : ((b : Int) + (i : Int)).toNat = b + i := by omega
      have pcA : (0 : Int) ≤ (b : Int) + (i : Int) := by omega
      have bcA : (b : Int) + (i : Int) < (d.size : Int) := by omega
      have rcA : IntKind.i64.wrap ((b : Int) + (i : Int)) = (b : Int) + (i : Int) := by rw [IntKind.wrap_i64]; omega
      have S2 : Aside (SWK enc k w0 blk off (swp dk (a + i) (b + i)) ((wr.drew.setCells blk (off + (a + i) * k) (enc dk[b + i]!)).setCells blk (off + (b + i) * k) (enc dk[a + i]!))) := S1.out.swapped R (a + i) (b + i) (by omega) (by omega)
      have lAa := S1.out.ld1 R (by omega) P (a + i) (by omega)
      have lAb := S1.out.ld1 R (by omega) P (b + i) (by omega)
      have sAa := S1.out.st1 R (by omega) P (a + i) (by omega) dk[b + i]!
      have sAb := S1.out.st2 R (by omega) P (a + i) (b + i) (by omega) (by omega) dk[b + i]! dk[a + i]!
      have nAa : (enc dk[a + i]!).length = k := R.hk _
      have nAb : (enc dk[b + i]!).length = k := R.hk _
      generalize enc dk[a + i]! = cIA at S2 lAa sAb nAa
      generalize enc dk[b + i]! = cJA at S2 lAb sAa sAb nAb
      clear S1
      go_wp2_with fail
      go_big_region_o
      clear lAa lAb sAa sAb
      generalize (wr.drew.setCells blk (off + (a + i) * k) cJA).setCells blk (off + (b + i) * k) cIA = w2 at S2 ⊢

      go_wp2
      go_roundg (n - (i + 1))
      case measure => omega
      case rel => exact ⟨i + 1, _, by go_num, by omega, Nat.le_refl _, HN, S2⟩
    · have hltz : ¬ (i : Int) < (n : Int) := by omega
      obtain rfl : i = n := by omega
      go_wp2
      go_end0
      exact ⟨rfl, dk, HR.out, S1.out⟩
end Go.Proofs.Ytmonneeikkgllaa
