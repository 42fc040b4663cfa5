/- The buffer that is being filled, the one that is being read: what the law keeps of them. No condition but those in the statements. -/
import Derived.Test.YtocdidkfnbkkhaaFRow
import Derived.BigQuiet
import Derived.IntWalk
import Derived.Deep.MidRow
import Derived.Deep.Upon
import Derived.BigRegion
import Derived.Shelf.Abstract
import Derived.Deep.RegionHeld3
namespace Go.Proofs.Ytocdidkfnbkkhaa
open Go.RowKit Go.Sort
set_option linter.unusedVariables false
set_option linter.unusedSimpArgs false
set_option linter.unusedVariables false
set_option linter.unusedSimpArgs false

open Go.Proofs.Ytocdidkfnbkkhaa.Simp
/-- What the law keeps between the steps: fl the buffer that is being filled, rv the one that is being read, lf how many steps are left; behind k steps. -/
structure Ap (N k : Nat) (ws : List Int) (ow or_ : Option (Nat × FS)) (wn : Int) (wp wi : Nat) (rn : Int) (rp ri : Nat) (fl rv lf : Int) : Prop where
  inv : InvA N ws N wn wp wi rn rp ri
  w : (ow = none ∧ wn = 0) ∨ ∃ wq s, ow = some (wq, s) ∧ WA N s wn wp wi
  r : (or_ = none ∧ rn = 0) ∨ ∃ rq s, or_ = some (rq, s) ∧ RA s rn rp ri
  fl : fl = if 3 ≤ wn ∧ wn ≤ 3 + (N : Int) then 1 + 2 * (wp : Int) + wi else 0
  lf : (3 ≤ wn ∧ wn ≤ 3 + (N : Int) → lf = N + 4 - wn) ∧ (¬ (3 ≤ wn ∧ wn ≤ 3 + (N : Int)) → lf ≤ 0) ∧ -(k : Int) ≤ lf ∧ lf ≤ 20
  rv : rv = if 4 ≤ rn then 1 + 2 * (rp : Int) + ri else 0
section
variable {N k : Nat} {ws : List Int} {ow or_ : Option (Nat × FS)} {wn rn fl rv lf : Int} {wp wi rp ri : Nat}
theorem Ap.zero (h1 : 1 ≤ N) : Ap N 0 (List.replicate (13 + 4 * N) 0) none none 0 0 0 0 0 0 0 0 0 :=
  ⟨⟨by simp, ⟨h1, Nat.le_refl _⟩, by omega, fun x => by omega, fun x => by omega, fun x => by omega, Int.le_refl _, fun x => by omega, fun x => by omega, fun x => by omega, fun x => by omega⟩, .inl ⟨rfl, rfl⟩, .inl ⟨rfl, rfl⟩, by rw [if_neg (by omega)], ⟨fun x => by omega, fun _ => Int.le_refl _, by omega, by omega⟩, by rw [if_neg (by omega)]⟩
theorem Ap.ok (h : Ap N k ws ow or_ wn wp wi rn rp ri fl rv lf) : 0 < fl → fl ≠ rv := fun h0 e => by
  have hf := h.fl
  have hr := h.rv
  by_cases z : 3 ≤ wn ∧ wn ≤ 3 + (N : Int)
  · rw [if_pos z] at hf
    by_cases z2 : 4 ≤ rn
    · rw [if_pos z2] at hr
      have := h.inv.apart (by omega) (by omega) (by omega)
      omega
    · rw [if_neg z2] at hr; omega
  · rw [if_neg z] at hf; omega
theorem Ap.write {wq : Nat} {s s' : FS} {ws' : List Int} {d : Did} {per now : Int} (h : Ap N k ws (some (wq, s)) or_ wn wp wi rn rp ri fl rv lf) (hN : N ≤ 16) (e : wstep (fr2 N per) s ws now = (s', ws', d)) :
    ∃ wn' wp' wi', Ap N (k + 1) ws' (if d.done = true then none else some (wq, s')) or_ wn' wp' wi' rn rp ri (if (if 0 < d.buffer then (N : Int) + 2 else lf) - 1 ≤ 0 then 0 else if 0 < d.buffer then d.buffer else fl) rv ((if 0 < d.buffer then (N : Int) + 2 else lf) - 1) := by
  obtain ⟨_, _, hs, hwa⟩ : ∃ a b, some (wq, s) = some (a, b) ∧ WA N b wn wp wi := by
    rcases h.w with ⟨h1, -⟩ | ⟨a, b, h1, h2⟩
    · cases h1
    · exact ⟨a, b, h1, h2⟩
  cases hs
  obtain ⟨wp', wi', hA, hB, hC, hD⟩ := wstep_apart (per := per) (now := now) h.inv hwa
  rw [e] at hA hB hD
  have hD : d.buffer = if wn = 2 then 1 + 2 * (wp : Int) + wi else 0 := hD
  have hw0 := h.inv.w0
  have hN1 := h.inv.hN
  obtain ⟨l1, l2, l3, l4⟩ := h.lf
  have hfl := h.fl
  by_cases zl : wn < 5 + (N : Int)
  · obtain ⟨a1, a2, a3⟩ := hA zl
    have a1 : d.done = false := a1
    rw [a1, if_neg (by decide)]
    refine ⟨wn + 1, wp', wi', ⟨a3, .inr ⟨wq, s', rfl, a2⟩, h.r, ?_, ?_, h.rv⟩⟩
    · (split at hfl <;> split at hD) <;> (repeat' split) <;> omega
    · split at hD <;> split <;> exact ⟨fun _ => by omega, fun _ => by omega, by omega, by omega⟩
  · obtain ⟨b1, b2⟩ := hB (by omega)
    have b1 : d.done = true := b1
    have hl2 := l2 (by omega)
    rw [if_neg (by omega)] at hD
    rw [b1, if_pos rfl]
    refine ⟨0, wp', wi', ⟨b2, .inl ⟨rfl, rfl⟩, h.r, ?_, ?_, h.rv⟩⟩
    · (repeat' split) <;> omega
    · split <;> exact ⟨fun x => by omega, fun _ => by omega, by omega, by omega⟩
theorem Ap.read {rq : Nat} {s s' : FS} {ws' : List Int} {d : Did} {per now : Int} (h : Ap N k ws ow (some (rq, s)) wn wp wi rn rp ri fl rv lf) (e : rstep (fr2 N per) s ws now = (s', ws', d)) :
    ∃ rn' rp' ri', Ap N (k + 1) ws' ow (if d.done = true then none else some (rq, s')) wn wp wi rn' rp' ri' fl (if d.done = true then 0 else if 0 < d.buffer then d.buffer else rv) lf := by
  obtain ⟨_, _, hs, hra⟩ : ∃ a b, some (rq, s) = some (a, b) ∧ RA b rn rp ri := by
    rcases h.r with ⟨h1, -⟩ | ⟨a, b, h1, h2⟩
    · cases h1
    · exact ⟨a, b, h1, h2⟩
  cases hs
  obtain ⟨rp', ri', hA, hB, hC, hD⟩ := rstep_apart (per := per) (now := now) h.inv hra
  rw [e] at hA hB hD
  have hD : d.buffer = if rn = 3 then 1 + 2 * (rp : Int) + ri else 0 := hD
  have hr0 := h.inv.r0
  have hrv := h.rv
  obtain ⟨l1, l2, l3, l4⟩ := h.lf
  cases hd : d.done with
  | true => exact ⟨0, rp', ri', ⟨hB hd, h.w, .inl ⟨rfl, rfl⟩, h.fl, ⟨l1, l2, by omega, l4⟩, by rw [if_pos rfl, if_neg (by omega)]⟩⟩
  | false =>
    obtain ⟨a1, a2⟩ := hA hd
    refine ⟨rn + 1, rp', ri', ⟨a2, h.w, .inr ⟨rq, s', rfl, a1⟩, h.fl, ⟨l1, l2, by omega, l4⟩, ?_⟩⟩
    rw [if_neg (by decide)]
    (split at hrv <;> split at hD) <;> (repeat' split) <;> omega
theorem Ap.write' {wq : Nat} {s s' : FS} {ws' : List Int} {d : Did} {per now : Int} (h : Ap N k ws (some (wq, s)) or_ wn wp wi rn rp ri fl rv lf) (hN : N ≤ 16) (e : wstep (fr2 N per) s ws now = (s', ws', d)) :
    ∃ wn' wp' wi', ∀ ow' fl2 lf1, (d.done = true → ow' = none) → (d.done = false → ow' = some (wq, s')) → (0 < d.buffer → lf1 = (N : Int) + 1) → (¬ 0 < d.buffer → lf1 = lf - 1) → (lf1 ≤ 0 → fl2 = 0) → (0 < lf1 → 0 < d.buffer → fl2 = d.buffer) → (0 < lf1 → ¬ 0 < d.buffer → fl2 = fl) → Ap N (k + 1) ws' ow' or_ wn' wp' wi' rn rp ri fl2 rv lf1 := by
  obtain ⟨a, b, c, q⟩ := h.write hN e
  refine ⟨a, b, c, fun ow' fl2 lf1 h1 h2 h3 h4 h5 h6 h7 => ?_⟩
  have e1 : (if d.done = true then none else some (wq, s')) = ow' := by
    cases hd : d.done with
    | true => rw [h1 hd, if_pos rfl]
    | false => rw [h2 hd, if_neg (by decide)]
  have e2 : (if 0 < d.buffer then (N : Int) + 2 else lf) - 1 = lf1 := by split <;> omega
  have e3 : (if (if 0 < d.buffer then (N : Int) + 2 else lf) - 1 ≤ 0 then 0 else if 0 < d.buffer then d.buffer else fl) = fl2 := by
    rw [e2]
    split
    · exact (h5 (by omega)).symm
    · split
      · exact (h6 (by omega) (by omega)).symm
      · exact (h7 (by omega) (by omega)).symm
  rw [e1, e3, e2] at q
  exact q
theorem Ap.read' {rq : Nat} {s s' : FS} {ws' : List Int} {d : Did} {per now : Int} (h : Ap N k ws ow (some (rq, s)) wn wp wi rn rp ri fl rv lf) (e : rstep (fr2 N per) s ws now = (s', ws', d)) :
    ∃ rn' rp' ri', ∀ or' rv', (d.done = true → or' = none ∧ rv' = 0) → (d.done = false → or' = some (rq, s')) → (d.done = false → 0 < d.buffer → rv' = d.buffer) → (d.done = false → ¬ 0 < d.buffer → rv' = rv) → Ap N (k + 1) ws' ow or' wn wp wi rn' rp' ri' fl rv' lf := by
  obtain ⟨a, b, c, q⟩ := h.read e
  refine ⟨a, b, c, fun or' rv' h1 h2 h3 h4 => ?_⟩
  cases hd : d.done with
  | true =>
    obtain ⟨rfl, rfl⟩ := h1 hd
    rw [hd, if_pos rfl, if_pos rfl] at q
    exact q
  | false =>
    rw [hd, if_neg (by decide), if_neg (by decide)] at q
    rw [h2 hd]
    by_cases hb : 0 < d.buffer
    · rw [if_pos hb] at q; rw [h3 hd hb]; exact q
    · rw [if_neg hb] at q; rw [h4 hd hb]; exact q
theorem Ap.newW (h : Ap N k ws none or_ wn wp wi rn rp ri fl rv lf) (wq : Nat) : Ap N k ws (some (wq, Simp.start (List.replicate N 0))) or_ wn wp wi rn rp ri fl rv lf := by
  have hz : wn = 0 := by rcases h.w with ⟨-, h2⟩ | ⟨a, b, h1, -⟩; exact h2; cases h1
  subst hz
  exact ⟨h.inv, .inr ⟨wq, _, rfl, ⟨by show (List.replicate N (0 : Int)).length = N; simp, rfl, fun x => by omega, fun x => by omega⟩⟩, h.r, h.fl, h.lf, h.rv⟩
theorem Ap.newR (h : Ap N k ws ow none wn wp wi rn rp ri fl rv lf) (rq : Nat) : Ap N k ws ow (some (rq, Simp.start [])) wn wp wi rn rp ri fl rv lf := by
  have hz : rn = 0 := by rcases h.r with ⟨-, h2⟩ | ⟨a, b, h1, -⟩; exact h2; cases h1
  subst hz
  exact ⟨h.inv, h.w, .inr ⟨rq, _, rfl, ⟨rfl, fun x => by omega, fun x => by omega⟩⟩, h.fl, h.lf, h.rv⟩
end
theorem chan2 {W : World} {N : Nat} {per : Int} {x : CfgAt} (h : CfgIn W W.heap.size (cfg2 N per) x) (hw : CfgWf (cfg2 N per)) : ∃ b o, x.ca = some ⟨b, o, none⟩ ∧ ∀ w', Below W.heap.size W w' → w'.cell? ⟨b, o + 3, none⟩ = some (.int .i64 (N : Int)) := by
  obtain ⟨b, o, x0, x1, x2, x3, x4, x5, x6, e0, -, e1, -, hrw⟩ := h.rc.at7 hw.wc (i := 0) (by show 0 < 1; omega)
  have e2 : [(1 : Int), 0, 1, N, 0, per, 0] = [x0, x1, x2, x3, x4, x5, x6] := by simpa [cfg2] using e1
  simp at e2
  obtain ⟨-, -, -, rfl, -⟩ := e2
  exact ⟨b, o, e0, fun w' hb => by have := (hrw w' hb).2.2.2.1; simpa using this⟩
/-- A pointer to what is under way, or none. -/
def pvO (o : Option (Nat × FS)) : Value := match o with | none => .pointer none | some (q, _) => .pointer (some ⟨q, 0, none⟩)
end Go.Proofs.Ytocdidkfnbkkhaa
