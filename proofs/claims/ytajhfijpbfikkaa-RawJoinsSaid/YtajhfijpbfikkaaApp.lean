/- append of any words onto a list of the call's own; a store into such a list. No condition but those in the statements. -/
import Derived.Test.YtajhfijpbfikkaaLOnes
namespace Go.Proofs.Ytajhfijpbfikkaa
open Go.RowKit Go.Sort

section
variable {P : Program} (w : World)
theorem run_append_words (base : Nat) (t ty : TypeId) (i : TypeInfo) (ht : P.underlying t = some (.slice 31)) (hi : P.info? 31 = some i) (hz : i.zero = some (.int .u32 0)) (hsize : i.size = 1) (hby : i.bytes = 4)
    (v : Value) (n : Nat) (xs : List Value) (hown : OwnsOff w base 31 1 v n xs) (B : Nat) (A : Option Addr) (c : Nat) (ws : List Int) (hrow : IntRowK .u32 w B A ws) (hnil : A = none → ws = [])
    (h63 : n + ws.length ≤ 1000000) (hbase : base ≤ w.heap.size) :
    ∃ v' w', (Builtin.append_ #[t, t] ty #[v, .slice A ws.length c]).run P w = .ok v' w' ∧ OwnsOff w' base 31 1 v' (n + ws.length) (xs ++ wcells ws) ∧ w.grownBy w' v.ownBlock ∧
      (∀ g, v'.ownBlock = some g → v.ownBlock = some g ∨ w.heap.size ≤ g) := by
  cases A with
  | some a => exact run_append_off (P := P) w base t ty 31 i (.int .u32 0) 1 4 ht hi hz hsize hby rfl (by decide) v n xs hown a ws.length c (wcells ws) (by simp) hrow.newsAt (wcells_one ws) (by unfold maxLen; omega) (by omega) hbase
  | none =>
    obtain rfl := hnil rfl
    refine ⟨v, w, ?_, by simpa [wcells] using hown, ⟨rfl, rfl, rfl, Nat.le_refl _, fun _ _ _ => rfl⟩, fun g h => .inl h⟩
    rcases hown.2 with ⟨rfl, rfl⟩ | ⟨g, off, cap, cur, rfl, hb, hg, hnc, hcm, hcs, htk⟩
    · simp [Builtin.append_, run_underlying ht, sizeOf, typeInfo, hi, Builtin.lenOf, Builtin.firstCells]
    · simp [Builtin.append_, run_underlying ht, sizeOf, typeInfo, hi, Builtin.lenOf, Builtin.firstCells, hnc, storeCells]
theorem wpList_append_words {ops : Array Oper} {rest : List Oper} {o : Oper} {a : Act} {Q : Exit → Act → World → Prop} (hgd : o.guard = none) (s x : Operand) (t : TypeId)
    (ho : o.op = .call { callee := .builtin .append, args := #[s, x], argTypes := #[t, t] })
    (base : Nat) (i : TypeInfo) (ht : P.underlying t = some (.slice 31)) (hi : P.info? 31 = some i) (hz : i.zero = some (.int .u32 0)) (hsize : i.size = 1) (hby : i.bytes = 4)
    (v : Value) (n : Nat) (xs : List Value) (hs : a.eval s = v) (hown : OwnsOff w base 31 1 v n xs) (B : Nat) (A : Option Addr) (m c : Nat) (ws : List Int) (hm : m = ws.length) (hx : a.eval x = .slice A m c) (hrow : IntRowK .u32 w B A ws) (hnil : A = none → ws = [])
    (h63 : n + ws.length ≤ 1000000) (hbase : base ≤ w.heap.size)
    (h : ∀ v' w', OwnsOff w' base 31 1 v' (n + ws.length) (xs ++ wcells ws) → w.grownBy w' v.ownBlock → (∀ g, v'.ownBlock = some g → v.ownBlock = some g ∨ w.heap.size ≤ g) → wpList P ops Q rest (a.put o.dst v') w') : wpList P ops Q (o :: rest) a w := by
  subst hm
  refine wpList_plain hgd fun K hK' => ?_
  obtain ⟨v', w', hrun, r1, r2, r3⟩ := run_append_words (P := P) w base t o.type i ht hi hz hsize hby v n xs hown B A c ws hrow hnil h63 hbase
  unfold Oper.wp
  simp [execOp, ho, resolve, invoke, builtin, hs, hx, hrun, Result.andThen]
  exact hK' _ _ (h v' w' r1 r2 r3)
end
/-- A store into a list of the call's own. -/
theorem OwnsOff.setAt {w : World} {base : Nat} {e : TypeId} {z : Value} {n : Nat} {xs : List Value} {g off cap : Nat} (h : OwnsOff w base e 1 (.slice (some ⟨g, off, none⟩) n cap) n xs) (j : Nat) :
    OwnsOff (w.setCell ⟨g, off + j, none⟩ z) base e 1 (.slice (some ⟨g, off, none⟩) n cap) n (xs.set j z) := by
  obtain ⟨h1, ⟨h2, _⟩ | ⟨g', off', cap', cur, hv, hb, hg, hnc, hcm, hcs, htk⟩⟩ := h
  · cases h2
  · cases hv
    refine ⟨by simpa using h1, .inr ⟨g, off, cap, cur.setIfInBounds (off + j) z, rfl, hb, ?_, hnc, hcm, by simpa using hcs, ?_⟩⟩
    · simp [World.setCell, Array.getElem?_modify, hg]
    · rw [← htk, Array.toList_setIfInBounds, List.drop_set, if_neg (by omega), Nat.add_sub_cancel_left, List.take_set]
theorem wcells_set (ws : List Int) (k : Nat) (x : Int) : (wcells ws).set k (.int .u32 x) = wcells (ws.set k x) := by simp [wcells, List.map_set]
end Go.Proofs.Ytajhfijpbfikkaa
