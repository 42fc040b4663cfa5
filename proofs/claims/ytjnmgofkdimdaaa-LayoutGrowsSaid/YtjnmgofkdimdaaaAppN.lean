/- append of any row of structs of integers onto a list of the call's own; several orders joined in one goal. Over any program. No condition but those in the statements. -/
import Derived.Test.YtjnmgofkdimdaaaOff
import Derived.Test.YtjnmgofkdimdaaaKitN
import Derived.Deep.RegionLaw
import Derived.Deep.RegionLawGrows
namespace Go.Proofs.Ytjnmgofkdimdaaa
open Go.RowKit Go.Sort
set_option linter.unusedVariables false
set_option linter.unusedSimpArgs false

structure Lock (T : Prop) : Prop where
  get : T
theorem cut2 {T G : Prop} (six : T) (body : Lock T → G) : G := body ⟨six⟩
theorem rcells_ones {ks : List IntKind} {l : List (List Int)} : ∀ u ∈ rcells ks l, u.oneCell' = true := by
  intro u hu
  unfold rcells at hu
  rw [List.mem_flatten] at hu
  obtain ⟨cs, hcs, hu⟩ := hu
  obtain ⟨x, _, rfl⟩ := List.mem_map.1 hcs
  exact ncells_one ks x u hu
/-- A row's cells, one behind the other. -/
theorem RowN.news {ks : List IntKind} {w : World} {B : Nat} {a : Addr} {l : List (List Int)} (hk : 0 < ks.length) (h : RowN ks w B (some a) l) (hw : wfR ks l) : ∀ j u, (rcells ks l)[j]? = some u → w.cell? (a.add j) = some u := by
  intro j u hj
  have hlen := rcells_len hw
  have hjl : j < l.length * ks.length := by have := (List.getElem?_eq_some_iff.1 hj).1; omega
  have hpos : 0 < l.length := by
    rcases Nat.eq_zero_or_pos l.length with h0 | h0
    · rw [h0] at hjl; omega
    · exact h0
  obtain ⟨b, o, hA, _, hc⟩ := h hpos
  cases hA
  have hi : j / ks.length < l.length := Nat.div_lt_of_lt_mul (by rw [Nat.mul_comm]; exact hjl)
  have hjm : j % ks.length < ks.length := Nat.mod_lt _ hk
  have hx : l[j / ks.length]? = some l[j / ks.length] := List.getElem?_eq_getElem hi
  have h1 := rcells_at hw hx (j % ks.length) hjm
  rw [Nat.mul_comm, Nat.div_add_mod, hj] at h1
  have h2 := hc _ _ hx (j % ks.length) u h1.symm
  rw [Addr.add_lit]
  rw [Nat.add_assoc, Nat.mul_comm, Nat.div_add_mod] at h2
  exact h2
section
variable {P : Program} (w : World)
theorem run_append_rowN (ks : List IntKind) (hk : 0 < ks.length) (base : Nat) (t ty e : TypeId) (i : TypeInfo) (z : Value) (bytes : Nat) (ht : P.underlying t = some (.slice e)) (hi : P.info? e = some i) (hz : i.zero = some z) (hsize : i.size = ks.length) (hby : i.bytes = bytes) (hzs : z.cells.size = ks.length)
    (v : Value) (n : Nat) (xs : List Value) (hown : OwnsOff w base e ks.length v n xs) (B : Nat) (A : Option Addr) (c : Nat) (l : List (List Int)) (hrow : RowN ks w B A l) (hw : wfR ks l) (hnil : A = none → l = [])
    (h63 : n + l.length ≤ maxLen) (hbytes : (n + l.length) * bytes ≤ 140737488355328) (hbase : base ≤ w.heap.size) :
    ∃ v' w', (Builtin.append_ #[t, t] ty #[v, .slice A l.length c]).run P w = .ok v' w' ∧ OwnsOff w' base e ks.length v' (n + l.length) (xs ++ rcells ks l) ∧ w.grownBy w' v.ownBlock ∧
      (∀ g, v'.ownBlock = some g → v.ownBlock = some g ∨ w.heap.size ≤ g) := by
  cases A with
  | some a => exact run_append_off (P := P) w base t ty e i z ks.length bytes ht hi hz hsize hby hzs hk v n xs hown a l.length c (rcells ks l) (by rw [rcells_len hw]) (RowN.news hk hrow hw) rcells_ones h63 hbytes hbase
  | none =>
    obtain rfl := hnil rfl
    refine ⟨v, w, ?_, by simpa [rcells] using hown, ⟨rfl, rfl, rfl, Nat.le_refl _, fun _ _ _ => rfl⟩, fun g h => .inl h⟩
    rcases hown.2 with ⟨rfl, rfl⟩ | ⟨g, off, cap, cur, rfl, hb, hg, hnc, hcm, hcs, htk⟩
    · simp [Builtin.append_, run_underlying ht, sizeOf, typeInfo, hi, Builtin.lenOf, Builtin.firstCells]
    · simp [Builtin.append_, run_underlying ht, sizeOf, typeInfo, hi, Builtin.lenOf, Builtin.firstCells, hnc, storeCells]
end
/-- The same, as a step of a region that draws. -/
theorem step_append_rowN {P : Program} {ops : Array Oper} {o : Oper} {a : Act} {w : World} {K : Act → World → Prop} {Q : Exit → Act → World → Prop} {E : Prop} (hgd : o.guard = none) (s x : Operand) (t : TypeId)
    (ho : o.op = .call { callee := .builtin .append, args := #[s, x], argTypes := #[t, t] })
    (ks : List IntKind) (hk : 0 < ks.length) (base : Nat) (e : TypeId) (i : TypeInfo) (z : Value) (bytes : Nat) (ht : P.underlying t = some (.slice e)) (hi : P.info? e = some i) (hz : i.zero = some z) (hsize : i.size = ks.length) (hby : i.bytes = bytes) (hzs : z.cells.size = ks.length)
    (v : Value) (n : Nat) (xs : List Value) (hs : a.eval s = v) (hown : OwnsOff w base e ks.length v n xs) (B : Nat) (A : Option Addr) (c : Nat) (l : List (List Int)) (hx : a.eval x = .slice A l.length c) (hrow : RowN ks w B A l) (hw : wfR ks l) (hnil : A = none → l = [])
    (h63 : n + l.length ≤ maxLen) (hbytes : (n + l.length) * bytes ≤ 140737488355328) (hbase : base ≤ w.heap.size)
    (h : ∀ v' w', OwnsOff w' base e ks.length v' (n + l.length) (xs ++ rcells ks l) → w.grownBy w' v.ownBlock → (∀ g, v'.ownBlock = some g → v.ownBlock = some g ∨ w.heap.size ≤ g) → K (a.put o.dst v') w') :
    if Region.wanted o (yielded ops a.tmps) = true then Oper.wp P o a w K Q else E := by
  have hw' : Region.wanted o (yielded ops a.tmps) = true := by simp [Region.wanted, hgd]
  rw [if_pos hw']
  obtain ⟨v', w', hrun, r1, r2, r3⟩ := run_append_rowN (P := P) w ks hk base t o.type e i z bytes ht hi hz hsize hby hzs v n xs hown B A c l hrow hw hnil h63 hbytes hbase
  unfold Oper.wp
  simp [execOp, ho, resolve, invoke, builtin, hs, hx, hrun, Result.andThen]
  exact h v' w' r1 r2 r3
end Go.Proofs.Ytjnmgofkdimdaaa
