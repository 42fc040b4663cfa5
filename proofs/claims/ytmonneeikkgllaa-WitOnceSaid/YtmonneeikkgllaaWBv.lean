/- Deliveries, as plain data: their cells, a list of them, in memory; such a list that came in. No condition but those in the statements. -/
import Derived.Test.YtmonneeikkgllaaHCl
import Derived.Test.YtmonneeikkgllaaWRw
import Derived.BigQuiet
import Derived.IntWalk
import Derived.BigRegion
import Derived.OpenShut
import Derived.Deep.MidRow
import Derived.Lib.Hide
import Derived.Deep.Slices
import Derived.Lib.SmallJoins
namespace Go.Proofs.Ytmonneeikkgllaa
open WtP Go.RowKit Go.Sort Go.Deep Go.ChangeShapes Go.WideShapes Go.Joins
set_option linter.unusedVariables false
set_option linter.unusedSimpArgs false


/-- A delivery. -/
structure BV where
  part : Int
  pa : Option Addr
  pn : Nat
  pc : Nat
  mom : Int
  tick : Int
  own : Int
  deriving Inhabited
@[irreducible] def bCells (v : BV) : List Value := [.int .i64 v.part, .slice v.pa v.pn v.pc, .int .i64 v.mom, .int .i64 v.tick, .int .i64 v.own]
theorem bCells_len (v : BV) : (bCells v).length = 5 := by unfold bCells; rfl
theorem bCells_size (v : BV) : (bCells v).toArray.size = 5 := by rw [List.size_toArray, bCells_len]
theorem bCells_info (v : BV) : (Try.prog.info? 59).map (·.size) = some (bCells v).length := by rw [bCells_len]; kernel_rfl
theorem bCells_infoA (v : BV) : (Try.prog.info? 59).map (·.size) = some (bCells v).toArray.size := by rw [bCells_size]; kernel_rfl
theorem bCells_one (v : BV) : (bCells v).toArray.all (·.oneCell') = true := by unfold bCells; simp [Value.oneCell']
theorem bCells_mom (v : BV) : (bCells v)[2]? = some (.int .i64 v.mom) := by unfold bCells; rfl
theorem bCells_part (v : BV) : (bCells v)[0]? = some (.int .i64 v.part) := by unfold bCells; rfl
def BAt (w : World) (b o : Nat) (v : BV) : Prop := w.rangeAt b o (bCells v)
theorem BAt.mom {w : World} {b o : Nat} {v : BV} (h : BAt w b o v) : w.cell? ⟨b, o + 2, none⟩ = some (.int .i64 v.mom) := h 2 _ (bCells_mom v)
theorem BAt.b_mom {w : World} {b : Nat} {v : BV} (h : BAt w b 0 v) : w.cell? ⟨b, 2, none⟩ = some (.int .i64 v.mom) := by have := h.mom; rwa [Nat.zero_add] at this
theorem BAt.later {w w' : World} {B b o : Nat} {v : BV} (h : BAt w b o v) (hb : Below B w w') (hlt : b < B) : BAt w' b o v := fun j x hx => (hb.cell (p := ⟨b, o + j, none⟩) hlt).trans (h j x hx)
section
variable {ops : Array Oper} {rest : List Oper} {o : Oper} {a : Act} {w : World} {Q : Exit → Act → World → Prop}
theorem wpList_loadB (hwt : Region.wanted o (yielded ops a.tmps) = true) (x : Operand) (ho : o.op = .load 59 x) (b k : Nat) (v : BV) (hx : a.eval x = .pointer (some ⟨b, k, none⟩)) (hc : BAt w b k v)
    (h : wpList Try.prog ops Q rest (a.put o.dst (.agg (bCells v).toArray)) w) : wpList Try.prog ops Q (o :: rest) a w := by
  refine wpList_step fun K hK => ?_
  rw [if_pos hwt]
  exact wp_load_mid 59 x ho b k hx (bCells v) _ hc Try.underlying59 rfl (bCells_info v) (hK _ _ h)
end
/-- A slice's row of deliveries, at a block below number B. -/
def BRow (w : World) (B : Nat) (A : Option Addr) (l : List BV) : Prop :=
  0 < l.length → ∃ b o, A = some ⟨b, o, none⟩ ∧ b < B ∧ ∀ (i : Nat) (v : BV), l[i]? = some v → BAt w b (o + i * 5) v
theorem BRow.below {w w' : World} {B : Nat} {A : Option Addr} {l : List BV} (h : BRow w B A l) (hb : Below B w w') : BRow w' B A l := fun hn => by
  obtain ⟨b, o, hA, hlt, hc⟩ := h hn
  exact ⟨b, o, hA, hlt, fun i v hv => (hc i v hv).later hb hlt⟩
theorem BRow.more {w : World} {B B' : Nat} {A : Option Addr} {l : List BV} (h : BRow w B A l) (hb : B ≤ B') : BRow w B' A l := fun hn => by
  obtain ⟨b, o, hA, hlt, hc⟩ := h hn
  exact ⟨b, o, hA, by omega, hc⟩
theorem BRow.later {w w' : World} {A : Option Addr} {l : List BV} (h : BRow w w.heap.size A l) (hb : Below w.heap.size w w') : BRow w' w'.heap.size A l := (h.below hb).more hb.size
theorem BRow.at_ {w : World} {B : Nat} {A : Option Addr} {l : List BV} (h : BRow w B A l) {i : Nat} (hi : i < l.length) : ∃ (b o : Nat) (v : BV), A = some ⟨b, o, none⟩ ∧ b < B ∧ l[i]? = some v ∧ ∀ w', Below B w w' → BAt w' b (o + i * 5) v := by
  obtain ⟨b, o, hA, hlt, hc⟩ := h (by omega)
  exact ⟨b, o, _, hA, hlt, List.getElem?_eq_getElem hi, fun w' hb => (hc i _ (List.getElem?_eq_getElem hi)).later hb hlt⟩
/-- A variable of its own that holds a delivery: made, then stored into. -/
theorem varB (w : World) (v : BV) : ∃ W1 W2, Hid (W1 = w.alloc (.cells #[.int .i64 0, .slice none 0 0, .int .i64 0, .int .i64 0, .int .i64 0] 59)) ∧ Hid (W2 = W1.setCells w.heap.size 0 (bCells v).toArray.toList) ∧ W1.there w.heap.size 0 (bCells v).toArray.size ∧ Below w.heap.size w W2 ∧ W2.heap.size = w.heap.size + 1 ∧ BAt W2 w.heap.size 0 v := by
  have hth : (w.alloc (.cells #[.int .i64 0, .slice none 0 0, .int .i64 0, .int .i64 0, .int .i64 0] 59)).there w.heap.size 0 (bCells v).toArray.size := there_at (heap_alloc_new w _) (by rw [bCells_size]; rfl)
  refine ⟨_, _, rfl, rfl, hth, below_setCells _ _ _ ((Below.refl _ _).alloc (Nat.le_refl _) _) (Nat.le_refl _), by rw [size_setCells]; simp, ?_⟩
  exact World.rangeAt_setCells_same _ _ _ _ (by simpa using hth)
section
variable {H : Type} {enc : TypeId × Value → H} {w : World}
theorem list5 {α : Type} {l : List α} (h : l.length = 5) : ∃ x0 x1 x2 x3 x4, l = [x0, x1, x2, x3, x4] := by
  match l, h with
  | [x0, x1, x2, x3, x4], _ => exact ⟨x0, x1, x2, x3, x4, rfl⟩
set_option maxRecDepth 100000 in
theorem open_bell {n : Nat} {cs : List Value} {x : DataW H × List MemPlace} (h : DataW.trod enc Try.prog w 0 (fun _ => true) true n 59 cs = some x) : ∃ v : BV, cs = bCells v := by
  obtain ⟨xs, m, _, _, hcl, hxl, hf⟩ := DataW.trod_struct Try.underlying59 h
  obtain ⟨x0, x1, x2, x3, x4, rfl⟩ := list5 (hcl.trans (by kernel_rfl))
  simp only [List.size_toArray, List.length_cons, List.length_nil] at hxl
  have h0 := hf 0 _ rfl
  have h1 := hf 1 _ rfl
  have h2 := hf 2 _ rfl
  have h3 := hf 3 _ rfl
  have h4 := hf 4 _ rfl
  have k0 : Try.prog.cellsOf 3 = 1 := by kernel_rfl
  have k1 : Try.prog.cellsOf 41 = 1 := by kernel_rfl
  rw [List.getElem?_eq_getElem (by omega)] at h0 h1 h2 h3 h4
  simp [k0, k1] at h0 h1 h2 h3 h4
  obtain ⟨n0, e0, _, _⟩ := DataW.trod_int Try.underlying3 h0
  obtain ⟨a1, q1, c1, e1⟩ := slice_form Try.underlying41 h1
  obtain ⟨n2, e2, _, _⟩ := DataW.trod_int Try.underlying3 h2
  obtain ⟨n3, e3, _, _⟩ := DataW.trod_int Try.underlying3 h3
  obtain ⟨n4, e4, _, _⟩ := DataW.trod_int Try.underlying3 h4
  simp at e0 e1 e2 e3 e4
  subst e0 e1 e2 e3 e4
  exact ⟨⟨n0, a1, q1, c1, n2, n3, n4⟩, by unfold bCells; rfl⟩
/-- A []api.Belling that came in, opened. -/
theorem bells_arg {a : Option Addr} {len cap : Nat} {d : DataW H} {p : List MemPlace} (h : DataW.Trod enc Try.prog w 0 (fun _ => true) true 23 (.slice a len cap) d p) :
    ∃ l : List BV, len = l.length ∧ len ≤ cap ∧ cap ≤ maxLen ∧ (a = none → l = []) ∧ BRow w w.heap.size a l := by
  obtain ⟨fuel, h⟩ := h
  simp only [Value.cells] at h
  rcases open_slice Try.underlying23 h with ⟨hcs, _⟩ | ⟨a', len', cap', m, n', D, Pl, hcs, _, hl, hm, hmm, _, hx⟩
  · simp at hcs
    obtain ⟨rfl, rfl, rfl⟩ := hcs
    exact ⟨[], rfl, Nat.le_refl _, by unfold maxLen; omega, fun _ => rfl, fun hn => absurd hn (by simp)⟩
  · simp at hcs
    obtain ⟨rfl, rfl, rfl⟩ := hcs
    have hlm : len ≤ m := by rw [hmm]; split <;> omega
    have hC : Try.prog.cellsOf 59 = 5 := by kernel_rfl
    obtain ⟨F, hF⟩ := choose_lt (n := len) (α := BV) (p := fun i v => w.cells? 0 (a'.add (i * 5)) 5 = some (bCells v)) (fun i hi => by
      obtain ⟨cs', h1, h2⟩ := hx i (by omega)
      rw [hC] at h1
      obtain ⟨v, rfl⟩ := open_bell h2
      exact ⟨v, h1⟩)
    refine ⟨(List.range len).map F, by simp, hl, hm, (fun h => by cases h), fun hq => ?_⟩
    simp at hq
    obtain ⟨b, off, spot⟩ := a'
    obtain ⟨_, hlen0, hc0⟩ := World.cells?_some (hF 0 hq)
    have hc := hc0 0 (by omega)
    rw [bCells_part] at hc
    have hspot : spot = none := by simpa [Addr.add] using World.cell?_spot hc
    subst hspot
    have hblk : b < w.heap.size := by
      have := World.block_lt_of_cell? w _ hc
      simpa [Addr.add] using this
    refine ⟨b, off, rfl, hblk, fun i v hv => ?_⟩
    have hi : i < len := by have := (List.getElem?_eq_some_iff.1 hv).1; simpa using this
    simp [hi] at hv
    subst hv
    obtain ⟨_, hlen1, hc1⟩ := World.cells?_some (hF i hi)
    intro j x hx
    have hj : j < 5 := by have := (List.getElem?_eq_some_iff.1 hx).1; rw [bCells_len] at this; exact this
    have := hc1 j hj
    rw [hx, add_add, Addr.add_lit, ← Nat.add_assoc] at this
    exact this
end
end Go.Proofs.Ytmonneeikkgllaa
