/- Calls, as plain data: their cells, a list of them, in memory. No condition but those in the statements. -/
import Derived.Test.YtmonneeikkgllaaKit
import Derived.Test.YtmonneeikkgllaaKitI
import Derived.Test.YtmonneeikkgllaaProg
import Derived.Test.YtmonneeikkgllaaOff
import Derived.BigQuiet
import Derived.IntWalk
import Derived.BigRegion
import Derived.OpenShut
import Derived.Deep.MidRow
import Derived.Deep.Slices
import Derived.Lib.SmallJoins

namespace Go.Proofs.Ytmonneeikkgllaa
open Go.RowKit Go.Sort Go.Deep Go.ChangeShapes Go.WideShapes Go.Joins
set_option linter.unusedVariables false
set_option linter.unusedSimpArgs false


/-- A call. -/
structure CV where
  part : Int
  op : Int
  port : Int
  addr : Int
  rd : List Int
  ra : Option Addr
  rc : Nat
  code : Int
  ad : List Int
  aa : Option Addr
  ac : Nat
  valid : Bool
  count : Int
  done : Bool
  frm : Int
  to : Int
  t0 : Int
  t1 : Int
  own0 : Int
  own1 : Int
  mark : Int
  ring : Int
  stamp : Int
  saw : Int
  deriving Inhabited
/-- Its cells. -/
@[irreducible] def cCells (v : CV) : List Value := [.int .i64 v.part, .int .i64 v.op, .int .i64 v.port, .int .u64 v.addr, .slice v.ra v.rd.length v.rc, .int .i64 v.code, .slice v.aa v.ad.length v.ac, .bool v.valid, .int .i64 v.count, .bool v.done, .int .i64 v.frm, .int .i64 v.to, .int .i64 v.t0, .int .i64 v.t1, .int .i64 v.own0, .int .i64 v.own1, .int .i64 v.mark, .int .i64 v.ring, .int .i64 v.stamp, .int .i64 v.saw]
theorem cCells_len (v : CV) : (cCells v).length = 20 := by unfold cCells; rfl
theorem cCells_size (v : CV) : (cCells v).toArray.size = 20 := by rw [List.size_toArray, cCells_len]
theorem cCells_info (v : CV) : (Try.prog.info? 51).map (·.size) = some (cCells v).length := by rw [cCells_len]; kernel_rfl
theorem cCells_infoA (v : CV) : (Try.prog.info? 51).map (·.size) = some (cCells v).toArray.size := by rw [cCells_size]; kernel_rfl
theorem cCells_one (v : CV) : (cCells v).toArray.all (·.oneCell') = true := by unfold cCells; simp [Value.oneCell']
theorem cCells_part (v : CV) : (cCells v)[0]? = some (.int .i64 v.part) := by unfold cCells; rfl
theorem cCells_op (v : CV) : (cCells v)[1]? = some (.int .i64 v.op) := by unfold cCells; rfl
theorem cCells_port (v : CV) : (cCells v)[2]? = some (.int .i64 v.port) := by unfold cCells; rfl
theorem cCells_addr (v : CV) : (cCells v)[3]? = some (.int .u64 v.addr) := by unfold cCells; rfl
theorem cCells_rd (v : CV) : (cCells v)[4]? = some (.slice v.ra v.rd.length v.rc) := by unfold cCells; rfl
theorem cCells_code (v : CV) : (cCells v)[5]? = some (.int .i64 v.code) := by unfold cCells; rfl
theorem cCells_ad (v : CV) : (cCells v)[6]? = some (.slice v.aa v.ad.length v.ac) := by unfold cCells; rfl
theorem cCells_valid (v : CV) : (cCells v)[7]? = some (.bool v.valid) := by unfold cCells; rfl
theorem cCells_count (v : CV) : (cCells v)[8]? = some (.int .i64 v.count) := by unfold cCells; rfl
theorem cCells_done (v : CV) : (cCells v)[9]? = some (.bool v.done) := by unfold cCells; rfl
theorem cCells_frm (v : CV) : (cCells v)[10]? = some (.int .i64 v.frm) := by unfold cCells; rfl
theorem cCells_to (v : CV) : (cCells v)[11]? = some (.int .i64 v.to) := by unfold cCells; rfl
theorem cCells_t0 (v : CV) : (cCells v)[12]? = some (.int .i64 v.t0) := by unfold cCells; rfl
theorem cCells_t1 (v : CV) : (cCells v)[13]? = some (.int .i64 v.t1) := by unfold cCells; rfl
theorem cCells_own0 (v : CV) : (cCells v)[14]? = some (.int .i64 v.own0) := by unfold cCells; rfl
theorem cCells_own1 (v : CV) : (cCells v)[15]? = some (.int .i64 v.own1) := by unfold cCells; rfl
theorem cCells_mark (v : CV) : (cCells v)[16]? = some (.int .i64 v.mark) := by unfold cCells; rfl
theorem cCells_ring (v : CV) : (cCells v)[17]? = some (.int .i64 v.ring) := by unfold cCells; rfl
theorem cCells_stamp (v : CV) : (cCells v)[18]? = some (.int .i64 v.stamp) := by unfold cCells; rfl
theorem cCells_saw (v : CV) : (cCells v)[19]? = some (.int .i64 v.saw) := by unfold cCells; rfl
theorem cCells_inj {u v : CV} (h : cCells u = cCells v) : u.part = v.part ∧ u.op = v.op ∧ u.done = v.done ∧ u.frm = v.frm ∧ u.to = v.to ∧ u.t0 = v.t0 ∧ u.t1 = v.t1 ∧ u.own0 = v.own0 ∧ u.own1 = v.own1 ∧ u.mark = v.mark ∧ u.ring = v.ring ∧ u.saw = v.saw := by
  unfold cCells at h
  simp at h
  simp [h]
/-- A call lies in block b from o on. -/
def CAt (w : World) (b o : Nat) (v : CV) : Prop := w.rangeAt b o (cCells v)
theorem CAt.load {w : World} {b o : Nat} {v : CV} (h : CAt w b o v) : (Instr.loadAt 51 (.pointer (some ⟨b, o, none⟩))).run Try.prog w = .ok (.agg (cCells v).toArray) w :=
  run_loadAt_mid w b o 51 (cCells v) _ h Try.underlying51 rfl (cCells_info v)
section
variable {ops : Array Oper} {rest : List Oper} {o : Oper} {a : Act} {w : World} {Q : Exit → Act → World → Prop}
/-- A load of a whole call, behind a guard too. -/
theorem wpList_loadC (hwt : Region.wanted o (yielded ops a.tmps) = true) (x : Operand) (ho : o.op = .load 51 x) (b k : Nat) (v : CV) (hx : a.eval x = .pointer (some ⟨b, k, none⟩)) (hc : CAt w b k v)
    (h : wpList Try.prog ops Q rest (a.put o.dst (.agg (cCells v).toArray)) w) : wpList Try.prog ops Q (o :: rest) a w := by
  refine wpList_step fun K hK => ?_
  rw [if_pos hwt]
  exact wp_load_mid 51 x ho b k hx (cCells v) _ hc Try.underlying51 rfl (cCells_info v) (hK _ _ h)
end
theorem CAt.part {w : World} {b o : Nat} {v : CV} (h : CAt w b o v) : w.cell? ⟨b, o + 0, none⟩ = some (.int .i64 v.part) := h 0 _ (cCells_part v)
theorem CAt.op {w : World} {b o : Nat} {v : CV} (h : CAt w b o v) : w.cell? ⟨b, o + 1, none⟩ = some (.int .i64 v.op) := h 1 _ (cCells_op v)
theorem CAt.port {w : World} {b o : Nat} {v : CV} (h : CAt w b o v) : w.cell? ⟨b, o + 2, none⟩ = some (.int .i64 v.port) := h 2 _ (cCells_port v)
theorem CAt.addr {w : World} {b o : Nat} {v : CV} (h : CAt w b o v) : w.cell? ⟨b, o + 3, none⟩ = some (.int .u64 v.addr) := h 3 _ (cCells_addr v)
theorem CAt.rd {w : World} {b o : Nat} {v : CV} (h : CAt w b o v) : w.cell? ⟨b, o + 4, none⟩ = some (.slice v.ra v.rd.length v.rc) := h 4 _ (cCells_rd v)
theorem CAt.code {w : World} {b o : Nat} {v : CV} (h : CAt w b o v) : w.cell? ⟨b, o + 5, none⟩ = some (.int .i64 v.code) := h 5 _ (cCells_code v)
theorem CAt.ad {w : World} {b o : Nat} {v : CV} (h : CAt w b o v) : w.cell? ⟨b, o + 6, none⟩ = some (.slice v.aa v.ad.length v.ac) := h 6 _ (cCells_ad v)
theorem CAt.valid {w : World} {b o : Nat} {v : CV} (h : CAt w b o v) : w.cell? ⟨b, o + 7, none⟩ = some (.bool v.valid) := h 7 _ (cCells_valid v)
theorem CAt.count {w : World} {b o : Nat} {v : CV} (h : CAt w b o v) : w.cell? ⟨b, o + 8, none⟩ = some (.int .i64 v.count) := h 8 _ (cCells_count v)
theorem CAt.done {w : World} {b o : Nat} {v : CV} (h : CAt w b o v) : w.cell? ⟨b, o + 9, none⟩ = some (.bool v.done) := h 9 _ (cCells_done v)
theorem CAt.frm {w : World} {b o : Nat} {v : CV} (h : CAt w b o v) : w.cell? ⟨b, o + 10, none⟩ = some (.int .i64 v.frm) := h 10 _ (cCells_frm v)
theorem CAt.to {w : World} {b o : Nat} {v : CV} (h : CAt w b o v) : w.cell? ⟨b, o + 11, none⟩ = some (.int .i64 v.to) := h 11 _ (cCells_to v)
theorem CAt.t0 {w : World} {b o : Nat} {v : CV} (h : CAt w b o v) : w.cell? ⟨b, o + 12, none⟩ = some (.int .i64 v.t0) := h 12 _ (cCells_t0 v)
theorem CAt.t1 {w : World} {b o : Nat} {v : CV} (h : CAt w b o v) : w.cell? ⟨b, o + 13, none⟩ = some (.int .i64 v.t1) := h 13 _ (cCells_t1 v)
theorem CAt.own0 {w : World} {b o : Nat} {v : CV} (h : CAt w b o v) : w.cell? ⟨b, o + 14, none⟩ = some (.int .i64 v.own0) := h 14 _ (cCells_own0 v)
theorem CAt.own1 {w : World} {b o : Nat} {v : CV} (h : CAt w b o v) : w.cell? ⟨b, o + 15, none⟩ = some (.int .i64 v.own1) := h 15 _ (cCells_own1 v)
theorem CAt.mark {w : World} {b o : Nat} {v : CV} (h : CAt w b o v) : w.cell? ⟨b, o + 16, none⟩ = some (.int .i64 v.mark) := h 16 _ (cCells_mark v)
theorem CAt.ring {w : World} {b o : Nat} {v : CV} (h : CAt w b o v) : w.cell? ⟨b, o + 17, none⟩ = some (.int .i64 v.ring) := h 17 _ (cCells_ring v)
theorem CAt.stamp {w : World} {b o : Nat} {v : CV} (h : CAt w b o v) : w.cell? ⟨b, o + 18, none⟩ = some (.int .i64 v.stamp) := h 18 _ (cCells_stamp v)
theorem CAt.saw {w : World} {b o : Nat} {v : CV} (h : CAt w b o v) : w.cell? ⟨b, o + 19, none⟩ = some (.int .i64 v.saw) := h 19 _ (cCells_saw v)
theorem CAt.b_part {w : World} {b : Nat} {v : CV} (h : CAt w b 0 v) : w.cell? ⟨b, 0, none⟩ = some (.int .i64 v.part) := by have := h.part; rwa [Nat.zero_add] at this
theorem CAt.b_op {w : World} {b : Nat} {v : CV} (h : CAt w b 0 v) : w.cell? ⟨b, 1, none⟩ = some (.int .i64 v.op) := by have := h.op; rwa [Nat.zero_add] at this
theorem CAt.b_port {w : World} {b : Nat} {v : CV} (h : CAt w b 0 v) : w.cell? ⟨b, 2, none⟩ = some (.int .i64 v.port) := by have := h.port; rwa [Nat.zero_add] at this
theorem CAt.b_addr {w : World} {b : Nat} {v : CV} (h : CAt w b 0 v) : w.cell? ⟨b, 3, none⟩ = some (.int .u64 v.addr) := by have := h.addr; rwa [Nat.zero_add] at this
theorem CAt.b_rd {w : World} {b : Nat} {v : CV} (h : CAt w b 0 v) : w.cell? ⟨b, 4, none⟩ = some (.slice v.ra v.rd.length v.rc) := by have := h.rd; rwa [Nat.zero_add] at this
theorem CAt.b_code {w : World} {b : Nat} {v : CV} (h : CAt w b 0 v) : w.cell? ⟨b, 5, none⟩ = some (.int .i64 v.code) := by have := h.code; rwa [Nat.zero_add] at this
theorem CAt.b_ad {w : World} {b : Nat} {v : CV} (h : CAt w b 0 v) : w.cell? ⟨b, 6, none⟩ = some (.slice v.aa v.ad.length v.ac) := by have := h.ad; rwa [Nat.zero_add] at this
theorem CAt.b_valid {w : World} {b : Nat} {v : CV} (h : CAt w b 0 v) : w.cell? ⟨b, 7, none⟩ = some (.bool v.valid) := by have := h.valid; rwa [Nat.zero_add] at this
theorem CAt.b_count {w : World} {b : Nat} {v : CV} (h : CAt w b 0 v) : w.cell? ⟨b, 8, none⟩ = some (.int .i64 v.count) := by have := h.count; rwa [Nat.zero_add] at this
theorem CAt.b_done {w : World} {b : Nat} {v : CV} (h : CAt w b 0 v) : w.cell? ⟨b, 9, none⟩ = some (.bool v.done) := by have := h.done; rwa [Nat.zero_add] at this
theorem CAt.b_frm {w : World} {b : Nat} {v : CV} (h : CAt w b 0 v) : w.cell? ⟨b, 10, none⟩ = some (.int .i64 v.frm) := by have := h.frm; rwa [Nat.zero_add] at this
theorem CAt.b_to {w : World} {b : Nat} {v : CV} (h : CAt w b 0 v) : w.cell? ⟨b, 11, none⟩ = some (.int .i64 v.to) := by have := h.to; rwa [Nat.zero_add] at this
theorem CAt.b_t0 {w : World} {b : Nat} {v : CV} (h : CAt w b 0 v) : w.cell? ⟨b, 12, none⟩ = some (.int .i64 v.t0) := by have := h.t0; rwa [Nat.zero_add] at this
theorem CAt.b_t1 {w : World} {b : Nat} {v : CV} (h : CAt w b 0 v) : w.cell? ⟨b, 13, none⟩ = some (.int .i64 v.t1) := by have := h.t1; rwa [Nat.zero_add] at this
theorem CAt.b_own0 {w : World} {b : Nat} {v : CV} (h : CAt w b 0 v) : w.cell? ⟨b, 14, none⟩ = some (.int .i64 v.own0) := by have := h.own0; rwa [Nat.zero_add] at this
theorem CAt.b_own1 {w : World} {b : Nat} {v : CV} (h : CAt w b 0 v) : w.cell? ⟨b, 15, none⟩ = some (.int .i64 v.own1) := by have := h.own1; rwa [Nat.zero_add] at this
theorem CAt.b_mark {w : World} {b : Nat} {v : CV} (h : CAt w b 0 v) : w.cell? ⟨b, 16, none⟩ = some (.int .i64 v.mark) := by have := h.mark; rwa [Nat.zero_add] at this
theorem CAt.b_ring {w : World} {b : Nat} {v : CV} (h : CAt w b 0 v) : w.cell? ⟨b, 17, none⟩ = some (.int .i64 v.ring) := by have := h.ring; rwa [Nat.zero_add] at this
theorem CAt.b_stamp {w : World} {b : Nat} {v : CV} (h : CAt w b 0 v) : w.cell? ⟨b, 18, none⟩ = some (.int .i64 v.stamp) := by have := h.stamp; rwa [Nat.zero_add] at this
theorem CAt.b_saw {w : World} {b : Nat} {v : CV} (h : CAt w b 0 v) : w.cell? ⟨b, 19, none⟩ = some (.int .i64 v.saw) := by have := h.saw; rwa [Nat.zero_add] at this
theorem CAt.e_part {w : World} {b o : Nat} {v : CV} (h : CAt w b o v) : w.cell? ⟨b, o, none⟩ = some (.int .i64 v.part) := h.part
theorem CAt.later {w w' : World} {B b o : Nat} {v : CV} (h : CAt w b o v) (hb : Below B w w') (hlt : b < B) : CAt w' b o v := fun j x hx => (hb.cell (p := ⟨b, o + j, none⟩) hlt).trans (h j x hx)
theorem CAt.lt {w : World} {b o : Nat} {v : CV} (h : CAt w b o v) : b < w.heap.size := World.block_lt_of_cell? w _ h.part
theorem CAt.of_blk {w : World} {b : Nat} {v : CV} {t : TypeId} {m : Nat × Nat} (h : w.heap[b]? = some (.cells (cCells v).toArray t m)) : CAt w b 0 v := fun j x hx => by
  simp [World.cell?, h, hx]
/-- A call in a box. -/
theorem box17 (w : World) (v : CV) : ∃ W, Hid (W = w.alloc (.cells (cCells v).toArray 51)) ∧ Below w.heap.size w W ∧ W.heap.size = w.heap.size + 1 ∧ CAt W w.heap.size 0 v :=
  ⟨_, rfl, (Below.refl _ _).alloc (Nat.le_refl _) _, by simp, CAt.of_blk (heap_alloc_new w _)⟩
/-- Two of them. -/
theorem boxes17 (w : World) (u v : CV) : ∃ W, Hid (W = (w.alloc (.cells (cCells u).toArray 51)).alloc (.cells (cCells v).toArray 51)) ∧ Below w.heap.size w W ∧ W.heap.size = w.heap.size + 2 ∧ CAt W w.heap.size 0 u ∧ CAt W (w.heap.size + 1) 0 v := by
  refine ⟨_, rfl, ((Below.refl _ _).alloc (Nat.le_refl _) _).alloc (by simp) _, by simp, ?_, CAt.of_blk (by have := heap_alloc_new (w.alloc (.cells (cCells u).toArray 51)) (.cells (cCells v).toArray 51); simpa using this)⟩
  exact CAt.of_blk ((Below.heap_alloc _ _ _ (by simp)).trans (heap_alloc_new w _))
/-- What a call's numbers are: what its rows hold. -/
structure CWf (v : CV) : Prop where
  part : (Lit.int .i64 v.part).wf = true
  own0 : (Lit.int .i64 v.own0).wf = true
  own1 : (Lit.int .i64 v.own1).wf = true
structure CRows (w : World) (B : Nat) (v : CV) : Prop where
  rr : IntRowK .u32 w B v.ra v.rd
  rl : v.rd.length ≤ v.rc ∧ v.rc ≤ maxLen ∧ (v.ra = none → v.rd = [])
  ar : IntRowK .u32 w B v.aa v.ad
  al : v.ad.length ≤ v.ac ∧ v.ac ≤ maxLen ∧ (v.aa = none → v.ad = [])
theorem CRows.below {w w' : World} {B : Nat} {v : CV} (h : CRows w B v) (hb : Below B w w') : CRows w' B v := ⟨h.rr.below hb, h.rl, h.ar.below hb, h.al⟩
theorem CRows.more {w : World} {B B' : Nat} {v : CV} (h : CRows w B v) (hb : B ≤ B') : CRows w B' v := ⟨h.rr.more hb, h.rl, h.ar.more hb, h.al⟩
/-- A slice's row of calls, at a block below number B. -/
def CRow (w : World) (B : Nat) (A : Option Addr) (l : List CV) : Prop :=
  0 < l.length → ∃ b o, A = some ⟨b, o, none⟩ ∧ b < B ∧ ∀ (i : Nat) (v : CV), l[i]? = some v → CAt w b (o + i * 20) v ∧ CRows w B v ∧ CWf v
theorem CRow.below {w w' : World} {B : Nat} {A : Option Addr} {l : List CV} (h : CRow w B A l) (hb : Below B w w') : CRow w' B A l := fun hn => by
  obtain ⟨b, o, hA, hlt, hc⟩ := h hn
  exact ⟨b, o, hA, hlt, fun i v hv => ⟨(hc i v hv).1.later hb hlt, (hc i v hv).2.1.below hb, (hc i v hv).2.2⟩⟩
theorem CRow.more {w : World} {B B' : Nat} {A : Option Addr} {l : List CV} (h : CRow w B A l) (hb : B ≤ B') : CRow w B' A l := fun hn => by
  obtain ⟨b, o, hA, hlt, hc⟩ := h hn
  exact ⟨b, o, hA, by omega, fun i v hv => ⟨(hc i v hv).1, (hc i v hv).2.1.more hb, (hc i v hv).2.2⟩⟩
theorem CRow.later {w w' : World} {A : Option Addr} {l : List CV} (h : CRow w w.heap.size A l) (hb : Below w.heap.size w w') : CRow w' w'.heap.size A l := (h.below hb).more hb.size
theorem CRow.take {w : World} {B : Nat} {A : Option Addr} {l : List CV} (h : CRow w B A l) (k : Nat) : CRow w B A (l.take k) := fun hn => by
  have hl : 0 < l.length := by simp at hn; omega
  obtain ⟨b, o, hA, hlt, hc⟩ := h hl
  refine ⟨b, o, hA, hlt, fun i v hv => hc i v ?_⟩
  rw [List.getElem?_take] at hv
  split at hv
  · exact hv
  · cases hv
/-- The call at place i, in every world that is as w below B. -/
theorem CRow.at_ {w : World} {B : Nat} {A : Option Addr} {l : List CV} (h : CRow w B A l) {i : Nat} (hi : i < l.length) : ∃ (b o : Nat) (v : CV), A = some ⟨b, o, none⟩ ∧ b < B ∧ l[i]? = some v ∧ CWf v ∧ ∀ w', Below B w w' → CAt w' b (o + i * 20) v ∧ CRows w' B v := by
  obtain ⟨b, o, hA, hlt, hc⟩ := h (by omega)
  obtain ⟨h1, h2, h3⟩ := hc i _ (List.getElem?_eq_getElem hi)
  exact ⟨b, o, _, hA, hlt, List.getElem?_eq_getElem hi, h3, fun w' hb => ⟨h1.later hb hlt, h2.below hb⟩⟩
theorem there_at {W : World} {b : Nat} {cs : Array Value} {ty : TypeId} {n : Nat} (h : W.heap[b]? = some (.cells cs ty (0, 0))) (hn : n = cs.size) : W.there b 0 n := fun j hj => by
  subst hn
  refine ⟨?_, by simp [World.frozen?, h]⟩
  have : W.cell? ⟨b, j, none⟩ = some cs[j] := by simp [World.cell?, h, hj]
  rw [Nat.zero_add, this]; rfl
theorem below_setCells {w : World} {b : Nat} : ∀ (vs : List Value) (o : Nat) (X : World), Below w.heap.size w X → w.heap.size ≤ b → Below w.heap.size w (X.setCells b o vs)
  | [], _, _, h, _ => h
  | v :: r, o, X, h, hb => below_setCells r (o + 1) _ (h.setCell (p := ⟨b, o, none⟩) hb v) hb
theorem size_setCells {b : Nat} : ∀ (vs : List Value) (o : Nat) (X : World), (X.setCells b o vs).heap.size = X.heap.size
  | [], _, _ => rfl
  | v :: r, o, X => by rw [World.setCells, size_setCells r (o + 1)]; simp [World.setCell]
/-- A variable of its own that holds a call: made, then stored into. -/
theorem var17 (w : World) (v : CV) (zs : Array Value) (hz : zs.size = 20) : ∃ W1 W2, Hid (W1 = w.alloc (.cells zs 51)) ∧ Hid (W2 = W1.setCells w.heap.size 0 (cCells v).toArray.toList) ∧ W1.there w.heap.size 0 (cCells v).toArray.size ∧ Below w.heap.size w W1 ∧ Below w.heap.size w W2 ∧ W2.heap.size = w.heap.size + 1 ∧ CAt W2 w.heap.size 0 v := by
  have hth : (w.alloc (.cells zs 51)).there w.heap.size 0 (cCells v).toArray.size := there_at (heap_alloc_new w _) (by rw [cCells_size, hz])
  refine ⟨_, _, rfl, rfl, hth, (Below.refl _ _).alloc (Nat.le_refl _) _, below_setCells _ _ _ ((Below.refl _ _).alloc (Nat.le_refl _) _) (Nat.le_refl _), by rw [size_setCells]; simp, ?_⟩
  exact World.rangeAt_setCells_same _ _ _ _ (by simpa using hth)
/-- Zeroes. -/
def zcv : CV := ⟨0, 0, 0, 0, [], none, 0, 0, [], none, 0, false, 0, false, 0, 0, 0, 0, 0, 0, 0, 0, 0, 0⟩
theorem zcv_cells : (cCells zcv).toArray = #[.int .i64 0, .int .i64 0, .int .i64 0, .int .u64 0, .slice none 0 0, .int .i64 0, .slice none 0 0, .bool false, .int .i64 0, .bool false, .int .i64 0, .int .i64 0, .int .i64 0, .int .i64 0, .int .i64 0, .int .i64 0, .int .i64 0, .int .i64 0, .int .i64 0, .int .i64 0] := by unfold cCells zcv; rfl
theorem zcv_wf : CWf zcv := ⟨by decide, by decide, by decide⟩
theorem zcv_rows (w : World) (B : Nat) : CRows w B zcv := ⟨fun h => absurd h (by simp [zcv]), ⟨by simp [zcv], by simp [zcv], fun _ => rfl⟩, fun h => absurd h (by simp [zcv]), ⟨by simp [zcv], by simp [zcv], fun _ => rfl⟩⟩
section
variable {H : Type} {enc : TypeId × Value → H} {w : World}
theorem list20 {α : Type} {l : List α} (h : l.length = 20) : ∃ x0 x1 x2 x3 x4 x5 x6 x7 x8 x9 x10 x11 x12 x13 x14 x15 x16 x17 x18 x19, l = [x0, x1, x2, x3, x4, x5, x6, x7, x8, x9, x10, x11, x12, x13, x14, x15, x16, x17, x18, x19] := by
  match l, h with
  | [x0, x1, x2, x3, x4, x5, x6, x7, x8, x9, x10, x11, x12, x13, x14, x15, x16, x17, x18, x19], _ => exact ⟨x0, x1, x2, x3, x4, x5, x6, x7, x8, x9, x10, x11, x12, x13, x14, x15, x16, x17, x18, x19, rfl⟩
set_option maxRecDepth 100000 in
theorem open_call {n : Nat} {cs : List Value} {x : DataW H × List MemPlace} (h : DataW.trod enc Try.prog w 0 (fun _ => true) true n 51 cs = some x) : ∃ v : CV, cs = cCells v ∧ CWf v ∧ CRows w w.heap.size v := by
  obtain ⟨xs, m, _, _, hcl, hxl, hf⟩ := DataW.trod_struct Try.underlying51 h
  obtain ⟨x0, x1, x2, x3, x4, x5, x6, x7, x8, x9, x10, x11, x12, x13, x14, x15, x16, x17, x18, x19, rfl⟩ := list20 (hcl.trans (by kernel_rfl))
  simp only [List.size_toArray, List.length_cons, List.length_nil] at hxl
  have h0 := hf 0 _ rfl
  have h1 := hf 1 _ rfl
  have h2 := hf 2 _ rfl
  have h3 := hf 3 _ rfl
  have h4 := hf 4 _ rfl
  have h5 := hf 5 _ rfl
  have h6 := hf 6 _ rfl
  have h7 := hf 7 _ rfl
  have h8 := hf 8 _ rfl
  have h9 := hf 9 _ rfl
  have h10 := hf 10 _ rfl
  have h11 := hf 11 _ rfl
  have h12 := hf 12 _ rfl
  have h13 := hf 13 _ rfl
  have k0 : Try.prog.cellsOf 3 = 1 := by kernel_rfl
  have k1 : Try.prog.cellsOf 4 = 1 := by kernel_rfl
  have k2 : Try.prog.cellsOf 46 = 4 := by kernel_rfl
  have k3 : Try.prog.cellsOf 49 = 4 := by kernel_rfl
  have k4 : Try.prog.cellsOf 43 = 1 := by kernel_rfl
  have k5 : Try.prog.cellsOf 44 = 1 := by kernel_rfl
  have k6 : Try.prog.cellsOf 47 = 1 := by kernel_rfl
  have k7 : Try.prog.cellsOf 91 = 1 := by kernel_rfl
  rw [List.getElem?_eq_getElem (by omega)] at h0 h1 h2 h3 h4 h5 h6 h7 h8 h9 h10 h11 h12 h13
  simp [k0, k1, k2, k3] at h0 h1 h2 h3 h4 h5 h6 h7 h8 h9 h10 h11 h12 h13
  obtain ⟨n_part, e_part, _, w_part⟩ := DataW.trod_int Try.underlying3 h0
  obtain ⟨n_done, e_done, _⟩ := DataW.trod_bool Try.underlying4 h3
  obtain ⟨n_frm, e_frm, _, w_frm⟩ := DataW.trod_int Try.underlying3 h4
  obtain ⟨n_to, e_to, _, w_to⟩ := DataW.trod_int Try.underlying3 h5
  obtain ⟨n_t0, e_t0, _, w_t0⟩ := DataW.trod_int Try.underlying3 h6
  obtain ⟨n_t1, e_t1, _, w_t1⟩ := DataW.trod_int Try.underlying3 h7
  obtain ⟨n_own0, e_own0, _, w_own0⟩ := DataW.trod_int Try.underlying3 h8
  obtain ⟨n_own1, e_own1, _, w_own1⟩ := DataW.trod_int Try.underlying3 h9
  obtain ⟨n_mark, e_mark, _, w_mark⟩ := DataW.trod_int Try.underlying3 h10
  obtain ⟨n_ring, e_ring, _, w_ring⟩ := DataW.trod_int Try.underlying3 h11
  obtain ⟨n_stamp, e_stamp, _, w_stamp⟩ := DataW.trod_int Try.underlying3 h12
  obtain ⟨n_saw, e_saw, _, w_saw⟩ := DataW.trod_int Try.underlying3 h13
  obtain ⟨ys1, m1, _, _, _, hyl1, hg1⟩ := DataW.trod_struct Try.underlying46 h1
  simp only [List.size_toArray, List.length_cons, List.length_nil] at hyl1
  have g10 := hg1 0 _ rfl
  have g11 := hg1 1 _ rfl
  have g12 := hg1 2 _ rfl
  have g13 := hg1 3 _ rfl
  rw [List.getElem?_eq_getElem (by omega)] at g10 g11 g12 g13
  simp [k0, k1, k4, k5, k6] at g10 g11 g12 g13
  obtain ⟨n_op, e_op, _, w_op⟩ := DataW.trod_int Try.underlying3 g10
  obtain ⟨n_port, e_port, _, w_port⟩ := DataW.trod_int Try.underlying3 g11
  obtain ⟨n_addr, e_addr, _, w_addr⟩ := DataW.trod_int Try.underlying43 g12
  obtain ⟨a_rd, q_rd, c_rd, e_rd⟩ := slice_form Try.underlying44 g13
  rw [e_rd] at g13
  obtain ⟨l_rd, rfl, lc_rd, lm_rd, ln_rd, r_rd, _⟩ := ints_argK .u32 Try.underlying44 Try.underlying91 k7 ⟨_, g13⟩
  obtain ⟨ys2, m2, _, _, _, hyl2, hg2⟩ := DataW.trod_struct Try.underlying49 h2
  simp only [List.size_toArray, List.length_cons, List.length_nil] at hyl2
  have g20 := hg2 0 _ rfl
  have g21 := hg2 1 _ rfl
  have g22 := hg2 2 _ rfl
  have g23 := hg2 3 _ rfl
  rw [List.getElem?_eq_getElem (by omega)] at g20 g21 g22 g23
  simp [k0, k1, k4, k5, k6] at g20 g21 g22 g23
  obtain ⟨n_code, e_code, _, w_code⟩ := DataW.trod_int Try.underlying47 g20
  obtain ⟨a_ad, q_ad, c_ad, e_ad⟩ := slice_form Try.underlying44 g21
  rw [e_ad] at g21
  obtain ⟨l_ad, rfl, lc_ad, lm_ad, ln_ad, r_ad, _⟩ := ints_argK .u32 Try.underlying44 Try.underlying91 k7 ⟨_, g21⟩
  obtain ⟨n_valid, e_valid, _⟩ := DataW.trod_bool Try.underlying4 g22
  obtain ⟨n_count, e_count, _, w_count⟩ := DataW.trod_int Try.underlying3 g23
  simp at e_part e_done e_frm e_to e_t0 e_t1 e_own0 e_own1 e_mark e_ring e_stamp e_saw e_op e_port e_addr e_rd e_code e_ad e_valid e_count
  subst e_part e_done e_frm e_to e_t0 e_t1 e_own0 e_own1 e_mark e_ring e_stamp e_saw e_op e_port e_addr e_rd e_code e_ad e_valid e_count
  refine ⟨⟨n_part, n_op, n_port, n_addr, l_rd, a_rd, c_rd, n_code, l_ad, a_ad, c_ad, n_valid, n_count, n_done, n_frm, n_to, n_t0, n_t1, n_own0, n_own1, n_mark, n_ring, n_stamp, n_saw⟩, by unfold cCells; rfl, ⟨w_part, w_own0, w_own1⟩, ⟨r_rd, ⟨lc_rd, lm_rd, ln_rd⟩, r_ad, ⟨lc_ad, lm_ad, ln_ad⟩⟩⟩
/-- A []api.Call that came in, opened. -/
theorem calls_arg {a : Option Addr} {len cap : Nat} {d : DataW H} {p : List MemPlace} (h : DataW.Trod enc Try.prog w 0 (fun _ => true) true 22 (.slice a len cap) d p) :
    ∃ l : List CV, len = l.length ∧ len ≤ cap ∧ cap ≤ maxLen ∧ (a = none → l = []) ∧ CRow w w.heap.size a l := by
  obtain ⟨fuel, h⟩ := h
  simp only [Value.cells] at h
  rcases open_slice Try.underlying22 h with ⟨hcs, _⟩ | ⟨a', len', cap', m, n', D, Pl, hcs, _, hl, hm, hmm, _, hx⟩
  · simp at hcs
    obtain ⟨rfl, rfl, rfl⟩ := hcs
    exact ⟨[], rfl, Nat.le_refl _, by unfold maxLen; omega, fun _ => rfl, fun hn => absurd hn (by simp)⟩
  · simp at hcs
    obtain ⟨rfl, rfl, rfl⟩ := hcs
    have hlm : len ≤ m := by rw [hmm]; split <;> omega
    have hC : Try.prog.cellsOf 51 = 20 := by kernel_rfl
    obtain ⟨F, hF⟩ := choose_lt (n := len) (α := CV) (p := fun i v => w.cells? 0 (a'.add (i * 20)) 20 = some (cCells v) ∧ CWf v ∧ CRows w w.heap.size v) (fun i hi => by
      obtain ⟨cs', h1, h2⟩ := hx i (by omega)
      rw [hC] at h1
      obtain ⟨v, rfl, hw, hr⟩ := open_call h2
      exact ⟨v, h1, hw, hr⟩)
    refine ⟨(List.range len).map F, by simp, hl, hm, (fun h => by cases h), fun hq => ?_⟩
    simp at hq
    obtain ⟨b, off, spot⟩ := a'
    obtain ⟨_, hlen0, hc0⟩ := World.cells?_some (hF 0 hq).1
    have hc := hc0 0 (by omega)
    rw [cCells_part] at hc
    have hspot : spot = none := by simpa [Addr.add] using World.cell?_spot hc
    subst hspot
    have hblk : b < w.heap.size := by
      have := World.block_lt_of_cell? w _ hc
      simpa [Addr.add] using this
    refine ⟨b, off, rfl, hblk, fun i v hv => ?_⟩
    have hi : i < len := by have := (List.getElem?_eq_some_iff.1 hv).1; simpa using this
    simp [hi] at hv
    subst hv
    obtain ⟨h1, h2, h3⟩ := hF i hi
    obtain ⟨_, hlen1, hc1⟩ := World.cells?_some h1
    refine ⟨fun j x hx => ?_, h3, h2⟩
    have hj : j < 20 := by have := (List.getElem?_eq_some_iff.1 hx).1; rw [cCells_len] at this; exact this
    have := hc1 j hj
    rw [hx, add_add, Addr.add_lit, ← Nat.add_assoc] at this
    exact this
end
end Go.Proofs.Ytmonneeikkgllaa
