/- Texts of the ring, joined, what is used of them. No condition but those in the statements. -/
import Derived.Test.YthcnooimegaloaaDoorProg
import Derived.BigQuiet
import Derived.BigRegion
import Derived.Deep.MidRow
import Derived.Deep.OwnRows
import Derived.Deep.RegionHeld3
import Derived.Deep.Slices
import Derived.Deep.Upon
import Derived.IntWalk
import Derived.Lib.Hide
import Derived.Lib.SmallJoins
import Derived.OneCell
import Derived.OpenShut
import Derived.Test.YthcnooimegaloaaDoorQPSg
import Derived.Test.YthcnooimegaloaaDoorQga
section
namespace Go.Proofs.YthcnooimegaloaaDoor
open Go.RowKit Go.Sort Go.Deep Go.ChangeShapes Go.WideShapes Go.Joins
set_option linter.unusedVariables false
set_option linter.unusedSimpArgs false
/-- A call. -/
structure CV where
  part : Int
  op : Int
  port : Int
  addr : Int
  rd : List Int
  ra : Option Addr
  rc : Nat
  code : Int
  ad : List Int
  aa : Option Addr
  ac : Nat
  valid : Bool
  count : Int
  done : Bool
  frm : Int
  to : Int
  t0 : Int
  t1 : Int
  own0 : Int
  own1 : Int
  mark : Int
  ring : Int
  stamp : Int
  saw : Int
  deriving Inhabited
/-- Its cells. -/
@[irreducible] def cCells (v : CV) : List Value := [.int .i64 v.part, .int .i64 v.op, .int .i64 v.port, .int .u64 v.addr, .slice v.ra v.rd.length v.rc, .int .i64 v.code, .slice v.aa v.ad.length v.ac, .bool v.valid, .int .i64 v.count, .bool v.done, .int .i64 v.frm, .int .i64 v.to, .int .i64 v.t0, .int .i64 v.t1, .int .i64 v.own0, .int .i64 v.own1, .int .i64 v.mark, .int .i64 v.ring, .int .i64 v.stamp, .int .i64 v.saw]
theorem cCells_len (v : CV) : (cCells v).length = 20 := by unfold cCells; rfl
theorem cCells_info (v : CV) : (Tryd.prog.info? 47).map (·.size) = some (cCells v).length := by rw [cCells_len]; kernel_rfl
theorem cCells_part (v : CV) : (cCells v)[0]? = some (.int .i64 v.part) := by unfold cCells; rfl
theorem cCells_op (v : CV) : (cCells v)[1]? = some (.int .i64 v.op) := by unfold cCells; rfl
theorem cCells_port (v : CV) : (cCells v)[2]? = some (.int .i64 v.port) := by unfold cCells; rfl
theorem cCells_addr (v : CV) : (cCells v)[3]? = some (.int .u64 v.addr) := by unfold cCells; rfl
theorem cCells_rd (v : CV) : (cCells v)[4]? = some (.slice v.ra v.rd.length v.rc) := by unfold cCells; rfl
theorem cCells_code (v : CV) : (cCells v)[5]? = some (.int .i64 v.code) := by unfold cCells; rfl
theorem cCells_ad (v : CV) : (cCells v)[6]? = some (.slice v.aa v.ad.length v.ac) := by unfold cCells; rfl
theorem cCells_valid (v : CV) : (cCells v)[7]? = some (.bool v.valid) := by unfold cCells; rfl
theorem cCells_count (v : CV) : (cCells v)[8]? = some (.int .i64 v.count) := by unfold cCells; rfl
theorem cCells_done (v : CV) : (cCells v)[9]? = some (.bool v.done) := by unfold cCells; rfl
theorem cCells_frm (v : CV) : (cCells v)[10]? = some (.int .i64 v.frm) := by unfold cCells; rfl
theorem cCells_to (v : CV) : (cCells v)[11]? = some (.int .i64 v.to) := by unfold cCells; rfl
theorem cCells_t0 (v : CV) : (cCells v)[12]? = some (.int .i64 v.t0) := by unfold cCells; rfl
theorem cCells_t1 (v : CV) : (cCells v)[13]? = some (.int .i64 v.t1) := by unfold cCells; rfl
theorem cCells_own0 (v : CV) : (cCells v)[14]? = some (.int .i64 v.own0) := by unfold cCells; rfl
theorem cCells_own1 (v : CV) : (cCells v)[15]? = some (.int .i64 v.own1) := by unfold cCells; rfl
theorem cCells_mark (v : CV) : (cCells v)[16]? = some (.int .i64 v.mark) := by unfold cCells; rfl
theorem cCells_ring (v : CV) : (cCells v)[17]? = some (.int .i64 v.ring) := by unfold cCells; rfl
theorem cCells_stamp (v : CV) : (cCells v)[18]? = some (.int .i64 v.stamp) := by unfold cCells; rfl
theorem cCells_saw (v : CV) : (cCells v)[19]? = some (.int .i64 v.saw) := by unfold cCells; rfl
/-- A call lies in block b from o on. -/
def CAt (w : World) (b o : Nat) (v : CV) : Prop := w.rangeAt b o (cCells v)
theorem CAt.load {w : World} {b o : Nat} {v : CV} (h : CAt w b o v) : (Instr.loadAt 47 (.pointer (some ⟨b, o, none⟩))).run Tryd.prog w = .ok (.agg (cCells v).toArray) w :=
  run_loadAt_mid w b o 47 (cCells v) _ h Tryd.underlying47 rfl (cCells_info v)
section
variable {ops : Array Oper} {rest : List Oper} {o : Oper} {a : Act} {w : World} {Q : Exit → Act → World → Prop}
/-- A load of a whole call, behind a guard too. -/
theorem wpList_loadC (hwt : Region.wanted o (yielded ops a.tmps) = true) (x : Operand) (ho : o.op = .load 47 x) (b k : Nat) (v : CV) (hx : a.eval x = .pointer (some ⟨b, k, none⟩)) (hc : CAt w b k v)
    (h : wpList Tryd.prog ops Q rest (a.put o.dst (.agg (cCells v).toArray)) w) : wpList Tryd.prog ops Q (o :: rest) a w := by
  refine wpList_step fun K hK => ?_
  rw [if_pos hwt]
  exact wp_load_mid 47 x ho b k hx (cCells v) _ hc Tryd.underlying47 rfl (cCells_info v) (hK _ _ h)
end
theorem CAt.part {w : World} {b o : Nat} {v : CV} (h : CAt w b o v) : w.cell? ⟨b, o + 0, none⟩ = some (.int .i64 v.part) := h 0 _ (cCells_part v)
theorem CAt.op {w : World} {b o : Nat} {v : CV} (h : CAt w b o v) : w.cell? ⟨b, o + 1, none⟩ = some (.int .i64 v.op) := h 1 _ (cCells_op v)
theorem CAt.port {w : World} {b o : Nat} {v : CV} (h : CAt w b o v) : w.cell? ⟨b, o + 2, none⟩ = some (.int .i64 v.port) := h 2 _ (cCells_port v)
theorem CAt.addr {w : World} {b o : Nat} {v : CV} (h : CAt w b o v) : w.cell? ⟨b, o + 3, none⟩ = some (.int .u64 v.addr) := h 3 _ (cCells_addr v)
theorem CAt.rd {w : World} {b o : Nat} {v : CV} (h : CAt w b o v) : w.cell? ⟨b, o + 4, none⟩ = some (.slice v.ra v.rd.length v.rc) := h 4 _ (cCells_rd v)
theorem CAt.code {w : World} {b o : Nat} {v : CV} (h : CAt w b o v) : w.cell? ⟨b, o + 5, none⟩ = some (.int .i64 v.code) := h 5 _ (cCells_code v)
theorem CAt.ad {w : World} {b o : Nat} {v : CV} (h : CAt w b o v) : w.cell? ⟨b, o + 6, none⟩ = some (.slice v.aa v.ad.length v.ac) := h 6 _ (cCells_ad v)
theorem CAt.valid {w : World} {b o : Nat} {v : CV} (h : CAt w b o v) : w.cell? ⟨b, o + 7, none⟩ = some (.bool v.valid) := h 7 _ (cCells_valid v)
theorem CAt.count {w : World} {b o : Nat} {v : CV} (h : CAt w b o v) : w.cell? ⟨b, o + 8, none⟩ = some (.int .i64 v.count) := h 8 _ (cCells_count v)
theorem CAt.done {w : World} {b o : Nat} {v : CV} (h : CAt w b o v) : w.cell? ⟨b, o + 9, none⟩ = some (.bool v.done) := h 9 _ (cCells_done v)
theorem CAt.frm {w : World} {b o : Nat} {v : CV} (h : CAt w b o v) : w.cell? ⟨b, o + 10, none⟩ = some (.int .i64 v.frm) := h 10 _ (cCells_frm v)
theorem CAt.to {w : World} {b o : Nat} {v : CV} (h : CAt w b o v) : w.cell? ⟨b, o + 11, none⟩ = some (.int .i64 v.to) := h 11 _ (cCells_to v)
theorem CAt.t0 {w : World} {b o : Nat} {v : CV} (h : CAt w b o v) : w.cell? ⟨b, o + 12, none⟩ = some (.int .i64 v.t0) := h 12 _ (cCells_t0 v)
theorem CAt.t1 {w : World} {b o : Nat} {v : CV} (h : CAt w b o v) : w.cell? ⟨b, o + 13, none⟩ = some (.int .i64 v.t1) := h 13 _ (cCells_t1 v)
theorem CAt.own0 {w : World} {b o : Nat} {v : CV} (h : CAt w b o v) : w.cell? ⟨b, o + 14, none⟩ = some (.int .i64 v.own0) := h 14 _ (cCells_own0 v)
theorem CAt.own1 {w : World} {b o : Nat} {v : CV} (h : CAt w b o v) : w.cell? ⟨b, o + 15, none⟩ = some (.int .i64 v.own1) := h 15 _ (cCells_own1 v)
theorem CAt.mark {w : World} {b o : Nat} {v : CV} (h : CAt w b o v) : w.cell? ⟨b, o + 16, none⟩ = some (.int .i64 v.mark) := h 16 _ (cCells_mark v)
theorem CAt.ring {w : World} {b o : Nat} {v : CV} (h : CAt w b o v) : w.cell? ⟨b, o + 17, none⟩ = some (.int .i64 v.ring) := h 17 _ (cCells_ring v)
theorem CAt.stamp {w : World} {b o : Nat} {v : CV} (h : CAt w b o v) : w.cell? ⟨b, o + 18, none⟩ = some (.int .i64 v.stamp) := h 18 _ (cCells_stamp v)
theorem CAt.saw {w : World} {b o : Nat} {v : CV} (h : CAt w b o v) : w.cell? ⟨b, o + 19, none⟩ = some (.int .i64 v.saw) := h 19 _ (cCells_saw v)
theorem CAt.b_part {w : World} {b : Nat} {v : CV} (h : CAt w b 0 v) : w.cell? ⟨b, 0, none⟩ = some (.int .i64 v.part) := by have := h.part; rwa [Nat.zero_add] at this
theorem CAt.b_op {w : World} {b : Nat} {v : CV} (h : CAt w b 0 v) : w.cell? ⟨b, 1, none⟩ = some (.int .i64 v.op) := by have := h.op; rwa [Nat.zero_add] at this
theorem CAt.b_port {w : World} {b : Nat} {v : CV} (h : CAt w b 0 v) : w.cell? ⟨b, 2, none⟩ = some (.int .i64 v.port) := by have := h.port; rwa [Nat.zero_add] at this
theorem CAt.b_addr {w : World} {b : Nat} {v : CV} (h : CAt w b 0 v) : w.cell? ⟨b, 3, none⟩ = some (.int .u64 v.addr) := by have := h.addr; rwa [Nat.zero_add] at this
theorem CAt.b_rd {w : World} {b : Nat} {v : CV} (h : CAt w b 0 v) : w.cell? ⟨b, 4, none⟩ = some (.slice v.ra v.rd.length v.rc) := by have := h.rd; rwa [Nat.zero_add] at this
theorem CAt.b_t1 {w : World} {b : Nat} {v : CV} (h : CAt w b 0 v) : w.cell? ⟨b, 13, none⟩ = some (.int .i64 v.t1) := by have := h.t1; rwa [Nat.zero_add] at this
theorem CAt.b_stamp {w : World} {b : Nat} {v : CV} (h : CAt w b 0 v) : w.cell? ⟨b, 18, none⟩ = some (.int .i64 v.stamp) := by have := h.stamp; rwa [Nat.zero_add] at this
theorem CAt.later {w w' : World} {B b o : Nat} {v : CV} (h : CAt w b o v) (hb : Below B w w') (hlt : b < B) : CAt w' b o v := fun j x hx => (hb.cell (p := ⟨b, o + j, none⟩) hlt).trans (h j x hx)
theorem CAt.lt {w : World} {b o : Nat} {v : CV} (h : CAt w b o v) : b < w.heap.size := World.block_lt_of_cell? w _ h.part
theorem CAt.of_blk {w : World} {b : Nat} {v : CV} {t : TypeId} {m : Nat × Nat} (h : w.heap[b]? = some (.cells (cCells v).toArray t m)) : CAt w b 0 v := fun j x hx => by
  simp [World.cell?, h, hx]
/-- A call in a box. -/
theorem box17 (w : World) (v : CV) : ∃ W, Hid (W = w.alloc (.cells (cCells v).toArray 47)) ∧ Below w.heap.size w W ∧ W.heap.size = w.heap.size + 1 ∧ CAt W w.heap.size 0 v :=
  ⟨_, rfl, (Below.refl _ _).alloc (Nat.le_refl _) _, by simp, CAt.of_blk (heap_alloc_new w _)⟩
/-- What a call's numbers are: what its rows hold. -/
structure CWf (v : CV) : Prop where
  part : (Lit.int .i64 v.part).wf = true
  own0 : (Lit.int .i64 v.own0).wf = true
  own1 : (Lit.int .i64 v.own1).wf = true
  op : (Lit.int .i64 v.op).wf = true
  port : (Lit.int .i64 v.port).wf = true
  addr : (Lit.int .u64 v.addr).wf = true
  t1 : (Lit.int .i64 v.t1).wf = true
  stamp : (Lit.int .i64 v.stamp).wf = true
structure CRows (w : World) (B : Nat) (v : CV) : Prop where
  rr : IntRowK .u32 w B v.ra v.rd
  rl : v.rd.length ≤ v.rc ∧ v.rc ≤ maxLen ∧ (v.ra = none → v.rd = [])
  ar : IntRowK .u32 w B v.aa v.ad
  al : v.ad.length ≤ v.ac ∧ v.ac ≤ maxLen ∧ (v.aa = none → v.ad = [])
theorem CRows.below {w w' : World} {B : Nat} {v : CV} (h : CRows w B v) (hb : Below B w w') : CRows w' B v := ⟨h.rr.below hb, h.rl, h.ar.below hb, h.al⟩
theorem CRows.more {w : World} {B B' : Nat} {v : CV} (h : CRows w B v) (hb : B ≤ B') : CRows w B' v := ⟨h.rr.more hb, h.rl, h.ar.more hb, h.al⟩
end Go.Proofs.YthcnooimegaloaaDoor
end
section
namespace Go.Proofs.YthcnooimegaloaaDoor
open Go.RowKit Go.Sort
set_option linter.unusedVariables false
set_option linter.unusedSimpArgs false
set_option linter.unusedVariables false
set_option linter.unusedSimpArgs false
set_option maxRecDepth 100000
/-- Where a partition stands, but for its number. -/
structure St8 where
  sn : Bool
  made : List Int
  valid : List Int
  deriving Inhabited
/-- A message that was written. -/
structure Ms8 where
  ds : List Int
  stamp : Int
/-- The model: where partitions stand; of each channel the message that was written last, and what waits; the words of private spans; the bells; how much was done. -/
structure Md8 where
  st : List St8
  wr : Nat → Option Ms8
  qs : Nat → List (List Int)
  wd : Int → Int
  bl : List Bool
  t : Nat
/-- An answer. -/
structure An8 where
  code : Int
  data : List Int
  valid : Bool
  count : Int
def up8 {α : Type} (f : Nat → α) (k : Nat) (v : α) : Nat → α := fun j => if j = k then v else f j
def upI {α : Type} (f : Int → α) (k : Int) (v : α) : Int → α := fun j => if j = k then v else f j
@[simp] theorem up8_same {α : Type} (f : Nat → α) (k : Nat) (v : α) : up8 f k v k = v := if_pos rfl
theorem up8_ne {α : Type} (f : Nat → α) {j k : Nat} (v : α) (h : j ≠ k) : up8 f k v j = f j := if_neg h
@[simp] theorem upI_same {α : Type} (f : Int → α) (k : Int) (v : α) : upI f k v k = v := if_pos rfl
def none8 : St8 := ⟨false, [], []⟩
def st8 (M : Md8) (p : Int) : St8 := if 0 ≤ p then (M.st[p.toNat]?).getD none8 else none8
/-- A port among the valid ones, or not. -/
def see8 (l : List Int) (port : Int) (v : Bool) : List Int := if v = true then (if port ∈ l then l else l ++ [port]) else l.erase port
/-- Of a call that is refused the code, else 0. -/
def ref8 (c : Cfg) (M : Md8) (x : CV) : Int := refusedN c x.part (st8 M x.part).sn (st8 M x.part).made x.op x.port x.addr x.rd.length
def ch8 (c : Cfg) (x : CV) : Nat := (portK c x.port).toNat
def kind8 (c : Cfg) (k : Nat) : Int := fld (row c.chans k) 0
def dep8 (c : Cfg) (k : Nat) : Int := fld (row c.chans k) 4
def per8 (c : Cfg) (k : Nat) : Int := fld (row c.chans k) 5
def fresh8 (c : Cfg) (k : Nat) (m : Ms8) (t1 : Int) : Bool := decide (t1 - m.stamp ≤ per8 c k)
/-- Where a partition stands turns. -/
def setSt8 (M : Md8) (p : Int) (s : St8) : Md8 := { M with st := M.st.set p.toNat s, t := M.t + 1 }
def tick8 (M : Md8) : Md8 := { M with t := M.t + 1 }
def ok8 : An8 := ⟨0, [], false, 0⟩
def code8 (z : Int) : An8 := ⟨z, [], false, 0⟩
/-- The effect of a call that isn't refused. -/
def act8 (c : Cfg) (M : Md8) (x : CV) : An8 × Md8 :=
  if x.op = 1 then (ok8, setSt8 M x.part { st8 M x.part with made := (st8 M x.part).made ++ [x.port] })
  else if x.op = 2 then (ok8, setSt8 M x.part { st8 M x.part with sn := true })
  else if x.op = 3 then (ok8, { M with wr := up8 M.wr (ch8 c x) (some ⟨x.rd, x.stamp⟩), t := M.t + 1 })
  else if x.op = 4 then
    match M.wr (ch8 c x) with
    | none => (code8 1, setSt8 M x.part { st8 M x.part with valid := see8 (st8 M x.part).valid x.port false })
    | some m => (⟨0, m.ds, fresh8 c (ch8 c x) m x.t1, 0⟩, setSt8 M x.part { st8 M x.part with valid := see8 (st8 M x.part).valid x.port (fresh8 c (ch8 c x) m x.t1) })
  else if x.op = 5 then
    if ((M.qs (ch8 c x)).length : Int) = dep8 c (ch8 c x) then (code8 2, tick8 M)
    else (ok8, { M with qs := up8 M.qs (ch8 c x) (M.qs (ch8 c x) ++ [x.rd]), t := M.t + 1 })
  else if x.op = 6 then
    match M.qs (ch8 c x) with
    | [] => (code8 2, tick8 M)
    | d :: r => (⟨0, d, false, 0⟩, { M with qs := up8 M.qs (ch8 c x) r, t := M.t + 1 })
  else if x.op = 7 then
    if kind8 c (ch8 c x) = 2 then (⟨0, [], false, (M.qs (ch8 c x)).length⟩, tick8 M)
    else (⟨0, [], decide (x.port ∈ (st8 M x.part).valid), 0⟩, tick8 M)
  else if x.op = 8 then (⟨0, [M.wd x.addr], false, 0⟩, tick8 M)
  else (ok8, { M with wd := upI M.wd x.addr (x.rd.getD 0 0), t := M.t + 1 })
/-- The effect of a call. -/
def do8 (c : Cfg) (M : Md8) (x : CV) : An8 × Md8 := if ref8 c M x = 0 then act8 c M x else (code8 (ref8 c M x), tick8 M)
/-- The model at first. -/
def new8 (c : Cfg) : Md8 := ⟨List.replicate c.parts.length none8, fun _ => none, fun _ => [], fun _ => 0, List.replicate (2 * c.chans.length) false, 0⟩
end Go.Proofs.YthcnooimegaloaaDoor
end
section
namespace Go.Proofs.YthcnooimegaloaaDoor
open Go.RowKit Go.Sort
set_option linter.unusedVariables false
set_option linter.unusedSimpArgs false
set_option linter.unusedVariables false
set_option linter.unusedSimpArgs false
set_option maxRecDepth 100000
/-- A row of integers, where other blocks have turned than its own. -/
theorem IntRowK.only {K : IntKind} {w w' : World} {A : Option Addr} {l : List Int} {S : Nat → Prop} (h : IntRowK K w w.heap.size A l) (ho : Only S w w') (hs : ∀ a, A = some a → ¬ S a.block) : IntRowK K w' w.heap.size A l := fun hp => by
  obtain ⟨b, o, rfl, hb, hc⟩ := h hp
  refine ⟨b, o, rfl, hb, fun i hi => ?_⟩
  rw [← hc i hi]
  simp [World.cell?, ho.block b hb (hs _ rfl)]
namespace Bel
/-- Is bell i pending? -/
def hasB (bs : List Bool) (i : Int) : Bool := decide (0 ≤ i) && bs.getD i.toNat false
/-- Bell i is rung. -/
def ringB (bs : List Bool) (i : Int) : List Bool := if 0 ≤ i then bs.set i.toNat true else bs
/-- What is pending without those. -/
def leftB (bs : List Bool) (out : List Int) : List Bool := (List.range bs.length).map fun k => bs.getD k false && !decide ((k : Int) ∈ out)
/-- The pending ones below k, rising. -/
def allTo (bs : List Bool) (k : Nat) : List Int := ((List.range k).filter (fun j => bs.getD j false)).map (fun j : Nat => (j : Int))
def allB (bs : List Bool) : List Int := allTo bs bs.length
@[simp] theorem ringB_len (bs : List Bool) (i : Int) : (ringB bs i).length = bs.length := by unfold ringB; split <;> simp
@[simp] theorem leftB_len (bs : List Bool) (out : List Int) : (leftB bs out).length = bs.length := by simp [leftB]
/-- Bells as cells. -/
def bcells (bs : List Bool) : List Value := bs.map Value.bool
@[simp] theorem bcells_len (bs : List Bool) : (bcells bs).length = bs.length := by simp [bcells]
theorem bcells_at (bs : List Bool) (k : Nat) (h : k < bs.length) : (bcells bs)[k]? = some (.bool (bs.getD k false)) := by simp [bcells, List.getD_eq_getElem?_getD, h]
theorem bcells_set (bs : List Bool) (k : Nat) (x : Bool) : (bcells bs).set k (.bool x) = bcells (bs.set k x) := by simp [bcells, List.map_set]
/-- A block of bells, as a list. -/
def BoolsAt (w : World) (b : Nat) (bs : List Bool) : Prop := w.heap[b]? = some (.cells (bcells bs).toArray 4 (0, 0))
theorem BoolsAt.lt {w : World} {b : Nat} {bs : List Bool} (h : BoolsAt w b bs) : b < w.heap.size := (Array.getElem?_eq_some_iff.1 h).1
theorem BoolsAt.cell {w : World} {b : Nat} {bs : List Bool} (h : BoolsAt w b bs) {k : Nat} (hk : k < bs.length) : w.cell? ⟨b, k, none⟩ = some (.bool (bs.getD k false)) := by
  unfold BoolsAt at h
  simp [World.cell?, h, bcells_at bs k hk]
theorem BoolsAt.frozen {w : World} {b : Nat} {bs : List Bool} (h : BoolsAt w b bs) (k : Nat) : w.frozen? ⟨b, k, none⟩ = false := by
  unfold BoolsAt at h
  simp [World.frozen?, h]
theorem BoolsAt.set {w : World} {b : Nat} {bs : List Bool} (h : BoolsAt w b bs) (k : Nat) (x : Bool) : BoolsAt (w.setCell ⟨b, k, none⟩ (.bool x)) b (bs.set k x) := by
  unfold BoolsAt at h ⊢
  rw [← bcells_set]
  simp [World.setCell, Array.getElem?_modify, h]
theorem BoolsAt.of {w w' : World} {b : Nat} {bs : List Bool} (h : BoolsAt w b bs) (e : w'.heap[b]? = w.heap[b]?) : BoolsAt w' b bs := e.trans h
theorem BoolsAt.below {w w' : World} {b : Nat} {bs : List Bool} (h : BoolsAt w b bs) (hb : Below w.heap.size w w') : BoolsAt w' b bs := h.of (hb.block b h.lt)
/-- A set: its struct lies in block mb, its bells in block rb. -/
structure SetAt (w : World) (mb rb : Nat) (bs : List Bool) : Prop where
  head : w.heap[mb]? = some (.cells #[.slice (some ⟨rb, 0, none⟩) bs.length bs.length] 89 (0, 0))
  row : BoolsAt w rb bs
theorem SetAt.lt {w : World} {mb rb : Nat} {bs : List Bool} (h : SetAt w mb rb bs) : mb < w.heap.size ∧ rb < w.heap.size := ⟨(Array.getElem?_eq_some_iff.1 h.head).1, h.row.lt⟩
theorem SetAt.ne {w : World} {mb rb : Nat} {bs : List Bool} (h : SetAt w mb rb bs) : mb ≠ rb := by
  rintro rfl
  have := h.head.symm.trans h.row
  simp at this
theorem SetAt.cell {w : World} {mb rb : Nat} {bs : List Bool} (h : SetAt w mb rb bs) : w.cell? ⟨mb, 0, none⟩ = some (.slice (some ⟨rb, 0, none⟩) bs.length bs.length) := cell_of_one h.head
theorem SetAt.set {w : World} {mb rb : Nat} {bs : List Bool} (h : SetAt w mb rb bs) (k : Nat) (x : Bool) : SetAt (w.setCell ⟨rb, k, none⟩ (.bool x)) mb rb (bs.set k x) := by
  refine ⟨?_, h.row.set k x⟩
  rw [Below.heap_setCell _ _ _ _ h.ne, List.length_set]
  exact h.head
theorem SetAt.below {w w' : World} {mb rb : Nat} {bs : List Bool} (h : SetAt w mb rb bs) (hb : Below w.heap.size w w') : SetAt w' mb rb bs := ⟨(hb.block mb h.lt.1).trans h.head, h.row.below hb⟩
theorem SetAt.of {w w' : World} {mb rb : Nat} {bs : List Bool} (h : SetAt w mb rb bs) (h1 : w'.heap[mb]? = w.heap[mb]?) (h2 : w'.heap[rb]? = w.heap[rb]?) : SetAt w' mb rb bs := ⟨h1.trans h.head, h.row.of h2⟩
theorem SetAt.kept {w w' : World} {mb rb : Nat} {bs : List Bool} (h : SetAt w mb rb bs) {S : Nat → Prop} (ho : Only S w w') (h1 : ¬ S mb) (h2 : ¬ S rb) : SetAt w' mb rb bs := h.of (ho.block mb h.lt.1 h1) (ho.block rb h.lt.2 h2)
theorem Tryd.infoB : (Tryd.prog.info? 4).map (fun i => (i.zero, i.size, i.bytes)) = some (some (.bool false), 1, 1) := by kernel_rfl
theorem Tryd.infoI : (Tryd.prog.info? 3).map (fun i => (i.zero, i.size, i.bytes)) = some (some (.int .i64 0), 1, 8) := by kernel_rfl
theorem made_bools (n : Nat) : madeCells #[Value.bool false] n = (bcells (List.replicate n false)).toArray := by
  apply Array.ext
  · simp [size_madeCells, bcells]
  · intro i h1 h2
    simp [madeCells, bcells, Nat.mod_one]
/-- A new set, nothing pending. -/
def GivesSet (w : World) (bs : List Bool) (e : Ending) (w' : World) : Prop :=
  ∃ mb rb, e = .returned (.tuple #[.pointer (some ⟨mb, 0, none⟩), .int .i64 0]) ∧ w.heap.size ≤ mb ∧ w.heap.size ≤ rb ∧ SetAt w' mb rb bs ∧ Below w.heap.size w w'
theorem new_in (n : Nat) (v : Int) (hv : v = (n : Int)) (w : World) (hn : n ≤ 64) :
    Calls Tryd.prog 12 #[.int .i64 v] w (GivesSet w (List.replicate n false)) := by
  subst hv
  obtain ⟨i0, hi, hz0, hz1, hz2⟩ := info_parts Tryd.infoB
  go_enter Tryd.func12, Tryd.ntmps12
  go_wp2_with (refine wpList_make_row _ rfl _ _ 87 rfl 4 i0 (.bool false) Tryd.underlying87 hi hz0 hz1 rfl .i64 .i64 n rfl rfl (by rw [hz2]; omega) (by omega) ?_)
  go_ret2
  have hb1 : Below w.heap.size w (w.alloc (.cells (madeCells #[Value.bool false] n) 4)) := (Below.refl _ _).alloc (Nat.le_refl _) _
  refine ⟨w.heap.size + 1, w.heap.size, rfl, by omega, by omega, ⟨?_, ?_⟩, hb1.alloc (by simp) _⟩
  · have := heap_alloc_new (w.alloc (.cells (madeCells #[Value.bool false] n) 4)) (.cells #[.slice (some ⟨w.heap.size, 0, none⟩) n n] 89)
    simpa using this
  · unfold BoolsAt
    rw [← made_bools, Below.heap_alloc _ _ _ (by simp)]
    exact heap_alloc_new w _
end Bel
end Go.Proofs.YthcnooimegaloaaDoor
end
