/- Texts of the ring, joined, what is used of them. No condition but those in the statements. -/
import Derived.Test.YtheeiklgblcjfaaGreatDoorProg
import Derived.BigQuiet
import Derived.BigRegion
import Derived.Deep.MidRow
import Derived.Deep.OwnRows
import Derived.Deep.RegionHeld3
import Derived.Deep.Slices
import Derived.Deep.Upon
import Derived.IntWalk
import Derived.Lib.Hide
import Derived.Lib.SmallJoins
import Derived.Maps.OwnOps
import Derived.Maps.OwnSet
import Derived.OneCell
import Derived.OpenShut
import Derived.Test.YtheeiklgblcjfaaGreatDoorRPSg
import Derived.Test.YtheeiklgblcjfaaGreatDoorRga
import Derived.Test.YtheeiklgblcjfaaGreatDoorRgb
section
namespace Go.Proofs.YtheeiklgblcjfaaGreatDoor
open Go.RowKit Go.Sort
set_option linter.unusedVariables false
set_option linter.unusedSimpArgs false
set_option linter.unusedVariables false
set_option linter.unusedSimpArgs false
set_option maxRecDepth 100000
/-- Blocks of S have turned,and such as are new since block number n. -/
def New (n:Nat) (S:Nat → Prop):Nat → Prop:=fun k => n ≤ k ∨ S k
theorem Only.alloc {S:Nat → Prop} {w w':World} (h:Only S w w') (o:Obj):Only S w (w'.alloc o):=⟨h.os,h.tape,h.output,by have:=h.size;simp;omega,fun k hk hs => (Below.heap_alloc _ _ _ (Nat.lt_of_lt_of_le hk h.size)).trans (h.block k hk hs)⟩
theorem Only.set {S:Nat → Prop} {w w':World} (h:Only S w w') {p:Addr} (hp:S p.block) (v:Value):Only S w (w'.setCell p v):=⟨h.os,h.tape,h.output,by have:=h.size;simpa [World.setCell] using this,fun k hk hs => (Below.heap_setCell _ _ _ _ (fun e => hs (by rw [e];exact hp))).trans (h.block k hk hs)⟩
theorem Only.sets {S:Nat → Prop} {w:World} {b:Nat} (hb:S b):∀ (vs:List Value) (o:Nat) {w':World},Only S w w' → Only S w (w'.setCells b o vs)
  | [],_,_,h => h
  | v :: r,o,_,h => Only.sets hb r (o + 1) (h.set (p:=⟨b,o,none⟩) hb v)
theorem Only.drew {S:Nat → Prop} {w w':World} (h:Only S w w'):Only S w w'.drew:=⟨h.os,h.tape,h.output,h.size,h.block⟩
theorem Only.old {S:Nat → Prop} {w w':World} (h:Only (New w.heap.size S) w w'):Only S w w':=h.mono fun k hk hs => hs.resolve_left (by omega)
theorem Only.at_ {S:Nat → Prop} {w w':World} (h:Only S w w') {k:Nat} {o:Obj} (hk:w.heap[k]? = some o) (hs:¬ S k):w'.heap[k]? = some o:=(h.block k (Array.getElem?_eq_some_iff.1 hk).1 hs).trans hk
theorem blk_at {W:World} {a i:Nat} {cs:Array Value} {t:TypeId} {m:Nat × Nat} {v:Value} (h:W.heap[a]? = some (.cells cs t m)) (hv:cs[i]? = some v):W.cell? ⟨a,i,none⟩ = some v:=by
  simp [World.cell?,h,hv]
theorem blk_put {W:World} {a o:Nat} {cs cs':Array Value} {v:Value} {t:TypeId} {m:Nat × Nat} (h:W.heap[a]? = some (.cells cs t m)) (e:cs.setIfInBounds o v = cs'):(W.setCell ⟨a,o,none⟩ v).heap[a]? = some (.cells cs' t m):=by
  subst e;simp [World.setCell,Array.getElem?_modify,h]
theorem RowN.only8 {ks:List IntKind} {w w':World} {B:Nat} {A:Option Addr} {l:List (List Int)} {S:Nat → Prop} (h:RowN ks w B A l) (hB:B ≤ w.heap.size) (ho:Only S w w') (hA:0 < l.length → ∀ a,A = some a → ¬ S a.block):RowN ks w' B A l:=fun hn => by
  obtain ⟨b,o,rfl,hlt,hc⟩:=h hn
  refine ⟨b,o,rfl,hlt,fun i x hx j v hv => ?_⟩
  rw [← hc i x hx j v hv]
  simp [World.cell?,ho.block b (by omega) (hA hn _ rfl)]
theorem IntRowK.only8 {K:IntKind} {w w':World} {B:Nat} {A:Option Addr} {l:List Int} {S:Nat → Prop} (h:IntRowK K w B A l) (hB:B ≤ w.heap.size) (ho:Only S w w') (hA:0 < l.length → ∀ a,A = some a → ¬ S a.block):IntRowK K w' B A l:=fun hn => by
  obtain ⟨b,o,rfl,hlt,hc⟩:=h hn
  refine ⟨b,o,rfl,hlt,fun i hi => ?_⟩
  rw [← hc i hi]
  simp [World.cell?,ho.block b (by omega) (hA hn _ rfl)]
theorem IntRowK.later8 {K:IntKind} {w w':World} {A:Option Addr} {l:List Int} (h:IntRowK K w w.heap.size A l) (hb:Below w.heap.size w w'):IntRowK K w' w'.heap.size A l:=(h.below hb).more hb.size
end Go.Proofs.YtheeiklgblcjfaaGreatDoor
end
section
namespace Go.Proofs.YtheeiklgblcjfaaGreatDoor
open Go.RowKit Go.Sort Go.Deep Go.ChangeShapes Go.WideShapes Go.Joins
set_option linter.unusedVariables false
set_option linter.unusedSimpArgs false
/-- A call. -/
structure CV where
  part:Int
  op:Int
  port:Int
  addr:Int
  rd:List Int
  ra:Option Addr
  rc:Nat
  code:Int
  ad:List Int
  aa:Option Addr
  ac:Nat
  valid:Bool
  count:Int
  done:Bool
  frm:Int
  to:Int
  t0:Int
  t1:Int
  own0:Int
  own1:Int
  mark:Int
  ring:Int
  stamp:Int
  saw:Int
  deriving Inhabited
/-- Its cells. -/
@[irreducible] def cCells (v:CV):List Value:=[.int .i64 v.part,.int .i64 v.op,.int .i64 v.port,.int .u64 v.addr,.slice v.ra v.rd.length v.rc,.int .i64 v.code,.slice v.aa v.ad.length v.ac,.bool v.valid,.int .i64 v.count,.bool v.done,.int .i64 v.frm,.int .i64 v.to,.int .i64 v.t0,.int .i64 v.t1,.int .i64 v.own0,.int .i64 v.own1,.int .i64 v.mark,.int .i64 v.ring,.int .i64 v.stamp,.int .i64 v.saw]
theorem cCells_len (v:CV):(cCells v).length = 20:=by unfold cCells;rfl
theorem cCells_info (v:CV):(Tryz.prog.info? 44).map (·.size) = some (cCells v).length:=by rw [cCells_len];kernel_rfl
theorem cCells_one (v:CV):(cCells v).toArray.all (·.oneCell') = true:=by unfold cCells;simp [Value.oneCell']
theorem cCells_part (v:CV):(cCells v)[0]? = some (.int .i64 v.part):=by unfold cCells;rfl
theorem cCells_op (v:CV):(cCells v)[1]? = some (.int .i64 v.op):=by unfold cCells;rfl
theorem cCells_port (v:CV):(cCells v)[2]? = some (.int .i64 v.port):=by unfold cCells;rfl
theorem cCells_addr (v:CV):(cCells v)[3]? = some (.int .u64 v.addr):=by unfold cCells;rfl
theorem cCells_rd (v:CV):(cCells v)[4]? = some (.slice v.ra v.rd.length v.rc):=by unfold cCells;rfl
theorem cCells_code (v:CV):(cCells v)[5]? = some (.int .i64 v.code):=by unfold cCells;rfl
theorem cCells_ad (v:CV):(cCells v)[6]? = some (.slice v.aa v.ad.length v.ac):=by unfold cCells;rfl
theorem cCells_valid (v:CV):(cCells v)[7]? = some (.bool v.valid):=by unfold cCells;rfl
theorem cCells_count (v:CV):(cCells v)[8]? = some (.int .i64 v.count):=by unfold cCells;rfl
theorem cCells_done (v:CV):(cCells v)[9]? = some (.bool v.done):=by unfold cCells;rfl
theorem cCells_frm (v:CV):(cCells v)[10]? = some (.int .i64 v.frm):=by unfold cCells;rfl
theorem cCells_to (v:CV):(cCells v)[11]? = some (.int .i64 v.to):=by unfold cCells;rfl
theorem cCells_t0 (v:CV):(cCells v)[12]? = some (.int .i64 v.t0):=by unfold cCells;rfl
theorem cCells_t1 (v:CV):(cCells v)[13]? = some (.int .i64 v.t1):=by unfold cCells;rfl
theorem cCells_own0 (v:CV):(cCells v)[14]? = some (.int .i64 v.own0):=by unfold cCells;rfl
theorem cCells_own1 (v:CV):(cCells v)[15]? = some (.int .i64 v.own1):=by unfold cCells;rfl
theorem cCells_mark (v:CV):(cCells v)[16]? = some (.int .i64 v.mark):=by unfold cCells;rfl
theorem cCells_ring (v:CV):(cCells v)[17]? = some (.int .i64 v.ring):=by unfold cCells;rfl
theorem cCells_stamp (v:CV):(cCells v)[18]? = some (.int .i64 v.stamp):=by unfold cCells;rfl
theorem cCells_saw (v:CV):(cCells v)[19]? = some (.int .i64 v.saw):=by unfold cCells;rfl
/-- A call lies in block b from o on. -/
def CAt (w:World) (b o:Nat) (v:CV):Prop:=w.rangeAt b o (cCells v)
theorem CAt.load {w:World} {b o:Nat} {v:CV} (h:CAt w b o v):(Instr.loadAt 44 (.pointer (some ⟨b,o,none⟩))).run Tryz.prog w = .ok (.agg (cCells v).toArray) w:=
  run_loadAt_mid w b o 44 (cCells v) _ h Tryz.underlying44 rfl (cCells_info v)
section
variable {ops:Array Oper} {rest:List Oper} {o:Oper} {a:Act} {w:World} {Q:Exit → Act → World → Prop}
/-- A load of a whole call,behind a guard too. -/
theorem wpList_loadC (hwt:Region.wanted o (yielded ops a.tmps) = true) (x:Operand) (ho:o.op = .load 44 x) (b k:Nat) (v:CV) (hx:a.eval x = .pointer (some ⟨b,k,none⟩)) (hc:CAt w b k v)
    (h:wpList Tryz.prog ops Q rest (a.put o.dst (.agg (cCells v).toArray)) w):wpList Tryz.prog ops Q (o :: rest) a w:=by
  refine wpList_step fun K hK => ?_
  rw [if_pos hwt]
  exact wp_load_mid 44 x ho b k hx (cCells v) _ hc Tryz.underlying44 rfl (cCells_info v) (hK _ _ h)
end
theorem CAt.part {w:World} {b o:Nat} {v:CV} (h:CAt w b o v):w.cell? ⟨b,o + 0,none⟩ = some (.int .i64 v.part):=h 0 _ (cCells_part v)
theorem CAt.op {w:World} {b o:Nat} {v:CV} (h:CAt w b o v):w.cell? ⟨b,o + 1,none⟩ = some (.int .i64 v.op):=h 1 _ (cCells_op v)
theorem CAt.port {w:World} {b o:Nat} {v:CV} (h:CAt w b o v):w.cell? ⟨b,o + 2,none⟩ = some (.int .i64 v.port):=h 2 _ (cCells_port v)
theorem CAt.addr {w:World} {b o:Nat} {v:CV} (h:CAt w b o v):w.cell? ⟨b,o + 3,none⟩ = some (.int .u64 v.addr):=h 3 _ (cCells_addr v)
theorem CAt.rd {w:World} {b o:Nat} {v:CV} (h:CAt w b o v):w.cell? ⟨b,o + 4,none⟩ = some (.slice v.ra v.rd.length v.rc):=h 4 _ (cCells_rd v)
theorem CAt.code {w:World} {b o:Nat} {v:CV} (h:CAt w b o v):w.cell? ⟨b,o + 5,none⟩ = some (.int .i64 v.code):=h 5 _ (cCells_code v)
theorem CAt.ad {w:World} {b o:Nat} {v:CV} (h:CAt w b o v):w.cell? ⟨b,o + 6,none⟩ = some (.slice v.aa v.ad.length v.ac):=h 6 _ (cCells_ad v)
theorem CAt.valid {w:World} {b o:Nat} {v:CV} (h:CAt w b o v):w.cell? ⟨b,o + 7,none⟩ = some (.bool v.valid):=h 7 _ (cCells_valid v)
theorem CAt.count {w:World} {b o:Nat} {v:CV} (h:CAt w b o v):w.cell? ⟨b,o + 8,none⟩ = some (.int .i64 v.count):=h 8 _ (cCells_count v)
theorem CAt.done {w:World} {b o:Nat} {v:CV} (h:CAt w b o v):w.cell? ⟨b,o + 9,none⟩ = some (.bool v.done):=h 9 _ (cCells_done v)
theorem CAt.frm {w:World} {b o:Nat} {v:CV} (h:CAt w b o v):w.cell? ⟨b,o + 10,none⟩ = some (.int .i64 v.frm):=h 10 _ (cCells_frm v)
theorem CAt.to {w:World} {b o:Nat} {v:CV} (h:CAt w b o v):w.cell? ⟨b,o + 11,none⟩ = some (.int .i64 v.to):=h 11 _ (cCells_to v)
theorem CAt.t0 {w:World} {b o:Nat} {v:CV} (h:CAt w b o v):w.cell? ⟨b,o + 12,none⟩ = some (.int .i64 v.t0):=h 12 _ (cCells_t0 v)
theorem CAt.t1 {w:World} {b o:Nat} {v:CV} (h:CAt w b o v):w.cell? ⟨b,o + 13,none⟩ = some (.int .i64 v.t1):=h 13 _ (cCells_t1 v)
theorem CAt.own0 {w:World} {b o:Nat} {v:CV} (h:CAt w b o v):w.cell? ⟨b,o + 14,none⟩ = some (.int .i64 v.own0):=h 14 _ (cCells_own0 v)
theorem CAt.own1 {w:World} {b o:Nat} {v:CV} (h:CAt w b o v):w.cell? ⟨b,o + 15,none⟩ = some (.int .i64 v.own1):=h 15 _ (cCells_own1 v)
theorem CAt.mark {w:World} {b o:Nat} {v:CV} (h:CAt w b o v):w.cell? ⟨b,o + 16,none⟩ = some (.int .i64 v.mark):=h 16 _ (cCells_mark v)
theorem CAt.ring {w:World} {b o:Nat} {v:CV} (h:CAt w b o v):w.cell? ⟨b,o + 17,none⟩ = some (.int .i64 v.ring):=h 17 _ (cCells_ring v)
theorem CAt.stamp {w:World} {b o:Nat} {v:CV} (h:CAt w b o v):w.cell? ⟨b,o + 18,none⟩ = some (.int .i64 v.stamp):=h 18 _ (cCells_stamp v)
theorem CAt.saw {w:World} {b o:Nat} {v:CV} (h:CAt w b o v):w.cell? ⟨b,o + 19,none⟩ = some (.int .i64 v.saw):=h 19 _ (cCells_saw v)
theorem CAt.b_part {w:World} {b:Nat} {v:CV} (h:CAt w b 0 v):w.cell? ⟨b,0,none⟩ = some (.int .i64 v.part):=by have:=h.part;rwa [Nat.zero_add] at this
theorem CAt.b_op {w:World} {b:Nat} {v:CV} (h:CAt w b 0 v):w.cell? ⟨b,1,none⟩ = some (.int .i64 v.op):=by have:=h.op;rwa [Nat.zero_add] at this
theorem CAt.b_port {w:World} {b:Nat} {v:CV} (h:CAt w b 0 v):w.cell? ⟨b,2,none⟩ = some (.int .i64 v.port):=by have:=h.port;rwa [Nat.zero_add] at this
theorem CAt.b_addr {w:World} {b:Nat} {v:CV} (h:CAt w b 0 v):w.cell? ⟨b,3,none⟩ = some (.int .u64 v.addr):=by have:=h.addr;rwa [Nat.zero_add] at this
theorem CAt.b_rd {w:World} {b:Nat} {v:CV} (h:CAt w b 0 v):w.cell? ⟨b,4,none⟩ = some (.slice v.ra v.rd.length v.rc):=by have:=h.rd;rwa [Nat.zero_add] at this
theorem CAt.b_t1 {w:World} {b:Nat} {v:CV} (h:CAt w b 0 v):w.cell? ⟨b,13,none⟩ = some (.int .i64 v.t1):=by have:=h.t1;rwa [Nat.zero_add] at this
theorem CAt.b_stamp {w:World} {b:Nat} {v:CV} (h:CAt w b 0 v):w.cell? ⟨b,18,none⟩ = some (.int .i64 v.stamp):=by have:=h.stamp;rwa [Nat.zero_add] at this
theorem CAt.e_part {w:World} {b o:Nat} {v:CV} (h:CAt w b o v):w.cell? ⟨b,o,none⟩ = some (.int .i64 v.part):=h.part
theorem CAt.later {w w':World} {B b o:Nat} {v:CV} (h:CAt w b o v) (hb:Below B w w') (hlt:b < B):CAt w' b o v:=fun j x hx => (hb.cell (p:=⟨b,o + j,none⟩) hlt).trans (h j x hx)
theorem CAt.lt {w:World} {b o:Nat} {v:CV} (h:CAt w b o v):b < w.heap.size:=World.block_lt_of_cell? w _ h.part
theorem CAt.of_blk {w:World} {b:Nat} {v:CV} {t:TypeId} {m:Nat × Nat} (h:w.heap[b]? = some (.cells (cCells v).toArray t m)):CAt w b 0 v:=fun j x hx => by
  simp [World.cell?,h,hx]
/-- A call in a box. -/
theorem box17 (w:World) (v:CV):∃ W,Hid (W = w.alloc (.cells (cCells v).toArray 44)) ∧ Below w.heap.size w W ∧ W.heap.size = w.heap.size + 1 ∧ CAt W w.heap.size 0 v:=
  ⟨_,rfl,(Below.refl _ _).alloc (Nat.le_refl _) _,by simp,CAt.of_blk (heap_alloc_new w _)⟩
/-- What a call's numbers are: what its rows hold. -/
structure CWf (v:CV):Prop where
  part:(Lit.int .i64 v.part).wf = true
  own0:(Lit.int .i64 v.own0).wf = true
  own1:(Lit.int .i64 v.own1).wf = true
  op:(Lit.int .i64 v.op).wf = true
  port:(Lit.int .i64 v.port).wf = true
  addr:(Lit.int .u64 v.addr).wf = true
  t1:(Lit.int .i64 v.t1).wf = true
  stamp:(Lit.int .i64 v.stamp).wf = true
structure CRows (w:World) (B:Nat) (v:CV):Prop where
  rr:IntRowK .u32 w B v.ra v.rd
  rl:v.rd.length ≤ v.rc ∧ v.rc ≤ maxLen ∧ (v.ra = none → v.rd = [])
  ar:IntRowK .u32 w B v.aa v.ad
  al:v.ad.length ≤ v.ac ∧ v.ac ≤ maxLen ∧ (v.aa = none → v.ad = [])
theorem CRows.below {w w':World} {B:Nat} {v:CV} (h:CRows w B v) (hb:Below B w w'):CRows w' B v:=⟨h.rr.below hb,h.rl,h.ar.below hb,h.al⟩
theorem CRows.more {w:World} {B B':Nat} {v:CV} (h:CRows w B v) (hb:B ≤ B'):CRows w B' v:=⟨h.rr.more hb,h.rl,h.ar.more hb,h.al⟩
theorem there_atC {W:World} {b:Nat} {cs:Array Value} {ty:TypeId} {n:Nat} (h:W.heap[b]? = some (.cells cs ty (0,0))) (hn:n = cs.size):W.there b 0 n:=fun j hj => by
  subst hn
  refine ⟨?_,by simp [World.frozen?,h]⟩
  have:W.cell? ⟨b,j,none⟩ = some cs[j]:=by simp [World.cell?,h,hj]
  rw [Nat.zero_add,this];rfl
theorem below_setCellsC {w:World} {b:Nat}:∀ (vs:List Value) (o:Nat) (X:World),Below w.heap.size w X → w.heap.size ≤ b → Below w.heap.size w (X.setCells b o vs)
  | [],_,_,h,_ => h
  | v :: r,o,X,h,hb => below_setCellsC r (o + 1) _ (h.setCell (p:=⟨b,o,none⟩) hb v) hb
section
variable {H:Type} {enc:TypeId × Value → H} {w:World}
theorem list20 {α:Type} {l:List α} (h:l.length = 20):∃ x0 x1 x2 x3 x4 x5 x6 x7 x8 x9 x10 x11 x12 x13 x14 x15 x16 x17 x18 x19,l = [x0,x1,x2,x3,x4,x5,x6,x7,x8,x9,x10,x11,x12,x13,x14,x15,x16,x17,x18,x19]:=by
  match l,h with
  | [x0,x1,x2,x3,x4,x5,x6,x7,x8,x9,x10,x11,x12,x13,x14,x15,x16,x17,x18,x19],_ => exact ⟨x0,x1,x2,x3,x4,x5,x6,x7,x8,x9,x10,x11,x12,x13,x14,x15,x16,x17,x18,x19,rfl⟩
set_option maxRecDepth 100000 in
theorem open_call {n:Nat} {cs:List Value} {x:DataW H × List MemPlace} (h:DataW.trod enc Tryz.prog w 0 (fun _ => true) true n 44 cs = some x):∃ v:CV,cs = cCells v ∧ CWf v ∧ CRows w w.heap.size v:=by
  obtain ⟨xs,m,_,_,hcl,hxl,hf⟩:=DataW.trod_struct Tryz.underlying44 h
  obtain ⟨x0,x1,x2,x3,x4,x5,x6,x7,x8,x9,x10,x11,x12,x13,x14,x15,x16,x17,x18,x19,rfl⟩:=list20 (hcl.trans (by kernel_rfl))
  simp only [List.size_toArray,List.length_cons,List.length_nil] at hxl
  have h0:=hf 0 _ rfl
  have h1:=hf 1 _ rfl
  have h2:=hf 2 _ rfl
  have h3:=hf 3 _ rfl
  have h4:=hf 4 _ rfl
  have h5:=hf 5 _ rfl
  have h6:=hf 6 _ rfl
  have h7:=hf 7 _ rfl
  have h8:=hf 8 _ rfl
  have h9:=hf 9 _ rfl
  have h10:=hf 10 _ rfl
  have h11:=hf 11 _ rfl
  have h12:=hf 12 _ rfl
  have h13:=hf 13 _ rfl
  have k0:Tryz.prog.cellsOf 3 = 1:=by kernel_rfl
  have k1:Tryz.prog.cellsOf 4 = 1:=by kernel_rfl
  have k2:Tryz.prog.cellsOf 39 = 4:=by kernel_rfl
  have k3:Tryz.prog.cellsOf 42 = 4:=by kernel_rfl
  have k4:Tryz.prog.cellsOf 36 = 1:=by kernel_rfl
  have k5:Tryz.prog.cellsOf 37 = 1:=by kernel_rfl
  have k6:Tryz.prog.cellsOf 40 = 1:=by kernel_rfl
  have k7:Tryz.prog.cellsOf 89 = 1:=by kernel_rfl
  rw [List.getElem?_eq_getElem (by omega)] at h0 h1 h2 h3 h4 h5 h6 h7 h8 h9 h10 h11 h12 h13
  simp [k0,k1,k2,k3] at h0 h1 h2 h3 h4 h5 h6 h7 h8 h9 h10 h11 h12 h13
  obtain ⟨n_part,e_part,_,w_part⟩:=DataW.trod_int Tryz.underlying3 h0
  obtain ⟨n_done,e_done,_⟩:=DataW.trod_bool Tryz.underlying4 h3
  obtain ⟨n_frm,e_frm,_,w_frm⟩:=DataW.trod_int Tryz.underlying3 h4
  obtain ⟨n_to,e_to,_,w_to⟩:=DataW.trod_int Tryz.underlying3 h5
  obtain ⟨n_t0,e_t0,_,w_t0⟩:=DataW.trod_int Tryz.underlying3 h6
  obtain ⟨n_t1,e_t1,_,w_t1⟩:=DataW.trod_int Tryz.underlying3 h7
  obtain ⟨n_own0,e_own0,_,w_own0⟩:=DataW.trod_int Tryz.underlying3 h8
  obtain ⟨n_own1,e_own1,_,w_own1⟩:=DataW.trod_int Tryz.underlying3 h9
  obtain ⟨n_mark,e_mark,_,w_mark⟩:=DataW.trod_int Tryz.underlying3 h10
  obtain ⟨n_ring,e_ring,_,w_ring⟩:=DataW.trod_int Tryz.underlying3 h11
  obtain ⟨n_stamp,e_stamp,_,w_stamp⟩:=DataW.trod_int Tryz.underlying3 h12
  obtain ⟨n_saw,e_saw,_,w_saw⟩:=DataW.trod_int Tryz.underlying3 h13
  obtain ⟨ys1,m1,_,_,_,hyl1,hg1⟩:=DataW.trod_struct Tryz.underlying39 h1
  simp only [List.size_toArray,List.length_cons,List.length_nil] at hyl1
  have g10:=hg1 0 _ rfl
  have g11:=hg1 1 _ rfl
  have g12:=hg1 2 _ rfl
  have g13:=hg1 3 _ rfl
  rw [List.getElem?_eq_getElem (by omega)] at g10 g11 g12 g13
  simp [k0,k1,k4,k5,k6] at g10 g11 g12 g13
  obtain ⟨n_op,e_op,_,w_op⟩:=DataW.trod_int Tryz.underlying3 g10
  obtain ⟨n_port,e_port,_,w_port⟩:=DataW.trod_int Tryz.underlying3 g11
  obtain ⟨n_addr,e_addr,_,w_addr⟩:=DataW.trod_int Tryz.underlying36 g12
  obtain ⟨a_rd,q_rd,c_rd,e_rd⟩:=slice_form Tryz.underlying37 g13
  rw [e_rd] at g13
  obtain ⟨l_rd,rfl,lc_rd,lm_rd,ln_rd,r_rd,_⟩:=ints_argK .u32 Tryz.underlying37 Tryz.underlying89 k7 ⟨_,g13⟩
  obtain ⟨ys2,m2,_,_,_,hyl2,hg2⟩:=DataW.trod_struct Tryz.underlying42 h2
  simp only [List.size_toArray,List.length_cons,List.length_nil] at hyl2
  have g20:=hg2 0 _ rfl
  have g21:=hg2 1 _ rfl
  have g22:=hg2 2 _ rfl
  have g23:=hg2 3 _ rfl
  rw [List.getElem?_eq_getElem (by omega)] at g20 g21 g22 g23
  simp [k0,k1,k4,k5,k6] at g20 g21 g22 g23
  obtain ⟨n_code,e_code,_,w_code⟩:=DataW.trod_int Tryz.underlying40 g20
  obtain ⟨a_ad,q_ad,c_ad,e_ad⟩:=slice_form Tryz.underlying37 g21
  rw [e_ad] at g21
  obtain ⟨l_ad,rfl,lc_ad,lm_ad,ln_ad,r_ad,_⟩:=ints_argK .u32 Tryz.underlying37 Tryz.underlying89 k7 ⟨_,g21⟩
  obtain ⟨n_valid,e_valid,_⟩:=DataW.trod_bool Tryz.underlying4 g22
  obtain ⟨n_count,e_count,_,w_count⟩:=DataW.trod_int Tryz.underlying3 g23
  simp at e_part e_done e_frm e_to e_t0 e_t1 e_own0 e_own1 e_mark e_ring e_stamp e_saw e_op e_port e_addr e_rd e_code e_ad e_valid e_count
  subst e_part e_done e_frm e_to e_t0 e_t1 e_own0 e_own1 e_mark e_ring e_stamp e_saw e_op e_port e_addr e_rd e_code e_ad e_valid e_count
  refine ⟨⟨n_part,n_op,n_port,n_addr,l_rd,a_rd,c_rd,n_code,l_ad,a_ad,c_ad,n_valid,n_count,n_done,n_frm,n_to,n_t0,n_t1,n_own0,n_own1,n_mark,n_ring,n_stamp,n_saw⟩,by unfold cCells;rfl,⟨w_part,w_own0,w_own1,w_op,w_port,w_addr,w_t1,w_stamp⟩,⟨r_rd,⟨lc_rd,lm_rd,ln_rd⟩,r_ad,⟨lc_ad,lm_ad,ln_ad⟩⟩⟩
end
end Go.Proofs.YtheeiklgblcjfaaGreatDoor
end
section
namespace Go.Proofs.YtheeiklgblcjfaaGreatDoor
open Go.RowKit Go.Sort
set_option linter.unusedVariables false
set_option linter.unusedSimpArgs false
set_option linter.unusedVariables false
set_option linter.unusedSimpArgs false
set_option maxRecDepth 100000
/-- Where a partition stands,but for its number. -/
structure St8 where
  sn:Bool
  made:List Int
  valid:List Int
  deriving Inhabited
/-- A message that was written. -/
structure Ms8 where
  ds:List Int
  stamp:Int
/-- The model: where partitions stand;of each channel the message that was written last,and what waits;the words of private spans;the bells;how much was done. -/
structure Md8 where
  st:List St8
  wr:Nat → Option Ms8
  qs:Nat → List (List Int)
  wd:Int → Int
  bl:List Bool
  t:Nat
/-- An answer. -/
structure An8 where
  code:Int
  data:List Int
  valid:Bool
  count:Int
def up8 {α:Type} (f:Nat → α) (k:Nat) (v:α):Nat → α:=fun j => if j = k then v else f j
def upI {α:Type} (f:Int → α) (k:Int) (v:α):Int → α:=fun j => if j = k then v else f j
@[simp] theorem up8_same {α:Type} (f:Nat → α) (k:Nat) (v:α):up8 f k v k = v:=if_pos rfl
theorem up8_ne {α:Type} (f:Nat → α) {j k:Nat} (v:α) (h:j ≠ k):up8 f k v j = f j:=if_neg h
@[simp] theorem upI_same {α:Type} (f:Int → α) (k:Int) (v:α):upI f k v k = v:=if_pos rfl
def none8:St8:=⟨false,[],[]⟩
def st8 (M:Md8) (p:Int):St8:=if 0 ≤ p then (M.st[p.toNat]?).getD none8 else none8
/-- A port among the valid ones,or not. -/
def see8 (l:List Int) (port:Int) (v:Bool):List Int:=if v = true then (if port ∈ l then l else l ++ [port]) else l.erase port
/-- Of a call that is refused the code,else 0. -/
def ref8 (c:Cfg) (M:Md8) (x:CV):Int:=refusedN c x.part (st8 M x.part).sn (st8 M x.part).made x.op x.port x.addr x.rd.length
def ch8 (c:Cfg) (x:CV):Nat:=(portK c x.port).toNat
def kind8 (c:Cfg) (k:Nat):Int:=fld (row c.chans k) 0
def dep8 (c:Cfg) (k:Nat):Int:=fld (row c.chans k) 4
def per8 (c:Cfg) (k:Nat):Int:=fld (row c.chans k) 5
def fresh8 (c:Cfg) (k:Nat) (m:Ms8) (t1:Int):Bool:=decide (t1 - m.stamp ≤ per8 c k)
/-- Where a partition stands turns. -/
def setSt8 (M:Md8) (p:Int) (s:St8):Md8:={ M with st:=M.st.set p.toNat s,t:=M.t + 1 }
def tick8 (M:Md8):Md8:={ M with t:=M.t + 1 }
def ok8:An8:=⟨0,[],false,0⟩
def code8 (z:Int):An8:=⟨z,[],false,0⟩
/-- The effect of a call that isn't refused. -/
def act8 (c:Cfg) (M:Md8) (x:CV):An8 × Md8:=
  if x.op = 1 then (ok8,setSt8 M x.part { st8 M x.part with made:=(st8 M x.part).made ++ [x.port] })
  else if x.op = 2 then (ok8,setSt8 M x.part { st8 M x.part with sn:=true })
  else if x.op = 3 then (ok8,{ M with wr:=up8 M.wr (ch8 c x) (some ⟨x.rd,x.stamp⟩),t:=M.t + 1 })
  else if x.op = 4 then
    match M.wr (ch8 c x) with
    | none => (code8 1,setSt8 M x.part { st8 M x.part with valid:=see8 (st8 M x.part).valid x.port false })
    | some m => (⟨0,m.ds,fresh8 c (ch8 c x) m x.t1,0⟩,setSt8 M x.part { st8 M x.part with valid:=see8 (st8 M x.part).valid x.port (fresh8 c (ch8 c x) m x.t1) })
  else if x.op = 5 then
    if ((M.qs (ch8 c x)).length:Int) = dep8 c (ch8 c x) then (code8 2,tick8 M)
    else (ok8,{ M with qs:=up8 M.qs (ch8 c x) (M.qs (ch8 c x) ++ [x.rd]),t:=M.t + 1 })
  else if x.op = 6 then
    match M.qs (ch8 c x) with
    | [] => (code8 2,tick8 M)
    | d :: r => (⟨0,d,false,0⟩,{ M with qs:=up8 M.qs (ch8 c x) r,t:=M.t + 1 })
  else if x.op = 7 then
    if kind8 c (ch8 c x) = 2 then (⟨0,[],false,(M.qs (ch8 c x)).length⟩,tick8 M)
    else (⟨0,[],decide (x.port ∈ (st8 M x.part).valid),0⟩,tick8 M)
  else if x.op = 8 then (⟨0,[M.wd x.addr],false,0⟩,tick8 M)
  else (ok8,{ M with wd:=upI M.wd x.addr (x.rd.getD 0 0),t:=M.t + 1 })
/-- The effect of a call. -/
def do8 (c:Cfg) (M:Md8) (x:CV):An8 × Md8:=if ref8 c M x = 0 then act8 c M x else (code8 (ref8 c M x),tick8 M)
/-- The model at first. -/
def new8 (c:Cfg):Md8:=⟨List.replicate c.parts.length none8,fun _ => none,fun _ => [],fun _ => 0,List.replicate (2 * c.chans.length) false,0⟩
end Go.Proofs.YtheeiklgblcjfaaGreatDoor
end
section
namespace Go.Proofs.YtheeiklgblcjfaaGreatDoor
open Go.RowKit Go.Sort
set_option linter.unusedVariables false
set_option linter.unusedSimpArgs false
set_option linter.unusedVariables false
set_option linter.unusedSimpArgs false
set_option maxRecDepth 100000
/-- A row of integers,where other blocks have turned than its own. -/
theorem IntRowK.only {K:IntKind} {w w':World} {A:Option Addr} {l:List Int} {S:Nat → Prop} (h:IntRowK K w w.heap.size A l) (ho:Only S w w') (hs:∀ a,A = some a → ¬ S a.block):IntRowK K w' w.heap.size A l:=fun hp => by
  obtain ⟨b,o,rfl,hb,hc⟩:=h hp
  refine ⟨b,o,rfl,hb,fun i hi => ?_⟩
  rw [← hc i hi]
  simp [World.cell?,ho.block b hb (hs _ rfl)]
namespace Bel
/-- Is bell i pending? -/
def hasB (bs:List Bool) (i:Int):Bool:=decide (0 ≤ i) && bs.getD i.toNat false
/-- Bell i is rung. -/
def ringB (bs:List Bool) (i:Int):List Bool:=if 0 ≤ i then bs.set i.toNat true else bs
def tk (bs:List Bool) (out:List Int) (i:Int):List Int:=if hasB bs i = true ∧ i ∉ out then out ++ [i] else out
/-- What is pending without those. -/
def leftB (bs:List Bool) (out:List Int):List Bool:=(List.range bs.length).map fun k => bs.getD k false && !decide ((k:Int) ∈ out)
/-- The pending ones below k,rising. -/
def allTo (bs:List Bool) (k:Nat):List Int:=((List.range k).filter (fun j => bs.getD j false)).map (fun j:Nat => (j:Int))
def allB (bs:List Bool):List Int:=allTo bs bs.length
theorem hasB_nat (bs:List Bool) (k:Nat):hasB bs (k:Int) = bs.getD k false:=by simp [hasB]
theorem hasB_neg (bs:List Bool) (i:Int) (h:i < 0):hasB bs i = false:=by simp [hasB];omega
theorem hasB_big (bs:List Bool) (i:Int) (h:(bs.length:Int) ≤ i):hasB bs i = false:=by
  simp [hasB,List.getD_eq_getElem?_getD]
  intro h0
  rw [List.getElem?_eq_none (by omega)];rfl
@[simp] theorem ringB_len (bs:List Bool) (i:Int):(ringB bs i).length = bs.length:=by unfold ringB;split <;> simp
@[simp] theorem leftB_len (bs:List Bool) (out:List Int):(leftB bs out).length = bs.length:=by simp [leftB]
theorem allTo_len (bs:List Bool) (k:Nat):(allTo bs k).length ≤ k:=by
  unfold allTo
  rw [List.length_map]
  exact Nat.le_trans (List.length_filter_le _ _) (by simp)
theorem allB_len (bs:List Bool):(allB bs).length ≤ bs.length:=allTo_len bs bs.length
/-- Bells as cells. -/
def bcells (bs:List Bool):List Value:=bs.map Value.bool
@[simp] theorem bcells_len (bs:List Bool):(bcells bs).length = bs.length:=by simp [bcells]
theorem bcells_at (bs:List Bool) (k:Nat) (h:k < bs.length):(bcells bs)[k]? = some (.bool (bs.getD k false)):=by simp [bcells,List.getD_eq_getElem?_getD,h]
theorem bcells_set (bs:List Bool) (k:Nat) (x:Bool):(bcells bs).set k (.bool x) = bcells (bs.set k x):=by simp [bcells,List.map_set]
/-- A block of bells,as a list. -/
def BoolsAt (w:World) (b:Nat) (bs:List Bool):Prop:=w.heap[b]? = some (.cells (bcells bs).toArray 4 (0,0))
theorem BoolsAt.lt {w:World} {b:Nat} {bs:List Bool} (h:BoolsAt w b bs):b < w.heap.size:=(Array.getElem?_eq_some_iff.1 h).1
theorem BoolsAt.cell {w:World} {b:Nat} {bs:List Bool} (h:BoolsAt w b bs) {k:Nat} (hk:k < bs.length):w.cell? ⟨b,k,none⟩ = some (.bool (bs.getD k false)):=by
  unfold BoolsAt at h
  simp [World.cell?,h,bcells_at bs k hk]
theorem BoolsAt.frozen {w:World} {b:Nat} {bs:List Bool} (h:BoolsAt w b bs) (k:Nat):w.frozen? ⟨b,k,none⟩ = false:=by
  unfold BoolsAt at h
  simp [World.frozen?,h]
theorem BoolsAt.set {w:World} {b:Nat} {bs:List Bool} (h:BoolsAt w b bs) (k:Nat) (x:Bool):BoolsAt (w.setCell ⟨b,k,none⟩ (.bool x)) b (bs.set k x):=by
  unfold BoolsAt at h ⊢
  rw [← bcells_set]
  simp [World.setCell,Array.getElem?_modify,h]
theorem BoolsAt.of {w w':World} {b:Nat} {bs:List Bool} (h:BoolsAt w b bs) (e:w'.heap[b]? = w.heap[b]?):BoolsAt w' b bs:=e.trans h
theorem BoolsAt.below {w w':World} {b:Nat} {bs:List Bool} (h:BoolsAt w b bs) (hb:Below w.heap.size w w'):BoolsAt w' b bs:=h.of (hb.block b h.lt)
/-- A set: its struct lies in block mb,its bells in block rb. -/
structure SetAt (w:World) (mb rb:Nat) (bs:List Bool):Prop where
  head:w.heap[mb]? = some (.cells #[.slice (some ⟨rb,0,none⟩) bs.length bs.length] 142 (0,0))
  row:BoolsAt w rb bs
theorem SetAt.lt {w:World} {mb rb:Nat} {bs:List Bool} (h:SetAt w mb rb bs):mb < w.heap.size ∧ rb < w.heap.size:=⟨(Array.getElem?_eq_some_iff.1 h.head).1,h.row.lt⟩
theorem SetAt.ne {w:World} {mb rb:Nat} {bs:List Bool} (h:SetAt w mb rb bs):mb ≠ rb:=by
  rintro rfl
  have:=h.head.symm.trans h.row
  simp at this
theorem SetAt.cell {w:World} {mb rb:Nat} {bs:List Bool} (h:SetAt w mb rb bs):w.cell? ⟨mb,0,none⟩ = some (.slice (some ⟨rb,0,none⟩) bs.length bs.length):=cell_of_one h.head
theorem SetAt.set {w:World} {mb rb:Nat} {bs:List Bool} (h:SetAt w mb rb bs) (k:Nat) (x:Bool):SetAt (w.setCell ⟨rb,k,none⟩ (.bool x)) mb rb (bs.set k x):=by
  refine ⟨?_,h.row.set k x⟩
  rw [Below.heap_setCell _ _ _ _ h.ne,List.length_set]
  exact h.head
theorem SetAt.below {w w':World} {mb rb:Nat} {bs:List Bool} (h:SetAt w mb rb bs) (hb:Below w.heap.size w w'):SetAt w' mb rb bs:=⟨(hb.block mb h.lt.1).trans h.head,h.row.below hb⟩
theorem SetAt.of {w w':World} {mb rb:Nat} {bs:List Bool} (h:SetAt w mb rb bs) (h1:w'.heap[mb]? = w.heap[mb]?) (h2:w'.heap[rb]? = w.heap[rb]?):SetAt w' mb rb bs:=⟨h1.trans h.head,h.row.of h2⟩
theorem SetAt.kept {w w':World} {mb rb:Nat} {bs:List Bool} (h:SetAt w mb rb bs) {S:Nat → Prop} (ho:Only S w w') (h1:¬ S mb) (h2:¬ S rb):SetAt w' mb rb bs:=h.of (ho.block mb h.lt.1 h1) (ho.block rb h.lt.2 h2)
theorem Tryz.infoB:(Tryz.prog.info? 4).map (fun i => (i.zero,i.size,i.bytes)) = some (some (.bool false),1,1):=by kernel_rfl
theorem Tryz.infoI:(Tryz.prog.info? 3).map (fun i => (i.zero,i.size,i.bytes)) = some (some (.int .i64 0),1,8):=by kernel_rfl
theorem made_bools (n:Nat):madeCells #[Value.bool false] n = (bcells (List.replicate n false)).toArray:=by
  apply Array.ext
  · simp [size_madeCells,bcells]
  · intro i h1 h2
    simp [madeCells,bcells,Nat.mod_one]
/-- Is there a bell i? -/
theorem known_in (mb rb:Nat) (bs:List Bool) (k:Nat) (w:World) (h:SetAt w mb rb bs) (hk:k < bs.length) :
    Calls Tryz.prog 75 #[.pointer (some ⟨mb,0,none⟩),.int .i64 (k:Int)] w fun e w' => e = .returned (.bool true) ∧ w = w':=by
  have c0:=h.cell
  have h0:(0:Int) ≤ (k:Int):=by omega
  have h1:(k:Int) < (bs.length:Int):=by omega
  clear h
  go_enter Tryz.func75,Tryz.ntmps75
  go_wp2
  go_ret
  exact ⟨by simp,rfl⟩
theorem known_out (mb rb:Nat) (bs:List Bool) (i:Int) (w:World) (h:SetAt w mb rb bs) (hi:i < 0 ∨ (bs.length:Int) ≤ i) :
    Calls Tryz.prog 75 #[.pointer (some ⟨mb,0,none⟩),.int .i64 i] w fun e w' => e = .returned (.bool false) ∧ w = w':=by
  have c0:=h.cell
  clear h
  by_cases hn:i < 0
  · have h0:¬ (0:Int) ≤ i:=by omega
    clear hi
    go_enter Tryz.func75,Tryz.ntmps75
    go_wp2
    go_ret
    exact ⟨by simp,rfl⟩
  · have h0:(0:Int) ≤ i:=by omega
    have h1:¬ i < (bs.length:Int):=by omega
    clear hi hn
    go_enter Tryz.func75,Tryz.ntmps75
    go_wp2
    go_ret
    exact ⟨by simp,rfl⟩
theorem has_b (mb rb:Nat) (bs:List Bool) (i:Int) (w:World) (h:SetAt w mb rb bs) :
    Calls Tryz.prog 76 #[.pointer (some ⟨mb,0,none⟩),.int .i64 i] w fun e w' => e = .returned (.bool (hasB bs i)) ∧ w = w':=by
  by_cases hi:i < 0 ∨ (bs.length:Int) ≤ i
  · have he:hasB bs i = false:=by
      rcases hi with h1 | h1
      · exact hasB_neg bs i h1
      · exact hasB_big bs i h1
    rw [he]
    have hh:=Lib.hid hi
    clear hi he
    go_enter Tryz.func76,Tryz.ntmps76
    go_wp2_with (go_at_call 75;refine (known_out mb rb bs i _ h hh.out).mono ?_;rintro e w' ⟨rfl,rfl⟩)
    go_ret
    exact ⟨by simp,rfl⟩
  · obtain ⟨k,rfl⟩:=Int.eq_ofNat_of_zero_le (a:=i) (by omega)
    have hk:k < bs.length:=by omega
    have c0:=h.cell
    have c1:=h.row.cell hk
    rw [hasB_nat]
    obtain ⟨x,hx⟩:∃ x,bs.getD k false = x:=⟨_,rfl⟩
    rw [hx] at c1 ⊢
    clear hx hi
    go_enter Tryz.func76,Tryz.ntmps76
    go_wp2_with (go_at_call 75;refine (known_in mb rb bs k _ h hk).mono ?_;rintro e w' ⟨rfl,rfl⟩)
    go_ret
    exact ⟨by simp,rfl⟩
/-- A new set,nothing pending. -/
def GivesSet (w:World) (bs:List Bool) (e:Ending) (w':World):Prop:=
  ∃ mb rb,e = .returned (.tuple #[.pointer (some ⟨mb,0,none⟩),.int .i64 0]) ∧ w.heap.size ≤ mb ∧ w.heap.size ≤ rb ∧ SetAt w' mb rb bs ∧ Below w.heap.size w w'
theorem new_in (n:Nat) (v:Int) (hv:v = (n:Int)) (w:World) (hn:n ≤ 64) :
    Calls Tryz.prog 32 #[.int .i64 v] w (GivesSet w (List.replicate n false)):=by
  subst hv
  obtain ⟨i0,hi,hz0,hz1,hz2⟩:=info_parts Tryz.infoB
  go_enter Tryz.func32,Tryz.ntmps32
  go_wp2_with (refine wpList_make_row _ rfl _ _ 140 rfl 4 i0 (.bool false) Tryz.underlying140 hi hz0 hz1 rfl .i64 .i64 n rfl rfl (by rw [hz2];omega) (by omega) ?_)
  go_ret2
  have hb1:Below w.heap.size w (w.alloc (.cells (madeCells #[Value.bool false] n) 4)):=(Below.refl _ _).alloc (Nat.le_refl _) _
  refine ⟨w.heap.size + 1,w.heap.size,rfl,by omega,by omega,⟨?_,?_⟩,hb1.alloc (by simp) _⟩
  · have:=heap_alloc_new (w.alloc (.cells (madeCells #[Value.bool false] n) 4)) (.cells #[.slice (some ⟨w.heap.size,0,none⟩) n n] 142)
    simpa using this
  · unfold BoolsAt
    rw [← made_bools,Below.heap_alloc _ _ _ (by simp)]
    exact heap_alloc_new w _
end Bel
end Go.Proofs.YtheeiklgblcjfaaGreatDoor
end
section
namespace Go.Proofs.YtheeiklgblcjfaaGreatDoor
open Go.RowKit Go.Sort
set_option linter.unusedVariables false
set_option linter.unusedSimpArgs false
set_option linter.unusedVariables false
set_option linter.unusedSimpArgs false
set_option maxRecDepth 100000
open Go.Maps (int_keyed keyOf_int_mk)
/-- What a block of memory is of the model's. -/
inductive Tg8 where
  | free | cfg | head | stand | mw | msg | mr | mp | bset | pend
  | made (p:Nat) | valid (p:Nat) | row (k:Nat) | items (k:Nat)
  deriving DecidableEq
/-- Blocks that the model writes. -/
def Tg8.mut:Tg8 → Prop
  | .free | .cfg | .msg | .head | .mr => False
  | _ => True
def Tagged (own:Nat → Tg8) (v:Value) (t:Tg8):Prop:=∀ g,v.ownBlock = some g → own g = t
def TagA (own:Nat → Tg8) (A:Option Addr) (n:Nat) (t:Tg8):Prop:=0 < n → ∀ a,A = some a → own a.block = t
/-- A message,and where its words lie. -/
structure Gv8 where
  ds:List Int
  A:Option Addr
  k:Nat
  stamp:Int
def Gv8.ms (g:Gv8):Ms8:=⟨g.ds,g.stamp⟩
@[reducible] def gC (g:Gv8):List Value:=[.slice g.A g.ds.length g.k,.int .i64 g.stamp]
def gsC (l:List Gv8):List Value:=(l.map gC).flatten
theorem gsC_app (l m:List Gv8):gsC (l ++ m) = gsC l ++ gsC m:=by simp [gsC]
structure GAt (w:World) (own:Nat → Tg8) (g:Gv8):Prop where
  row:IntRowK .u32 w w.heap.size g.A g.ds
  cap:g.ds.length ≤ g.k ∧ g.k ≤ maxLen ∧ (g.A = none → g.ds = [])
  tag:TagA own g.A g.ds.length .msg
/-- A standing,and the values of its lists. -/
structure Sv8 where
  s:St8
  mv:Value
  vv:Value
@[reducible] def sC (p:Nat) (s:Sv8):List Value:=[.int .i64 (p:Int),.bool s.s.sn,s.mv,s.vv]
/-- Standings in a block,from a place on. -/
def StAt (w:World) (g off:Nat) (l:List Sv8):Prop:=∃ cur,w.heap[g]? = some (.cells cur 59 (0,0)) ∧ ∀ p s,l[p]? = some s → ∀ j v,(sC p s)[j]? = some v → cur[off + p * 4 + j]? = some v
theorem StAt.cell {w:World} {g off:Nat} {l:List Sv8} (h:StAt w g off l) {p:Nat} {s:Sv8} (hp:l[p]? = some s) {j:Nat} {v:Value} (hj:(sC p s)[j]? = some v):w.cell? ⟨g,off + p * 4 + j,none⟩ = some v:=by
  obtain ⟨cur,hb,hc⟩:=h
  exact blk_at hb (hc p s hp j v hj)
theorem StAt.frozen {w:World} {g off:Nat} {l:List Sv8} (h:StAt w g off l) (o:Nat):w.frozen? ⟨g,o,none⟩ = false:=by
  obtain ⟨cur,hb,hc⟩:=h
  simp [World.frozen?,hb]
theorem StAt.of {w w':World} {g off:Nat} {l:List Sv8} (h:StAt w g off l) (e:w'.heap[g]? = w.heap[g]?):StAt w' g off l:=by
  obtain ⟨cur,hb,hc⟩:=h
  exact ⟨cur,e.trans hb,hc⟩
theorem StAt.set {w:World} {g off:Nat} {l:List Sv8} (h:StAt w g off l) {p:Nat} {s:Sv8} (hp:l[p]? = some s) (s':Sv8) (j:Nat) (hj:j < 4) (v:Value) (e:sC p s' = (sC p s).set j v):StAt (w.setCell ⟨g,off + p * 4 + j,none⟩ v) g off (l.set p s'):=by
  obtain ⟨cur,hb,hc⟩:=h
  have hpl:=(List.getElem?_eq_some_iff.1 hp).1
  refine ⟨_,blk_put hb rfl,fun q z hq i u hu => ?_⟩
  rw [List.getElem?_set] at hq
  split at hq
  · rename_i e1
    subst e1
    simp only [hpl,if_true,Option.some.injEq] at hq
    subst hq
    rw [e,List.getElem?_set] at hu
    split at hu
    · rename_i e2
      subst e2
      rw [if_pos (by simpa using hj)] at hu
      injection hu with hu
      subst hu
      have:(sC p s)[j]? = some ((sC p s)[j]'(by simpa using hj)):=List.getElem?_eq_getElem _
      have hlt:=(Array.getElem?_eq_some_iff.1 (hc p s hp j _ this)).1
      simp [Array.getElem?_setIfInBounds,hlt]
    · rename_i e2
      rw [Array.getElem?_setIfInBounds,if_neg (by omega)]
      exact hc p s hp i u hu
  · rename_i e1
    have hi:i < 4:=by have:=(List.getElem?_eq_some_iff.1 hu).1;simpa using this
    rw [Array.getElem?_setIfInBounds,if_neg (by
      intro e3
      rcases Nat.lt_or_gt_of_ne e1 with h1 | h1 <;> omega)]
    exact hc q z hq i u hu
/-- An element of a map,read as itself. -/
def rd8 (v:Value):Option (DataW Value × List MemPlace):=some (.held v,[])
/-- A map in block mb: what it holds at each key. -/
def MapH (w:World) (kt:TypeId) (q:IntKind) (mb:Nat) (f:Int → Option Value) (n:Nat):Prop:=∃ (D:DataW Value) (m:Nat),w.ownsMap Tryz.prog kt rd8 mb m D ∧ m ≤ n ∧
  ∀ p,(Lit.int q p).wf = true → Maps.has D (.int q p) = (f p).isSome ∧ ∀ v,f p = some v → ∀ zd,D.atKey (.int q p) zd = .held v
theorem MapH.made (w:World) (kt:TypeId) (q:IntKind):MapH (w.alloc (.map #[] 0)) kt q w.heap.size (fun _ => none) 0:=
  ⟨.map [],0,World.ownsMap_made w Tryz.prog kt rd8,Nat.le_refl _,fun p hp => ⟨rfl,fun v h => by cases h⟩⟩
theorem MapH.lt {w:World} {kt:TypeId} {q:IntKind} {mb:Nat} {f:Int → Option Value} {n:Nat} (h:MapH w kt q mb f n):mb < w.heap.size:=by
  obtain ⟨D,m,h,_⟩:=h
  exact h.lt
theorem MapH.of {w w':World} {kt:TypeId} {q:IntKind} {mb:Nat} {f:Int → Option Value} {n:Nat} (h:MapH w kt q mb f n) (e:w'.heap[mb]? = w.heap[mb]?):MapH w' kt q mb f n:=by
  obtain ⟨D,m,⟨es,clock,h1,h2⟩,h3⟩:=h
  exact ⟨D,m,⟨es,clock,e.trans h1,h2⟩,h3⟩
theorem MapH.more {w:World} {kt:TypeId} {q:IntKind} {mb:Nat} {f:Int → Option Value} {n n':Nat} (h:MapH w kt q mb f n) (hn:n ≤ n'):MapH w kt q mb f n':=by
  obtain ⟨D,m,h1,h2,h3⟩:=h
  exact ⟨D,m,h1,by omega,h3⟩
theorem MapH.as {w:World} {kt:TypeId} {q:IntKind} {mb:Nat} {f g:Int → Option Value} {n:Nat} (h:MapH w kt q mb f n) (e:∀ p,(Lit.int q p).wf = true → f p = g p):MapH w kt q mb g n:=by
  obtain ⟨D,m,h1,h2,h3⟩:=h
  exact ⟨D,m,h1,h2,fun p hp => by rw [← e p hp];exact h3 p hp⟩
section
variable {w:World} {kt et t:TypeId} {q:IntKind} {mb n:Nat} {f:Int → Option Value} {p:Int}
theorem key8 (hk:Tryz.prog.underlying kt = some (.int q)) (hp:(Lit.int q p).wf = true):keyOf Tryz.prog kt (.int q p) = some (.int q p):=keyOf_int_mk hk hp
theorem MapH.look (h:MapH w kt q mb f n) (hk:Tryz.prog.underlying kt = some (.int q)) (ht:Tryz.prog.underlying t = some (.map kt et)) {z:Value} (hz:(zeroValue et).run Tryz.prog w = .ok z w) (hp:(Lit.int q p).wf = true) (c:Bool) :
    (Instr.lookup t (.map (some mb)) (.int q p) c).run Tryz.prog w = .ok (if c then .tuple #[(f p).getD z,.bool (f p).isSome] else (f p).getD z) w:=by
  obtain ⟨D,m,⟨es,clock,hb,F,hs,rfl⟩,_,hD⟩:=h
  obtain ⟨h1,h2⟩:=hD p hp
  rcases Maps.fit_look c (int_keyed hk) ht hz hb F (key8 hk hp) with ⟨hrun,_,hat⟩ | ⟨e0,y,_,_,hrun,hRv,hat,_⟩
  · have e1:f p = none:=by
      have:=Maps.has_false_of_atKey hat
      rw [this] at h1
      cases hf:f p with
      | none => rfl
      | some v => rw [hf] at h1;cases h1
    rw [hrun,e1];rfl
  · have hh:=Maps.has_true_of_atKey hat
    rw [hh] at h1
    cases hf:f p with
    | none => rw [hf] at h1;cases h1
    | some v =>
      have e2:=(hat (.held v)).symm.trans (h2 v hf (.held v))
      simp only [rd8,Option.some.injEq] at hRv
      rw [← hRv] at e2
      injection e2 with e2
      rw [hrun,e2];rfl
theorem MapH.put (h:MapH w kt q mb f n) (hk:Tryz.prog.underlying kt = some (.int q)) (ht:Tryz.prog.underlying t = some (.map kt et)) (hp:(Lit.int q p).wf = true) (hn:n ≤ 2000000) (v:Value):∃ w',(Instr.mapUpdate t (.map (some mb)) (.int q p) v).run Tryz.prog w = .ok () w' ∧ MapH w' kt q mb (fun j => if j = p then some v else f j) (n + 1) ∧ Only (fun k => k = mb) w w':=by
  obtain ⟨D,m,ho,hm,hD⟩:=h
  obtain ⟨w',hrun,ho',hg⟩:=ho.store (int_keyed hk) ht (val:=v) (d:=.held v) (ps:=[]) (by unfold maxLen;omega) (key8 hk hp) rfl
  have hkl:WideAt.IsKeyLit (.int q p):=(int_keyed hk).key (key8 hk hp)
  have hg:=hg.grown
  refine ⟨w',hrun,⟨_,m + 1,ho',by omega,fun j hj => ?_⟩,⟨hg.os,hg.tape,hg.output,hg.size,fun k hk2 hne => hg.block k hk2 (fun e => by injection e with e;exact hne e)⟩⟩
  dsimp only
  by_cases hjp:j = p
  · subst hjp
    rw [Maps.has_put_same ho.isMap hkl,if_pos rfl]
    refine ⟨rfl,fun u hu zd => ?_⟩
    injection hu with hu
    subst hu
    rw [Maps.atKey_put_same ho.isMap hkl]
  · have hne:(Lit.int q j:Lit) ≠ .int q p:=fun e => by injection e with _ e;exact hjp e
    rw [Maps.has_put_other hne,if_neg hjp]
    refine ⟨(hD j hj).1,fun u hu zd => ?_⟩
    rw [Maps.atKey_put_other hne]
    exact (hD j hj).2 u hu zd
theorem MapH.del (h:MapH w kt q mb f n) (hk:Tryz.prog.underlying kt = some (.int q)) (ht:Tryz.prog.underlying t = some (.map kt et)) (hp:(Lit.int q p).wf = true) (ty:TypeId):∃ w',(Builtin.delete_ #[t,kt] ty #[.map (some mb),.int q p]).run Tryz.prog w = .ok (.tuple #[]) w' ∧ MapH w' kt q mb (fun j => if j = p then none else f j) n ∧ Only (fun k => k = mb) w w':=by
  obtain ⟨D,m,ho,hm,hD⟩:=h
  obtain ⟨w',hrun,ho',hg⟩:=ho.drop (int_keyed hk) ht (key8 hk hp) ty
  have hkl:WideAt.IsKeyLit (.int q p):=(int_keyed hk).key (key8 hk hp)
  have hg:=hg.grown
  refine ⟨w',hrun,⟨_,m,ho',by omega,fun j hj => ?_⟩,⟨hg.os,hg.tape,hg.output,hg.size,fun k hk2 hne => hg.block k hk2 (fun e => by injection e with e;exact hne e)⟩⟩
  dsimp only
  by_cases hjp:j = p
  · subst hjp
    rw [if_pos rfl]
    exact ⟨Maps.has_del_same,fun u hu => by cases hu⟩
  · have hne:(Lit.int q j:Lit) ≠ .int q p:=fun e => by injection e with _ e;exact hjp e
    rw [if_neg hjp]
    exact ⟨(Maps.has_del_other hne).trans (hD j hj).1,fun u hu zd => by rw [Maps.atKey_del_other hne];exact (hD j hj).2 u hu zd⟩
end
/-- Where the model lies. -/
structure Mx8 where
  b:Nat
  x:CfgAt
  sg:Nat
  so:Nat
  sk:Nat
  sl:List Sv8
  mw:Nat
  mr:Nat
  mp:Nat
  wv:Nat → Option Gv8
  rb:Nat → Nat
  iv:Nat → Value
  qv:Nat → List Gv8
  sb:Nat
  pb:Nat
@[reducible] def mC (c:Cfg) (A:Mx8):Array Value:=#[.slice A.x.pa c.parts.length A.x.pc,.slice A.x.ca c.chans.length A.x.cc,.int .i64 c.len0,.slice A.x.aa c.win0.length A.x.ac,.int .i64 c.len1,.slice A.x.ba c.win1.length A.x.bc,
  .slice (some ⟨A.sg,A.so,none⟩) c.parts.length A.sk,.map (some A.mw),.map (some A.mr),.map (some A.mp),.pointer (some ⟨A.sb,0,none⟩)]
def qing (c:Cfg) (k:Nat):Bool:=decide (k < c.chans.length) && decide (kind8 c k = 2)
def fw8 (wv:Nat → Option Gv8):Int → Option Value:=fun z => if 0 ≤ z then (wv z.toNat).map (fun g => .agg (gC g).toArray) else none
def fr8 (c:Cfg) (rb:Nat → Nat):Int → Option Value:=fun z => if 0 ≤ z ∧ qing c z.toNat = true then some (.pointer (some ⟨rb z.toNat,0,none⟩)) else none
def fp8 (wd:Int → Int):Int → Option Value:=fun a => if wd a = 0 then none else some (.int .u32 (wd a))
/-- The model in memory,but for the blocks whose owners are among X. -/
structure MBut (X:Tg8 → Prop) (w:World) (own:Nat → Tg8) (n0:Nat) (c:Cfg) (M:Md8) (A:Mx8):Prop where
  free:∀ k,w.heap.size ≤ k → own k = .free
  base:∀ k,own k ≠ .free → n0 ≤ k
  n0le:n0 ≤ w.heap.size
  len:A.sl.map (·.s) = M.st ∧ M.st.length = c.parts.length
  gw:∀ k,(A.wv k).map Gv8.ms = M.wr k
  gq:∀ k,(A.qv k).map (·.ds) = M.qs k
  gs:∀ k g,g ∈ A.qv k → g.stamp = 0
  bl:M.bl.length = 2 * c.chans.length
  sz:∀ s ∈ M.st,s.made.length ≤ M.t ∧ s.valid.length ≤ M.t
  wz:∀ k m,M.wr k = some m → m.ds.length ≤ 1000000 ∧ -1 ≤ m.stamp ∧ m.stamp ≤ 1099511627776
  qz:∀ k,qing c k = true → ((M.qs k).length:Int) ≤ dep8 c k
  head:own A.b = .head ∧ w.heap[A.b]? = some (.cells (mC c A) 88 (0,0))
  cfg:CfgIn w w.heap.size c A.x ∧ TagA own A.x.pa c.parts.length .cfg ∧ TagA own A.x.ca c.chans.length .cfg ∧ TagA own A.x.aa c.win0.length .cfg ∧ TagA own A.x.ba c.win1.length .cfg
  stand:¬ X .stand → own A.sg = .stand ∧ StAt w A.sg A.so A.sl
  sk:c.parts.length ≤ A.sk ∧ A.sk ≤ maxLen
  made:∀ p s,A.sl[p]? = some s → ¬ X (.made p) → OwnsOff w n0 3 1 s.mv s.s.made.length (icells s.s.made) ∧ Tagged own s.mv (.made p)
  valid:∀ p s,A.sl[p]? = some s → ¬ X (.valid p) → OwnsOff w n0 3 1 s.vv s.s.valid.length (icells s.s.valid) ∧ Tagged own s.vv (.valid p)
  mw:¬ X .mw → own A.mw = .mw ∧ MapH w 3 .i64 A.mw (fw8 A.wv) M.t
  msgw:∀ k g,A.wv k = some g → GAt w own g
  mr:own A.mr = .mr ∧ MapH w 3 .i64 A.mr (fr8 c A.rb) c.chans.length
  row:∀ k,qing c k = true → ¬ X (.row k) → own (A.rb k) = .row k ∧ w.heap[A.rb k]? = some (.cells #[.int .i64 (dep8 c k),A.iv k] 139 (0,0))
  items:∀ k,qing c k = true → ¬ X (.items k) → OwnsOff w n0 96 2 (A.iv k) (A.qv k).length (gsC (A.qv k)) ∧ Tagged own (A.iv k) (.items k)
  msgq:∀ k g,g ∈ A.qv k → GAt w own g
  mp:¬ X .mp → own A.mp = .mp ∧ MapH w 36 .u64 A.mp (fp8 M.wd) M.t
  bells:¬ X .pend → own A.sb = .bset ∧ own A.pb = .pend ∧ Bel.SetAt w A.sb A.pb M.bl
/-- The model in memory. -/
def MAt:World → (Nat → Tg8) → Nat → Cfg → Md8 → Mx8 → Prop:=MBut (fun _ => False)
theorem GAt.only {w w':World} {own own':Nat → Tg8} {g:Gv8} {S:Nat → Prop} (h:GAt w own g) (ho:Only S w w') (he:∀ k,k < w.heap.size → own' k = own k) (hS:∀ k,k < w.heap.size → S k → own k ≠ .msg):GAt w' own' g:=by
  refine ⟨(h.row.only8 (Nat.le_refl _) ho fun hn a ha e => ?_).more ho.size,h.cap,fun hn a ha => ?_⟩
  · obtain ⟨b,o,e2,hlt,_⟩:=h.row hn
    rw [e2] at ha;cases ha
    exact hS b hlt e (h.tag hn _ e2)
  · obtain ⟨b,o,e2,hlt,_⟩:=h.row hn
    have:=h.tag hn a ha
    rw [e2] at ha;cases ha
    rw [he b hlt];exact this
theorem Tagged.at_ {own own':Nat → Tg8} {v:Value} {t:Tg8} {n:Nat} (h:Tagged own v t) (hl:∀ k,v.ownBlock = some k → k < n) (he:∀ k,k < n → own' k = own k):Tagged own' v t:=fun g hg => (he g (hl g hg)).trans (h g hg)
theorem TagA.row {own own':Nat → Tg8} {ks:List IntKind} {w w':World} {A:Option Addr} {l:List (List Int)} {t:Tg8} {S:Nat → Prop} (h:TagA own A l.length t) (hr:RowN ks w w.heap.size A l) (ho:Only S w w') (he:∀ k,k < w.heap.size → own' k = own k) (hS:∀ k,k < w.heap.size → S k → own k ≠ t):RowN ks w' w'.heap.size A l ∧ TagA own' A l.length t:=by
  refine ⟨(hr.only8 (Nat.le_refl _) ho fun hn a ha e => ?_).more ho.size,fun hn a ha => ?_⟩
  · obtain ⟨b,o,e2,hlt,_⟩:=hr hn
    rw [e2] at ha;cases ha
    exact hS b hlt e (h hn _ e2)
  · obtain ⟨b,o,e2,hlt,_⟩:=hr hn
    have:=h hn a ha
    rw [e2] at ha;cases ha
    rw [he b hlt];exact this
theorem MBut.weak {X Y:Tg8 → Prop} {w:World} {own:Nat → Tg8} {n0:Nat} {c:Cfg} {M:Md8} {A:Mx8} (h:MBut X w own n0 c M A) (hXY:∀ t,X t → Y t):MBut Y w own n0 c M A where
  free:=h.free
  base:=h.base
  n0le:=h.n0le
  len:=h.len
  gw:=h.gw
  gq:=h.gq
  gs:=h.gs
  bl:=h.bl
  sz:=h.sz
  wz:=h.wz
  qz:=h.qz
  head:=h.head
  cfg:=h.cfg
  stand:=fun n => h.stand fun x => n (hXY _ x)
  sk:=h.sk
  made:=fun p s hs n => h.made p s hs fun x => n (hXY _ x)
  valid:=fun p s hs n => h.valid p s hs fun x => n (hXY _ x)
  mw:=fun n => h.mw fun x => n (hXY _ x)
  msgw:=h.msgw
  mr:=h.mr
  row:=fun k hk n => h.row k hk fun x => n (hXY _ x)
  items:=fun k hk n => h.items k hk fun x => n (hXY _ x)
  msgq:=h.msgq
  mp:=fun n => h.mp fun x => n (hXY _ x)
  bells:=fun n => h.bells fun x => n (hXY _ x)
/-- Blocks turn that are nobody's,or whose owners are among X. -/
theorem MBut.only {X:Tg8 → Prop} {w w':World} {own own':Nat → Tg8} {n0:Nat} {c:Cfg} {M:Md8} {A:Mx8} {S:Nat → Prop} (h:MBut X w own n0 c M A) (ho:Only S w w') (he:∀ k,k < w.heap.size → own' k = own k)
    (hf:∀ k,w'.heap.size ≤ k → own' k = .free) (hb:∀ k,own' k ≠ .free → n0 ≤ k) (hX:∀ t,X t → t.mut) (hS:∀ k,k < w.heap.size → S k → own k = .free ∨ X (own k)) (hP:X .bset → X .pend):MBut X w' own' n0 c M A:=by
  have no:∀ {t:Tg8} (k:Nat),k < w.heap.size → own k = t → t ≠ .free → ¬ X t → ¬ S k:=fun k hk e h1 h2 hs => by
    rcases hS k hk hs with h3 | h3
    · exact h1 (e.symm.trans h3)
    · rw [e] at h3;exact h2 h3
  have lt:∀ (k:Nat),own k ≠ .free → k < w.heap.size:=fun k hk => Nat.lt_of_not_le fun hle => hk (h.free k hle)
  have blk:∀ {t:Tg8} (k:Nat),own k = t → t ≠ .free → ¬ X t → w'.heap[k]? = w.heap[k]?:=fun k e h1 h2 => ho.block k (lt k (by rw [e];exact h1)) (no k (lt k (by rw [e];exact h1)) e h1 h2)
  have hm:¬ X .msg:=fun hx => hX _ hx
  have hc:¬ X .cfg:=fun hx => hX _ hx
  have hh:¬ X .head:=fun hx => hX _ hx
  have hg:∀ g,GAt w own g → GAt w' own' g:=fun g hg => hg.only ho he (fun k hk hs e => by exact no k hk e (by decide) hm hs)
  have tag:∀ {t:Tg8} (k:Nat),own k = t → t ≠ .free → own' k = t:=fun k e h1 => (he k (lt k (by rw [e];exact h1))).trans e
  have ow:∀ {t:Tg8} {e:TypeId} {size n:Nat} {v:Value} {xs:List Value},OwnsOff w n0 e size v n xs → Tagged own v t → t ≠ .free → ¬ X t → OwnsOff w' n0 e size v n xs ∧ Tagged own' v t:=fun {t e size n v xs} h1 h2 h3 h4 =>
    ⟨h1.kept ho (fun k hk => no k (h1.lt k hk).2 (h2 k hk) h3 h4),h2.at_ (fun k hk => (h1.lt k hk).2) he⟩
  have cf:∀ k,k < w.heap.size → S k → own k ≠ .cfg:=fun k hk hs e => no k hk e (by decide) hc hs
  obtain ⟨c1,t1,t2,t3,t4⟩:=h.cfg
  obtain ⟨r1,u1⟩:=t1.row c1.rp ho he cf
  obtain ⟨r2,u2⟩:=t2.row c1.rc ho he cf
  obtain ⟨r3,u3⟩:=t3.row c1.ra ho he cf
  obtain ⟨r4,u4⟩:=t4.row c1.rb ho he cf
  exact {
    free:=hf
    base:=hb
    n0le:=Nat.le_trans h.n0le ho.size
    len:=h.len
    gw:=h.gw
    gq:=h.gq
    gs:=h.gs
    bl:=h.bl
    sz:=h.sz
    wz:=h.wz
    qz:=h.qz
    head:=⟨tag _ h.head.1 (by decide),(blk _ h.head.1 (by decide) hh).trans h.head.2⟩
    cfg:=⟨⟨r1,r2,r3,r4,c1.lp,c1.lc,c1.la,c1.lb⟩,u1,u2,u3,u4⟩
    stand:=fun n => ⟨tag _ (h.stand n).1 (by decide),(h.stand n).2.of (blk _ (h.stand n).1 (by decide) n)⟩
    sk:=h.sk
    made:=fun p s hs n => ow (h.made p s hs n).1 (h.made p s hs n).2 (by simp) n
    valid:=fun p s hs n => ow (h.valid p s hs n).1 (h.valid p s hs n).2 (by simp) n
    mw:=fun n => ⟨tag _ (h.mw n).1 (by decide),(h.mw n).2.of (blk _ (h.mw n).1 (by decide) n)⟩
    msgw:=fun k g hk => hg g (h.msgw k g hk)
    mr:=⟨tag _ h.mr.1 (by decide),h.mr.2.of (blk _ h.mr.1 (by decide) (fun hx => hX _ hx))⟩
    row:=fun k hk n => ⟨tag _ (h.row k hk n).1 (by simp),(blk _ (h.row k hk n).1 (by simp) n).trans (h.row k hk n).2⟩
    items:=fun k hk n => ow (h.items k hk n).1 (h.items k hk n).2 (by simp) n
    msgq:=fun k g hk => hg g (h.msgq k g hk)
    mp:=fun n => ⟨tag _ (h.mp n).1 (by decide),(h.mp n).2.of (blk _ (h.mp n).1 (by decide) n)⟩
    bells:=fun n => ⟨tag _ (h.bells n).1 (by decide),tag _ (h.bells n).2.1 (by decide),(h.bells n).2.2.of (blk _ (h.bells n).1 (by decide) (fun x => n (hP x))) (blk _ (h.bells n).2.1 (by decide) n)⟩ }
end Go.Proofs.YtheeiklgblcjfaaGreatDoor
end
