/- Texts of the ring, joined, what is used of them. No condition but those in the statements. -/
import Derived.BigQuiet
import Derived.BigRegion
import Derived.Deep.RegionHeld3
import Derived.IntWalk
import Derived.Test.YtheeiklgblcjfaaGreatDoorRgb
import Derived.Test.YtheeiklgblcjfaaGreatDoorRgd
section
namespace Go.Proofs.YtheeiklgblcjfaaGreatDoor
open Go.RowKit Go.Sort Go.ChangeShapes Go.WideShapes
set_option linter.unusedVariables false
set_option linter.unusedSimpArgs false
theorem Tryz.infoS:(Tryz.prog.info? 173).map (fun i => (i.size)) = some 2:=by kernel_rfl
theorem results_cell_span {fn:Func} {p:Tmp} (h:fn.results = #[.cell p 173]) (tmps:Array Value) (w:World) (g:Nat) (a b:Int)
    (hp:tmps.getD p undef = .pointer (some ⟨g,0,none⟩)) (h0:w.cell? ⟨g,0,none⟩ = some (.int .i64 a)) (h1:w.cell? ⟨g,1,none⟩ = some (.int .i64 b)):(results fn tmps).run Tryz.prog w = .ok (.agg #[.int .i64 a,.int .i64 b]) w:=by
  have hp':tmps[p]?.getD undef = .pointer (some ⟨g,0,none⟩):=by simpa using hp
  obtain ⟨i,hi,hs⟩:∃ i,Tryz.prog.info? 173 = some i ∧ i.size = 2:=by
    have h:=Tryz.infoS
    cases hh:Tryz.prog.info? 173 with
    | none => rw [hh] at h;cases h
    | some i => rw [hh] at h;exact ⟨i,rfl,by simpa using h⟩
  simp [results,h,hp',asAddr,loadVar,isAgg,run_underlying Tryz.underlying173,sizeOf,typeInfo,hi,hs]
  go_simp
end Go.Proofs.YtheeiklgblcjfaaGreatDoor
end
section
namespace Go.Proofs.YtheeiklgblcjfaaGreatDoor
open Go.RowKit Go.Sort Go.ChangeShapes Go.WideShapes
set_option linter.unusedVariables false
set_option linter.unusedSimpArgs false
/-- A partition's private span,From and Size;noughts,if there is none. -/
def privSpan (c:Cfg) (p:Int):Int × Int:=if acceptsB c = true ∧ 0 ≤ p ∧ p < (c.parts.length:Int) then (privUp c.parts p.toNat,fld (row c.parts p.toNat) 1) else (0,0)
end Go.Proofs.YtheeiklgblcjfaaGreatDoor
end
section
namespace Go.Proofs.YtheeiklgblcjfaaGreatDoor
open Go.RowKit Go.Sort
set_option linter.unusedVariables false
set_option linter.unusedSimpArgs false
/-- A request's word. -/
def nameS (op:Int):ByteArray:=
  if op = 1 then ⟨#[99,114,101,97,116,101]⟩ else
  if op = 2 then ⟨#[110,111,114,109,97,108]⟩ else
  if op = 3 then ⟨#[119,114,105,116,101]⟩ else
  if op = 4 then ⟨#[114,101,97,100]⟩ else
  if op = 5 then ⟨#[115,101,110,100]⟩ else
  if op = 6 then ⟨#[114,101,99,101,105,118,101]⟩ else
  if op = 7 then ⟨#[115,116,97,116,117,115]⟩ else
  if op = 8 then ⟨#[112,101,101,107]⟩ else
  if op = 9 then ⟨#[112,111,107,101]⟩ else ⟨#[]⟩
theorem nameS_out {op:Int} (h:op < 1 ∨ 9 < op):nameS op = ⟨#[]⟩:=by
  unfold nameS
  rw [if_neg (by omega)];rw [if_neg (by omega)];rw [if_neg (by omega)];rw [if_neg (by omega)];rw [if_neg (by omega)];rw [if_neg (by omega)];rw [if_neg (by omega)];rw [if_neg (by omega)];rw [if_neg (by omega)]
/-- Is there such a port? -/
def portB (c:Cfg) (port:Int):Bool:=acceptsB c && decide (0 ≤ port ∧ port < 2 * (c.chans.length:Int))
/-- A port's channel,whose it is,is it at the source. -/
def portK (c:Cfg) (port:Int):Int:=if portB c port = true then port / 2 else 0
def portS (c:Cfg) (port:Int):Bool:=portB c port && decide (port % 2 = 0)
def portP (c:Cfg) (port:Int):Int:=if portB c port = true then fld (row c.chans (port / 2).toNat) (if port % 2 = 0 then 1 else 2) else 0
theorem port_none {c:Cfg} {port:Int} (h:portB c port = false):portK c port = 0 ∧ portS c port = false ∧ portP c port = 0:=by
  unfold portK portS portP
  rw [h]
  exact ⟨rfl,rfl,rfl⟩
theorem port_even {c:Cfg} {port x0 x1 x2 x3 x4 x5 x6:Int} {k:Nat} (h:portB c port = true) (hk:port = 2 * (k:Int)) (hx:c.chans[k]? = some [x0,x1,x2,x3,x4,x5,x6]):portK c port = (k:Int) ∧ portS c port = true ∧ portP c port = x1:=by
  have h2:port % 2 = 0:=by omega
  have h3:port / 2 = (k:Int):=by omega
  unfold portK portS portP
  rw [h,if_pos rfl,if_pos rfl,h3,if_pos h2,Int.toNat_natCast,row_at hx,decide_eq_true h2]
  exact ⟨rfl,rfl,rfl⟩
theorem port_odd {c:Cfg} {port x0 x1 x2 x3 x4 x5 x6:Int} {k:Nat} (h:portB c port = true) (hk:port = 2 * (k:Int) + 1) (hx:c.chans[k]? = some [x0,x1,x2,x3,x4,x5,x6]):portK c port = (k:Int) ∧ portS c port = false ∧ portP c port = x2:=by
  have h2:¬ port % 2 = 0:=by omega
  have h3:port / 2 = (k:Int):=by omega
  unfold portK portS portP
  rw [h,if_pos rfl,if_pos rfl,h3,if_neg h2,Int.toNat_natCast,row_at hx,decide_eq_false h2]
  exact ⟨rfl,rfl,rfl⟩
/-- A port of an accepted configuration. -/
theorem port_of {c:Cfg} {port:Int} (h:portB c port = true):acceptsB c = true ∧ ∃ k:Nat,k < c.chans.length ∧ (port = 2 * (k:Int) ∨ port = 2 * (k:Int) + 1):=by
  unfold portB at h
  rw [Bool.and_eq_true,decide_eq_true_eq] at h
  obtain ⟨h1,h2,h3⟩:=h
  exact ⟨h1,(port / 2).toNat,by omega,by omega⟩
end Go.Proofs.YtheeiklgblcjfaaGreatDoor
end
section
namespace Go.Proofs.YtheeiklgblcjfaaGreatDoor
open Go.RowKit Go.Sort Go.ChangeShapes Go.WideShapes
set_option linter.unusedVariables false
set_option linter.unusedSimpArgs false
/-- A value of some cells in a box of its own. -/
theorem box_new (w:World) (cs:Array Value) (t:TypeId):∃ W,Hid (W = w.alloc (.cells cs t)) ∧ Below w.heap.size w W ∧ w.heap.size < W.heap.size ∧ ∀ w',Below W.heap.size W w' → w'.heap[w.heap.size]? = some (.cells cs t (0,0)):=by
  refine ⟨_,rfl,(Below.refl _ _).alloc (Nat.le_refl _) _,by simp,fun w' hb => ?_⟩
  exact (hb.block w.heap.size (by simp)).trans (heap_alloc_new w _)
def madeB (made:List Int) (port:Int):Bool:=decide (port ∈ made)
theorem made_hit {made:List Int} {port:Int} {i:Nat} (hi:i < made.length) (h:made.getD i 0 = port):madeB made port = true:=decide_eq_true (by rw [← h,List.getD_eq_getElem?_getD];simp [hi])
theorem made_none {made:List Int} {port:Int} (h:∀ i,i < made.length → made.getD i 0 ≠ port):madeB made port = false:=decide_eq_false (fun hm => by
  obtain ⟨i,hi,he⟩:=List.getElem_of_mem hm
  exact h i hi (by rw [List.getD_eq_getElem?_getD];simp [hi,he]))
/-- A standing by value lies so: the ports that were made. -/
def SIn (w:World) (made:List Int) (ma:Option Addr):Prop:=IntRowK .i64 w w.heap.size ma made ∧ made.length ≤ 1000000
theorem SIn.later {w w':World} {made:List Int} {ma:Option Addr} (h:SIn w made ma) (hb:Below w.heap.size w w'):SIn w' made ma:=⟨(h.1.below hb).more hb.size,h.2⟩
end Go.Proofs.YtheeiklgblcjfaaGreatDoor
end
section
namespace Go.Proofs.YtheeiklgblcjfaaGreatDoor
open Go.RowKit Go.Sort Go.ChangeShapes Go.WideShapes
set_option linter.unusedVariables false
set_option linter.unusedSimpArgs false
theorem privSpan_in {c:Cfg} (wx:CfgWf c) (p:Int):0 ≤ (privSpan c p).1 ∧ (privSpan c p).1 ≤ 384 ∧ 0 ≤ (privSpan c p).2 ∧ (privSpan c p).2 ≤ 64:=by
  unfold privSpan
  split
  · rename_i h
    obtain ⟨h1,h2,h3⟩:=h
    have ha:=accd_of h1
    have hp:=privUp_in ha p.toNat (by omega)
    have hq:=ha.priv p.toNat (by omega)
    have hl:=ha.parts
    exact ⟨hp.1,by omega,hq.1,hq.2⟩
  · exact ⟨Int.le_refl _,by decide,Int.le_refl _,by decide⟩
/-- Is an address in a partition's private span? -/
def privB (c:Cfg) (p a:Int):Bool:=decide ((privSpan c p).1 ≤ a ∧ a - (privSpan c p).1 < (privSpan c p).2)
end Go.Proofs.YtheeiklgblcjfaaGreatDoor
end
section
namespace Go.Proofs.YtheeiklgblcjfaaGreatDoor
open Go.RowKit Go.Sort
set_option linter.unusedVariables false
set_option linter.unusedSimpArgs false
/-- Is the op one that this kind of channel,or this side of it,doesn't know? -/
def modeB (kind:Int) (src:Bool) (op:Int):Bool:=(decide (op = 3) && (decide (kind ≠ 1) || !src)) || (decide (op = 4) && (decide (kind ≠ 1) || src)) || (decide (op = 5) && (decide (kind ≠ 2) || !src)) || (decide (op = 6) && (decide (kind ≠ 2) || src))
/-- Behind the rows that ask for the port and for normal work. -/
def talkT (kind:Int) (src:Bool) (words op:Int) (n:Nat):Int:=
  if modeB kind src op = true then 5 else if (op = 3 ∨ op = 5) ∧ n = 0 then 3 else if (op = 3 ∨ op = 5) ∧ words < (n:Int) then 4 else 0
def hasB (c:Cfg) (sp:Int) (made:List Int) (port:Int):Bool:=portB c port && (decide (portP c port = sp) && madeB made port)
def talkN (c:Cfg) (sp:Int) (sn:Bool) (made:List Int) (op port:Int) (n:Nat):Int:=
  if hasB c sp made port = false then 3 else if sn = false then 5 else talkT (fld (row c.chans (portK c port).toNat) 0) (portS c port) (fld (row c.chans (portK c port).toNat) 3) op n
/-- The code of the first row that holds;0: none does. -/
def refusedN (c:Cfg) (sp:Int) (sn:Bool) (made:List Int) (op port ad:Int) (n:Nat):Int:=
  if acceptsB c = false ∨ sp < 0 ∨ (c.parts.length:Int) ≤ sp then 4
  else if op = 1 then (if portB c port = false ∨ portP c port ≠ sp then 4 else if madeB made port = true then 1 else if sn = true then 5 else 0)
  else if op = 2 then (if sn = true then 5 else 0)
  else if 3 ≤ op ∧ op ≤ 7 then talkN c sp sn made op port n
  else if op = 8 ∨ op = 9 then (if op = 9 ∧ n ≠ 1 then 3 else if privB c sp ad = false then 6 else 0)
  else 3
def refT (c:Cfg) (sp:Int) (sn:Bool) (made:List Int) (op port ad:Int) (n:Nat):Int:=
  if op = 1 then (if portB c port = false ∨ portP c port ≠ sp then 4 else if madeB made port = true then 1 else if sn = true then 5 else 0)
  else if op = 2 then (if sn = true then 5 else 0)
  else if 3 ≤ op ∧ op ≤ 7 then talkN c sp sn made op port n
  else if op = 8 ∨ op = 9 then (if op = 9 ∧ n ≠ 1 then 3 else if privB c sp ad = false then 6 else 0)
  else 3
theorem refused_out {c:Cfg} {sp:Int} {sn:Bool} {made:List Int} {op port ad:Int} {n:Nat} (h:acceptsB c = false ∨ sp < 0 ∨ (c.parts.length:Int) ≤ sp):refusedN c sp sn made op port ad n = 4:=by unfold refusedN;rw [if_pos h]
theorem refused_on {c:Cfg} {sp:Int} {sn:Bool} {made:List Int} {op port ad:Int} {n:Nat} (h1:acceptsB c = true) (h2:¬ sp < 0) (h3:¬ (c.parts.length:Int) ≤ sp):refusedN c sp sn made op port ad n = refT c sp sn made op port ad n:=by
  unfold refusedN
  rw [if_neg (by rw [h1];exact fun h => h.elim (fun e => by cases e) (fun h => h.elim h2 h3))]
  rfl
theorem portK_of {c:Cfg} {port:Int} (h:portB c port = true):∃ k:Nat,k < c.chans.length ∧ portK c port = (k:Int):=by
  obtain ⟨_,k,hk,h1⟩:=port_of h
  refine ⟨k,hk,?_⟩
  unfold portK
  rw [if_pos h]
  omega
end Go.Proofs.YtheeiklgblcjfaaGreatDoor
end
