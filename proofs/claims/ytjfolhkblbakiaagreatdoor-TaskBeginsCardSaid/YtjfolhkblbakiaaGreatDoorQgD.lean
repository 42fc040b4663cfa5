/- Texts of the ring, joined, what is used of them. No condition but those in the statements. -/
import Derived.Test.YtjfolhkblbakiaaGreatDoorProg
import Derived.BigQuiet
import Derived.BigRegion
import Derived.Deep.MidRow
import Derived.Deep.OwnRows
import Derived.Deep.RegionHeld3
import Derived.Deep.Upon
import Derived.IntWalk
import Derived.Lib.Hide
import Derived.OneCell
import Derived.Test.YtjfolhkblbakiaaGreatDoorQgA
import Derived.Test.YtjfolhkblbakiaaGreatDoorQgT
section
namespace Go.Proofs.YtjfolhkblbakiaaGreatDoor
open Go.RowKit Go.Sort
set_option linter.unusedVariables false
set_option linter.unusedSimpArgs false
set_option linter.unusedVariables false
set_option linter.unusedSimpArgs false
theorem memNew_at (n:Nat) (v:Int) (hv:v = (n:Int)) (w:World) (hn:n ≤ 65536):Calls Tryz.prog 19 #[.int .i64 v] w (GivesMem w (List.replicate n 0)):=by
  subst hv;exact memNew_in n w hn
/-- One result in a cell that is read whole,and one in a slot. -/
theorem results_cell_tmp {fn:Func} {p t:Tmp} {ty:TypeId} (h:fn.results = #[.cell p ty,.tmp t]) (tmps:Array Value) (w:World) (b:Nat) (cs:List Value) (d:TypeDesc)
    (hp:tmps.getD p undef = .pointer (some ⟨b,0,none⟩)) (hc:w.rangeAt b 0 cs) (hu:Tryz.prog.underlying ty = some d) (hd:d.isRow = true) (hi:(Tryz.prog.info? ty).map (·.size) = some cs.length) :
    (results fn tmps).run Tryz.prog w = .ok (.tuple #[.agg cs.toArray,tmps.getD t undef]) w:=by
  have hp':tmps[p]?.getD undef = .pointer (some ⟨b,0,none⟩):=by simpa using hp
  simp [results,h,hp',asAddr,run_loadVar_mid w b 0 ty cs d hc hu hd hi]
theorem results_cell_row {fn:Func} {p:Tmp} {ty:TypeId} (h:fn.results = #[.cell p ty]) (tmps:Array Value) (w:World) (b:Nat) (cs:List Value) (d:TypeDesc)
    (hp:tmps.getD p undef = .pointer (some ⟨b,0,none⟩)) (hc:w.rangeAt b 0 cs) (hu:Tryz.prog.underlying ty = some d) (hd:d.isRow = true) (hi:(Tryz.prog.info? ty).map (·.size) = some cs.length) :
    (results fn tmps).run Tryz.prog w = .ok (.agg cs.toArray) w:=by
  have hp':tmps[p]?.getD undef = .pointer (some ⟨b,0,none⟩):=by simpa using hp
  simp [results,h,hp',asAddr,run_loadVar_mid w b 0 ty cs d hc hu hd hi]
theorem there_at {W:World} {b:Nat} {cs:Array Value} {ty:TypeId} {n:Nat} (h:W.heap[b]? = some (.cells cs ty (0,0))) (hn:n = cs.size):W.there b 0 n:=fun j hj => by
  subst hn
  refine ⟨?_,by simp [World.frozen?,h]⟩
  have:W.cell? ⟨b,j,none⟩ = some cs[j]:=by simp [World.cell?,h,hj]
  rw [Nat.zero_add,this];rfl
/-- A load of a whole row or struct that fills a block,behind a guard too. -/
theorem wpList_loadW {P:Program} {ops:Array Oper} {rest:List Oper} {o:Oper} {a:Act} {w:World} {Q:Exit → Act → World → Prop} (hwt:Region.wanted o (yielded ops a.tmps) = true) (ty:TypeId) (x:Operand) (ho:o.op = .load ty x) (g:Nat) (hx:a.eval x = .pointer (some ⟨g,0,none⟩)) (t:TypeId) (cs:Array Value) (fr:Nat × Nat) (d:TypeDesc) (hg:w.heap[g]? = some (.cells cs t fr))
    (hu:P.underlying ty = some d) (hd:(match d with | .struct _ | .array _ _ => true | _ => false) = true) (hi:(P.info? ty).map (·.size) = some cs.size)
    (h:wpList P ops Q rest (a.put o.dst (.agg cs)) w):wpList P ops Q (o :: rest) a w:=by
  refine wpList_step fun K hK => ?_
  rw [if_pos hwt]
  exact wp_load_row ty x ho g hx t cs fr d hg hu hd hi (hK _ _ h)
theorem did_size:(Tryz.prog.info? 68).map (·.size) = some 9:=by kernel_rfl
/-- Blocks of S have turned,and such as are new since block number n. -/
def New (n:Nat) (S:Nat → Prop):Nat → Prop:=fun k => n ≤ k ∨ S k
theorem Only.alloc {S:Nat → Prop} {w w':World} (h:Only S w w') (o:Obj):Only S w (w'.alloc o):=⟨h.os,h.tape,h.output,by have:=h.size;simp;omega,fun k hk hs => (Below.heap_alloc _ _ _ (Nat.lt_of_lt_of_le hk h.size)).trans (h.block k hk hs)⟩
theorem Only.set {S:Nat → Prop} {w w':World} (h:Only S w w') {p:Addr} (hp:S p.block) (v:Value):Only S w (w'.setCell p v):=⟨h.os,h.tape,h.output,by have:=h.size;simpa [World.setCell] using this,fun k hk hs => (Below.heap_setCell _ _ _ _ (fun e => hs (by rw [e];exact hp))).trans (h.block k hk hs)⟩
theorem Only.sets {S:Nat → Prop} {w:World} {b:Nat} (hb:S b):∀ (vs:List Value) (o:Nat) {w':World},Only S w w' → Only S w (w'.setCells b o vs)
  | [],_,_,h => h
  | v :: r,o,_,h => Only.sets hb r (o + 1) (h.set (p:=⟨b,o,none⟩) hb v)
theorem Only.drew {S:Nat → Prop} {w w':World} (h:Only S w w'):Only S w w'.drew:=⟨h.os,h.tape,h.output,h.size,h.block⟩
theorem Only.old {S:Nat → Prop} {w w':World} (h:Only (New w.heap.size S) w w'):Only S w w':=h.mono fun k hk hs => hs.resolve_left (by omega)
theorem Only.at_ {S:Nat → Prop} {w w':World} (h:Only S w w') {k:Nat} {o:Obj} (hk:w.heap[k]? = some o) (hs:¬ S k):w'.heap[k]? = some o:=(h.block k (Array.getElem?_eq_some_iff.1 hk).1 hs).trans hk
theorem MemAt.drew {w:World} {mb rb:Nat} {ws:List Int} (h:MemAt w mb rb ws):MemAt w.drew mb rb ws:=⟨h.head,h.row⟩
theorem MemAt.only {S:Nat → Prop} {w w':World} {mb rb:Nat} {ws:List Int} (h:MemAt w mb rb ws) (ho:Only S w w') (h1:¬ S mb) (h2:¬ S rb):MemAt w' mb rb ws:=h.of (ho.block mb h.lt.1 h1) (ho.block rb h.lt.2 h2)
end Go.Proofs.YtjfolhkblbakiaaGreatDoor
namespace Go.Proofs.YtjfolhkblbakiaaGreatDoor
open Go.RowKit Go.Sort
set_option linter.unusedVariables false
set_option linter.unusedSimpArgs false
set_option linter.unusedVariables false
set_option linter.unusedSimpArgs false
/-- Where a channel's words are,as a write or a read holds it. -/
structure Pl8 where
  la:Nat
  re:Nat
  s0:Nat
  s1:Nat
  b00:Nat
  b01:Nat
  b10:Nat
  b11:Nat
def Pl8.buf (A:Pl8) (p i:Nat):Nat:=if p = 0 then (if i = 0 then A.b00 else A.b01) else (if i = 0 then A.b10 else A.b11)
@[reducible] def wV (nx:Value) (A:Pl8) (dv:Value) (p i:Nat) (mk:Bool):Array Value:=#[nx,.int .i64 A.la,.int .i64 A.re,.int .i64 A.s0,.int .i64 A.s1,.int .i64 A.b00,.int .i64 A.b01,.int .i64 A.b10,.int .i64 A.b11,dv,.int .u32 p,.int .u32 i,.bool mk]
def WBlk (w:World) (wb:Nat) (nx:Value) (A:Pl8) (dv:Value) (p i:Nat) (mk:Bool):Prop:=w.heap[wb]? = some (.cells (wV nx A dv p i mk) 200 (0,0))
section
variable {w:World} {wb:Nat} {nx dv:Value} {A:Pl8} {p i:Nat} {mk:Bool}
theorem WBlk.lt (h:WBlk w wb nx A dv p i mk):wb < w.heap.size:=(Array.getElem?_eq_some_iff.1 h).1
theorem WBlk.cell (h:WBlk w wb nx A dv p i mk) {j:Nat} {v:Value} (hv:(wV nx A dv p i mk)[j]? = some v):w.cell? ⟨wb,j,none⟩ = some v:=by
  unfold WBlk at h
  simp [World.cell?,h,hv]
theorem WBlk.frozen (h:WBlk w wb nx A dv p i mk) (j:Nat):w.frozen? ⟨wb,j,none⟩ = false:=by
  unfold WBlk at h
  simp [World.frozen?,h]
theorem WBlk.only (h:WBlk w wb nx A dv p i mk) {S:Nat → Prop} {w':World} (ho:Only S w w') (hs:¬ S wb):WBlk w' wb nx A dv p i mk:=ho.at_ h hs
theorem WBlk.drew (h:WBlk w wb nx A dv p i mk):WBlk w.drew wb nx A dv p i mk:=h
end
theorem blk_cell {W:World} {b:Nat} {cs:Array Value} {t:TypeId} {m:Nat × Nat} {i:Nat} {v:Value} (h:W.heap[b]? = some (.cells cs t m)) (hv:cs[i]? = some v):W.cell? ⟨b,i,none⟩ = some v:=by
  simp [World.cell?,h,hv]
theorem cell_set_ne {w:World} {b k c o:Nat} {u v:Value} (h:w.cell? ⟨c,o,none⟩ = some u) (hne:b ≠ c):(w.setCell ⟨b,k,none⟩ v).cell? ⟨c,o,none⟩ = some u:=by
  have:=Below.heap_setCell w ⟨b,k,none⟩ v c (fun e => hne e.symm)
  unfold World.cell? at h ⊢
  rw [this];exact h
end Go.Proofs.YtjfolhkblbakiaaGreatDoor
end
section
namespace Go.Proofs.YtjfolhkblbakiaaGreatDoor
open Go.RowKit Go.Sort
set_option linter.unusedVariables false
set_option linter.unusedSimpArgs false
set_option linter.unusedVariables false
set_option linter.unusedSimpArgs false
set_option maxRecDepth 100000
namespace Bel
/-- Bells as cells. -/
def bcells (bs:List Bool):List Value:=bs.map Value.bool
@[simp] theorem bcells_len (bs:List Bool):(bcells bs).length = bs.length:=by simp [bcells]
theorem bcells_at (bs:List Bool) (k:Nat) (h:k < bs.length):(bcells bs)[k]? = some (.bool (bs.getD k false)):=by simp [bcells,List.getD_eq_getElem?_getD,h]
theorem bcells_set (bs:List Bool) (k:Nat) (x:Bool):(bcells bs).set k (.bool x) = bcells (bs.set k x):=by simp [bcells,List.map_set]
/-- A block of bells,as a list. -/
def BellsAt (w:World) (b:Nat) (bs:List Bool):Prop:=w.heap[b]? = some (.cells (bcells bs).toArray 4 (0,0))
theorem BellsAt.lt {w:World} {b:Nat} {bs:List Bool} (h:BellsAt w b bs):b < w.heap.size:=(Array.getElem?_eq_some_iff.1 h).1
theorem BellsAt.cell {w:World} {b:Nat} {bs:List Bool} (h:BellsAt w b bs) {k:Nat} (hk:k < bs.length):w.cell? ⟨b,k,none⟩ = some (.bool (bs.getD k false)):=by
  unfold BellsAt at h
  simp [World.cell?,h,bcells_at bs k hk]
theorem BellsAt.frozen {w:World} {b:Nat} {bs:List Bool} (h:BellsAt w b bs) (k:Nat):w.frozen? ⟨b,k,none⟩ = false:=by
  unfold BellsAt at h
  simp [World.frozen?,h]
theorem BellsAt.set {w:World} {b:Nat} {bs:List Bool} (h:BellsAt w b bs) (k:Nat) (x:Bool):BellsAt (w.setCell ⟨b,k,none⟩ (.bool x)) b (bs.set k x):=by
  unfold BellsAt at h ⊢
  rw [← bcells_set]
  simp [World.setCell,Array.getElem?_modify,h]
theorem BellsAt.of {w w':World} {b:Nat} {bs:List Bool} (h:BellsAt w b bs) (e:w'.heap[b]? = w.heap[b]?):BellsAt w' b bs:=e.trans h
theorem BellsAt.below {w w':World} {b:Nat} {bs:List Bool} (h:BellsAt w b bs) (hb:Below w.heap.size w w'):BellsAt w' b bs:=h.of (hb.block b h.lt)
/-- A set: its struct lies in block mb,its bells in block rb. -/
structure SetAt (w:World) (mb rb:Nat) (bs:List Bool):Prop where
  head:w.heap[mb]? = some (.cells #[.slice (some ⟨rb,0,none⟩) bs.length bs.length] 131 (0,0))
  row:BellsAt w rb bs
theorem SetAt.lt {w:World} {mb rb:Nat} {bs:List Bool} (h:SetAt w mb rb bs):mb < w.heap.size ∧ rb < w.heap.size:=⟨(Array.getElem?_eq_some_iff.1 h.head).1,h.row.lt⟩
theorem SetAt.ne {w:World} {mb rb:Nat} {bs:List Bool} (h:SetAt w mb rb bs):mb ≠ rb:=by
  rintro rfl
  have:=h.head.symm.trans h.row
  simp at this
theorem SetAt.cell {w:World} {mb rb:Nat} {bs:List Bool} (h:SetAt w mb rb bs):w.cell? ⟨mb,0,none⟩ = some (.slice (some ⟨rb,0,none⟩) bs.length bs.length):=cell_of_one h.head
theorem SetAt.set {w:World} {mb rb:Nat} {bs:List Bool} (h:SetAt w mb rb bs) (k:Nat) (x:Bool):SetAt (w.setCell ⟨rb,k,none⟩ (.bool x)) mb rb (bs.set k x):=by
  refine ⟨?_,h.row.set k x⟩
  rw [Below.heap_setCell _ _ _ _ h.ne,List.length_set]
  exact h.head
theorem SetAt.below {w w':World} {mb rb:Nat} {bs:List Bool} (h:SetAt w mb rb bs) (hb:Below w.heap.size w w'):SetAt w' mb rb bs:=⟨(hb.block mb h.lt.1).trans h.head,h.row.below hb⟩
theorem SetAt.of {w w':World} {mb rb:Nat} {bs:List Bool} (h:SetAt w mb rb bs) (h1:w'.heap[mb]? = w.heap[mb]?) (h2:w'.heap[rb]? = w.heap[rb]?):SetAt w' mb rb bs:=⟨h1.trans h.head,h.row.of h2⟩
theorem SetAt.kept {w w':World} {mb rb:Nat} {bs:List Bool} (h:SetAt w mb rb bs) {S:Nat → Prop} (ho:Only S w w') (h1:¬ S mb) (h2:¬ S rb):SetAt w' mb rb bs:=h.of (ho.block mb h.lt.1 h1) (ho.block rb h.lt.2 h2)
theorem Tryz.infoB:(Tryz.prog.info? 4).map (fun i => (i.zero,i.size,i.bytes)) = some (some (.bool false),1,1):=by kernel_rfl
theorem Tryz.infoI:(Tryz.prog.info? 3).map (fun i => (i.zero,i.size,i.bytes)) = some (some (.int .i64 0),1,8):=by kernel_rfl
theorem made_bools (n:Nat):madeCells #[Value.bool false] n = (bcells (List.replicate n false)).toArray:=by
  apply Array.ext
  · simp [size_madeCells,bcells]
  · intro i h1 h2
    simp [madeCells,bcells,Nat.mod_one]
/-- A new set,nothing pending. -/
def GivesBells (w:World) (bs:List Bool) (e:Ending) (w':World):Prop:=
  ∃ mb rb,e = .returned (.tuple #[.pointer (some ⟨mb,0,none⟩),.int .i64 0]) ∧ w.heap.size ≤ mb ∧ w.heap.size ≤ rb ∧ SetAt w' mb rb bs ∧ Below w.heap.size w w'
theorem new_in (n:Nat) (v:Int) (hv:v = (n:Int)) (w:World) (hn:n ≤ 64) :
    Calls Tryz.prog 21 #[.int .i64 v] w (GivesBells w (List.replicate n false)):=by
  subst hv
  obtain ⟨i0,hi,hz0,hz1,hz2⟩:=info_parts Tryz.infoB
  go_enter Tryz.func21,Tryz.ntmps21
  go_wp2_with (refine wpList_make_row _ rfl _ _ 81 rfl 4 i0 (.bool false) Tryz.underlying81 hi hz0 hz1 rfl .i64 .i64 n rfl rfl (by rw [hz2];omega) (by omega) ?_)
  go_ret2
  have hb1:Below w.heap.size w (w.alloc (.cells (madeCells #[Value.bool false] n) 4)):=(Below.refl _ _).alloc (Nat.le_refl _) _
  refine ⟨w.heap.size + 1,w.heap.size,rfl,by omega,by omega,⟨?_,?_⟩,hb1.alloc (by simp) _⟩
  · have:=heap_alloc_new (w.alloc (.cells (madeCells #[Value.bool false] n) 4)) (.cells #[.slice (some ⟨w.heap.size,0,none⟩) n n] 131)
    simpa using this
  · unfold BellsAt
    rw [← made_bools,Below.heap_alloc _ _ _ (by simp)]
    exact heap_alloc_new w _
end Bel
end Go.Proofs.YtjfolhkblbakiaaGreatDoor
end
section
namespace Go.Proofs.YtjfolhkblbakiaaGreatDoor
open Go.RowKit Go.Sort
set_option linter.unusedVariables false
set_option linter.unusedSimpArgs false
set_option linter.unusedVariables false
set_option linter.unusedSimpArgs false
set_option maxRecDepth 100000
set_option maxHeartbeats 1600000
@[reducible] def oV (own:Int) (d n tl hd ce be:Nat) (sv:Value):Array Value:=#[.int .u32 own,.int .u32 d,.int .u32 n,.int .i64 (tl:Int),.int .i64 (hd:Int),.int .i64 (ce:Int),.int .i64 (be:Int),sv]
def OBlk (w:World) (ob:Nat) (own:Int) (d n tl hd ce be:Nat) (sv:Value):Prop:=w.heap[ob]? = some (.cells (oV own d n tl hd ce be sv) 208 (0,0))
section
variable {w:World} {ob:Nat} {own:Int} {d n tl hd ce be:Nat} {sv:Value}
theorem OBlk.lt (h:OBlk w ob own d n tl hd ce be sv):ob < w.heap.size:=(Array.getElem?_eq_some_iff.1 h).1
theorem OBlk.cell (h:OBlk w ob own d n tl hd ce be sv) {j:Nat} {v:Value} (hv:(oV own d n tl hd ce be sv)[j]? = some v):w.cell? ⟨ob,j,none⟩ = some v:=by
  unfold OBlk at h
  simp [World.cell?,h,hv]
theorem OBlk.frozen (h:OBlk w ob own d n tl hd ce be sv) (j:Nat):w.frozen? ⟨ob,j,none⟩ = false:=by
  unfold OBlk at h
  simp [World.frozen?,h]
theorem OBlk.only (h:OBlk w ob own d n tl hd ce be sv) {S:Nat → Prop} {w':World} (ho:Only S w w') (hs:¬ S ob):OBlk w' ob own d n tl hd ce be sv:=ho.at_ h hs
theorem OBlk.at_ (h:OBlk w ob own d n tl hd ce be sv) {w':World} (e:w'.heap[ob]? = w.heap[ob]?):OBlk w' ob own d n tl hd ce be sv:=e.trans h
theorem OBlk.drew (h:OBlk w ob own d n tl hd ce be sv):OBlk w.drew ob own d n tl hd ce be sv:=h
theorem OBlk.setSteps (h:OBlk w ob own d n tl hd ce be sv) (q:Value):OBlk (w.setCell ⟨ob,7,none⟩ q) ob own d n tl hd ce be (q):=by
  unfold OBlk at h ⊢;simp [World.setCell,Array.getElem?_modify,h]
end
end Go.Proofs.YtjfolhkblbakiaaGreatDoor
end
