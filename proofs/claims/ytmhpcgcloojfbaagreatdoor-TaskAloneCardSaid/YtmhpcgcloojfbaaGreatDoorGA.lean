/- Memories: the calls by their values; function values with a receiver; boxes of what a step did. No condition but those in the statements. The small functions of package four, as contracts. No condition but those in the statements. A write's block, and the box of what a step did. No condition but those in the statements. -/
import Derived.Test.YtmhpcgcloojfbaaGreatDoorMem
import Derived.Test.YtmhpcgcloojfbaaGreatDoorGP
import Derived.Test.YtmhpcgcloojfbaaGreatDoorOff
import Derived.BigQuiet
import Derived.IntWalk
import Derived.Deep.MidRow
import Derived.Deep.Upon
import Derived.BigRegion
import Derived.Deep.RegionHeld3
namespace Go.Proofs.YtmhpcgcloojfbaaGreatDoor
open Go.RowKit Go.Sort
set_option linter.unusedVariables false
set_option linter.unusedSimpArgs false
set_option linter.unusedVariables false
set_option linter.unusedSimpArgs false

theorem memNew_at (n : Nat) (v : Int) (hv : v = (n : Int)) (w : World) (hn : n ≤ 65536) : Calls Tryz.prog 16 #[.int .i64 v] w (GivesMem w (List.replicate n 0)) := by
  subst hv; exact memNew_in n w hn
theorem memLoad_at (mb rb : Nat) (ws : List Int) (k : Nat) (a : Int) (ha : a = (k : Int)) (w : World) (h : MemAt w mb rb ws) (hl : ws.length ≤ 1000000) (hk : k < ws.length) :
    Calls Tryz.prog 135 #[.pointer (some ⟨mb, 0, none⟩), .int .u64 a] w fun e w' => e = .returned (.tuple #[.int .u32 (ws.getD k 0), .int .i64 0]) ∧ w = w' := by
  subst ha; exact memLoad_in mb rb ws k w h hl hk
theorem memStore_at (mb rb : Nat) (ws : List Int) (k : Nat) (a x : Int) (ha : a = (k : Int)) (w : World) (h : MemAt w mb rb ws) (hl : ws.length ≤ 1000000) (hk : k < ws.length) :
    Calls Tryz.prog 31 #[.pointer (some ⟨mb, 0, none⟩), .int .u64 a, .int .u32 x] w fun e w' => e = .returned (.int .i64 0) ∧ w' = w.setCell ⟨rb, k, none⟩ (.int .u32 x) := by
  subst ha; exact memStore_in mb rb ws k x w h hl hk

/-- A call of a function value, a receiver bound or not. -/
theorem wpList_fnR {P : Program} {ops : Array Oper} {rest : List Oper} {o : Oper} {a : Act} {w : World} {Q : Exit → Act → World → Prop} (hgd : o.guard = none) (fo : Operand) (xs : List Operand) (ts : Array TypeId)
    (ho : o.op = .call { callee := .value fo, args := xs.toArray, argTypes := ts }) (g : Nat) (fs caps : List Value) (hf : a.eval fo = .func (.func g) fs.toArray caps.toArray) (eg : ∀ args w, (callFunc g args).run P w = .ok (.enter g args) w)
    (args : List Value) (ha : fs ++ xs.map a.eval ++ caps = args) (S : Value → World → Prop) (hC : Calls P g args.toArray w fun e w' => ∃ v, e = .returned v ∧ S v w')
    (h : ∀ v w', S v w' → wpList P ops Q rest (a.put o.dst v) w') : wpList P ops Q (o :: rest) a w := by
  refine wpList_plain hgd fun K hK' => ?_
  subst ha
  unfold Oper.wp
  simp only [execOp, ho, resolve, hf, Deferred.ofValue, invoke]
  simp [eg, Oper.upon_enter]
  refine Calls.mono (show Calls P g _ w fun e w' => ∃ v, e = .returned v ∧ S v w' from ?_) ?_
  · simpa using hC
  · intro e w' ⟨v, he, hS⟩
    subst he; exact hK' _ _ (h v w' hS)
/-- One result in a cell that is read whole, and one in a slot. -/
theorem results_cell_tmp {fn : Func} {p t : Tmp} {ty : TypeId} (h : fn.results = #[.cell p ty, .tmp t]) (tmps : Array Value) (w : World) (b : Nat) (cs : List Value) (d : TypeDesc)
    (hp : tmps.getD p undef = .pointer (some ⟨b, 0, none⟩)) (hc : w.rangeAt b 0 cs) (hu : Tryz.prog.underlying ty = some d) (hd : d.isRow = true) (hi : (Tryz.prog.info? ty).map (·.size) = some cs.length) :
    (results fn tmps).run Tryz.prog w = .ok (.tuple #[.agg cs.toArray, tmps.getD t undef]) w := by
  have hp' : tmps[p]?.getD undef = .pointer (some ⟨b, 0, none⟩) := by simpa using hp
  simp [results, h, hp', asAddr, run_loadVar_mid w b 0 ty cs d hc hu hd hi]
theorem results_cell_row {fn : Func} {p : Tmp} {ty : TypeId} (h : fn.results = #[.cell p ty]) (tmps : Array Value) (w : World) (b : Nat) (cs : List Value) (d : TypeDesc)
    (hp : tmps.getD p undef = .pointer (some ⟨b, 0, none⟩)) (hc : w.rangeAt b 0 cs) (hu : Tryz.prog.underlying ty = some d) (hd : d.isRow = true) (hi : (Tryz.prog.info? ty).map (·.size) = some cs.length) :
    (results fn tmps).run Tryz.prog w = .ok (.agg cs.toArray) w := by
  have hp' : tmps[p]?.getD undef = .pointer (some ⟨b, 0, none⟩) := by simpa using hp
  simp [results, h, hp', asAddr, run_loadVar_mid w b 0 ty cs d hc hu hd hi]
theorem there_at {W : World} {b : Nat} {cs : Array Value} {ty : TypeId} {n : Nat} (h : W.heap[b]? = some (.cells cs ty (0, 0))) (hn : n = cs.size) : W.there b 0 n := fun j hj => by
  subst hn
  refine ⟨?_, by simp [World.frozen?, h]⟩
  have : W.cell? ⟨b, j, none⟩ = some cs[j] := by simp [World.cell?, h, hj]
  rw [Nat.zero_add, this]; rfl
/-- A load of a whole row or struct that fills a block, behind a guard too. -/
theorem wpList_loadW {P : Program} {ops : Array Oper} {rest : List Oper} {o : Oper} {a : Act} {w : World} {Q : Exit → Act → World → Prop} (hwt : Region.wanted o (yielded ops a.tmps) = true) (ty : TypeId) (x : Operand) (ho : o.op = .load ty x) (g : Nat) (hx : a.eval x = .pointer (some ⟨g, 0, none⟩)) (t : TypeId) (cs : Array Value) (fr : Nat × Nat) (d : TypeDesc) (hg : w.heap[g]? = some (.cells cs t fr))
    (hu : P.underlying ty = some d) (hd : (match d with | .struct _ | .array _ _ => true | _ => false) = true) (hi : (P.info? ty).map (·.size) = some cs.size)
    (h : wpList P ops Q rest (a.put o.dst (.agg cs)) w) : wpList P ops Q (o :: rest) a w := by
  refine wpList_step fun K hK => ?_
  rw [if_pos hwt]
  exact wp_load_row ty x ho g hx t cs fr d hg hu hd hi (hK _ _ h)

/-- What a step did, as it lies in memory; v: the words that it answers with. -/
@[reducible] def didV (done : Bool) (code : Int) (v : Value) (valid mark stamped : Bool) (buffer : Int) : Array Value := #[.bool done, .int .i64 code, v, .bool valid, .int .i64 0, .bool mark, .bool false, .bool stamped, .int .i64 buffer]
theorem did_size : (Tryz.prog.info? 68).map (·.size) = some 9 := by kernel_rfl
/-- The box of what a step did, behind what is stored into it. -/
structure DidBox (w W : World) : Prop where
  is_ : W = w.alloc (.cells (didV false 0 (.slice none 0 0) false false false 0) 68)
/-- Blocks of S have turned, and such as are new since block number n. -/
def New (n : Nat) (S : Nat → Prop) : Nat → Prop := fun k => n ≤ k ∨ S k
theorem Only.alloc {S : Nat → Prop} {w w' : World} (h : Only S w w') (o : Obj) : Only S w (w'.alloc o) := ⟨h.os, h.tape, h.output, by have := h.size; simp; omega, fun k hk hs => (Below.heap_alloc _ _ _ (Nat.lt_of_lt_of_le hk h.size)).trans (h.block k hk hs)⟩
theorem Only.set {S : Nat → Prop} {w w' : World} (h : Only S w w') {p : Addr} (hp : S p.block) (v : Value) : Only S w (w'.setCell p v) := ⟨h.os, h.tape, h.output, by have := h.size; simpa [World.setCell] using this, fun k hk hs => (Below.heap_setCell _ _ _ _ (fun e => hs (by rw [e]; exact hp))).trans (h.block k hk hs)⟩
theorem Only.sets {S : Nat → Prop} {w : World} {b : Nat} (hb : S b) : ∀ (vs : List Value) (o : Nat) {w' : World}, Only S w w' → Only S w (w'.setCells b o vs)
  | [], _, _, h => h
  | v :: r, o, _, h => Only.sets hb r (o + 1) (h.set (p := ⟨b, o, none⟩) hb v)
theorem Only.drew {S : Nat → Prop} {w w' : World} (h : Only S w w') : Only S w w'.drew := ⟨h.os, h.tape, h.output, h.size, h.block⟩
theorem Only.old {S : Nat → Prop} {w w' : World} (h : Only (New w.heap.size S) w w') : Only S w w' := h.mono fun k hk hs => hs.resolve_left (by omega)
theorem Only.at_ {S : Nat → Prop} {w w' : World} (h : Only S w w') {k : Nat} {o : Obj} (hk : w.heap[k]? = some o) (hs : ¬ S k) : w'.heap[k]? = some o := (h.block k (Array.getElem?_eq_some_iff.1 hk).1 hs).trans hk
theorem MemAt.drew {w : World} {mb rb : Nat} {ws : List Int} (h : MemAt w mb rb ws) : MemAt w.drew mb rb ws := ⟨h.head, h.row⟩
theorem MemAt.only {S : Nat → Prop} {w w' : World} {mb rb : Nat} {ws : List Int} (h : MemAt w mb rb ws) (ho : Only S w w') (h1 : ¬ S mb) (h2 : ¬ S rb) : MemAt w' mb rb ws := h.of (ho.block mb h.lt.1 h1) (ho.block rb h.lt.2 h2)
end Go.Proofs.YtmhpcgcloojfbaaGreatDoor

namespace Go.Proofs.YtmhpcgcloojfbaaGreatDoor
open Go.RowKit Go.Sort
set_option linter.unusedVariables false
set_option linter.unusedSimpArgs false
set_option linter.unusedVariables false
set_option linter.unusedSimpArgs false

open Go.Proofs.YtmhpcgcloojfbaaGreatDoor.Simp (oddN)
theorem odd_b (x : Int) (w : World) (h : 0 ≤ x) : Calls Tryz.prog 104 #[.int .u32 x] w fun e w' => e = .returned (.int .u32 (oddN x : Nat)) ∧ w = w' := by
  have hx : x.tmod 2 = (oddN x : Nat) := by rw [Int.tmod_eq_emod_of_nonneg h]; unfold oddN; omega
  go_enter Tryz.func104, Tryz.ntmps104
  go_wp2
  go_ret
  exact ⟨by rw [← hx]; rfl, rfl⟩
theorem number_b (p i : Nat) (hp : p ≤ 1) (hi : i ≤ 1) (w : World) : Calls Tryz.prog 150 #[.int .u32 (p : Int), .int .u32 (i : Int)] w fun e w' => e = .returned (.int .i64 (1 + 2 * (p : Int) + i)) ∧ w = w' := by
  go_enter Tryz.func150, Tryz.ntmps150
  go_wp2
  go_ret
  exact ⟨rfl, rfl⟩
theorem load_b (mb rb : Nat) (ws : List Int) (k : Nat) (w : World) (h : MemAt w mb rb ws) (hl : ws.length ≤ 1000000) (hk : k < ws.length) :
    Calls Tryz.prog 105 #[.pointer (some ⟨mb, 0, none⟩), .int .i64 (k : Int)] w fun e w' => e = .returned (.int .u32 (ws.getD k 0)) ∧ w = w' := by
  have hL := Lib.hid (memLoad_in mb rb ws k w h hl hk)
  obtain ⟨x, hx⟩ : ∃ x, ws.getD k 0 = x := ⟨_, rfl⟩
  rw [hx] at hL ⊢
  clear hx
  go_enter Tryz.func105, Tryz.ntmps105
  go_wp2_with fail
  refine hL.out.mono ?_
  rintro e w' ⟨rfl, rfl⟩
  go_wp2
  go_ret
  exact ⟨rfl, rfl⟩
theorem store_b (mb rb : Nat) (ws : List Int) (k : Nat) (x : Int) (w : World) (h : MemAt w mb rb ws) (hl : ws.length ≤ 1000000) (hk : k < ws.length) :
    Calls Tryz.prog 137 #[.pointer (some ⟨mb, 0, none⟩), .int .i64 (k : Int), .int .u32 x] w fun e w' => e = .returned (.tuple #[]) ∧ w' = w.setCell ⟨rb, k, none⟩ (.int .u32 x) := by
  have hL := Lib.hid (memStore_in mb rb ws k x w h hl hk)
  go_enter Tryz.func137, Tryz.ntmps137
  go_wp2_with fail
  refine hL.out.mono ?_
  rintro e w' ⟨rfl, rfl⟩
  go_wp2
  go_end0
  exact ⟨rfl, rfl⟩
end Go.Proofs.YtmhpcgcloojfbaaGreatDoor

namespace Go.Proofs.YtmhpcgcloojfbaaGreatDoor
open Go.RowKit Go.Sort
set_option linter.unusedVariables false
set_option linter.unusedSimpArgs false
set_option linter.unusedVariables false
set_option linter.unusedSimpArgs false

/-- Where a channel's words are, as a write or a read holds it. -/
structure Pl8 where
  la : Nat
  re : Nat
  s0 : Nat
  s1 : Nat
  b00 : Nat
  b01 : Nat
  b10 : Nat
  b11 : Nat
def Pl8.slot (A : Pl8) (p : Nat) : Nat := if p = 0 then A.s0 else A.s1
def Pl8.buf (A : Pl8) (p i : Nat) : Nat := if p = 0 then (if i = 0 then A.b00 else A.b01) else (if i = 0 then A.b10 else A.b11)
@[reducible] def wV (nx : Value) (A : Pl8) (dv : Value) (p i : Nat) (mk : Bool) : Array Value := #[nx, .int .i64 A.la, .int .i64 A.re, .int .i64 A.s0, .int .i64 A.s1, .int .i64 A.b00, .int .i64 A.b01, .int .i64 A.b10, .int .i64 A.b11, dv, .int .u32 p, .int .u32 i, .bool mk]
def WBlk (w : World) (wb : Nat) (nx : Value) (A : Pl8) (dv : Value) (p i : Nat) (mk : Bool) : Prop := w.heap[wb]? = some (.cells (wV nx A dv p i mk) 162 (0, 0))
section
variable {w : World} {wb : Nat} {nx dv : Value} {A : Pl8} {p i : Nat} {mk : Bool}
theorem WBlk.lt (h : WBlk w wb nx A dv p i mk) : wb < w.heap.size := (Array.getElem?_eq_some_iff.1 h).1
theorem WBlk.cell (h : WBlk w wb nx A dv p i mk) {j : Nat} {v : Value} (hv : (wV nx A dv p i mk)[j]? = some v) : w.cell? ⟨wb, j, none⟩ = some v := by
  unfold WBlk at h
  simp [World.cell?, h, hv]
theorem WBlk.frozen (h : WBlk w wb nx A dv p i mk) (j : Nat) : w.frozen? ⟨wb, j, none⟩ = false := by
  unfold WBlk at h
  simp [World.frozen?, h]
theorem WBlk.only (h : WBlk w wb nx A dv p i mk) {S : Nat → Prop} {w' : World} (ho : Only S w w') (hs : ¬ S wb) : WBlk w' wb nx A dv p i mk := ho.at_ h hs
theorem WBlk.drew (h : WBlk w wb nx A dv p i mk) : WBlk w.drew wb nx A dv p i mk := h
theorem WBlk.setPair (h : WBlk w wb nx A dv p i mk) (q : Nat) : WBlk (w.setCell ⟨wb, 10, none⟩ (.int .u32 (q : Int))) wb nx A dv q i mk := by
  unfold WBlk at h ⊢; simp [World.setCell, Array.getElem?_modify, h]
theorem WBlk.setIndex (h : WBlk w wb nx A dv p i mk) (q : Nat) : WBlk (w.setCell ⟨wb, 11, none⟩ (.int .u32 (q : Int))) wb nx A dv p q mk := by
  unfold WBlk at h ⊢; simp [World.setCell, Array.getElem?_modify, h]
theorem WBlk.setMark (h : WBlk w wb nx A dv p i mk) (q : Bool) : WBlk (w.setCell ⟨wb, 12, none⟩ (.bool q)) wb nx A dv p i q := by
  unfold WBlk at h ⊢; simp [World.setCell, Array.getElem?_modify, h]
theorem WBlk.setNext (h : WBlk w wb nx A dv p i mk) (q : Value) : WBlk (w.setCell ⟨wb, 0, none⟩ q) wb q A dv p i mk := by
  unfold WBlk at h ⊢; simp [World.setCell, Array.getElem?_modify, h]
end
theorem WBlk.ne_mem {w : World} {wb mb rb : Nat} {nx dv : Value} {A : Pl8} {p i : Nat} {mk : Bool} {ws : List Int} (h : WBlk w wb nx A dv p i mk) (hm : MemAt w mb rb ws) : mb ≠ wb ∧ rb ≠ wb := by
  constructor
  · rintro rfl; have := h.symm.trans hm.head; simp at this
  · rintro rfl; have := h.symm.trans hm.row; simp at this
theorem blk_cell {W : World} {b : Nat} {cs : Array Value} {t : TypeId} {m : Nat × Nat} {i : Nat} {v : Value} (h : W.heap[b]? = some (.cells cs t m)) (hv : cs[i]? = some v) : W.cell? ⟨b, i, none⟩ = some v := by
  simp [World.cell?, h, hv]
theorem blk_frozen {W : World} {b : Nat} {cs : Array Value} {t : TypeId} (i : Nat) (h : W.heap[b]? = some (.cells cs t (0, 0))) : W.frozen? ⟨b, i, none⟩ = false := by
  simp [World.frozen?, h]
theorem cell_set_ne {w : World} {b k c o : Nat} {u v : Value} (h : w.cell? ⟨c, o, none⟩ = some u) (hne : b ≠ c) : (w.setCell ⟨b, k, none⟩ v).cell? ⟨c, o, none⟩ = some u := by
  have := Below.heap_setCell w ⟨b, k, none⟩ v c (fun e => hne e.symm)
  unfold World.cell? at h ⊢
  rw [this]; exact h
theorem keep_box {X : World} {B b p i : Nat} {vs : List Value} (h : X.cell? ⟨b, 10, none⟩ = some (.int .u32 p) ∧ X.cell? ⟨b, 11, none⟩ = some (.int .u32 i)) (hne : B ≠ b) : (X.setCells B 0 vs).cell? ⟨b, 10, none⟩ = some (.int .u32 p) ∧ (X.setCells B 0 vs).cell? ⟨b, 11, none⟩ = some (.int .u32 i) := by
  have hb := Only.sets (S := fun k => k = B) rfl vs 0 (Only.refl _ X)
  have hl : b < X.heap.size := by
    rcases Nat.lt_or_ge b X.heap.size with hl | hl
    · exact hl
    · have := h.1; simp [World.cell?, Array.getElem?_eq_none hl] at this
  have := hb.block b hl (fun e => hne e.symm)
  exact ⟨by have h1 := h.1; unfold World.cell? at h1 ⊢; rw [this]; exact h1, by have h1 := h.2; unfold World.cell? at h1 ⊢; rw [this]; exact h1⟩
theorem did_new (w : World) : ∃ W, Hid (W = w.alloc (.cells (didV false 0 (.slice none 0 0) false false false 0) 68)) ∧ W.heap.size = w.heap.size + 1 ∧ Only (fun _ => False) w W ∧ W.heap[w.heap.size]? = some (.cells (didV false 0 (.slice none 0 0) false false false 0) 68 (0, 0)) :=
  ⟨_, rfl, by simp, (Only.refl _ w).alloc _, heap_alloc_new w _⟩
/-- What a step of a write leaves. -/
structure StepW (w : World) (mb rb wb : Nat) (ws : List Int) (nx : Value) (A : Pl8) (dv : Value) (p i : Nat) (mk : Bool) (w' : World) : Prop where
  blk : WBlk w' wb nx A dv p i mk
  mem : MemAt w' mb rb ws
  only : Only (fun k => k = wb ∨ k = rb) w w'
/-- The words, the stores behind which a step ends: the box of what it did is block number w.heap.size. -/
theorem StepW.fin {w X : World} {mb rb wb : Nat} {ws : List Int} {nx : Value} {A : Pl8} {dv : Value} {p i : Nat} {mk : Bool} (hb : WBlk X wb nx A dv p i mk) (hm : MemAt X mb rb ws) (ho : Only (New w.heap.size fun k => k = wb ∨ k = rb) w X)
    (h1 : wb < w.heap.size) (h2 : mb < w.heap.size) (h3 : rb < w.heap.size) (cs : List Value) : StepW w mb rb wb ws nx A dv p i mk (X.setCells w.heap.size 0 cs) := by
  have hs := Only.sets (S := fun k => k = w.heap.size) rfl cs 0 (Only.refl _ X)
  exact ⟨hb.only hs (by omega), hm.only hs (by omega) (by omega), (ho.trans (hs.mono fun k _ hk => .inl (by omega))).old⟩
end Go.Proofs.YtmhpcgcloojfbaaGreatDoor
