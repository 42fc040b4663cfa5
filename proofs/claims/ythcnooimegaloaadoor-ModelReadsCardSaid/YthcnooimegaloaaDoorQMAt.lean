/- Texts of the ring, joined, what is used of them. No condition but those in the statements. -/
import Derived.BigQuiet
import Derived.BigRegion
import Derived.Deep.MidRow
import Derived.Deep.RegionHeld3
import Derived.Deep.Upon
import Derived.IntWalk
import Derived.Maps.OwnOps
import Derived.Maps.OwnSet
import Derived.Test.YthcnooimegaloaaDoorQgb
import Derived.Test.YthcnooimegaloaaDoorQgl
namespace Go.Proofs.YthcnooimegaloaaDoor
open Go.RowKit Go.Sort
set_option linter.unusedVariables false
set_option linter.unusedSimpArgs false
set_option linter.unusedVariables false
set_option linter.unusedSimpArgs false
set_option maxRecDepth 100000
open Go.Maps (int_keyed keyOf_int_mk)
/-- What a block of memory is of the model's. -/
inductive Tg8 where
  | free | cfg | head | stand | mw | msg | mr | mp | bset | pend
  | made (p : Nat) | valid (p : Nat) | row (k : Nat) | items (k : Nat)
  deriving DecidableEq
/-- Blocks that the model writes. -/
def Tg8.mut : Tg8 → Prop
  | .free | .cfg | .msg | .head | .mr => False
  | _ => True
def Tagged (own : Nat → Tg8) (v : Value) (t : Tg8) : Prop := ∀ g, v.ownBlock = some g → own g = t
def TagA (own : Nat → Tg8) (A : Option Addr) (n : Nat) (t : Tg8) : Prop := 0 < n → ∀ a, A = some a → own a.block = t
/-- A message, and where its words lie. -/
structure Gv8 where
  ds : List Int
  A : Option Addr
  k : Nat
  stamp : Int
def Gv8.ms (g : Gv8) : Ms8 := ⟨g.ds, g.stamp⟩
@[reducible] def gC (g : Gv8) : List Value := [.slice g.A g.ds.length g.k, .int .i64 g.stamp]
def gsC (l : List Gv8) : List Value := (l.map gC).flatten
theorem gsC_app (l m : List Gv8) : gsC (l ++ m) = gsC l ++ gsC m := by simp [gsC]
structure GAt (w : World) (own : Nat → Tg8) (g : Gv8) : Prop where
  row : IntRowK .u32 w w.heap.size g.A g.ds
  cap : g.ds.length ≤ g.k ∧ g.k ≤ maxLen ∧ (g.A = none → g.ds = [])
  tag : TagA own g.A g.ds.length .msg
/-- A standing, and the values of its lists. -/
structure Sv8 where
  s : St8
  mv : Value
  vv : Value
@[reducible] def sC (p : Nat) (s : Sv8) : List Value := [.int .i64 (p : Int), .bool s.s.sn, s.mv, s.vv]
/-- Standings in a block, from a place on. -/
def StAt (w : World) (g off : Nat) (l : List Sv8) : Prop := ∃ cur, w.heap[g]? = some (.cells cur 68 (0, 0)) ∧ ∀ p s, l[p]? = some s → ∀ j v, (sC p s)[j]? = some v → cur[off + p * 4 + j]? = some v
theorem StAt.cell {w : World} {g off : Nat} {l : List Sv8} (h : StAt w g off l) {p : Nat} {s : Sv8} (hp : l[p]? = some s) {j : Nat} {v : Value} (hj : (sC p s)[j]? = some v) : w.cell? ⟨g, off + p * 4 + j, none⟩ = some v := by
  obtain ⟨cur, hb, hc⟩ := h
  exact blk_at hb (hc p s hp j v hj)
theorem StAt.frozen {w : World} {g off : Nat} {l : List Sv8} (h : StAt w g off l) (o : Nat) : w.frozen? ⟨g, o, none⟩ = false := by
  obtain ⟨cur, hb, hc⟩ := h
  simp [World.frozen?, hb]
theorem StAt.of {w w' : World} {g off : Nat} {l : List Sv8} (h : StAt w g off l) (e : w'.heap[g]? = w.heap[g]?) : StAt w' g off l := by
  obtain ⟨cur, hb, hc⟩ := h
  exact ⟨cur, e.trans hb, hc⟩
theorem StAt.set {w : World} {g off : Nat} {l : List Sv8} (h : StAt w g off l) {p : Nat} {s : Sv8} (hp : l[p]? = some s) (s' : Sv8) (j : Nat) (hj : j < 4) (v : Value) (e : sC p s' = (sC p s).set j v) : StAt (w.setCell ⟨g, off + p * 4 + j, none⟩ v) g off (l.set p s') := by
  obtain ⟨cur, hb, hc⟩ := h
  have hpl := (List.getElem?_eq_some_iff.1 hp).1
  refine ⟨_, blk_put hb rfl, fun q z hq i u hu => ?_⟩
  rw [List.getElem?_set] at hq
  split at hq
  · rename_i e1
    subst e1
    simp only [hpl, if_true, Option.some.injEq] at hq
    subst hq
    rw [e, List.getElem?_set] at hu
    split at hu
    · rename_i e2
      subst e2
      rw [if_pos (by simpa using hj)] at hu
      injection hu with hu
      subst hu
      have : (sC p s)[j]? = some ((sC p s)[j]'(by simpa using hj)) := List.getElem?_eq_getElem _
      have hlt := (Array.getElem?_eq_some_iff.1 (hc p s hp j _ this)).1
      simp [Array.getElem?_setIfInBounds, hlt]
    · rename_i e2
      rw [Array.getElem?_setIfInBounds, if_neg (by omega)]
      exact hc p s hp i u hu
  · rename_i e1
    have hi : i < 4 := by have := (List.getElem?_eq_some_iff.1 hu).1; simpa using this
    rw [Array.getElem?_setIfInBounds, if_neg (by
      intro e3
      rcases Nat.lt_or_gt_of_ne e1 with h1 | h1 <;> omega)]
    exact hc q z hq i u hu
/-- An element of a map, read as itself. -/
def rd8 (v : Value) : Option (DataW Value × List MemPlace) := some (.held v, [])
/-- A map in block mb: what it holds at each key. -/
def MapH (w : World) (kt : TypeId) (q : IntKind) (mb : Nat) (f : Int → Option Value) (n : Nat) : Prop := ∃ (D : DataW Value) (m : Nat), w.ownsMap Tryd.prog kt rd8 mb m D ∧ m ≤ n ∧
  ∀ p, (Lit.int q p).wf = true → Maps.has D (.int q p) = (f p).isSome ∧ ∀ v, f p = some v → ∀ zd, D.atKey (.int q p) zd = .held v
theorem MapH.made (w : World) (kt : TypeId) (q : IntKind) : MapH (w.alloc (.map #[] 0)) kt q w.heap.size (fun _ => none) 0 :=
  ⟨.map [], 0, World.ownsMap_made w Tryd.prog kt rd8, Nat.le_refl _, fun p hp => ⟨rfl, fun v h => by cases h⟩⟩
theorem MapH.lt {w : World} {kt : TypeId} {q : IntKind} {mb : Nat} {f : Int → Option Value} {n : Nat} (h : MapH w kt q mb f n) : mb < w.heap.size := by
  obtain ⟨D, m, h, _⟩ := h
  exact h.lt
theorem MapH.of {w w' : World} {kt : TypeId} {q : IntKind} {mb : Nat} {f : Int → Option Value} {n : Nat} (h : MapH w kt q mb f n) (e : w'.heap[mb]? = w.heap[mb]?) : MapH w' kt q mb f n := by
  obtain ⟨D, m, ⟨es, clock, h1, h2⟩, h3⟩ := h
  exact ⟨D, m, ⟨es, clock, e.trans h1, h2⟩, h3⟩
theorem MapH.more {w : World} {kt : TypeId} {q : IntKind} {mb : Nat} {f : Int → Option Value} {n n' : Nat} (h : MapH w kt q mb f n) (hn : n ≤ n') : MapH w kt q mb f n' := by
  obtain ⟨D, m, h1, h2, h3⟩ := h
  exact ⟨D, m, h1, by omega, h3⟩
theorem MapH.as {w : World} {kt : TypeId} {q : IntKind} {mb : Nat} {f g : Int → Option Value} {n : Nat} (h : MapH w kt q mb f n) (e : ∀ p, (Lit.int q p).wf = true → f p = g p) : MapH w kt q mb g n := by
  obtain ⟨D, m, h1, h2, h3⟩ := h
  exact ⟨D, m, h1, h2, fun p hp => by rw [← e p hp]; exact h3 p hp⟩
section
variable {w : World} {kt et t : TypeId} {q : IntKind} {mb n : Nat} {f : Int → Option Value} {p : Int}
theorem key8 (hk : Tryd.prog.underlying kt = some (.int q)) (hp : (Lit.int q p).wf = true) : keyOf Tryd.prog kt (.int q p) = some (.int q p) := keyOf_int_mk hk hp
theorem MapH.look (h : MapH w kt q mb f n) (hk : Tryd.prog.underlying kt = some (.int q)) (ht : Tryd.prog.underlying t = some (.map kt et)) {z : Value} (hz : (zeroValue et).run Tryd.prog w = .ok z w) (hp : (Lit.int q p).wf = true) (c : Bool) :
    (Instr.lookup t (.map (some mb)) (.int q p) c).run Tryd.prog w = .ok (if c then .tuple #[(f p).getD z, .bool (f p).isSome] else (f p).getD z) w := by
  obtain ⟨D, m, ⟨es, clock, hb, F, hs, rfl⟩, _, hD⟩ := h
  obtain ⟨h1, h2⟩ := hD p hp
  rcases Maps.fit_look c (int_keyed hk) ht hz hb F (key8 hk hp) with ⟨hrun, _, hat⟩ | ⟨e0, y, _, _, hrun, hRv, hat, _⟩
  · have e1 : f p = none := by
      have := Maps.has_false_of_atKey hat
      rw [this] at h1
      cases hf : f p with
      | none => rfl
      | some v => rw [hf] at h1; cases h1
    rw [hrun, e1]; rfl
  · have hh := Maps.has_true_of_atKey hat
    rw [hh] at h1
    cases hf : f p with
    | none => rw [hf] at h1; cases h1
    | some v =>
      have e2 := (hat (.held v)).symm.trans (h2 v hf (.held v))
      simp only [rd8, Option.some.injEq] at hRv
      rw [← hRv] at e2
      injection e2 with e2
      rw [hrun, e2]; rfl
theorem MapH.put (h : MapH w kt q mb f n) (hk : Tryd.prog.underlying kt = some (.int q)) (ht : Tryd.prog.underlying t = some (.map kt et)) (hp : (Lit.int q p).wf = true) (hn : n ≤ 2000000) (v : Value) : ∃ w', (Instr.mapUpdate t (.map (some mb)) (.int q p) v).run Tryd.prog w = .ok () w' ∧ MapH w' kt q mb (fun j => if j = p then some v else f j) (n + 1) ∧ Only (fun k => k = mb) w w' := by
  obtain ⟨D, m, ho, hm, hD⟩ := h
  obtain ⟨w', hrun, ho', hg⟩ := ho.store (int_keyed hk) ht (val := v) (d := .held v) (ps := []) (by unfold maxLen; omega) (key8 hk hp) rfl
  have hkl : WideAt.IsKeyLit (.int q p) := (int_keyed hk).key (key8 hk hp)
  have hg := hg.grown
  refine ⟨w', hrun, ⟨_, m + 1, ho', by omega, fun j hj => ?_⟩, ⟨hg.os, hg.tape, hg.output, hg.size, fun k hk2 hne => hg.block k hk2 (fun e => by injection e with e; exact hne e)⟩⟩
  dsimp only
  by_cases hjp : j = p
  · subst hjp
    rw [Maps.has_put_same ho.isMap hkl, if_pos rfl]
    refine ⟨rfl, fun u hu zd => ?_⟩
    injection hu with hu
    subst hu
    rw [Maps.atKey_put_same ho.isMap hkl]
  · have hne : (Lit.int q j : Lit) ≠ .int q p := fun e => by injection e with _ e; exact hjp e
    rw [Maps.has_put_other hne, if_neg hjp]
    refine ⟨(hD j hj).1, fun u hu zd => ?_⟩
    rw [Maps.atKey_put_other hne]
    exact (hD j hj).2 u hu zd
theorem MapH.del (h : MapH w kt q mb f n) (hk : Tryd.prog.underlying kt = some (.int q)) (ht : Tryd.prog.underlying t = some (.map kt et)) (hp : (Lit.int q p).wf = true) (ty : TypeId) : ∃ w', (Builtin.delete_ #[t, kt] ty #[.map (some mb), .int q p]).run Tryd.prog w = .ok (.tuple #[]) w' ∧ MapH w' kt q mb (fun j => if j = p then none else f j) n ∧ Only (fun k => k = mb) w w' := by
  obtain ⟨D, m, ho, hm, hD⟩ := h
  obtain ⟨w', hrun, ho', hg⟩ := ho.drop (int_keyed hk) ht (key8 hk hp) ty
  have hkl : WideAt.IsKeyLit (.int q p) := (int_keyed hk).key (key8 hk hp)
  have hg := hg.grown
  refine ⟨w', hrun, ⟨_, m, ho', by omega, fun j hj => ?_⟩, ⟨hg.os, hg.tape, hg.output, hg.size, fun k hk2 hne => hg.block k hk2 (fun e => by injection e with e; exact hne e)⟩⟩
  dsimp only
  by_cases hjp : j = p
  · subst hjp
    rw [if_pos rfl]
    exact ⟨Maps.has_del_same, fun u hu => by cases hu⟩
  · have hne : (Lit.int q j : Lit) ≠ .int q p := fun e => by injection e with _ e; exact hjp e
    rw [if_neg hjp]
    exact ⟨(Maps.has_del_other hne).trans (hD j hj).1, fun u hu zd => by rw [Maps.atKey_del_other hne]; exact (hD j hj).2 u hu zd⟩
end
/-- Where the model lies. -/
structure Mx8 where
  b : Nat
  x : CfgAt
  sg : Nat
  so : Nat
  sk : Nat
  sl : List Sv8
  mw : Nat
  mr : Nat
  mp : Nat
  wv : Nat → Option Gv8
  rb : Nat → Nat
  iv : Nat → Value
  qv : Nat → List Gv8
  sb : Nat
  pb : Nat
@[reducible] def mC (c : Cfg) (A : Mx8) : Array Value := #[.slice A.x.pa c.parts.length A.x.pc, .slice A.x.ca c.chans.length A.x.cc, .int .i64 c.len0, .slice A.x.aa c.win0.length A.x.ac, .int .i64 c.len1, .slice A.x.ba c.win1.length A.x.bc,
  .slice (some ⟨A.sg, A.so, none⟩) c.parts.length A.sk, .map (some A.mw), .map (some A.mr), .map (some A.mp), .pointer (some ⟨A.sb, 0, none⟩)]
def qing (c : Cfg) (k : Nat) : Bool := decide (k < c.chans.length) && decide (kind8 c k = 2)
def fw8 (wv : Nat → Option Gv8) : Int → Option Value := fun z => if 0 ≤ z then (wv z.toNat).map (fun g => .agg (gC g).toArray) else none
def fr8 (c : Cfg) (rb : Nat → Nat) : Int → Option Value := fun z => if 0 ≤ z ∧ qing c z.toNat = true then some (.pointer (some ⟨rb z.toNat, 0, none⟩)) else none
def fp8 (wd : Int → Int) : Int → Option Value := fun a => if wd a = 0 then none else some (.int .u32 (wd a))
/-- The model in memory, but for the blocks whose owners are among X. -/
structure MBut (X : Tg8 → Prop) (w : World) (own : Nat → Tg8) (n0 : Nat) (c : Cfg) (M : Md8) (A : Mx8) : Prop where
  free : ∀ k, w.heap.size ≤ k → own k = .free
  base : ∀ k, own k ≠ .free → n0 ≤ k
  n0le : n0 ≤ w.heap.size
  len : A.sl.map (·.s) = M.st ∧ M.st.length = c.parts.length
  gw : ∀ k, (A.wv k).map Gv8.ms = M.wr k
  gq : ∀ k, (A.qv k).map (·.ds) = M.qs k
  gs : ∀ k g, g ∈ A.qv k → g.stamp = 0
  bl : M.bl.length = 2 * c.chans.length
  sz : ∀ s ∈ M.st, s.made.length ≤ M.t ∧ s.valid.length ≤ M.t
  wz : ∀ k m, M.wr k = some m → m.ds.length ≤ 1000000 ∧ -1 ≤ m.stamp ∧ m.stamp ≤ 1099511627776
  qz : ∀ k, qing c k = true → ((M.qs k).length : Int) ≤ dep8 c k
  head : own A.b = .head ∧ w.heap[A.b]? = some (.cells (mC c A) 65 (0, 0))
  cfg : CfgIn w w.heap.size c A.x ∧ TagA own A.x.pa c.parts.length .cfg ∧ TagA own A.x.ca c.chans.length .cfg ∧ TagA own A.x.aa c.win0.length .cfg ∧ TagA own A.x.ba c.win1.length .cfg
  stand : ¬ X .stand → own A.sg = .stand ∧ StAt w A.sg A.so A.sl
  sk : c.parts.length ≤ A.sk ∧ A.sk ≤ maxLen
  made : ∀ p s, A.sl[p]? = some s → ¬ X (.made p) → OwnsOff w n0 3 1 s.mv s.s.made.length (icells s.s.made) ∧ Tagged own s.mv (.made p)
  valid : ∀ p s, A.sl[p]? = some s → ¬ X (.valid p) → OwnsOff w n0 3 1 s.vv s.s.valid.length (icells s.s.valid) ∧ Tagged own s.vv (.valid p)
  mw : ¬ X .mw → own A.mw = .mw ∧ MapH w 3 .i64 A.mw (fw8 A.wv) M.t
  msgw : ∀ k g, A.wv k = some g → GAt w own g
  mr : own A.mr = .mr ∧ MapH w 3 .i64 A.mr (fr8 c A.rb) c.chans.length
  row : ∀ k, qing c k = true → ¬ X (.row k) → own (A.rb k) = .row k ∧ w.heap[A.rb k]? = some (.cells #[.int .i64 (dep8 c k), A.iv k] 86 (0, 0))
  items : ∀ k, qing c k = true → ¬ X (.items k) → OwnsOff w n0 73 2 (A.iv k) (A.qv k).length (gsC (A.qv k)) ∧ Tagged own (A.iv k) (.items k)
  msgq : ∀ k g, g ∈ A.qv k → GAt w own g
  mp : ¬ X .mp → own A.mp = .mp ∧ MapH w 43 .u64 A.mp (fp8 M.wd) M.t
  bells : ¬ X .pend → own A.sb = .bset ∧ own A.pb = .pend ∧ Bel.SetAt w A.sb A.pb M.bl
/-- The model in memory. -/
def MAt : World → (Nat → Tg8) → Nat → Cfg → Md8 → Mx8 → Prop := MBut (fun _ => False)
theorem GAt.only {w w' : World} {own own' : Nat → Tg8} {g : Gv8} {S : Nat → Prop} (h : GAt w own g) (ho : Only S w w') (he : ∀ k, k < w.heap.size → own' k = own k) (hS : ∀ k, k < w.heap.size → S k → own k ≠ .msg) : GAt w' own' g := by
  refine ⟨(h.row.only8 (Nat.le_refl _) ho fun hn a ha e => ?_).more ho.size, h.cap, fun hn a ha => ?_⟩
  · obtain ⟨b, o, e2, hlt, _⟩ := h.row hn
    rw [e2] at ha; cases ha
    exact hS b hlt e (h.tag hn _ e2)
  · obtain ⟨b, o, e2, hlt, _⟩ := h.row hn
    have := h.tag hn a ha
    rw [e2] at ha; cases ha
    rw [he b hlt]; exact this
theorem Tagged.at_ {own own' : Nat → Tg8} {v : Value} {t : Tg8} {n : Nat} (h : Tagged own v t) (hl : ∀ k, v.ownBlock = some k → k < n) (he : ∀ k, k < n → own' k = own k) : Tagged own' v t := fun g hg => (he g (hl g hg)).trans (h g hg)
theorem TagA.row {own own' : Nat → Tg8} {ks : List IntKind} {w w' : World} {A : Option Addr} {l : List (List Int)} {t : Tg8} {S : Nat → Prop} (h : TagA own A l.length t) (hr : RowN ks w w.heap.size A l) (ho : Only S w w') (he : ∀ k, k < w.heap.size → own' k = own k) (hS : ∀ k, k < w.heap.size → S k → own k ≠ t) : RowN ks w' w'.heap.size A l ∧ TagA own' A l.length t := by
  refine ⟨(hr.only8 (Nat.le_refl _) ho fun hn a ha e => ?_).more ho.size, fun hn a ha => ?_⟩
  · obtain ⟨b, o, e2, hlt, _⟩ := hr hn
    rw [e2] at ha; cases ha
    exact hS b hlt e (h hn _ e2)
  · obtain ⟨b, o, e2, hlt, _⟩ := hr hn
    have := h hn a ha
    rw [e2] at ha; cases ha
    rw [he b hlt]; exact this
theorem MBut.weak {X Y : Tg8 → Prop} {w : World} {own : Nat → Tg8} {n0 : Nat} {c : Cfg} {M : Md8} {A : Mx8} (h : MBut X w own n0 c M A) (hXY : ∀ t, X t → Y t) : MBut Y w own n0 c M A where
  free := h.free
  base := h.base
  n0le := h.n0le
  len := h.len
  gw := h.gw
  gq := h.gq
  gs := h.gs
  bl := h.bl
  sz := h.sz
  wz := h.wz
  qz := h.qz
  head := h.head
  cfg := h.cfg
  stand := fun n => h.stand fun x => n (hXY _ x)
  sk := h.sk
  made := fun p s hs n => h.made p s hs fun x => n (hXY _ x)
  valid := fun p s hs n => h.valid p s hs fun x => n (hXY _ x)
  mw := fun n => h.mw fun x => n (hXY _ x)
  msgw := h.msgw
  mr := h.mr
  row := fun k hk n => h.row k hk fun x => n (hXY _ x)
  items := fun k hk n => h.items k hk fun x => n (hXY _ x)
  msgq := h.msgq
  mp := fun n => h.mp fun x => n (hXY _ x)
  bells := fun n => h.bells fun x => n (hXY _ x)
/-- Blocks turn that are nobody's, or whose owners are among X. -/
theorem MBut.only {X : Tg8 → Prop} {w w' : World} {own own' : Nat → Tg8} {n0 : Nat} {c : Cfg} {M : Md8} {A : Mx8} {S : Nat → Prop} (h : MBut X w own n0 c M A) (ho : Only S w w') (he : ∀ k, k < w.heap.size → own' k = own k)
    (hf : ∀ k, w'.heap.size ≤ k → own' k = .free) (hb : ∀ k, own' k ≠ .free → n0 ≤ k) (hX : ∀ t, X t → t.mut) (hS : ∀ k, k < w.heap.size → S k → own k = .free ∨ X (own k)) (hP : X .bset → X .pend) : MBut X w' own' n0 c M A := by
  have no : ∀ {t : Tg8} (k : Nat), k < w.heap.size → own k = t → t ≠ .free → ¬ X t → ¬ S k := fun k hk e h1 h2 hs => by
    rcases hS k hk hs with h3 | h3
    · exact h1 (e.symm.trans h3)
    · rw [e] at h3; exact h2 h3
  have lt : ∀ (k : Nat), own k ≠ .free → k < w.heap.size := fun k hk => Nat.lt_of_not_le fun hle => hk (h.free k hle)
  have blk : ∀ {t : Tg8} (k : Nat), own k = t → t ≠ .free → ¬ X t → w'.heap[k]? = w.heap[k]? := fun k e h1 h2 => ho.block k (lt k (by rw [e]; exact h1)) (no k (lt k (by rw [e]; exact h1)) e h1 h2)
  have hm : ¬ X .msg := fun hx => hX _ hx
  have hc : ¬ X .cfg := fun hx => hX _ hx
  have hh : ¬ X .head := fun hx => hX _ hx
  have hg : ∀ g, GAt w own g → GAt w' own' g := fun g hg => hg.only ho he (fun k hk hs e => by exact no k hk e (by decide) hm hs)
  have tag : ∀ {t : Tg8} (k : Nat), own k = t → t ≠ .free → own' k = t := fun k e h1 => (he k (lt k (by rw [e]; exact h1))).trans e
  have ow : ∀ {t : Tg8} {e : TypeId} {size n : Nat} {v : Value} {xs : List Value}, OwnsOff w n0 e size v n xs → Tagged own v t → t ≠ .free → ¬ X t → OwnsOff w' n0 e size v n xs ∧ Tagged own' v t := fun {t e size n v xs} h1 h2 h3 h4 =>
    ⟨h1.kept ho (fun k hk => no k (h1.lt k hk).2 (h2 k hk) h3 h4), h2.at_ (fun k hk => (h1.lt k hk).2) he⟩
  have cf : ∀ k, k < w.heap.size → S k → own k ≠ .cfg := fun k hk hs e => no k hk e (by decide) hc hs
  obtain ⟨c1, t1, t2, t3, t4⟩ := h.cfg
  obtain ⟨r1, u1⟩ := t1.row c1.rp ho he cf
  obtain ⟨r2, u2⟩ := t2.row c1.rc ho he cf
  obtain ⟨r3, u3⟩ := t3.row c1.ra ho he cf
  obtain ⟨r4, u4⟩ := t4.row c1.rb ho he cf
  exact {
    free := hf
    base := hb
    n0le := Nat.le_trans h.n0le ho.size
    len := h.len
    gw := h.gw
    gq := h.gq
    gs := h.gs
    bl := h.bl
    sz := h.sz
    wz := h.wz
    qz := h.qz
    head := ⟨tag _ h.head.1 (by decide), (blk _ h.head.1 (by decide) hh).trans h.head.2⟩
    cfg := ⟨⟨r1, r2, r3, r4, c1.lp, c1.lc, c1.la, c1.lb⟩, u1, u2, u3, u4⟩
    stand := fun n => ⟨tag _ (h.stand n).1 (by decide), (h.stand n).2.of (blk _ (h.stand n).1 (by decide) n)⟩
    sk := h.sk
    made := fun p s hs n => ow (h.made p s hs n).1 (h.made p s hs n).2 (by simp) n
    valid := fun p s hs n => ow (h.valid p s hs n).1 (h.valid p s hs n).2 (by simp) n
    mw := fun n => ⟨tag _ (h.mw n).1 (by decide), (h.mw n).2.of (blk _ (h.mw n).1 (by decide) n)⟩
    msgw := fun k g hk => hg g (h.msgw k g hk)
    mr := ⟨tag _ h.mr.1 (by decide), h.mr.2.of (blk _ h.mr.1 (by decide) (fun hx => hX _ hx))⟩
    row := fun k hk n => ⟨tag _ (h.row k hk n).1 (by simp), (blk _ (h.row k hk n).1 (by simp) n).trans (h.row k hk n).2⟩
    items := fun k hk n => ow (h.items k hk n).1 (h.items k hk n).2 (by simp) n
    msgq := fun k g hk => hg g (h.msgq k g hk)
    mp := fun n => ⟨tag _ (h.mp n).1 (by decide), (h.mp n).2.of (blk _ (h.mp n).1 (by decide) n)⟩
    bells := fun n => ⟨tag _ (h.bells n).1 (by decide), tag _ (h.bells n).2.1 (by decide), (h.bells n).2.2.of (blk _ (h.bells n).1 (by decide) (fun x => n (hP x))) (blk _ (h.bells n).2.1 (by decide) n)⟩ }
end Go.Proofs.YthcnooimegaloaaDoor
