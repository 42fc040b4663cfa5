/- Texts of the ring, joined, what is used of them. No condition but those in the statements. -/
import Derived.Test.YthcnooimegaloaaDoorProg
import Derived.BigQuiet
import Derived.BigRegion
import Derived.Deep.MidRow
import Derived.Deep.RegionHeld3
import Derived.Deep.Slices
import Derived.Deep.Upon
import Derived.IntWalk
import Derived.Lib.SmallJoins
import Derived.OpenShut
import Derived.Test.YthcnooimegaloaaDoorQga
section
namespace Go.Proofs.YthcnooimegaloaaDoor
open Go.RowKit Go.Sort Go.Deep Go.ChangeShapes Go.WideShapes Go.Joins
set_option linter.unusedVariables false
set_option linter.unusedSimpArgs false
/-- One struct's cells: integers of these kinds. -/
def ncells (ks : List IntKind) (x : List Int) : List Value := List.zipWith Value.int ks x
/-- A row's cells. -/
def rcells (ks : List IntKind) (l : List (List Int)) : List Value := (l.map (ncells ks)).flatten
theorem ncells_len {ks : List IntKind} {x : List Int} (h : x.length = ks.length) : (ncells ks x).length = ks.length := by simp [ncells, h]
theorem ncells_one (ks : List IntKind) (x : List Int) : ∀ u ∈ ncells ks x, u.oneCell' = true := by
  induction ks generalizing x with
  | nil => intro u hu; simp [ncells] at hu
  | cons k ks ih =>
    cases x with
    | nil => intro u hu; simp [ncells] at hu
    | cons n x =>
      intro u hu
      simp only [ncells, List.zipWith_cons_cons, List.mem_cons] at hu
      rcases hu with rfl | hu
      · rfl
      · exact ih x u hu
theorem rcells_app (ks : List IntKind) (l m : List (List Int)) : rcells ks (l ++ m) = rcells ks l ++ rcells ks m := by simp [rcells]
/-- Its integers are of these kinds. -/
def wfN (ks : List IntKind) (x : List Int) : Prop := x.length = ks.length ∧ ∀ (j : Nat) (k : IntKind) (v : Int), ks[j]? = some k → x[j]? = some v → (Lit.int k v).wf = true
def wfR (ks : List IntKind) (l : List (List Int)) : Prop := ∀ x ∈ l, wfN ks x
theorem rcells_at {ks : List IntKind} : ∀ {l : List (List Int)} {i : Nat} {x : List Int}, wfR ks l → l[i]? = some x → ∀ j, j < ks.length → (rcells ks l)[i * ks.length + j]? = (ncells ks x)[j]?
  | [], i, x, _, h, _, _ => by simp at h
  | y :: l, 0, x, hf, h, j, hj => by
    simp at h; subst h
    rw [rcells, List.map_cons, List.flatten_cons, Nat.zero_mul, Nat.zero_add, List.getElem?_append_left (by rw [ncells_len (hf y (by simp)).1]; exact hj)]
  | y :: l, i + 1, x, hf, h, j, hj => by
    have hy := ncells_len (ks := ks) (hf y (by simp)).1
    have ih := rcells_at (l := l) (i := i) (x := x) (fun z hz => hf z (by simp [hz])) (by simpa using h) j hj
    rw [rcells, List.map_cons, List.flatten_cons, List.getElem?_append_right (by rw [hy, Nat.add_mul]; omega), hy, show (i + 1) * ks.length + j - ks.length = i * ks.length + j by rw [Nat.add_mul]; omega]
    exact ih
theorem rcells_len {ks : List IntKind} : ∀ {l : List (List Int)}, wfR ks l → (rcells ks l).length = l.length * ks.length
  | [], _ => by simp [rcells]
  | y :: l, hf => by
    have ih := rcells_len (l := l) (fun z hz => hf z (by simp [hz]))
    have hy := ncells_len (ks := ks) (hf y (by simp)).1
    rw [rcells, List.map_cons, List.flatten_cons, List.length_append, hy, show (l.map (ncells ks)).flatten = rcells ks l from rfl, ih, List.length_cons, Nat.add_mul]; omega
/-- A slice's row of structs of integers of kinds ks, at a block below number B. -/
def RowN (ks : List IntKind) (w : World) (B : Nat) (A : Option Addr) (l : List (List Int)) : Prop :=
  0 < l.length → ∃ b o, A = some ⟨b, o, none⟩ ∧ b < B ∧ ∀ (i : Nat) (x : List Int), l[i]? = some x → ∀ (j : Nat) (v : Value), (ncells ks x)[j]? = some v → w.cell? ⟨b, o + i * ks.length + j, none⟩ = some v
theorem RowN.below {ks : List IntKind} {w w' : World} {B : Nat} {A : Option Addr} {l : List (List Int)} (h : RowN ks w B A l) (hb : Below B w w') : RowN ks w' B A l := fun hn => by
  obtain ⟨b, o, hA, hlt, hc⟩ := h hn
  exact ⟨b, o, hA, hlt, fun i x hx j v hv => (hb.cell (p := ⟨b, o + i * ks.length + j, none⟩) hlt).trans (hc i x hx j v hv)⟩
theorem RowN.more {ks : List IntKind} {w : World} {B B' : Nat} {A : Option Addr} {l : List (List Int)} (h : RowN ks w B A l) (hb : B ≤ B') : RowN ks w B' A l := fun hn => by
  obtain ⟨b, o, hA, hlt, hc⟩ := h hn
  exact ⟨b, o, hA, by omega, hc⟩
theorem RowN.later {ks : List IntKind} {w w' : World} {A : Option Addr} {l : List (List Int)} (h : RowN ks w w.heap.size A l) (hb : Below w.heap.size w w') : RowN ks w' w'.heap.size A l := (h.below hb).more hb.size
theorem RowN.nil (ks : List IntKind) (w : World) (B : Nat) (A : Option Addr) : RowN ks w B A [] := fun h => by simp at h
/-- A row of the call's own. -/
theorem OwnsOff.rowN {ks : List IntKind} {w : World} {base : Nat} {e : TypeId} {v : Value} {l : List (List Int)} (h : OwnsOff w base e ks.length v l.length (rcells ks l)) (hw : wfR ks l) :
    ∃ A c, v = .slice A l.length c ∧ l.length ≤ c ∧ c ≤ maxLen ∧ RowN ks w w.heap.size A l ∧ (A = none → l = []) ∧ ∀ a, A = some a → base ≤ a.block := by
  obtain ⟨_, ⟨rfl, hn⟩ | ⟨g, off, cap, cur, rfl, hb, hcur, hle, hmax, _, htk⟩⟩ := h
  · exact ⟨none, 0, by rw [hn], by omega, by unfold maxLen; omega, fun hp => by omega, fun _ => List.eq_nil_of_length_eq_zero hn, fun _ h => by cases h⟩
  · refine ⟨_, cap, rfl, hle, hmax, fun hp => ⟨g, off, rfl, (Array.getElem?_eq_some_iff.1 hcur).1, fun i x hx j v hv => ?_⟩, (fun h => by cases h), fun a ha => by cases ha; exact hb⟩
    have hil : i < l.length := (List.getElem?_eq_some_iff.1 hx).1
    have hxl := (hw x (List.mem_of_getElem? hx)).1
    have hj : j < ks.length := by have := (List.getElem?_eq_some_iff.1 hv).1; rw [ncells_len hxl] at this; exact this
    have h1 := rcells_at hw hx j hj
    rw [hv, ← htk, List.getElem?_take] at h1
    split at h1
    · rw [List.getElem?_drop] at h1
      rw [Nat.add_assoc]
      simp [World.cell?, hcur]
      simpa using h1
    · cases h1
/-- A configuration: its rows as lists of integers, in the order of the fields. -/
structure Cfg where
  parts : List (List Int)
  chans : List (List Int)
  len0 : Int
  win0 : List (List Int)
  len1 : Int
  win1 : List (List Int)
  deriving DecidableEq
/-- Where its rows lie, and their capacities. -/
structure CfgAt where
  pa : Option Addr
  pc : Nat
  ca : Option Addr
  cc : Nat
  aa : Option Addr
  ac : Nat
  ba : Option Addr
  bc : Nat
/-- It lies in the world so, below block number B. -/
structure CfgIn (w : World) (B : Nat) (c : Cfg) (x : CfgAt) : Prop where
  rp : RowN [.i64, .i64] w B x.pa c.parts
  rc : RowN [.i64, .i64, .i64, .i64, .i64, .i64, .u32] w B x.ca c.chans
  ra : RowN [.i64, .i64, .i64] w B x.aa c.win0
  rb : RowN [.i64, .i64, .i64] w B x.ba c.win1
  lp : c.parts.length ≤ x.pc ∧ x.pc ≤ maxLen ∧ (x.pa = none → c.parts = [])
  lc : c.chans.length ≤ x.cc ∧ x.cc ≤ maxLen ∧ (x.ca = none → c.chans = [])
  la : c.win0.length ≤ x.ac ∧ x.ac ≤ maxLen ∧ (x.aa = none → c.win0 = [])
  lb : c.win1.length ≤ x.bc ∧ x.bc ≤ maxLen ∧ (x.ba = none → c.win1 = [])
structure CfgWf (c : Cfg) : Prop where
  wp : wfR [.i64, .i64] c.parts
  wc : wfR [.i64, .i64, .i64, .i64, .i64, .i64, .u32] c.chans
  wa : wfR [.i64, .i64, .i64] c.win0
  wb : wfR [.i64, .i64, .i64] c.win1
  w0 : (Lit.int .i64 c.len0).wf = true
  w1 : (Lit.int .i64 c.len1).wf = true
theorem CfgIn.below {w w' : World} {B : Nat} {c : Cfg} {x : CfgAt} (h : CfgIn w B c x) (hb : Below B w w') : CfgIn w' B c x := ⟨h.rp.below hb, h.rc.below hb, h.ra.below hb, h.rb.below hb, h.lp, h.lc, h.la, h.lb⟩
theorem CfgIn.more {w : World} {B B' : Nat} {c : Cfg} {x : CfgAt} (h : CfgIn w B c x) (hb : B ≤ B') : CfgIn w B' c x := ⟨h.rp.more hb, h.rc.more hb, h.ra.more hb, h.rb.more hb, h.lp, h.lc, h.la, h.lb⟩
theorem CfgIn.later {w w' : World} {c : Cfg} {x : CfgAt} (h : CfgIn w w.heap.size c x) (hb : Below w.heap.size w w') : CfgIn w' w'.heap.size c x := (h.below hb).more hb.size
/-- Its six cells. -/
@[reducible] def cfgCells (c : Cfg) (x : CfgAt) : Array Value := #[.slice x.pa c.parts.length x.pc, .slice x.ca c.chans.length x.cc, .int .i64 c.len0, .slice x.aa c.win0.length x.ac, .int .i64 c.len1, .slice x.ba c.win1.length x.bc]
/-- A configuration in a box of its own, in every world that is as W below W's blocks. -/
def CBox (W : World) (b : Nat) (c : Cfg) (x : CfgAt) : Prop := ∀ w', Below W.heap.size W w' →
  w'.cell? ⟨b, 0, none⟩ = some (.slice x.pa c.parts.length x.pc) ∧ w'.cell? ⟨b, 1, none⟩ = some (.slice x.ca c.chans.length x.cc) ∧ w'.cell? ⟨b, 2, none⟩ = some (.int .i64 c.len0) ∧
  w'.cell? ⟨b, 3, none⟩ = some (.slice x.aa c.win0.length x.ac) ∧ w'.cell? ⟨b, 4, none⟩ = some (.int .i64 c.len1) ∧ w'.cell? ⟨b, 5, none⟩ = some (.slice x.ba c.win1.length x.bc)
theorem CBox.on {W W' : World} {b : Nat} {c : Cfg} {x : CfgAt} (h : CBox W b c x) (hb : Below W.heap.size W W') : CBox W' b c x := fun w' hb' => h w' (hb.trans (hb'.mono hb.size))
theorem cell_blk {W : World} {b : Nat} {cs : Array Value} {t : TypeId} {m : Nat × Nat} {i : Nat} {v : Value} (h : W.heap[b]? = some (.cells cs t m)) (hv : cs[i]? = some v) : W.cell? ⟨b, i, none⟩ = some v := by
  simp [World.cell?, h, hv]
theorem cbox_new (w : World) (c : Cfg) (x : CfgAt) (t : TypeId) : CBox (w.alloc (.cells (cfgCells c x) t)) w.heap.size c x := by
  intro w' hb
  have h : ∀ o v, (w.alloc (.cells (cfgCells c x) t)).cell? ⟨w.heap.size, o, none⟩ = some v → w'.cell? ⟨w.heap.size, o, none⟩ = some v := fun o v h => (hb.cell (p := ⟨w.heap.size, o, none⟩) (by simp)).trans h
  exact ⟨h 0 _ (cell_blk (heap_alloc_new w _) rfl), h 1 _ (cell_blk (heap_alloc_new w _) rfl), h 2 _ (cell_blk (heap_alloc_new w _) rfl), h 3 _ (cell_blk (heap_alloc_new w _) rfl), h 4 _ (cell_blk (heap_alloc_new w _) rfl), h 5 _ (cell_blk (heap_alloc_new w _) rfl)⟩
theorem one_cbox (w : World) (c : Cfg) (x : CfgAt) (t : TypeId) : ∃ W, Hid (W = w.alloc (.cells (cfgCells c x) t)) ∧ Below w.heap.size w W ∧ W.heap.size = w.heap.size + 1 ∧ CBox W w.heap.size c x :=
  ⟨_, rfl, (Below.refl _ _).alloc (Nat.le_refl _) _, by simp, cbox_new w c x t⟩
theorem wfN2 {x : List Int} (h : wfN [.i64, .i64] x) : ∃ x0 x1 : Int, x = [x0, x1] ∧ (Lit.int .i64 x0).wf = true ∧ (Lit.int .i64 x1).wf = true := by
  obtain ⟨hl, hw⟩ := h
  match x, hl, hw with
  | [x0, x1], _, hw => exact ⟨x0, x1, rfl, hw 0 _ _ rfl rfl, hw 1 _ _ rfl rfl⟩
theorem wfN2_mk {x0 x1 : Int} (h0 : (Lit.int .i64 x0).wf = true) (h1 : (Lit.int .i64 x1).wf = true) : wfN [.i64, .i64] [x0, x1] := by
  refine ⟨rfl, fun j k v hk hv => ?_⟩
  match j, hk, hv with
  | 0, hk, hv => simp at hk hv; subst hk hv; exact h0
  | 1, hk, hv => simp at hk hv; subst hk hv; exact h1
/-- The struct at place i, in every world that is as w below B. -/
theorem RowN.at2 {w : World} {B : Nat} {A : Option Addr} {l : List (List Int)} (h : RowN [.i64, .i64] w B A l) (hw : wfR [.i64, .i64] l) {i : Nat} (hi : i < l.length) :
    ∃ (b o : Nat) (x0 x1 : Int), A = some ⟨b, o, none⟩ ∧ b < B ∧ l[i]? = some [x0, x1] ∧ ((Lit.int .i64 x0).wf = true ∧ (Lit.int .i64 x1).wf = true) ∧ ∀ w', Below B w w' → w'.cell? ⟨b, o + i * 2, none⟩ = some (.int .i64 x0) ∧ w'.cell? ⟨b, o + i * 2 + 1, none⟩ = some (.int .i64 x1) := by
  obtain ⟨b, o, hA, hlt, hcc⟩ := h (by omega)
  have hx : l[i]? = some l[i] := List.getElem?_eq_getElem hi
  obtain ⟨x0, x1, he, hwf⟩ := wfN2 (hw l[i] (List.getElem_mem hi))
  rw [he] at hx
  have hc : ∀ w', Below B w w' → ∀ (j : Nat) (v : Value), (ncells [.i64, .i64] [x0, x1])[j]? = some v → w'.cell? ⟨b, o + i * 2 + j, none⟩ = some v := fun w' hb j v hv => (hb.cell (p := ⟨b, o + i * 2 + j, none⟩) hlt).trans (hcc i _ hx j v hv)
  exact ⟨b, o, x0, x1, hA, hlt, hx, hwf, fun w' hb => ⟨by have := hc w' hb 0 _ rfl; simpa [List.length] using this, by have := hc w' hb 1 _ rfl; simpa [List.length] using this⟩⟩
theorem wfN3 {x : List Int} (h : wfN [.i64, .i64, .i64] x) : ∃ x0 x1 x2 : Int, x = [x0, x1, x2] ∧ (Lit.int .i64 x0).wf = true ∧ (Lit.int .i64 x1).wf = true ∧ (Lit.int .i64 x2).wf = true := by
  obtain ⟨hl, hw⟩ := h
  match x, hl, hw with
  | [x0, x1, x2], _, hw => exact ⟨x0, x1, x2, rfl, hw 0 _ _ rfl rfl, hw 1 _ _ rfl rfl, hw 2 _ _ rfl rfl⟩
theorem wfN3_mk {x0 x1 x2 : Int} (h0 : (Lit.int .i64 x0).wf = true) (h1 : (Lit.int .i64 x1).wf = true) (h2 : (Lit.int .i64 x2).wf = true) : wfN [.i64, .i64, .i64] [x0, x1, x2] := by
  refine ⟨rfl, fun j k v hk hv => ?_⟩
  match j, hk, hv with
  | 0, hk, hv => simp at hk hv; subst hk hv; exact h0
  | 1, hk, hv => simp at hk hv; subst hk hv; exact h1
  | 2, hk, hv => simp at hk hv; subst hk hv; exact h2
/-- The struct at place i, in every world that is as w below B. -/
theorem RowN.at3 {w : World} {B : Nat} {A : Option Addr} {l : List (List Int)} (h : RowN [.i64, .i64, .i64] w B A l) (hw : wfR [.i64, .i64, .i64] l) {i : Nat} (hi : i < l.length) :
    ∃ (b o : Nat) (x0 x1 x2 : Int), A = some ⟨b, o, none⟩ ∧ b < B ∧ l[i]? = some [x0, x1, x2] ∧ ((Lit.int .i64 x0).wf = true ∧ (Lit.int .i64 x1).wf = true ∧ (Lit.int .i64 x2).wf = true) ∧ ∀ w', Below B w w' → w'.cell? ⟨b, o + i * 3, none⟩ = some (.int .i64 x0) ∧ w'.cell? ⟨b, o + i * 3 + 1, none⟩ = some (.int .i64 x1) ∧ w'.cell? ⟨b, o + i * 3 + 2, none⟩ = some (.int .i64 x2) := by
  obtain ⟨b, o, hA, hlt, hcc⟩ := h (by omega)
  have hx : l[i]? = some l[i] := List.getElem?_eq_getElem hi
  obtain ⟨x0, x1, x2, he, hwf⟩ := wfN3 (hw l[i] (List.getElem_mem hi))
  rw [he] at hx
  have hc : ∀ w', Below B w w' → ∀ (j : Nat) (v : Value), (ncells [.i64, .i64, .i64] [x0, x1, x2])[j]? = some v → w'.cell? ⟨b, o + i * 3 + j, none⟩ = some v := fun w' hb j v hv => (hb.cell (p := ⟨b, o + i * 3 + j, none⟩) hlt).trans (hcc i _ hx j v hv)
  exact ⟨b, o, x0, x1, x2, hA, hlt, hx, hwf, fun w' hb => ⟨by have := hc w' hb 0 _ rfl; simpa [List.length] using this, by have := hc w' hb 1 _ rfl; simpa [List.length] using this, by have := hc w' hb 2 _ rfl; simpa [List.length] using this⟩⟩
theorem wfN7 {x : List Int} (h : wfN [.i64, .i64, .i64, .i64, .i64, .i64, .u32] x) : ∃ x0 x1 x2 x3 x4 x5 x6 : Int, x = [x0, x1, x2, x3, x4, x5, x6] ∧ (Lit.int .i64 x0).wf = true ∧ (Lit.int .i64 x1).wf = true ∧ (Lit.int .i64 x2).wf = true ∧ (Lit.int .i64 x3).wf = true ∧ (Lit.int .i64 x4).wf = true ∧ (Lit.int .i64 x5).wf = true ∧ (Lit.int .u32 x6).wf = true := by
  obtain ⟨hl, hw⟩ := h
  match x, hl, hw with
  | [x0, x1, x2, x3, x4, x5, x6], _, hw => exact ⟨x0, x1, x2, x3, x4, x5, x6, rfl, hw 0 _ _ rfl rfl, hw 1 _ _ rfl rfl, hw 2 _ _ rfl rfl, hw 3 _ _ rfl rfl, hw 4 _ _ rfl rfl, hw 5 _ _ rfl rfl, hw 6 _ _ rfl rfl⟩
theorem wfN7_mk {x0 x1 x2 x3 x4 x5 x6 : Int} (h0 : (Lit.int .i64 x0).wf = true) (h1 : (Lit.int .i64 x1).wf = true) (h2 : (Lit.int .i64 x2).wf = true) (h3 : (Lit.int .i64 x3).wf = true) (h4 : (Lit.int .i64 x4).wf = true) (h5 : (Lit.int .i64 x5).wf = true) (h6 : (Lit.int .u32 x6).wf = true) : wfN [.i64, .i64, .i64, .i64, .i64, .i64, .u32] [x0, x1, x2, x3, x4, x5, x6] := by
  refine ⟨rfl, fun j k v hk hv => ?_⟩
  match j, hk, hv with
  | 0, hk, hv => simp at hk hv; subst hk hv; exact h0
  | 1, hk, hv => simp at hk hv; subst hk hv; exact h1
  | 2, hk, hv => simp at hk hv; subst hk hv; exact h2
  | 3, hk, hv => simp at hk hv; subst hk hv; exact h3
  | 4, hk, hv => simp at hk hv; subst hk hv; exact h4
  | 5, hk, hv => simp at hk hv; subst hk hv; exact h5
  | 6, hk, hv => simp at hk hv; subst hk hv; exact h6
/-- The struct at place i, in every world that is as w below B. -/
theorem RowN.at7 {w : World} {B : Nat} {A : Option Addr} {l : List (List Int)} (h : RowN [.i64, .i64, .i64, .i64, .i64, .i64, .u32] w B A l) (hw : wfR [.i64, .i64, .i64, .i64, .i64, .i64, .u32] l) {i : Nat} (hi : i < l.length) :
    ∃ (b o : Nat) (x0 x1 x2 x3 x4 x5 x6 : Int), A = some ⟨b, o, none⟩ ∧ b < B ∧ l[i]? = some [x0, x1, x2, x3, x4, x5, x6] ∧ ((Lit.int .i64 x0).wf = true ∧ (Lit.int .i64 x1).wf = true ∧ (Lit.int .i64 x2).wf = true ∧ (Lit.int .i64 x3).wf = true ∧ (Lit.int .i64 x4).wf = true ∧ (Lit.int .i64 x5).wf = true ∧ (Lit.int .u32 x6).wf = true) ∧ ∀ w', Below B w w' → w'.cell? ⟨b, o + i * 7, none⟩ = some (.int .i64 x0) ∧ w'.cell? ⟨b, o + i * 7 + 1, none⟩ = some (.int .i64 x1) ∧ w'.cell? ⟨b, o + i * 7 + 2, none⟩ = some (.int .i64 x2) ∧ w'.cell? ⟨b, o + i * 7 + 3, none⟩ = some (.int .i64 x3) ∧ w'.cell? ⟨b, o + i * 7 + 4, none⟩ = some (.int .i64 x4) ∧ w'.cell? ⟨b, o + i * 7 + 5, none⟩ = some (.int .i64 x5) ∧ w'.cell? ⟨b, o + i * 7 + 6, none⟩ = some (.int .u32 x6) := by
  obtain ⟨b, o, hA, hlt, hcc⟩ := h (by omega)
  have hx : l[i]? = some l[i] := List.getElem?_eq_getElem hi
  obtain ⟨x0, x1, x2, x3, x4, x5, x6, he, hwf⟩ := wfN7 (hw l[i] (List.getElem_mem hi))
  rw [he] at hx
  have hc : ∀ w', Below B w w' → ∀ (j : Nat) (v : Value), (ncells [.i64, .i64, .i64, .i64, .i64, .i64, .u32] [x0, x1, x2, x3, x4, x5, x6])[j]? = some v → w'.cell? ⟨b, o + i * 7 + j, none⟩ = some v := fun w' hb j v hv => (hb.cell (p := ⟨b, o + i * 7 + j, none⟩) hlt).trans (hcc i _ hx j v hv)
  exact ⟨b, o, x0, x1, x2, x3, x4, x5, x6, hA, hlt, hx, hwf, fun w' hb => ⟨by have := hc w' hb 0 _ rfl; simpa [List.length] using this, by have := hc w' hb 1 _ rfl; simpa [List.length] using this, by have := hc w' hb 2 _ rfl; simpa [List.length] using this, by have := hc w' hb 3 _ rfl; simpa [List.length] using this, by have := hc w' hb 4 _ rfl; simpa [List.length] using this, by have := hc w' hb 5 _ rfl; simpa [List.length] using this, by have := hc w' hb 6 _ rfl; simpa [List.length] using this⟩⟩
end Go.Proofs.YthcnooimegaloaaDoor
end
section
namespace Go.Proofs.YthcnooimegaloaaDoor
open Go.RowKit Go.Sort Go.ChangeShapes Go.WideShapes
set_option linter.unusedVariables false
set_option linter.unusedSimpArgs false
def icells (xs : List Int) : List Value := xs.map (Value.int .i64)
theorem icells_app (a b : List Int) : icells (a ++ b) = icells a ++ icells b := by simp [icells]
theorem news_new (w : World) (cs : Array Value) (t : TypeId) : ∀ j u, cs.toList[j]? = some u → (w.alloc (.cells cs t)).cell? ((⟨w.heap.size, 0, none⟩ : Addr).add j) = some u := fun j u hu => by
  rw [Addr.add_lit, Nat.zero_add]
  exact cell_blk (heap_alloc_new w _) (by simpa using hu)
theorem Tryd.infoI : (Tryd.prog.info? 3).map (fun i => (i.zero, i.size, i.bytes)) = some (some (.int .i64 0), 1, 8) := by kernel_rfl
/-- Few rows. -/
def CfgFew (c : Cfg) : Prop := c.parts.length ≤ 1000000 ∧ c.chans.length ≤ 1000000 ∧ c.win0.length ≤ 1000000 ∧ c.win1.length ≤ 1000000
end Go.Proofs.YthcnooimegaloaaDoor
end
section
namespace Go.Proofs.YthcnooimegaloaaDoor
open Go.RowKit Go.Sort
set_option linter.unusedVariables false
set_option linter.unusedSimpArgs false
set_option linter.unusedVariables false
set_option linter.unusedSimpArgs false
set_option maxRecDepth 100000
/-- Blocks of S have turned, and such as are new since block number n. -/
def New (n : Nat) (S : Nat → Prop) : Nat → Prop := fun k => n ≤ k ∨ S k
theorem Only.alloc {S : Nat → Prop} {w w' : World} (h : Only S w w') (o : Obj) : Only S w (w'.alloc o) := ⟨h.os, h.tape, h.output, by have := h.size; simp; omega, fun k hk hs => (Below.heap_alloc _ _ _ (Nat.lt_of_lt_of_le hk h.size)).trans (h.block k hk hs)⟩
theorem Only.set {S : Nat → Prop} {w w' : World} (h : Only S w w') {p : Addr} (hp : S p.block) (v : Value) : Only S w (w'.setCell p v) := ⟨h.os, h.tape, h.output, by have := h.size; simpa [World.setCell] using this, fun k hk hs => (Below.heap_setCell _ _ _ _ (fun e => hs (by rw [e]; exact hp))).trans (h.block k hk hs)⟩
theorem Only.sets {S : Nat → Prop} {w : World} {b : Nat} (hb : S b) : ∀ (vs : List Value) (o : Nat) {w' : World}, Only S w w' → Only S w (w'.setCells b o vs)
  | [], _, _, h => h
  | v :: r, o, _, h => Only.sets hb r (o + 1) (h.set (p := ⟨b, o, none⟩) hb v)
theorem Only.drew {S : Nat → Prop} {w w' : World} (h : Only S w w') : Only S w w'.drew := ⟨h.os, h.tape, h.output, h.size, h.block⟩
theorem Only.old {S : Nat → Prop} {w w' : World} (h : Only (New w.heap.size S) w w') : Only S w w' := h.mono fun k hk hs => hs.resolve_left (by omega)
theorem Only.at_ {S : Nat → Prop} {w w' : World} (h : Only S w w') {k : Nat} {o : Obj} (hk : w.heap[k]? = some o) (hs : ¬ S k) : w'.heap[k]? = some o := (h.block k (Array.getElem?_eq_some_iff.1 hk).1 hs).trans hk
theorem blk_at {W : World} {a i : Nat} {cs : Array Value} {t : TypeId} {m : Nat × Nat} {v : Value} (h : W.heap[a]? = some (.cells cs t m)) (hv : cs[i]? = some v) : W.cell? ⟨a, i, none⟩ = some v := by
  simp [World.cell?, h, hv]
theorem blk_put {W : World} {a o : Nat} {cs cs' : Array Value} {v : Value} {t : TypeId} {m : Nat × Nat} (h : W.heap[a]? = some (.cells cs t m)) (e : cs.setIfInBounds o v = cs') : (W.setCell ⟨a, o, none⟩ v).heap[a]? = some (.cells cs' t m) := by
  subst e; simp [World.setCell, Array.getElem?_modify, h]
theorem RowN.only8 {ks : List IntKind} {w w' : World} {B : Nat} {A : Option Addr} {l : List (List Int)} {S : Nat → Prop} (h : RowN ks w B A l) (hB : B ≤ w.heap.size) (ho : Only S w w') (hA : 0 < l.length → ∀ a, A = some a → ¬ S a.block) : RowN ks w' B A l := fun hn => by
  obtain ⟨b, o, rfl, hlt, hc⟩ := h hn
  refine ⟨b, o, rfl, hlt, fun i x hx j v hv => ?_⟩
  rw [← hc i x hx j v hv]
  simp [World.cell?, ho.block b (by omega) (hA hn _ rfl)]
theorem IntRowK.only8 {K : IntKind} {w w' : World} {B : Nat} {A : Option Addr} {l : List Int} {S : Nat → Prop} (h : IntRowK K w B A l) (hB : B ≤ w.heap.size) (ho : Only S w w') (hA : 0 < l.length → ∀ a, A = some a → ¬ S a.block) : IntRowK K w' B A l := fun hn => by
  obtain ⟨b, o, rfl, hlt, hc⟩ := h hn
  refine ⟨b, o, rfl, hlt, fun i hi => ?_⟩
  rw [← hc i hi]
  simp [World.cell?, ho.block b (by omega) (hA hn _ rfl)]
theorem IntRowK.later8 {K : IntKind} {w w' : World} {A : Option Addr} {l : List Int} (h : IntRowK K w w.heap.size A l) (hb : Below w.heap.size w w') : IntRowK K w' w'.heap.size A l := (h.below hb).more hb.size
end Go.Proofs.YthcnooimegaloaaDoor
end
section
namespace Go.Proofs.YthcnooimegaloaaDoor
open Go.RowKit Go.Sort
set_option linter.unusedVariables false
set_option linter.unusedSimpArgs false
set_option linter.unusedVariables false
set_option linter.unusedSimpArgs false
set_option maxRecDepth 100000
theorem rcellsP_ones {ks : List IntKind} {l : List (List Int)} : ∀ u ∈ rcells ks l, u.oneCell' = true := by
  intro u hu
  unfold rcells at hu
  rw [List.mem_flatten] at hu
  obtain ⟨cs, hcs, hu⟩ := hu
  obtain ⟨x, _, rfl⟩ := List.mem_map.1 hcs
  exact ncells_one ks x u hu
/-- A row's cells, one behind the other. -/
theorem RowN.newsP {ks : List IntKind} {w : World} {B : Nat} {a : Addr} {l : List (List Int)} (hk : 0 < ks.length) (h : RowN ks w B (some a) l) (hw : wfR ks l) : ∀ j u, (rcells ks l)[j]? = some u → w.cell? (a.add j) = some u := by
  intro j u hj
  have hlen := rcells_len hw
  have hjl : j < l.length * ks.length := by have := (List.getElem?_eq_some_iff.1 hj).1; omega
  have hpos : 0 < l.length := by
    rcases Nat.eq_zero_or_pos l.length with h0 | h0
    · rw [h0] at hjl; omega
    · exact h0
  obtain ⟨b, o, hA, _, hc⟩ := h hpos
  cases hA
  have hi : j / ks.length < l.length := Nat.div_lt_of_lt_mul (by rw [Nat.mul_comm]; exact hjl)
  have hjm : j % ks.length < ks.length := Nat.mod_lt _ hk
  have hx : l[j / ks.length]? = some l[j / ks.length] := List.getElem?_eq_getElem hi
  have h1 := rcells_at hw hx (j % ks.length) hjm
  rw [Nat.mul_comm, Nat.div_add_mod, hj] at h1
  have h2 := hc _ _ hx (j % ks.length) u h1.symm
  rw [Addr.add_lit]
  rw [Nat.add_assoc, Nat.mul_comm, Nat.div_add_mod] at h2
  exact h2
theorem rowP_none {ks : List IntKind} {w : World} {B : Nat} {A : Option Addr} {l : List (List Int)} (h : RowN ks w B A l) : A = none → l = [] := fun e => by
  rcases Nat.eq_zero_or_pos l.length with h0 | h0
  · exact List.eq_nil_of_length_eq_zero h0
  · obtain ⟨b, o, hA, _⟩ := h h0
    rw [e] at hA; cases hA
structure LockP (T : Prop) : Prop where
  get : T
theorem cutP {T G : Prop} (six : T) (body : LockP T → G) : G := body ⟨six⟩
/-- A call that hands back rows of its own, and turns nothing that was there. -/
def GivesRowN (ks : List IntKind) (w : World) (l : List (List Int)) (e : Ending) (w' : World) : Prop := ∃ A' c', e = .returned (.slice A' l.length c') ∧ RowN ks w' w'.heap.size A' l ∧ (0 < l.length → ∀ a, A' = some a → w.heap.size ≤ a.block) ∧ (l.length ≤ c' ∧ c' ≤ maxLen ∧ (A' = none → l = [])) ∧ Below w.heap.size w w'
/-- The same, of integers. -/
def GivesIntK (K : IntKind) (w : World) (l : List Int) (e : Ending) (w' : World) : Prop := ∃ A' c', e = .returned (.slice A' l.length c') ∧ IntRowK K w' w'.heap.size A' l ∧ (0 < l.length → ∀ a, A' = some a → w.heap.size ≤ a.block) ∧ (l.length ≤ c' ∧ c' ≤ maxLen ∧ (A' = none → l = [])) ∧ Below w.heap.size w w'
theorem Tryd.infoClP : (Tryd.prog.info? 55).map (fun i => (i.zero, i.size, i.bytes)) = some (some (.agg #[.int .i64 0, .int .i64 0]), 2, 16) := by kernel_rfl
theorem cloneP_b (A : Option Addr) (c : Nat) (l : List (List Int)) (w : World) (h : RowN [.i64, .i64] w w.heap.size A l) (hw : wfR [.i64, .i64] l) (hn : A = none → l = []) (hl : l.length ≤ 1000000) : Calls Tryd.prog 17 #[.slice A l.length c] w (GivesRowN [.i64, .i64] w l) := by
  obtain ⟨i0, hi, hz0, hz1, hz2⟩ := info_parts Tryd.infoClP
  have q := Lib.run_eql_slice_nil (P := Tryd.prog) w 24 55 A l.length c 0 0 Tryd.underlying24
  cases A with
  | none =>
    obtain rfl := hn rfl
    simp only [List.length_nil] at q ⊢
    clear h
    go_enter Tryd.func17, Tryd.ntmps17
    go_wp2
    go_ret
    exact ⟨_, _, rfl, RowN.nil _ _ _ _, (fun h => by simp at h), ⟨by simp, by simp [maxLen], fun _ => rfl⟩, Below.refl _ _⟩
  | some ad =>
    have hcell : ∀ j u, (rcells [.i64, .i64] l)[j]? = some u → w.cell? (ad.add j) = some u := RowN.newsP (by decide) h hw
    have hb1 : Below w.heap.size w (w.alloc (.cells #[] 55)) := (Below.refl _ _).alloc (Nat.le_refl _) _
    have hown := World.ownsRow_made (base := w.heap.size) (e := 55) (size := 2) w #[] 0 (Nat.le_refl _) (by unfold maxLen; omega) (by simp)
    have hcell1 : ∀ j u, (rcells [.i64, .i64] l)[j]? = some u → (w.alloc (.cells #[] 55)).cell? (ad.add j) = some u := fun j u hj =>
      (hb1.cell (by have := World.block_lt_of_cell? _ _ (hcell j u hj); exact this)).trans (hcell j u hj)
    have HO := Lib.hid (rcellsP_ones (ks := [.i64, .i64]) (l := l)); have HC := Lib.hid hcell1; have HW := Lib.hid hw
    have HL := Lib.hid (rcells_len hw)
    clear h hcell hcell1 hn hw
    go_enter Tryd.func17, Tryd.ntmps17
    go_wp2_with (at_builtin; refine wpList_append_own _ rfl _ _ 24 rfl w.heap.size 55 i0 (.agg #[.int .i64 0, .int .i64 0]) 2 16 Tryd.underlying24 hi hz0 hz1 hz2 rfl (by decide) _ _ _ rfl hown ad l.length c _ rfl HL.out HC.out HO.out (by unfold maxLen; omega) (by omega) (by simp) ?_)
    · intro v' w2 hown' hgrow _
      have hb2 : Below w.heap.size w w2 := hb1.grown hgrow hb1.size (fun k hk => by cases hk; exact Nat.le_refl _)
      have ho : OwnsOff w2 w.heap.size 55 ([.i64, .i64] : List IntKind).length v' l.length (rcells [.i64, .i64] l) := by have := OwnsOff.of_own hown'; simpa using this
      obtain ⟨A', c', rfl, hq1, hq2, hr, hq3, hb⟩ := ho.rowN HW.out
      have HR := Lib.hid hr; have HN := Lib.hid (show 0 < l.length → ∀ a, A' = some a → w.heap.size ≤ a.block from fun _ => hb); have HQ := Lib.hid (And.intro hq1 (And.intro hq2 hq3))
      clear ho hr hb hq1 hq2 hq3
      have HB := Lib.hid hb2
      clear hown' hgrow hb1 hown hb2
      go_wp2
      go_ret
      exact ⟨_, _, rfl, HR.out, HN.out, HQ.out, HB.out⟩
theorem Tryd.infoClC : (Tryd.prog.info? 35).map (fun i => (i.zero, i.size, i.bytes)) = some (some (.agg #[.int .i64 0, .int .i64 0, .int .i64 0, .int .i64 0, .int .i64 0, .int .i64 0, .int .u32 0]), 7, 56) := by kernel_rfl
theorem cloneC_b (A : Option Addr) (c : Nat) (l : List (List Int)) (w : World) (h : RowN [.i64, .i64, .i64, .i64, .i64, .i64, .u32] w w.heap.size A l) (hw : wfR [.i64, .i64, .i64, .i64, .i64, .i64, .u32] l) (hn : A = none → l = []) (hl : l.length ≤ 1000000) : Calls Tryd.prog 18 #[.slice A l.length c] w (GivesRowN [.i64, .i64, .i64, .i64, .i64, .i64, .u32] w l) := by
  obtain ⟨i0, hi, hz0, hz1, hz2⟩ := info_parts Tryd.infoClC
  have q := Lib.run_eql_slice_nil (P := Tryd.prog) w 25 35 A l.length c 0 0 Tryd.underlying25
  cases A with
  | none =>
    obtain rfl := hn rfl
    simp only [List.length_nil] at q ⊢
    clear h
    go_enter Tryd.func18, Tryd.ntmps18
    go_wp2
    go_ret
    exact ⟨_, _, rfl, RowN.nil _ _ _ _, (fun h => by simp at h), ⟨by simp, by simp [maxLen], fun _ => rfl⟩, Below.refl _ _⟩
  | some ad =>
    have hcell : ∀ j u, (rcells [.i64, .i64, .i64, .i64, .i64, .i64, .u32] l)[j]? = some u → w.cell? (ad.add j) = some u := RowN.newsP (by decide) h hw
    have hb1 : Below w.heap.size w (w.alloc (.cells #[] 35)) := (Below.refl _ _).alloc (Nat.le_refl _) _
    have hown := World.ownsRow_made (base := w.heap.size) (e := 35) (size := 7) w #[] 0 (Nat.le_refl _) (by unfold maxLen; omega) (by simp)
    have hcell1 : ∀ j u, (rcells [.i64, .i64, .i64, .i64, .i64, .i64, .u32] l)[j]? = some u → (w.alloc (.cells #[] 35)).cell? (ad.add j) = some u := fun j u hj =>
      (hb1.cell (by have := World.block_lt_of_cell? _ _ (hcell j u hj); exact this)).trans (hcell j u hj)
    have HO := Lib.hid (rcellsP_ones (ks := [.i64, .i64, .i64, .i64, .i64, .i64, .u32]) (l := l)); have HC := Lib.hid hcell1; have HW := Lib.hid hw
    have HL := Lib.hid (rcells_len hw)
    clear h hcell hcell1 hn hw
    go_enter Tryd.func18, Tryd.ntmps18
    go_wp2_with (at_builtin; refine wpList_append_own _ rfl _ _ 25 rfl w.heap.size 35 i0 (.agg #[.int .i64 0, .int .i64 0, .int .i64 0, .int .i64 0, .int .i64 0, .int .i64 0, .int .u32 0]) 7 56 Tryd.underlying25 hi hz0 hz1 hz2 rfl (by decide) _ _ _ rfl hown ad l.length c _ rfl HL.out HC.out HO.out (by unfold maxLen; omega) (by omega) (by simp) ?_)
    · intro v' w2 hown' hgrow _
      have hb2 : Below w.heap.size w w2 := hb1.grown hgrow hb1.size (fun k hk => by cases hk; exact Nat.le_refl _)
      have ho : OwnsOff w2 w.heap.size 35 ([.i64, .i64, .i64, .i64, .i64, .i64, .u32] : List IntKind).length v' l.length (rcells [.i64, .i64, .i64, .i64, .i64, .i64, .u32] l) := by have := OwnsOff.of_own hown'; simpa using this
      obtain ⟨A', c', rfl, hq1, hq2, hr, hq3, hb⟩ := ho.rowN HW.out
      have HR := Lib.hid hr; have HN := Lib.hid (show 0 < l.length → ∀ a, A' = some a → w.heap.size ≤ a.block from fun _ => hb); have HQ := Lib.hid (And.intro hq1 (And.intro hq2 hq3))
      clear ho hr hb hq1 hq2 hq3
      have HB := Lib.hid hb2
      clear hown' hgrow hb1 hown hb2
      go_wp2
      go_ret
      exact ⟨_, _, rfl, HR.out, HN.out, HQ.out, HB.out⟩
theorem Tryd.infoClW : (Tryd.prog.info? 57).map (fun i => (i.zero, i.size, i.bytes)) = some (some (.agg #[.int .i64 0, .int .i64 0, .int .i64 0]), 3, 24) := by kernel_rfl
theorem cloneW_b (A : Option Addr) (c : Nat) (l : List (List Int)) (w : World) (h : RowN [.i64, .i64, .i64] w w.heap.size A l) (hw : wfR [.i64, .i64, .i64] l) (hn : A = none → l = []) (hl : l.length ≤ 1000000) : Calls Tryd.prog 19 #[.slice A l.length c] w (GivesRowN [.i64, .i64, .i64] w l) := by
  obtain ⟨i0, hi, hz0, hz1, hz2⟩ := info_parts Tryd.infoClW
  have q := Lib.run_eql_slice_nil (P := Tryd.prog) w 26 57 A l.length c 0 0 Tryd.underlying26
  cases A with
  | none =>
    obtain rfl := hn rfl
    simp only [List.length_nil] at q ⊢
    clear h
    go_enter Tryd.func19, Tryd.ntmps19
    go_wp2
    go_ret
    exact ⟨_, _, rfl, RowN.nil _ _ _ _, (fun h => by simp at h), ⟨by simp, by simp [maxLen], fun _ => rfl⟩, Below.refl _ _⟩
  | some ad =>
    have hcell : ∀ j u, (rcells [.i64, .i64, .i64] l)[j]? = some u → w.cell? (ad.add j) = some u := RowN.newsP (by decide) h hw
    have hb1 : Below w.heap.size w (w.alloc (.cells #[] 57)) := (Below.refl _ _).alloc (Nat.le_refl _) _
    have hown := World.ownsRow_made (base := w.heap.size) (e := 57) (size := 3) w #[] 0 (Nat.le_refl _) (by unfold maxLen; omega) (by simp)
    have hcell1 : ∀ j u, (rcells [.i64, .i64, .i64] l)[j]? = some u → (w.alloc (.cells #[] 57)).cell? (ad.add j) = some u := fun j u hj =>
      (hb1.cell (by have := World.block_lt_of_cell? _ _ (hcell j u hj); exact this)).trans (hcell j u hj)
    have HO := Lib.hid (rcellsP_ones (ks := [.i64, .i64, .i64]) (l := l)); have HC := Lib.hid hcell1; have HW := Lib.hid hw
    have HL := Lib.hid (rcells_len hw)
    clear h hcell hcell1 hn hw
    go_enter Tryd.func19, Tryd.ntmps19
    go_wp2_with (at_builtin; refine wpList_append_own _ rfl _ _ 26 rfl w.heap.size 57 i0 (.agg #[.int .i64 0, .int .i64 0, .int .i64 0]) 3 24 Tryd.underlying26 hi hz0 hz1 hz2 rfl (by decide) _ _ _ rfl hown ad l.length c _ rfl HL.out HC.out HO.out (by unfold maxLen; omega) (by omega) (by simp) ?_)
    · intro v' w2 hown' hgrow _
      have hb2 : Below w.heap.size w w2 := hb1.grown hgrow hb1.size (fun k hk => by cases hk; exact Nat.le_refl _)
      have ho : OwnsOff w2 w.heap.size 57 ([.i64, .i64, .i64] : List IntKind).length v' l.length (rcells [.i64, .i64, .i64] l) := by have := OwnsOff.of_own hown'; simpa using this
      obtain ⟨A', c', rfl, hq1, hq2, hr, hq3, hb⟩ := ho.rowN HW.out
      have HR := Lib.hid hr; have HN := Lib.hid (show 0 < l.length → ∀ a, A' = some a → w.heap.size ≤ a.block from fun _ => hb); have HQ := Lib.hid (And.intro hq1 (And.intro hq2 hq3))
      clear ho hr hb hq1 hq2 hq3
      have HB := Lib.hid hb2
      clear hown' hgrow hb1 hown hb2
      go_wp2
      go_ret
      exact ⟨_, _, rfl, HR.out, HN.out, HQ.out, HB.out⟩
theorem Tryd.infoClU : (Tryd.prog.info? 33).map (fun i => (i.zero, i.size, i.bytes)) = some (some (.int .u32 0), 1, 4) := by kernel_rfl
theorem cloneU_b (A : Option Addr) (c : Nat) (l : List Int) (w : World) (h : IntRowK .u32 w w.heap.size A l) (hn : A = none → l = []) (hl : l.length ≤ 1000000) : Calls Tryd.prog 25 #[.slice A l.length c] w (GivesIntK .u32 w l) := by
  obtain ⟨i0, hi, hz0, hz1, hz2⟩ := info_parts Tryd.infoClU
  have q := Lib.run_eql_slice_nil (P := Tryd.prog) w 39 33 A l.length c 0 0 Tryd.underlying39
  cases A with
  | none =>
    obtain rfl := hn rfl
    simp only [List.length_nil] at q ⊢
    clear h
    go_enter Tryd.func25, Tryd.ntmps25
    go_wp2
    go_ret
    exact ⟨_, _, rfl, (fun h => by simp at h), (fun h => by simp at h), ⟨by simp, by simp [maxLen], fun _ => rfl⟩, Below.refl _ _⟩
  | some ad =>
    have hcell : ∀ j u, (l.map (Value.int .u32))[j]? = some u → w.cell? (ad.add j) = some u := (fun j u hj => by
      have hl : j < l.length := by have := (List.getElem?_eq_some_iff.1 hj).1; simpa using this
      obtain ⟨b, o', he, _, hc⟩ := h (by omega)
      cases he
      have hu : u = .int .u32 (l.getD j 0) := by simp [List.getD_eq_getElem?_getD, hl] at hj ⊢; exact hj.symm
      rw [Addr.add_lit, hu]
      exact hc j hl)
    have hb1 : Below w.heap.size w (w.alloc (.cells #[] 33)) := (Below.refl _ _).alloc (Nat.le_refl _) _
    have hown := World.ownsRow_made (base := w.heap.size) (e := 33) (size := 1) w #[] 0 (Nat.le_refl _) (by unfold maxLen; omega) (by simp)
    have hcell1 : ∀ j u, (l.map (Value.int .u32))[j]? = some u → (w.alloc (.cells #[] 33)).cell? (ad.add j) = some u := fun j u hj =>
      (hb1.cell (by have := World.block_lt_of_cell? _ _ (hcell j u hj); exact this)).trans (hcell j u hj)
    have HO := Lib.hid ((show ∀ u ∈ l.map (Value.int .u32), u.oneCell' = true from fun u hu => by obtain ⟨x, _, rfl⟩ := List.mem_map.1 hu; rfl)); have HC := Lib.hid hcell1
    have HL := Lib.hid ((show (l.map (Value.int .u32)).length = l.length * 1 by simp))
    clear h hcell hcell1 hn
    go_enter Tryd.func25, Tryd.ntmps25
    go_wp2_with (at_builtin; refine wpList_append_own _ rfl _ _ 39 rfl w.heap.size 33 i0 (.int .u32 0) 1 4 Tryd.underlying39 hi hz0 hz1 hz2 rfl (by decide) _ _ _ rfl hown ad l.length c _ rfl HL.out HC.out HO.out (by unfold maxLen; omega) (by omega) (by simp) ?_)
    · intro v' w2 hown' hgrow _
      have hb2 : Below w.heap.size w w2 := hb1.grown hgrow hb1.size (fun k hk => by cases hk; exact Nat.le_refl _)
      have ho : OwnsOff w2 w.heap.size 33 1 v' l.length (l.map (Value.int .u32)) := by have := OwnsOff.of_own hown'; simpa using this
      obtain ⟨A', c', rfl, hq1, hq2⟩ := ho.slice
      have HR : Hid (IntRowK .u32 w2 w2.heap.size A' l) := Lib.hid (fun hp => by
        obtain ⟨g, off, cap, hv, _, hg, _, _, _, hc⟩ := ho.lies hp
        cases hv
        exact ⟨g, off, rfl, hg, fun i hi => by have := hc i (.int .u32 (l.getD i 0)) (by simp [List.getD_eq_getElem?_getD, hi]); exact this⟩)
      have HN : Hid (0 < l.length → ∀ a, A' = some a → w.heap.size ≤ a.block) := Lib.hid (fun hp a ha => by have := (ho.lt a.block (by rw [ha]; rfl)).1; exact this)
      have HQ : Hid (l.length ≤ c' ∧ c' ≤ maxLen ∧ (A' = none → l = [])) := Lib.hid ⟨hq1, hq2, fun e => by
        rcases Nat.eq_zero_or_pos l.length with h0 | h0
        · exact List.eq_nil_of_length_eq_zero h0
        · obtain ⟨g, off, cap, hv, _⟩ := ho.lies h0
          rw [e] at hv; cases hv⟩
      clear ho hq1 hq2
      have HB := Lib.hid hb2
      clear hown' hgrow hb1 hown hb2
      go_wp2
      go_ret
      exact ⟨_, _, rfl, HR.out, HN.out, HQ.out, HB.out⟩
end Go.Proofs.YthcnooimegaloaaDoor
end
