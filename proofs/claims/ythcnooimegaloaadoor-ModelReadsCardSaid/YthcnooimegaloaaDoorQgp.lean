/- Texts of the ring, joined, what is used of them. No condition but those in the statements. -/
import Derived.BigQuiet
import Derived.BigRegion
import Derived.Deep.MidRow
import Derived.Deep.RegionHeld3
import Derived.Deep.Upon
import Derived.IntWalk
import Derived.Test.YthcnooimegaloaaDoorQgo
section
namespace Go.Proofs.YthcnooimegaloaaDoor
open Go.RowKit Go.Sort
set_option linter.unusedVariables false
set_option linter.unusedSimpArgs false
set_option linter.unusedVariables false
set_option linter.unusedSimpArgs false
set_option maxRecDepth 100000
/-- What a call makes of the model: M' ; only what is the model's to write has turned. -/
def Turn8 (w : World) (own : Nat → Tg8) (n0 : Nat) (c : Cfg) (M' : Md8) (A : Mx8) (w' : World) : Prop := ∃ own' A', A'.b = A.b ∧ A'.sg = A.sg ∧ A'.so = A.so ∧ MAt w' own' n0 c M' A' ∧ (∀ k, k < w.heap.size → own' k = own k) ∧ Only (fun k => (own k).mut) w w'
/-- Nothing has turned. -/
theorem MAt.still {w : World} {own : Nat → Tg8} {n0 : Nat} {c : Cfg} {M : Md8} {A : Mx8} (h : MAt w own n0 c M A) {w' : World} (hb : Below w.heap.size w w') : MAt w' own n0 c M A ∧ (∀ k, k < w.heap.size → own k = own k) :=
  ⟨MAt.later h (Only.of_below (S := fun _ => False) hb) (fun _ _ => rfl) (fun k hk => h.free k (Nat.le_trans hb.size hk)) h.base (fun k _ e => e.elim), fun _ _ => rfl⟩
theorem Turn8.tick {w : World} {own : Nat → Tg8} {n0 : Nat} {c : Cfg} {M : Md8} {A : Mx8} (h : MAt w own n0 c M A) {w' : World} (hb : Below w.heap.size w w') : Turn8 w own n0 c (tick8 M) A w' :=
  ⟨own, A, rfl, rfl, rfl, MAt.tick h (Only.of_below (S := fun _ => False) hb) (fun _ _ => rfl) (fun k hk => h.free k (Nat.le_trans hb.size hk)) h.base (fun k _ e => e.elim), fun _ _ => rfl, Only.of_below hb⟩
theorem Turn8.after {w w1 w' : World} {own : Nat → Tg8} {n0 : Nat} {c : Cfg} {M' : Md8} {A : Mx8} (hb : Below w.heap.size w w1) (h : Turn8 w1 own n0 c M' A w') : Turn8 w own n0 c M' A w' := by
  obtain ⟨own', A', e1, e2, e3, h1, h2, h3⟩ := h
  exact ⟨own', A', e1, e2, e3, h1, fun k hk => h2 k (Nat.lt_of_lt_of_le hk hb.size), (Only.of_below hb).trans h3⟩
theorem own_row8 {w : World} {base : Nat} {e : TypeId} {a : Option Addr} {n k : Nat} {l : List Int} (h : OwnsOff w base e 1 (.slice a n k) l.length (icells l)) : IntRowK .i64 w w.heap.size a l := fun hp => by
  obtain ⟨g, off, cap, hv, _, hg, _, _, _, hc⟩ := h.lies hp
  cases hv
  exact ⟨g, off, rfl, hg, fun i hi => hc i (.int .i64 (l.getD i 0)) (by simp [icells, List.getD_eq_getElem?_getD, hi])⟩
theorem setSt8_same {w : World} {own : Nat → Tg8} {n0 : Nat} {c : Cfg} {M : Md8} {A : Mx8} (h : MAt w own n0 c M A) {p : Nat} {s : Sv8} (hs : A.sl[p]? = some s) : setSt8 M p s.s = tick8 M := by
  have e : M.st[p]? = some s.s := by rw [← h.len.1, List.getElem?_map, hs]; rfl
  unfold setSt8 tick8
  congr 1
  apply List.ext_getElem?
  intro q
  rw [Int.toNat_natCast, List.getElem?_set]
  split
  · rename_i e1; subst e1
    have := (List.getElem?_eq_some_iff.1 e).1
    rw [if_pos this]; exact e.symm
  · rfl
/-- Behind an append to the list, and the store of what it gave. -/
theorem app_made {w : World} {own : Nat → Tg8} {n0 : Nat} {c : Cfg} {M : Md8} {A : Mx8} (h : MAt w own n0 c M A) {p : Nat} {s : Sv8} (hs : A.sl[p]? = some s) {w2 : World} {tmp : Obj} {v' : Value} {l : List Int} (hg : (w.alloc tmp).grownBy w2 s.mv.ownBlock) (hown : OwnsOff w2 n0 3 1 v' l.length (icells l)) (hfr : ∀ g, v'.ownBlock = some g → s.mv.ownBlock = some g ∨ w.heap.size + 1 ≤ g)
    (hz : l.length ≤ M.t + 1) : w2.cell? ⟨A.sg, A.so + p * 4 + 2, none⟩ = some s.mv ∧ w2.frozen? ⟨A.sg, A.so + p * 4 + 2, none⟩ = false ∧ Turn8 w own n0 c (setSt8 M p { s.s with made := l }) A (w2.setCell ⟨A.sg, A.so + p * 4 + 2, none⟩ v') := by
  obtain ⟨hst, hSt⟩ := h.stand (fun x => x)
  obtain ⟨hmo, hmt⟩ := h.made p s hs (fun x => x)
  obtain ⟨hoo, hot⟩ := h.valid p s hs (fun x => x)
  have hmem := List.mem_of_getElem? (show M.st[p]? = some s.s from by rw [← h.len.1, List.getElem?_map, hs]; rfl)
  have hb1 : Below w.heap.size w (w.alloc tmp) := (Below.refl _ _).alloc (Nat.le_refl _) _
  have hsl : A.sg < w.heap.size := mat_lt h hst (by decide)
  have n1 : ∀ k, s.mv.ownBlock = some k → k ≠ A.sg := fun k e e2 => by have := hmt k e; rw [e2, hst] at this; cases this
  have eb : w2.heap[A.sg]? = w.heap[A.sg]? := (hg.block _ (by simp; omega) (fun e => n1 _ e.symm rfl)).trans (hb1.block _ hsl)
  have hS2 := hSt.of eb
  refine ⟨hS2.cell hs (j := 2) rfl, hS2.frozen _, ?_⟩
  have hlt' : ∀ g, v'.ownBlock = some g → g < w2.heap.size := fun g e => (hown.lt g e).2
  have hO2 : Only (fun k => s.mv.ownBlock = some k) w w2 := (Only.of_below hb1).trans ((Only.of_grown hg).mono fun k _ e => e.symm)
  have hO : Only (fun k => s.mv.ownBlock = some k ∨ k = A.sg) w (w2.setCell ⟨A.sg, A.so + p * 4 + 2, none⟩ v') := (hO2.mono fun k _ e => .inl e).trans ((Only.setCell w2 ⟨A.sg, A.so + p * 4 + 2, none⟩ v').mono fun k _ e => .inr e)
  have hsz : (w2.setCell ⟨A.sg, A.so + p * 4 + 2, none⟩ v').heap.size = w2.heap.size := by simp [World.setCell]
  obtain ⟨own', hown'⟩ : ∃ o : Nat → Tg8, o = fun k => if w.heap.size ≤ k ∧ v'.ownBlock = some k then .made p else own k := ⟨_, rfl⟩
  have he : ∀ k, k < w.heap.size → own' k = own k := fun k hk => by rw [hown']; exact if_neg (by omega)
  have hf : ∀ k, (w2.setCell ⟨A.sg, A.so + p * 4 + 2, none⟩ v').heap.size ≤ k → own' k = .free := fun k hk => by
    rw [hown', hsz] at *
    have h1 := hO2.size
    show (if _ then _ else _) = _
    rw [if_neg (fun e => by have := hlt' k e.2; omega)]
    exact h.free k (by omega)
  have hbase : ∀ k, own' k ≠ .free → n0 ≤ k := fun k hk => by
    rcases Nat.lt_or_ge k w.heap.size with h1 | h1
    · rw [he k h1] at hk; exact h.base k hk
    · exact Nat.le_trans h.n0le h1
  have hnv : Tagged own' v' (.made p) := fun g e => by
    rcases hfr g e with h1 | h1
    · rw [he g (hmo.lt g h1).2]; exact hmt g h1
    · rw [hown']; exact if_pos ⟨by omega, e⟩
  have hvne : ∀ k, v'.ownBlock = some k → k ≠ A.sg := fun k e e2 => by have h1 := hnv k e; rw [e2, he _ hsl, hst] at h1; cases h1
  have hov : ∀ k, s.vv.ownBlock = some k → ¬ (s.mv.ownBlock = some k ∨ k = A.sg) := fun k e e2 => by
    rcases e2 with e2 | e2
    · have h1 := hot k e; rw [hmt k e2] at h1; cases h1
    · have h1 := hot k e; rw [e2, hst] at h1; cases h1
  refine ⟨own', { A with sl := A.sl.set p (⟨{ s.s with made := l }, v', s.vv⟩ : Sv8) }, rfl, rfl, rfl, MAt.fillSt h hO he hf hbase p s (⟨{ s.s with made := l }, v', s.vv⟩ : Sv8) hs (fun k hk e => ?_) (hS2.set hs (⟨{ s.s with made := l }, v', s.vv⟩ : Sv8) 2 (by omega) v' rfl) ⟨hown.kept (Only.setCell w2 ⟨A.sg, A.so + p * 4 + 2, none⟩ v') hvne, hnv⟩ ⟨hoo.kept hO hov, hot.at_ (fun k e => (hoo.lt k e).2) he⟩ ?_, he, hO.mono fun k _ e => ?_⟩
  · rcases e with e | e
    · exact .inr (.inr (.inl (hmt k e)))
    · exact .inr (.inl (by rw [e]; exact hst))
  · have := h.sz s.s hmem
    exact ⟨hz, Nat.le_succ_of_le this.2⟩
  · rcases e with e | e
    · show (own k).mut; rw [hmt k e]; trivial
    · show (own k).mut; rw [e, hst]; trivial
/-- Behind an append to the list, and the store of what it gave. -/
theorem app_valid {w : World} {own : Nat → Tg8} {n0 : Nat} {c : Cfg} {M : Md8} {A : Mx8} (h : MAt w own n0 c M A) {p : Nat} {s : Sv8} (hs : A.sl[p]? = some s) {w2 : World} {tmp : Obj} {v' : Value} {l : List Int} (hg : (w.alloc tmp).grownBy w2 s.vv.ownBlock) (hown : OwnsOff w2 n0 3 1 v' l.length (icells l)) (hfr : ∀ g, v'.ownBlock = some g → s.vv.ownBlock = some g ∨ w.heap.size + 1 ≤ g)
    (hz : l.length ≤ M.t + 1) : w2.cell? ⟨A.sg, A.so + p * 4 + 3, none⟩ = some s.vv ∧ w2.frozen? ⟨A.sg, A.so + p * 4 + 3, none⟩ = false ∧ Turn8 w own n0 c (setSt8 M p { s.s with valid := l }) A (w2.setCell ⟨A.sg, A.so + p * 4 + 3, none⟩ v') := by
  obtain ⟨hst, hSt⟩ := h.stand (fun x => x)
  obtain ⟨hmo, hmt⟩ := h.valid p s hs (fun x => x)
  obtain ⟨hoo, hot⟩ := h.made p s hs (fun x => x)
  have hmem := List.mem_of_getElem? (show M.st[p]? = some s.s from by rw [← h.len.1, List.getElem?_map, hs]; rfl)
  have hb1 : Below w.heap.size w (w.alloc tmp) := (Below.refl _ _).alloc (Nat.le_refl _) _
  have hsl : A.sg < w.heap.size := mat_lt h hst (by decide)
  have n1 : ∀ k, s.vv.ownBlock = some k → k ≠ A.sg := fun k e e2 => by have := hmt k e; rw [e2, hst] at this; cases this
  have eb : w2.heap[A.sg]? = w.heap[A.sg]? := (hg.block _ (by simp; omega) (fun e => n1 _ e.symm rfl)).trans (hb1.block _ hsl)
  have hS2 := hSt.of eb
  refine ⟨hS2.cell hs (j := 3) rfl, hS2.frozen _, ?_⟩
  have hlt' : ∀ g, v'.ownBlock = some g → g < w2.heap.size := fun g e => (hown.lt g e).2
  have hO2 : Only (fun k => s.vv.ownBlock = some k) w w2 := (Only.of_below hb1).trans ((Only.of_grown hg).mono fun k _ e => e.symm)
  have hO : Only (fun k => s.vv.ownBlock = some k ∨ k = A.sg) w (w2.setCell ⟨A.sg, A.so + p * 4 + 3, none⟩ v') := (hO2.mono fun k _ e => .inl e).trans ((Only.setCell w2 ⟨A.sg, A.so + p * 4 + 3, none⟩ v').mono fun k _ e => .inr e)
  have hsz : (w2.setCell ⟨A.sg, A.so + p * 4 + 3, none⟩ v').heap.size = w2.heap.size := by simp [World.setCell]
  obtain ⟨own', hown'⟩ : ∃ o : Nat → Tg8, o = fun k => if w.heap.size ≤ k ∧ v'.ownBlock = some k then .valid p else own k := ⟨_, rfl⟩
  have he : ∀ k, k < w.heap.size → own' k = own k := fun k hk => by rw [hown']; exact if_neg (by omega)
  have hf : ∀ k, (w2.setCell ⟨A.sg, A.so + p * 4 + 3, none⟩ v').heap.size ≤ k → own' k = .free := fun k hk => by
    rw [hown', hsz] at *
    have h1 := hO2.size
    show (if _ then _ else _) = _
    rw [if_neg (fun e => by have := hlt' k e.2; omega)]
    exact h.free k (by omega)
  have hbase : ∀ k, own' k ≠ .free → n0 ≤ k := fun k hk => by
    rcases Nat.lt_or_ge k w.heap.size with h1 | h1
    · rw [he k h1] at hk; exact h.base k hk
    · exact Nat.le_trans h.n0le h1
  have hnv : Tagged own' v' (.valid p) := fun g e => by
    rcases hfr g e with h1 | h1
    · rw [he g (hmo.lt g h1).2]; exact hmt g h1
    · rw [hown']; exact if_pos ⟨by omega, e⟩
  have hvne : ∀ k, v'.ownBlock = some k → k ≠ A.sg := fun k e e2 => by have h1 := hnv k e; rw [e2, he _ hsl, hst] at h1; cases h1
  have hov : ∀ k, s.mv.ownBlock = some k → ¬ (s.vv.ownBlock = some k ∨ k = A.sg) := fun k e e2 => by
    rcases e2 with e2 | e2
    · have h1 := hot k e; rw [hmt k e2] at h1; cases h1
    · have h1 := hot k e; rw [e2, hst] at h1; cases h1
  refine ⟨own', { A with sl := A.sl.set p (⟨{ s.s with valid := l }, s.mv, v'⟩ : Sv8) }, rfl, rfl, rfl, MAt.fillSt h hO he hf hbase p s (⟨{ s.s with valid := l }, s.mv, v'⟩ : Sv8) hs (fun k hk e => ?_) (hS2.set hs (⟨{ s.s with valid := l }, s.mv, v'⟩ : Sv8) 3 (by omega) v' rfl) ⟨hoo.kept hO hov, hot.at_ (fun k e => (hoo.lt k e).2) he⟩ ⟨hown.kept (Only.setCell w2 ⟨A.sg, A.so + p * 4 + 3, none⟩ v') hvne, hnv⟩ ?_, he, hO.mono fun k _ e => ?_⟩
  · rcases e with e | e
    · exact .inr (.inr (.inr (hmt k e)))
    · exact .inr (.inl (by rw [e]; exact hst))
  · have := h.sz s.s hmem
    exact ⟨Nat.le_succ_of_le this.1, hz⟩
  · rcases e with e | e
    · show (own k).mut; rw [hmt k e]; trivial
    · show (own k).mut; rw [e, hst]; trivial
/-- Behind an erasing of one of the valid ones, and the store of what it gave. -/
theorem del_valid {w : World} {own : Nat → Tg8} {n0 : Nat} {c : Cfg} {M : Md8} {A : Mx8} (h : MAt w own n0 c M A) {p : Nat} {s : Sv8} (hs : A.sl[p]? = some s) {w2 : World} {v' : Value} {l : List Int} (hO2 : Only (fun k => s.vv.ownBlock = some k) w w2) (hown : OwnsOff w2 n0 3 1 v' l.length (icells l)) (hfr : ∀ g, v'.ownBlock = some g → s.vv.ownBlock = some g) (hz : l.length ≤ s.s.valid.length) :
    w2.cell? ⟨A.sg, A.so + p * 4 + 3, none⟩ = some s.vv ∧ w2.frozen? ⟨A.sg, A.so + p * 4 + 3, none⟩ = false ∧ Turn8 w own n0 c (setSt8 M p { s.s with valid := l }) A (w2.setCell ⟨A.sg, A.so + p * 4 + 3, none⟩ v') := by
  obtain ⟨hst, hSt⟩ := h.stand (fun x => x)
  obtain ⟨hmo, hmt⟩ := h.valid p s hs (fun x => x)
  obtain ⟨hoo, hot⟩ := h.made p s hs (fun x => x)
  have hmem := List.mem_of_getElem? (show M.st[p]? = some s.s from by rw [← h.len.1, List.getElem?_map, hs]; rfl)
  have hsl : A.sg < w.heap.size := mat_lt h hst (by decide)
  have n1 : ∀ k, s.vv.ownBlock = some k → k ≠ A.sg := fun k e e2 => by have := hmt k e; rw [e2, hst] at this; cases this
  have hS2 := hSt.of (hO2.block _ hsl (fun e => n1 _ e rfl))
  refine ⟨hS2.cell hs (j := 3) rfl, hS2.frozen _, ?_⟩
  have hO : Only (fun k => s.vv.ownBlock = some k ∨ k = A.sg) w (w2.setCell ⟨A.sg, A.so + p * 4 + 3, none⟩ v') := (hO2.mono fun k _ e => .inl e).trans ((Only.setCell w2 ⟨A.sg, A.so + p * 4 + 3, none⟩ v').mono fun k _ e => .inr e)
  have hsz : (w2.setCell ⟨A.sg, A.so + p * 4 + 3, none⟩ v').heap.size = w2.heap.size := by simp [World.setCell]
  have hf : ∀ k, (w2.setCell ⟨A.sg, A.so + p * 4 + 3, none⟩ v').heap.size ≤ k → own k = .free := fun k hk => h.free k (by have := hO2.size; omega)
  have hov : ∀ k, s.mv.ownBlock = some k → ¬ (s.vv.ownBlock = some k ∨ k = A.sg) := fun k e e2 => by
    rcases e2 with e2 | e2
    · have h1 := hot k e; rw [hmt k e2] at h1; cases h1
    · have h1 := hot k e; rw [e2, hst] at h1; cases h1
  refine ⟨own, { A with sl := A.sl.set p (⟨{ s.s with valid := l }, s.mv, v'⟩ : Sv8) }, rfl, rfl, rfl, MAt.fillSt h hO (fun _ _ => rfl) hf h.base p s (⟨{ s.s with valid := l }, s.mv, v'⟩ : Sv8) hs (fun k hk e => ?_) (hS2.set hs (⟨{ s.s with valid := l }, s.mv, v'⟩ : Sv8) 3 (by omega) v' rfl) ⟨hoo.kept hO hov, hot⟩ ⟨hown.kept (Only.setCell w2 ⟨A.sg, A.so + p * 4 + 3, none⟩ v') (fun k e => n1 k (hfr k e)), fun g e => hmt g (hfr g e)⟩ ?_, fun _ _ => rfl, hO.mono fun k _ e => ?_⟩
  · rcases e with e | e
    · exact .inr (.inr (.inr (hmt k e)))
    · exact .inr (.inl (by rw [e]; exact hst))
  · have := h.sz s.s hmem
    exact ⟨Nat.le_succ_of_le this.1, by show l.length ≤ _; omega⟩
  · rcases e with e | e
    · show (own k).mut; rw [hmt k e]; trivial
    · show (own k).mut; rw [e, hst]; trivial
/-- Normal work begins. -/
theorem set_normal {w : World} {own : Nat → Tg8} {n0 : Nat} {c : Cfg} {M : Md8} {A : Mx8} (h : MAt w own n0 c M A) {p : Nat} {s : Sv8} (hs : A.sl[p]? = some s) : w.cell? ⟨A.sg, A.so + p * 4 + 1, none⟩ = some (.bool s.s.sn) ∧ w.frozen? ⟨A.sg, A.so + p * 4 + 1, none⟩ = false ∧ Turn8 w own n0 c (setSt8 M p { s.s with sn := true }) A (w.setCell ⟨A.sg, A.so + p * 4 + 1, none⟩ (.bool true)) := by
  obtain ⟨hst, hSt⟩ := h.stand (fun x => x)
  obtain ⟨hmo, hmt⟩ := h.valid p s hs (fun x => x)
  obtain ⟨hoo, hot⟩ := h.made p s hs (fun x => x)
  have hmem := List.mem_of_getElem? (show M.st[p]? = some s.s from by rw [← h.len.1, List.getElem?_map, hs]; rfl)
  refine ⟨hSt.cell hs (j := 1) rfl, hSt.frozen _, ?_⟩
  have hO : Only (fun k => k = A.sg) w (w.setCell ⟨A.sg, A.so + p * 4 + 1, none⟩ (.bool true)) := Only.setCell w ⟨A.sg, A.so + p * 4 + 1, none⟩ _
  have hsz : (w.setCell ⟨A.sg, A.so + p * 4 + 1, none⟩ (.bool true)).heap.size = w.heap.size := by simp [World.setCell]
  refine ⟨own, { A with sl := A.sl.set p (⟨{ s.s with sn := true }, s.mv, s.vv⟩ : Sv8) }, rfl, rfl, rfl, MAt.fillSt h hO (fun _ _ => rfl) (fun k hk => h.free k (by omega)) h.base p s (⟨{ s.s with sn := true }, s.mv, s.vv⟩ : Sv8) hs (fun k hk e => .inr (.inl (by rw [e]; exact hst))) (hSt.set hs (⟨{ s.s with sn := true }, s.mv, s.vv⟩ : Sv8) 1 (by omega) (.bool true) rfl)
    ⟨hoo.kept hO (fun k e e2 => by have h1 := hot k e; rw [e2, hst] at h1; cases h1), hot⟩ ⟨hmo.kept hO (fun k e e2 => by have h1 := hmt k e; rw [e2, hst] at h1; cases h1), hmt⟩ ?_, fun _ _ => rfl, hO.mono fun k _ e => ?_⟩
  · have := h.sz s.s hmem
    exact ⟨Nat.le_succ_of_le this.1, Nat.le_succ_of_le this.2⟩
  · show (own k).mut; rw [e, hst]; trivial
end Go.Proofs.YthcnooimegaloaaDoor
end
section
namespace Go.Proofs.YthcnooimegaloaaDoor
open Go.RowKit Go.Sort
set_option linter.unusedVariables false
set_option linter.unusedSimpArgs false
set_option linter.unusedVariables false
set_option linter.unusedSimpArgs false
set_option maxRecDepth 100000
theorem Tryd.infoI8 : (Tryd.prog.info? 3).map (fun i => (i.zero, i.size, i.bytes)) = some (some (.int .i64 0), 1, 8) := by kernel_rfl
theorem sidx_no (l : List Int) (A : Option Addr) (m : Nat) (v : Int) (w : World) (hr : IntRowK .i64 w w.heap.size A l) (hl : l.length ≤ 1000000) (hv : v ∉ l) : Calls Tryd.prog 46 #[.slice A l.length m, .int .i64 v] w fun e w' => e = .returned (.int .i64 (-1)) ∧ w = w' := by
  refine (sidx8_b l A m v w hr hl).mono ?_
  rintro e w' ⟨⟨r, rfl, ⟨rfl, _⟩ | ⟨i, rfl, _, h, _⟩⟩, rfl⟩
  · exact ⟨rfl, rfl⟩
  · exact absurd (List.mem_of_getElem? h) hv
theorem sidx_yes (l : List Int) (A : Option Addr) (m : Nat) (v : Int) (w : World) (hr : IntRowK .i64 w w.heap.size A l) (hl : l.length ≤ 1000000) (hv : v ∈ l) : Calls Tryd.prog 46 #[.slice A l.length m, .int .i64 v] w fun e w' => (∃ i : Nat, e = .returned (.int .i64 (i : Int)) ∧ i < l.length ∧ l.erase v = l.take i ++ l.drop (i + 1)) ∧ w = w' := by
  refine (sidx8_b l A m v w hr hl).mono ?_
  rintro e w' ⟨⟨r, rfl, ⟨rfl, h⟩ | ⟨i, rfl, h1, h2, h3⟩⟩, rfl⟩
  · exact absurd hv h
  · exact ⟨⟨i, rfl, h1, erase_at h2 h3⟩, rfl⟩
set_option maxHeartbeats 1600000 in
theorem see_b {w : World} {own : Nat → Tg8} {n0 : Nat} {c : Cfg} {M : Md8} {A : Mx8} (h : MAt w own n0 c M A) (p : Nat) (hp : p < c.parts.length) (port : Int) (v : Bool) (ht : M.t ≤ 100000) : Calls Tryd.prog 27 #[.pointer (some ⟨A.sg, A.so + p * 4, none⟩), .int .i64 port, .bool v] w fun e w' => e = .returned (.tuple #[]) ∧ Turn8 w own n0 c (setSt8 M p { st8 M p with valid := see8 (st8 M p).valid port v }) A w' := by
  obtain ⟨i0, hi, hz0, hz1, hz2⟩ := info_parts Tryd.infoI8
  obtain ⟨s, hs, est, hms⟩ := mat_at h hp
  rw [est]
  obtain ⟨hown, htag⟩ := h.valid p s hs (fun x => x)
  have hSt := (h.stand (fun x => x)).2
  have hsz := (h.sz s.s (List.mem_of_getElem? hms)).2
  obtain ⟨a, k, hvv, hck, hkm⟩ := hown.slice
  have c3 : w.cell? ⟨A.sg, A.so + p * 4 + 3, none⟩ = some s.vv := hSt.cell hs (j := 3) rfl
  have f3 : w.frozen? ⟨A.sg, A.so + p * 4 + 3, none⟩ = false := hSt.frozen _
  rw [hvv] at c3
  have hown' : OwnsOff w n0 3 1 (.slice a s.s.valid.length k) s.s.valid.length (icells s.s.valid) := by rw [← hvv]; exact hown
  have hrow := own_row8 hown'
  obtain ⟨l, hl⟩ : ∃ l, l = s.s.valid := ⟨_, rfl⟩
  have HO := Lib.hid hown'; have HVV := Lib.hid hvv; have H := Lib.hid h; have HS := Lib.hid hs; have HL := Lib.hid hl; have HSZ := Lib.hid hsz; have HN := Lib.hid h.n0le
  rw [← hl] at hrow c3
  have hll : l.length ≤ 100000 := by rw [hl]; omega
  clear hown hown' htag hSt hvv hsz hck hkm est hms hs h
  by_cases hm : port ∈ l
  · have HI := Lib.hid (sidx_yes l a k port w hrow (by omega) hm)
    cases v with
    | true =>
      have HX := Lib.hid (show { s.s with valid := see8 s.s.valid port true } = s.s from by
        unfold see8; rw [← HL.out, if_pos rfl, if_pos hm, HL.out])
      clear hm hl hrow f3
      go_enter Tryd.func27, Tryd.ntmps27
      go_wp2_with fail
      refine HI.out.mono ?_
      rintro e w5 ⟨⟨i, rfl, hil, -⟩, rfl⟩
      clear HI
      go_wp2
      go_end0
      exact ⟨rfl, by rw [HX.out, setSt8_same H.out HS.out]; exact Turn8.tick H.out (Below.refl _ _)⟩
    | false =>
      have HX := Lib.hid (show see8 s.s.valid port false = l.erase port from by
        unfold see8; rw [← HL.out]; rfl)
      have HM := Lib.hid hm
      clear hm hl hrow
      go_enter Tryd.func27, Tryd.ntmps27
      go_wp2_with fail
      refine HI.out.mono ?_
      rintro e w5 ⟨⟨i, rfl, hil, her⟩, rfl⟩
      have HD := Lib.hid (del8_b n0 (.slice a l.length k) l i w (by have := HO.out; rw [← HL.out] at this; exact this) hil)
      have HER := Lib.hid her
      clear HI her
      go_wp2_with fail
      refine HD.out.mono ?_
      rintro e w6 ⟨a', k', e1, rfl, hown6, hO6⟩
      obtain ⟨rfl, rfl⟩ : a = a' ∧ k = k' := by injection e1 with e1 _ e2; exact ⟨e1, e2⟩
      have hlen : (l.erase port).length = l.length - 1 := by rw [List.length_erase_of_mem HM.out]
      obtain ⟨d3, g3, hT⟩ := del_valid H.out HS.out (w2 := w6) (v' := .slice a (l.length - 1) k) (l := l.erase port) (by rw [HVV.out, ← HL.out]; exact hO6) (by rw [hlen, HER.out]; exact hown6) (fun g e => by rw [HVV.out]; cases a <;> first | exact e | cases e) (by rw [← HL.out, hlen]; omega)
      rw [HVV.out, ← HL.out] at d3
      have HT := Lib.hid hT
      clear hT hown6 hO6 e1 HD c3 f3 hlen
      go_wp2
      go_end0
      exact ⟨rfl, by rw [HX.out]; exact HT.out⟩
  · have HI := Lib.hid (sidx_no l a k port w hrow (by omega) hm)
    cases v with
    | false =>
      have HX := Lib.hid (show { s.s with valid := see8 s.s.valid port false } = s.s from by
        unfold see8; rw [← HL.out, if_neg (by simp), List.erase_of_not_mem hm, HL.out])
      clear hm hl hrow f3
      go_enter Tryd.func27, Tryd.ntmps27
      go_wp2_with (go_at_call 46; ((with_reducible refine HI.out.mono ?_); rintro e w5 ⟨rfl, rfl⟩))
      go_end0
      exact ⟨rfl, by rw [HX.out, setSt8_same H.out HS.out]; exact Turn8.tick H.out (Below.refl _ _)⟩
    | true =>
      have HX := Lib.hid (show see8 s.s.valid port true = l ++ [port] from by
        unfold see8; rw [← HL.out, if_pos rfl, if_neg hm])
      have hO : OwnsOff w n0 3 1 (.slice a l.length k) l.length (icells l) := by have := HO.out; rw [← HL.out] at this; exact this
      have hn0 : n0 ≤ (w.alloc (.cells #[.int .i64 port] 3)).heap.size := by have := HN.out; simp; omega
      clear hm hl hrow
      go_enter Tryd.func27, Tryd.ntmps27
      go_wp2_with (first | (go_at_call 46; ((with_reducible refine HI.out.mono ?_); rintro e w5 ⟨rfl, rfl⟩)) | (at_builtin; refine wpList_append_off _ rfl _ _ 66 rfl n0 3 i0 (.int .i64 0) 1 8 Tryd.underlying66 hi hz0 hz1 hz2 rfl (by decide) _ _ _ rfl (hO.keptB ((Below.refl _ _).alloc (Nat.le_refl _) _)) ⟨w.heap.size, 0, none⟩ 1 1 [.int .i64 port] rfl rfl (cell_one_new _ _ _) (by simp [Value.oneCell']) (by unfold maxLen; omega) (by omega) hn0 ?_))
      intro v' w2 hown2 hgrow hfr
      obtain ⟨a2, k2, rfl, -, -⟩ := hown2.slice
      obtain ⟨d3, g3, hT⟩ := app_valid H.out HS.out (w2 := w2) (tmp := .cells #[.int .i64 port] 3) (v' := .slice a2 (l.length + 1) k2) (l := l ++ [port]) (by rw [HVV.out, ← HL.out]; exact hgrow) (by have := hown2; simpa [icells] using this) (fun g e => by rw [HVV.out, ← HL.out]; exact (hfr g e).imp id (fun h => by simpa using h)) (by rw [List.length_append]; have := HSZ.out; rw [← HL.out] at this; simp; omega)
      rw [HVV.out, ← HL.out] at d3
      have HT := Lib.hid hT
      clear hT hown2 hgrow hfr HI c3 f3 hO
      go_wp2
      go_end0
      exact ⟨rfl, by rw [HX.out]; exact HT.out⟩
end Go.Proofs.YthcnooimegaloaaDoor
end
