/- Texts of the ring, joined, what is used of them. No condition but those in the statements. -/
import Derived.RangeFuncWrites
import Derived.Test.YtfdgokkngejbhaaGreatQKit
namespace Go.Proofs.YtfdgokkngejbhaaGreat
open Go.RowKit
set_option linter.unusedVariables false
set_option linter.unusedSimpArgs false
/-- What such an iterator does for a loop that goes on: it tells values x with G pre x (of the world at the telling), to its end. -/
def Tells {α : Type} (F : Fence) (n : Nat) (P : Program) (g : Nat) (lb : Array Value) (encs : α → Array Value) (Kp : World → World → Prop) (G : List α → α → World → Prop) (S : List α → Prop) (N : Nat) (w : World) : Prop :=
  ∀ (lp : Nat) (J : List α → World → Prop) (X : World), Below w.heap.size w X → AbidesFrom X.heap.size J →
    (∀ pre x Y, J pre Y → G pre x Y → pre.length < N → YieldAt F (n - 1) P lp (encs x) Y fun e Z => e = .returned (.bool true) ∧ J (pre ++ [x]) Z ∧ Kp Y Z) →
    J [] X → CallsIn F n P g (#[.func (.yield lp) #[] #[]] ++ lb) X fun e Z => (∃ v, e = .returned v) ∧ ∃ xs, S xs ∧ J xs Z
/-- The loop's two blocks: its record r at L, the rounds' deferred calls at D. -/
structure UnderT (D L : Nat) (r : Loop) (X : World) : Prop where
  record : X.heap[L]? = some (.loop r)
  sink : X.heap[D]? = some (.deferred (some []))
section
variable {D L : Nat} {r : Loop} {X Y : World}
theorem UnderT.grown (h : UnderT D L r X) {k : Option Nat} (hg : X.grownBy Y k) (hr : ∀ j, k = some j → ∃ o : Obj, X.heap[j]? = some o ∧ o.isWalk = true) : UnderT D L r Y :=
  ⟨(grownBy_keeps hg hr h.record rfl).trans h.record, (grownBy_keeps hg hr h.sink rfl).trans h.sink⟩
theorem UnderT.from (h : UnderT D L r X) {B : Nat} (hk : KeepsFrom B X Y) (hL : B ≤ L) (hD : B ≤ D) : UnderT D L r Y := ⟨hk.same _ _ hL h.record rfl, hk.same _ _ hD h.sink rfl⟩
theorem UnderT.put (h : UnderT D L r X) (s : Loop) (hne : D ≠ L) : UnderT D L s (X.putObj L (.loop s)) :=
  ⟨World.putObj_heap_same (Array.getElem?_eq_some_iff.1 h.record).1, (World.putObj_heap_other hne).trans h.sink⟩
end
theorem walk_rowT {B B' : Nat} (hB : B ≤ B') {X : World} {k : Option Nat} (hr : ∀ j, k = some j → B' ≤ j ∧ ∃ o : Obj, X.heap[j]? = some o ∧ o.isWalk = true) : ∀ j, k = some j → B ≤ j ∧ ∃ o : Obj, X.heap[j]? = some o ∧ o.isCells = false := fun j e => by
  obtain ⟨h1, o, ho, hw⟩ := hr j e
  exact ⟨by omega, o, ho, Obj.not_cells_of_walk hw⟩
section
variable {F : Fence} {n : Nat} {P : Program} {α : Type}
/-- A round that goes on. -/
def goesOn (B : Nat) (Kp : World → World → Prop) (I : List α → World → Prop) (xs : List α) (Y : World) : Exit → Act → World → Prop
  | .normal, _, Z => KeepsFrom B Y Z ∧ Kp Y Z ∧ I xs Z
  | _, _, _ => False
theorem roundT_ends {B D L : Nat} (hD : B ≤ D) (hL : B ≤ L) (hDL : D ≠ L) {mk : LoopState → Option Code → Loop} (hmk : ∀ st pe, ({ mk .ready none with state := st, pending := pe } : Loop) = mk st pe) {Kp : World → World → Prop} {I : List α → World → Prop}
    (hI : OwnFrom B I) (hKt : ∀ {A B C : World}, Kp A B → Kp B C → Kp A C) (hKb : ∀ (X : World) (l : Nat) (o o' : Obj), B ≤ l → X.heap[l]? = some o → o.isCells = false → o.isWalk = false → Kp X (X.putObj l o'))
    {xs : List α} {X Y : World} (hXY : Kp X Y) (hU : UnderT D L (mk .busy none) Y) : ∀ (e : Exit) (a : Act) (Z : World), goesOn B Kp I xs Y e a Z →
      roundPost P L (fun e Z => e = .returned (.bool true) ∧ (I xs Z ∧ UnderT D L (mk .ready none) Z) ∧ Kp X Z) e a Z := by
  intro e a Z hp
  match e, hp with
  | .normal, ⟨hk, hkp, hi⟩ =>
    have hU2 := hU.from hk hL hD
    have hrun := run_endRound (P := P) none hU2.record
    rw [show ({ mk .busy none with state := if (none : Option Code).isNone then .ready else .done, pending := none } : Loop) = mk .ready none by rw [← hmk .busy none, ← hmk .ready none]; rfl] at hrun
    exact ⟨_, _, hrun, rfl, ⟨hI.putObj _ hi hL hU2.record rfl, hU2.put _ hDL⟩, hKt (hKt hXY hkp) (hKb _ _ _ _ hL hU2.record rfl rfl)⟩
  | .ret, hp => exact hp.elim
  | .exit id, hp => exact hp.elim
  | .goto t, hp => exact hp.elim
  | .panic _, hp => exact hp.elim
  | .outgrown, hp => exact hp.elim
/-- THE LAW: the statement 'for x := range g' whose body goes on: done at the iterator's end. -/
theorem wpIn_rangeFunc_tells {g : Operand} {ps : Array Tmp} {assign body : Code} {Q : Exit → Act → World → Prop} {a : Act} {w : World} (hro : F.round = none) (h1 : 1 ≤ n)
    {gf : Nat} {lb : Array Value} (hg : a.eval g = .func (.func gf) #[] lb) (hFg : F.fn gf) (eg : ∀ args w, (callFunc gf args).run P w = .ok (.enter gf args) w)
    {encs : α → Array Value} {Kp : World → World → Prop} {G : List α → α → World → Prop} {S : List α → Prop} {N : Nat} {w0 : World} (hseq : Tells F (n - 1) P gf lb encs Kp G S N w0)
    (hKt : ∀ {A B C : World}, Kp A B → Kp B C → Kp A C) (hKb : ∀ (X : World) (l : Nat) (o o' : Obj), w.heap.size ≤ l → X.heap[l]? = some o → o.isCells = false → o.isWalk = false → Kp X (X.putObj l o')) (hb0 : Below w0.heap.size w0 w) (hps : ∀ x, (encs x).size = ps.size)
    (I : List α → World → Prop) (hI : OwnFrom w.heap.size I) (hG : ∀ pre, OwnFrom w.heap.size (G pre)) (h0 : I [] w) (a₁ : α → Act)
    (hassign : ∀ (lp : Nat) (x : α) (X : World) (K : Act → World → Prop), K (a₁ x) X →
      assign.wpIn (F.inRound lp) (n - 1 - 1) P (Exit.then K (fun _ _ _ => False)) { tmps := (ps.zip (encs x)).foldl (fun t (p, v) => t.setIfInBounds p v) a.tmps, defers := [] } X)
    (hbody : ∀ (lp : Nat) (pre : List α) (x : α) (X : World), I pre X → G pre x X → pre.length < N → body.wpIn (F.inRound lp) (n - 1 - 1) P (goesOn w.heap.size Kp I (pre ++ [x]) X) (a₁ x) X)
    (hdone : ∀ (D : Nat) (xs : List α) (X : World), w.heap.size ≤ D → S xs → I xs X → X.heap[D]? = some (.deferred (some [])) → Q .normal { a with defers := { target := .collected D, args := #[] } :: a.defers } X) :
    (Code.rangeFunc g ps assign body).wpIn F n P Q a w := by
  refine wpIn_rangeFunc fun fn hfn => ?_
  rw [hro]
  obtain ⟨mk, hmk⟩ : ∃ mk : LoopState → Option Code → Loop, mk = fun st pe => { state := st, pending := pe, fn, tmps := a.tmps, params := ps, assign, body, defers := w.heap.size } := ⟨_, rfl⟩
  obtain ⟨V, hV⟩ : ∃ V, (w.alloc (.deferred (some []))).alloc (.loop (mk .ready none)) = V := ⟨_, rfl⟩
  have hU : UnderT w.heap.size (w.heap.size + 1) (mk .ready none) V := by
    rw [← hV]
    refine ⟨?_, (Below.heap_alloc _ _ _ (by simp)).trans (World.alloc_heap_new w _)⟩
    have := World.alloc_heap_new (w.alloc (.deferred (some []))) (.loop (mk .ready none))
    rwa [World.size_alloc] at this
  have hbV : Below w.heap.size w V := by rw [← hV]; exact ((Below.refl _ w).alloc (Nat.le_refl _) _).alloc (by simp) _
  have hIV : I [] V := by rw [← hV]; exact hI.alloc _ (hI.alloc _ h0)
  have hVs := hbV.size
  refine ⟨w.heap.size + 1, [{ target := .collected w.heap.size, args := #[] }], V, { target := .fn (.func gf) lb, args := #[.func (.yield (w.heap.size + 1)) #[] #[]] }, V, gf, #[.func (.yield (w.heap.size + 1)) #[] #[]] ++ lb, V, ?_, ?_, ?_, ?_, fun _ => h1, ?_⟩
  · rw [← hV, hmk]; exact run_enterLoop_outer _ _ _ _ _
  · simp only [resolve, hg]; simp [go_sem]
  · intro f' hf'; simp [Target.leads] at hf'; subst hf'; exact hFg
  · simp [invoke, go_sem, eg]
  refine (hseq (w.heap.size + 1) (fun pre X => I pre X ∧ UnderT w.heap.size (w.heap.size + 1) (mk .ready none) X) V (hb0.trans (hbV.mono hb0.size))
    (fun s X Y k hs hg' hr => ⟨hI s X Y k hs.1 hg' (walk_rowT hVs hr), hs.2.grown hg' (fun j e => (hr j e).2)⟩) ?_ ⟨hIV, hU⟩).mono ?_
  · rintro pre x X ⟨hi, hu⟩ hGx hlt
    have hy := run_yield (P := P) (args := encs x) hu.record (by rw [hmk]; exact hps x)
    have hbeg : (Instr.beginRound (w.heap.size + 1)).run P X = .ok () (X.putObj (w.heap.size + 1) (.loop (mk .busy none))) := by
      have := run_beginRound (P := P) hu.record (by rw [hmk])
      rw [hmk] at this ⊢
      exact this
    have hu2 := hu.put (mk .busy none) (by omega)
    have hk2 : Kp X (X.putObj (w.heap.size + 1) (.loop (mk .busy none))) := hKb _ _ _ _ (by omega) hu.record rfl rfl
    have hround := roundT_ends (P := P) (Kp := Kp) (I := I) (X := X) (xs := pre ++ [x]) (Nat.le_refl w.heap.size) (by omega) (by omega) (mk := mk) (fun st pe => by rw [hmk]) hI (fun h k => hKt h k) hKb hk2 hu2
    have hb := wpIn_mono (hbody (w.heap.size + 1) pre x _ (hI.putObj _ hi (by omega) hu.record rfl) ((hG pre).putObj _ hGx (by omega) hu.record rfl) hlt) hround
    rw [hmk] at hy
    exact ⟨fn, _, assign, body, hy, roundIn_of_wpIn hfn (hassign _ x X _ ⟨_, hbeg, hb⟩)⟩
  · rintro e Z ⟨⟨v, rfl⟩, xs, hS, hi, hu⟩
    have hend := run_endLoop (P := P) hu.record (by rw [hmk]; simp)
    have hp : (mk .ready none).pending = none := by rw [hmk]
    rw [hp] at hend
    exact ⟨none, _, hend, hdone _ xs _ (Nat.le_refl _) hS (hI.putObj _ hi (by omega) hu.record rfl) ((World.putObj_heap_other (by omega)).trans hu.sink)⟩
end
end Go.Proofs.YtfdgokkngejbhaaGreat
