/- A loop over an iterator that has no end of its own, which the loop leaves by itself. Over any program. No condition but those in the statements. -/
import Derived.Test.YtfnpdoppdbhlcaaKit
import Derived.RangeFuncWrites
namespace Go.Proofs.Ytfnpdoppdbhlcaa
open Go.RowKit
set_option linter.unusedVariables false
set_option linter.unusedSimpArgs false

/-- What such an iterator does for a loop that goes on fewer than N times: it is left by the loop, when a part of its ticks has come. -/
def Ever {α : Type} (F : Fence) (n : Nat) (P : Program) (g : Nat) (lb : Array Value) (encs : α → Array Value) (Kp : World → World → Prop) (Sp : List α → Prop) (N : Nat) (w : World) : Prop :=
  ∀ (lp : Nat) (J Jx : List α → World → Prop) (X : World), Below w.heap.size w X → AbidesFrom X.heap.size J → AbidesFrom X.heap.size Jx → (∀ pre Y, J pre Y → pre.length < N) →
    (∀ pre x Y, J pre Y → YieldAt F (n - 1) P lp (encs x) Y fun e Z => (e = .returned (.bool true) ∧ J (pre ++ [x]) Z ∧ Kp Y Z) ∨ (e = .returned (.bool false) ∧ Jx (pre ++ [x]) Z)) →
    J [] X → CallsIn F n P g (#[.func (.yield lp) #[] #[]] ++ lb) X fun e Z => (∃ v, e = .returned v) ∧ ∃ pre, Sp pre ∧ Jx pre Z

/-- The loop's two blocks: its record r at L, the rounds' deferred calls at D. -/
structure Under (D L : Nat) (r : Loop) (X : World) : Prop where
  record : X.heap[L]? = some (.loop r)
  sink : X.heap[D]? = some (.deferred (some []))
section
variable {D L : Nat} {r : Loop} {X Y : World}
theorem Under.grown (h : Under D L r X) {k : Option Nat} (hg : X.grownBy Y k) (hr : ∀ j, k = some j → ∃ o : Obj, X.heap[j]? = some o ∧ o.isWalk = true) : Under D L r Y :=
  ⟨(grownBy_keeps hg hr h.record rfl).trans h.record, (grownBy_keeps hg hr h.sink rfl).trans h.sink⟩
theorem Under.from (h : Under D L r X) {B : Nat} (hk : KeepsFrom B X Y) (hL : B ≤ L) (hD : B ≤ D) : Under D L r Y := ⟨hk.same _ _ hL h.record rfl, hk.same _ _ hD h.sink rfl⟩
theorem Under.put (h : Under D L r X) (s : Loop) (hne : D ≠ L) : Under D L s (X.putObj L (.loop s)) :=
  ⟨World.putObj_heap_same (Array.getElem?_eq_some_iff.1 h.record).1, (World.putObj_heap_other hne).trans h.sink⟩
end
theorem walk_row {B B' : Nat} (hB : B ≤ B') {X : World} {k : Option Nat} (hr : ∀ j, k = some j → B' ≤ j ∧ ∃ o : Obj, X.heap[j]? = some o ∧ o.isWalk = true) : ∀ j, k = some j → B ≤ j ∧ ∃ o : Obj, X.heap[j]? = some o ∧ o.isCells = false := fun j e => by
  obtain ⟨h1, o, ho, hw⟩ := hr j e
  exact ⟨by omega, o, ho, Obj.not_cells_of_walk hw⟩

section
variable {F : Fence} {n : Nat} {P : Program} {α : Type}
/-- How a round ends: the record says 'ready' or 'done', yield answers true or false. -/
theorem round_ends {B D L : Nat} (hD : B ≤ D) (hL : B ≤ L) (hDL : D ≠ L) {mk : LoopState → Option Code → Loop} (hmk : ∀ st pe, ({ mk .ready none with state := st, pending := pe } : Loop) = mk st pe) {Kp : World → World → Prop} {I : List α → World → Prop} {Ix : Code → List α → World → Prop}
    (hI : OwnFrom B I) (hIx : ∀ c, OwnFrom B (Ix c)) (hKt : ∀ {A B C : World}, Kp A B → Kp B C → Kp A C) (hKb : ∀ (X : World) (l : Nat) (o o' : Obj), B ≤ l → X.heap[l]? = some o → o.isCells = false → o.isWalk = false → Kp X (X.putObj l o'))
    {xs : List α} {X Y : World} (hXY : Kp X Y) (hU : Under D L (mk .busy none) Y) : ∀ (e : Exit) (a : Act) (Z : World), ownPostG B Kp I Ix xs Y e a Z →
      roundPost P L (fun e Z => (e = .returned (.bool true) ∧ (I xs Z ∧ Under D L (mk .ready none) Z) ∧ Kp X Z) ∨ (e = .returned (.bool false) ∧ ∃ c, Ix c xs Z ∧ Under D L (mk .done (some c)) Z)) e a Z := by
  have fin : ∀ (jump : Option Code) (Z : World), KeepsFrom B Y Z → Under D L (mk .busy none) Z ∧ (Instr.endRound L jump).run P Z = .ok (.bool jump.isNone) (Z.putObj L (.loop (mk (if jump.isNone then .ready else .done) jump))) := fun jump Z hk => by
    have hU2 := hU.from hk hL hD
    refine ⟨hU2, ?_⟩
    have := run_endRound (P := P) jump hU2.record
    rw [show ({ mk .busy none with state := if jump.isNone then .ready else .done, pending := jump } : Loop) = mk (if jump.isNone then .ready else .done) jump by rw [← hmk .busy none, ← hmk (if jump.isNone then .ready else .done) jump]] at this
    exact this
  have out : ∀ (c : Code) (Z : World), KeepsFrom B Y Z → Ix c xs Z → ∃ v Z', (Instr.endRound L (some c)).run P Z = .ok v Z' ∧ ((Ending.returned v = .returned (.bool true) ∧ (I xs Z' ∧ Under D L (mk .ready none) Z') ∧ Kp X Z') ∨ (Ending.returned v = .returned (.bool false) ∧ ∃ c, Ix c xs Z' ∧ Under D L (mk .done (some c)) Z')) := fun c Z hk hx => by
    obtain ⟨hU2, hrun⟩ := fin (some c) Z hk
    exact ⟨_, _, hrun, .inr ⟨rfl, c, (hIx c).putObj _ hx hL hU2.record rfl, hU2.put _ hDL⟩⟩
  intro e a Z hp
  match e, hp with
  | .normal, ⟨hk, hkp, hi⟩ =>
    obtain ⟨hU2, hrun⟩ := fin none Z hk
    exact ⟨_, _, hrun, .inl ⟨rfl, ⟨hI.putObj _ hi hL hU2.record rfl, hU2.put _ hDL⟩, hKt (hKt hXY hkp) (hKb _ _ _ _ hL hU2.record rfl rfl)⟩⟩
  | .ret, ⟨hk, hx⟩ => exact out .ret Z hk hx
  | .exit id, ⟨hk, hx⟩ => exact out (.exit id) Z hk hx
  | .goto t, ⟨hk, hx⟩ => exact out (.goto t) Z hk hx
  | .panic _, hp => exact hp.elim
  | .outgrown, hp => exact hp.elim

/-- THE LAW: the statement 'for x := range g', g without an end: the loop leaves it. -/
theorem wpIn_rangeFunc_ever {g : Operand} {ps : Array Tmp} {assign body : Code} {Q : Exit → Act → World → Prop} {a : Act} {w : World} (hro : F.round = none) (h1 : 1 ≤ n)
    {gf : Nat} {lb : Array Value} (hg : a.eval g = .func (.func gf) #[] lb) (hFg : F.fn gf) (eg : ∀ args w, (callFunc gf args).run P w = .ok (.enter gf args) w)
    {encs : α → Array Value} {Kp : World → World → Prop} {Sp : List α → Prop} {N : Nat} {w0 : World} (hseq : Ever F (n - 1) P gf lb encs Kp Sp N w0)
    (hKt : ∀ {A B C : World}, Kp A B → Kp B C → Kp A C) (hKb : ∀ (X : World) (l : Nat) (o o' : Obj), w.heap.size ≤ l → X.heap[l]? = some o → o.isCells = false → o.isWalk = false → Kp X (X.putObj l o')) (hb0 : Below w0.heap.size w0 w) (hps : ∀ x, (encs x).size = ps.size)
    (I : List α → World → Prop) (Ix : Code → List α → World → Prop) (hN : ∀ pre X, I pre X → pre.length < N) (hI : OwnFrom w.heap.size I) (hIx : ∀ c, OwnFrom w.heap.size (Ix c)) (h0 : I [] w) (a₁ : α → Act)
    (hassign : ∀ (lp : Nat) (x : α) (X : World) (K : Act → World → Prop), K (a₁ x) X →
      assign.wpIn (F.inRound lp) (n - 1 - 1) P (Exit.then K (fun _ _ _ => False)) { tmps := (ps.zip (encs x)).foldl (fun t (p, v) => t.setIfInBounds p v) a.tmps, defers := [] } X)
    (hbody : ∀ (lp : Nat) (pre : List α) (x : α) (X : World), I pre X → body.wpIn (F.inRound lp) (n - 1 - 1) P (ownPostG w.heap.size Kp I Ix (pre ++ [x]) X) (a₁ x) X)
    (hstop : ∀ (D : Nat) (c : Code) (pre : List α) (X : World), w.heap.size ≤ D → Sp pre → Ix c pre X → X.heap[D]? = some (.deferred (some [])) → c.wpIn F n P Q { a with defers := { target := .collected D, args := #[] } :: a.defers } X) :
    (Code.rangeFunc g ps assign body).wpIn F n P Q a w := by
  refine wpIn_rangeFunc fun fn hfn => ?_
  rw [hro]
  obtain ⟨mk, hmk⟩ : ∃ mk : LoopState → Option Code → Loop, mk = fun st pe => { state := st, pending := pe, fn, tmps := a.tmps, params := ps, assign, body, defers := w.heap.size } := ⟨_, rfl⟩
  obtain ⟨V, hV⟩ : ∃ V, (w.alloc (.deferred (some []))).alloc (.loop (mk .ready none)) = V := ⟨_, rfl⟩
  have hU : Under w.heap.size (w.heap.size + 1) (mk .ready none) V := by
    rw [← hV]
    refine ⟨?_, (Below.heap_alloc _ _ _ (by simp)).trans (World.alloc_heap_new w _)⟩
    have := World.alloc_heap_new (w.alloc (.deferred (some []))) (.loop (mk .ready none))
    rwa [World.size_alloc] at this
  have hbV : Below w.heap.size w V := by rw [← hV]; exact ((Below.refl _ w).alloc (Nat.le_refl _) _).alloc (by simp) _
  have hIV : I [] V := by rw [← hV]; exact hI.alloc _ (hI.alloc _ h0)
  have hVs := hbV.size
  refine ⟨w.heap.size + 1, [{ target := .collected w.heap.size, args := #[] }], V, { target := .fn (.func gf) lb, args := #[.func (.yield (w.heap.size + 1)) #[] #[]] }, V, gf, #[.func (.yield (w.heap.size + 1)) #[] #[]] ++ lb, V, ?_, ?_, ?_, ?_, fun _ => h1, ?_⟩
  · rw [← hV, hmk]; exact run_enterLoop_outer _ _ _ _ _
  · simp only [resolve, hg]; simp [go_sem]
  · intro f' hf'; simp [Target.leads] at hf'; subst hf'; exact hFg
  · simp [invoke, go_sem, eg]
  refine (hseq (w.heap.size + 1) (fun pre X => I pre X ∧ Under w.heap.size (w.heap.size + 1) (mk .ready none) X) (fun pre X => ∃ c, Ix c pre X ∧ Under w.heap.size (w.heap.size + 1) (mk .done (some c)) X) V (hb0.trans (hbV.mono hb0.size))
    (fun s X Y k hs hg' hr => ⟨hI s X Y k hs.1 hg' (walk_row hVs hr), hs.2.grown hg' (fun j e => (hr j e).2)⟩)
    (fun s X Y k hs hg' hr => let ⟨c, hc, hu⟩ := hs; ⟨c, hIx c s X Y k hc hg' (walk_row hVs hr), hu.grown hg' (fun j e => (hr j e).2)⟩)
    (fun pre X h => hN pre X h.1) ?_ ⟨hIV, hU⟩).mono ?_
  · rintro pre x X ⟨hi, hu⟩
    have hy := run_yield (P := P) (args := encs x) hu.record (by rw [hmk]; exact hps x)
    have hbeg : (Instr.beginRound (w.heap.size + 1)).run P X = .ok () (X.putObj (w.heap.size + 1) (.loop (mk .busy none))) := by
      have := run_beginRound (P := P) hu.record (by rw [hmk])
      rw [hmk] at this ⊢
      exact this
    have hu2 := hu.put (mk .busy none) (by omega)
    have hk2 : Kp X (X.putObj (w.heap.size + 1) (.loop (mk .busy none))) := hKb _ _ _ _ (by omega) hu.record rfl rfl
    have hround := round_ends (P := P) (Kp := Kp) (I := I) (Ix := Ix) (X := X) (xs := pre ++ [x]) (Nat.le_refl w.heap.size) (by omega) (by omega) (mk := mk) (fun st pe => by rw [hmk]) hI hIx (fun h k => hKt h k) hKb hk2 hu2
    have hb := wpIn_mono (hbody (w.heap.size + 1) pre x _ (hI.putObj _ hi (by omega) hu.record rfl)) hround
    rw [hmk] at hy
    exact ⟨fn, _, assign, body, hy, roundIn_of_wpIn hfn (hassign _ x X _ ⟨_, hbeg, hb⟩)⟩
  · rintro e Z ⟨⟨v, rfl⟩, pre, hSp, c, hc, hu⟩
    have hend := run_endLoop (P := P) hu.record (by rw [hmk]; simp)
    have hp : (mk .done (some c)).pending = some c := by rw [hmk]
    rw [hp] at hend
    exact ⟨some c, _, hend, hstop _ c pre _ (Nat.le_refl _) hSp ((hIx c).putObj _ hc (by omega) hu.record rfl) ((World.putObj_heap_other (by omega)).trans hu.sink)⟩
end
end Go.Proofs.Ytfnpdoppdbhlcaa
