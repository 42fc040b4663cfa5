/- Iterators whose told values point into memory: a round may ask that what it is handed lies right in the world it is handed in. Over any program. No condition but those in the statements. -/
import Derived.Test.YtmonneeikkgllaaKit
import Derived.RangeFuncBox
import Derived.RangeFuncNested
import Derived.RangeFuncCalls
import Derived.OrdersIn
import Derived.OrdersHeld
import Derived.Deep.RegionHeld3
namespace Go.Proofs.Ytmonneeikkgllaa
open Go.RowKit Go.Sort

section
variable {F : Fence} {n : Nat} {P : Program}
/-- An iterator's contract: what it hands to a round is right (V) in that very world. -/
def Tells {α : Type} (F : Fence) (n : Nat) (P : Program) (g : Nat) (caps : Array Value) (enc : α → Array Value) (V : α → World → Prop) (Kp : World → World → Prop) (S Sp : List α → Prop) (N : Nat) (w : World) : Prop :=
  ∀ (l : Nat) (J Jx : List α → World → Prop) (W : World), Below w.heap.size w W → AbidesFrom W.heap.size J → AbidesFrom W.heap.size Jx →
    (∀ (pre : List α) (x : α) (U : World), V x U → J pre U → pre.length < N → YieldAt F (n - 1) P l (enc x) U fun e U' => (e = .returned (.bool true) ∧ J (pre ++ [x]) U' ∧ Kp U U') ∨ (e = .returned (.bool false) ∧ Jx (pre ++ [x]) U')) →
    J [] W → CallsIn F n P g (#[.func (.yield l) #[] #[]] ++ caps) W fun e W' => (∃ v, e = .returned v) ∧ ((∃ xs, S xs ∧ J xs W') ∨ ∃ pre, Sp pre ∧ Jx pre W')

/-- The record of a loop under way. -/
def rec17 (fn : FuncId) (tmps : Array Value) (ps : Array Tmp) (assign body : Code) (D : Nat) (s : LoopState) (c : Option Code) : Loop := { state := s, pending := c, fn := fn, tmps := tmps, params := ps, assign := assign, body := body, defers := D }
/-- What a loop keeps for itself: its record in the block behind block D, and D for the rounds' deferred calls. -/
def Books (D : Nat) (r : Loop) (W : World) : Prop := W.heap[D + 1]? = some (.loop r) ∧ W.heap[D]? = some (.deferred (some []))
theorem Books.lt {D : Nat} {r : Loop} {W : World} (h : Books D r W) : D + 1 < W.heap.size := (Array.getElem?_eq_some_iff.1 h.1).1
theorem Books.keep {D : Nat} {r : Loop} {W W' : World} (h : Books D r W) (hk : KeepsFrom D W W') : Books D r W' := ⟨hk.same _ _ (by omega) h.1 rfl, hk.same _ _ (Nat.le_refl _) h.2 rfl⟩
theorem Books.put {D : Nat} {r : Loop} {W : World} (h : Books D r W) (r' : Loop) : Books D r' (W.putObj (D + 1) (.loop r')) := ⟨World.putObj_heap_same h.lt, (World.putObj_heap_other (by omega)).trans h.2⟩
theorem Books.abides {D : Nat} {r : Loop} {W W' : World} {row : Option Nat} (h : Books D r W) (hg : W.grownBy W' row) (hr : ∀ q, row = some q → ∃ o : Obj, W.heap[q]? = some o ∧ o.isWalk = true) : Books D r W' :=
  ⟨(grownBy_keeps hg hr h.1 rfl).trans h.1, (grownBy_keeps hg hr h.2 rfl).trans h.2⟩

/-- A call of yield: one round of the loop, from its record ready to its record ready again or done. -/
theorem yield17 {α : Type} {fn : FuncId} (hfn : F.fn fn) {tmps : Array Value} {ps : Array Tmp} {assign body : Code} {D : Nat} {I : List α → World → Prop} {Ix : Code → List α → World → Prop} {Ax : α → Act → World → Prop} {Kp : World → World → Prop} {vals : Array Value}
    (hps : vals.size = ps.size) (hI : OwnFrom D I) (hIx : ∀ c, OwnFrom D (Ix c)) (pre : List α) (x : α) (hAx : ∀ a', OwnFrom D (fun (_ : Unit) W => Ax x a' W)) (hKt : ∀ {A B C : World}, Kp A B → Kp B C → Kp A C)
    (hKb : ∀ (W : World) (l : Nat) (o o' : Obj), D ≤ l → W.heap[l]? = some o → o.isCells = false → o.isWalk = false → Kp W (W.putObj l o')) {U : World} (hU : Books D (rec17 fn tmps ps assign body D .ready none) U)
    (hassign : ∀ K : Act → World → Prop, (∀ a' U', KeepsFrom D U U' → Kp U U' → I pre U' → Ax x a' U' → K a' U') → assign.wpIn (F.inRound (D + 1)) n P (Exit.then K (fun _ _ _ => False)) { tmps := (ps.zip vals).foldl (fun t (p, v) => t.setIfInBounds p v) tmps, defers := [] } U)
    (hbody : ∀ (a' : Act) (W : World), (∃ r, W.heap[D + 1]? = some (.loop r)) → I pre W → Ax x a' W → body.wpIn (F.inRound (D + 1)) n P (ownPostG D Kp I Ix (pre ++ [x]) W) a' W) :
    YieldAt F n P (D + 1) vals U fun e U' => (e = .returned (.bool true) ∧ (I (pre ++ [x]) U' ∧ Books D (rec17 fn tmps ps assign body D .ready none) U') ∧ Kp U U') ∨
      (e = .returned (.bool false) ∧ ∃ c, Ix c (pre ++ [x]) U' ∧ Books D (rec17 fn tmps ps assign body D .done (some c)) U') := by
  refine ⟨fn, _, assign, body, run_yield hU.1 hps, roundIn_of_wpIn hfn (hassign _ fun a' A hkA hpA hiA hxA => ?_)⟩
  have bA := hU.keep hkA
  refine ⟨_, run_beginRound bA.1 rfl, ?_⟩
  have bB := bA.put (rec17 fn tmps ps assign body D .busy none)
  have hpB := hKb _ _ _ (.loop (rec17 fn tmps ps assign body D .busy none)) (show D ≤ D + 1 by omega) bA.1 rfl rfl
  refine wpIn_mono (hbody a' _ ⟨_, bB.1⟩ (hI.putObj _ hiA (by omega) bA.1 rfl) ((hAx a').putObj (s := ()) _ hxA (by omega) bA.1 rfl)) ?_
  intro ex a3 C hp
  have left : ∀ c : Code, KeepsFrom D (A.putObj (D + 1) (.loop (rec17 fn tmps ps assign body D .busy none))) C → Ix c (pre ++ [x]) C →
      (Instr.endRound (D + 1) (some c)).run P C = .ok (.bool false) (C.putObj (D + 1) (.loop (rec17 fn tmps ps assign body D .done (some c)))) ∧
        ∃ c', Ix c' (pre ++ [x]) (C.putObj (D + 1) (.loop (rec17 fn tmps ps assign body D .done (some c)))) ∧ Books D (rec17 fn tmps ps assign body D .done (some c')) (C.putObj (D + 1) (.loop (rec17 fn tmps ps assign body D .done (some c)))) := fun c hk hi => by
    have bC := bB.keep hk
    exact ⟨run_endRound (some c) bC.1, c, (hIx c).putObj _ hi (by omega) bC.1 rfl, bC.put _⟩
  cases ex with
  | normal =>
    obtain ⟨hk, hkp, hi⟩ := hp
    have bC := bB.keep hk
    exact ⟨_, _, run_endRound none bC.1, .inl ⟨rfl, ⟨hI.putObj _ hi (by omega) bC.1 rfl, bC.put _⟩, hKt hpA (hKt (hKt hpB hkp) (hKb _ _ _ _ (by omega) bC.1 rfl rfl))⟩⟩
  | ret => exact ⟨_, _, (left .ret hp.1 hp.2).1, .inr ⟨rfl, (left .ret hp.1 hp.2).2⟩⟩
  | exit id => exact ⟨_, _, (left (.exit id) hp.1 hp.2).1, .inr ⟨rfl, (left (.exit id) hp.1 hp.2).2⟩⟩
  | goto t => exact ⟨_, _, (left (.goto t) hp.1 hp.2).1, .inr ⟨rfl, (left (.goto t) hp.1 hp.2).2⟩⟩
  | panic ch => exact hp.elim
  | outgrown => exact hp.elim

/-- A loop over such an iterator. -/
theorem rangeTells {α : Type} {g : Operand} {ps : Array Tmp} {assign body : Code} {Q : Exit → Act → World → Prop} {a : Act} {w : World} (hro : F.round = none) (h1 : 1 ≤ n) {gf : Nat} {caps : Array Value} (hg : a.eval g = .func (.func gf) #[] caps) (hFg : F.fn gf) (eg : ∀ args w, (callFunc gf args).run P w = .ok (.enter gf args) w)
    {enc : α → Array Value} {V : α → World → Prop} {Kp : World → World → Prop} {S Sp : List α → Prop} {N : Nat} (ht : Tells F (n - 1) P gf caps enc V Kp S Sp N w) (hKt : ∀ {A B C : World}, Kp A B → Kp B C → Kp A C)
    (hKb : ∀ (W : World) (l : Nat) (o o' : Obj), w.heap.size ≤ l → W.heap[l]? = some o → o.isCells = false → o.isWalk = false → Kp W (W.putObj l o')) (hps : ∀ x, (enc x).size = ps.size)
    (I : List α → World → Prop) (Ix : Code → List α → World → Prop) (hI : OwnFrom w.heap.size I) (hIx : ∀ c, OwnFrom w.heap.size (Ix c)) (h0 : I [] w) (Ax : α → Act → World → Prop) (hAx : ∀ x a', OwnFrom w.heap.size (fun (_ : Unit) W => Ax x a' W))
    (hassign : ∀ (pre : List α) (x : α) (W : World) (K : Act → World → Prop), I pre W → V x W → (∀ a' W', KeepsFrom w.heap.size W W' → Kp W W' → I pre W' → Ax x a' W' → K a' W') →
      assign.wpIn (F.inRound (w.heap.size + 1)) (n - 1 - 1) P (Exit.then K (fun _ _ _ => False)) { tmps := (ps.zip (enc x)).foldl (fun t (p, v) => t.setIfInBounds p v) a.tmps, defers := [] } W)
    (hbody : ∀ (pre : List α) (x : α) (a' : Act) (W : World), (∃ r, W.heap[w.heap.size + 1]? = some (.loop r)) → I pre W → Ax x a' W → pre.length < N → body.wpIn (F.inRound (w.heap.size + 1)) (n - 1 - 1) P (ownPostG w.heap.size Kp I Ix (pre ++ [x]) W) a' W)
    (hdone : ∀ (xs : List α) (W : World), S xs → I xs W → W.heap[w.heap.size]? = some (.deferred (some [])) → Q .normal { a with defers := { target := .collected w.heap.size, args := #[] } :: a.defers } W)
    (hstop : ∀ (c : Code) (pre : List α) (W : World), Sp pre → Ix c pre W → W.heap[w.heap.size]? = some (.deferred (some [])) → c.wpIn F n P Q { a with defers := { target := .collected w.heap.size, args := #[] } :: a.defers } W) :
    (Code.rangeFunc g ps assign body).wpIn F n P Q a w := by
  refine wpIn_rangeFunc fun fn hfn => ?_
  rw [hro]
  obtain ⟨A, hA⟩ : ∃ A, A = (w.alloc (.deferred (some []))).alloc (.loop (rec17 fn a.tmps ps assign body w.heap.size .ready none)) := ⟨_, rfl⟩
  have bA : Books w.heap.size (rec17 fn a.tmps ps assign body w.heap.size .ready none) A := by
    refine ⟨?_, ?_⟩
    · have := World.alloc_heap_new (w.alloc (.deferred (some []))) (.loop (rec17 fn a.tmps ps assign body w.heap.size .ready none))
      rw [World.size_alloc] at this
      rw [hA]; exact this
    · rw [hA]; exact (Below.heap_alloc _ _ _ (by simp)).trans (World.alloc_heap_new w _)
  have iA : I [] A := by rw [hA]; exact hI.alloc _ (hI.alloc _ h0)
  have lA : Below w.heap.size w A := by rw [hA]; exact ((Below.refl _ w).alloc (Nat.le_refl _) _).alloc (by simp) _
  have zA : w.heap.size + 1 < A.heap.size := bA.lt
  have cells : ∀ {X : World} {row : Option Nat}, (∀ r, row = some r → A.heap.size ≤ r ∧ ∃ o : Obj, X.heap[r]? = some o ∧ o.isWalk = true) → ∀ r, row = some r → w.heap.size ≤ r ∧ ∃ o : Obj, X.heap[r]? = some o ∧ o.isCells = false := fun h r e => by
    obtain ⟨p, o, q, s⟩ := h r e
    exact ⟨by omega, o, q, Obj.not_cells_of_walk s⟩
  refine ⟨w.heap.size + 1, [{ target := .collected w.heap.size, args := #[] }], A, { target := .fn (.func gf) caps, args := #[.func (.yield (w.heap.size + 1)) #[] #[]] }, A, gf, #[.func (.yield (w.heap.size + 1)) #[] #[]] ++ caps, A, ?_, ?_, ?_, ?_, fun _ => h1, ?_⟩
  · rw [hA]; exact run_enterLoop_outer _ _ _ _ _
  · simp only [resolve, hg]
    simp [go_sem]
  · intro f' hf'
    simp [Target.leads] at hf'
    subst hf'; exact hFg
  · simp [invoke, go_sem, eg]
  refine (ht (w.heap.size + 1) (fun pre W => I pre W ∧ Books w.heap.size (rec17 fn a.tmps ps assign body w.heap.size .ready none) W) (fun pre W => ∃ c, Ix c pre W ∧ Books w.heap.size (rec17 fn a.tmps ps assign body w.heap.size .done (some c)) W) A lA
    (fun s X Y row hs hg' hr => ⟨hI s X Y row hs.1 hg' (cells hr), hs.2.abides hg' (fun r e => (hr r e).2)⟩)
    (fun s X Y row ⟨c, hc, hb⟩ hg' hr => ⟨c, hIx c s X Y row hc hg' (cells hr), hb.abides hg' (fun r e => (hr r e).2)⟩) ?_ ⟨iA, bA⟩).mono ?_
  · intro pre x U hv ⟨hi, hb⟩ hlen
    exact yield17 (Kp := Kp) (I := I) (Ix := Ix) (Ax := Ax) hfn (hps x) hI hIx pre x (hAx x) hKt hKb hb (fun K hK => hassign pre x U K hi hv hK) (fun a' W hl hi' hx => hbody pre x a' W hl hi' hx hlen)
  · rintro e B ⟨⟨v, rfl⟩, ⟨xs, hS, hi, hb⟩ | ⟨pre, hS, c, hi, hb⟩⟩
    · exact ⟨none, _, run_endLoop hb.1 (by simp [rec17]), hdone xs _ hS (hI.putObj _ hi (by omega) hb.1 rfl) ((World.putObj_heap_other (by omega)).trans hb.2)⟩
    · exact ⟨some c, _, run_endLoop hb.1 (by simp [rec17]), hstop c pre _ hS ((hIx c).putObj _ hi (by omega) hb.1 rfl) ((World.putObj_heap_other (by omega)).trans hb.2)⟩

/-- A region in a round, by its walk out of any: where nothing is deferred, and it may not be left unsaid. -/
theorem opIn17 {l : Nat} {o : Oper} {a : Act} {w : World} {K : Act → World → Prop} {Q : Exit → Act → World → Prop} (hnd : ∀ c, o.op ≠ .defer c) (h : Oper.wp P o a w K Q) : Oper.wpIn (Fence.wide.inRound l) n P o a w K Q := by
  refine ⟨fun f _ => trivial, ?_⟩
  unfold Oper.wp at h
  rw [Oper.semAt_eq _ _ _ hnd]
  generalize (execOp a.eval o).run P w = r at *
  cases r with
  | ok x w' =>
    cases x <;> simp only [Oper.upon, Oper.uponIn] at h ⊢
    case value => exact h
    case skip => exact h
    case defer => exact h
    case enter f args => exact ⟨(fun hd => by cases hd), callsIn_wide.2 h⟩
    case row row args => exact ⟨(fun hd => by cases hd), fun c cs _ => let ⟨v, w'', r, s⟩ := h c cs; ⟨v, w'', r, stepsIn_wide.2 s⟩⟩
  | halt x w' => cases x <;> simp only [Oper.upon, Oper.uponIn] at h ⊢ <;> exact h
theorem anyIn17 {l : Nat} {md : Region.Mode} {ops : Array Oper} {Q : Exit → Act → World → Prop} (hnd : ∀ (i : Nat) (o : Oper) c, ops[i]? = some o → o.op ≠ .defer c) (hlo : ¬ LetsOut Q) :
    ∀ (k : Nat) (L : Array Bool) (a : Act) (w : World), wpAny P md ops Q k L a w → wpAnyIn (Fence.wide.inRound l) n P md ops Q k L a w
  | 0, _, _, _, h => h
  | k + 1, L, a, w, h => by
    refine ⟨h.1, fun i hi => ?_⟩
    have h2 := h.2 i hi
    unfold wpOp at h2
    unfold wpOpIn
    cases ho : ops[i]? with
    | none => rw [ho] at h2; exact anyIn17 hnd hlo k _ _ _ h2
    | some o =>
      rw [ho] at h2
      simp only at h2 ⊢
      split
      · rename_i hw
        rw [if_pos hw] at h2
        rcases h2 with h2 | h2
        · exact Oper.wpIn_mono (fun a w h => anyIn17 hnd hlo k _ a w h) (opIn17 (fun c => hnd i o c ho) h2)
        · exact absurd h2.2 hlo
      · rename_i hw
        rw [if_neg hw] at h2
        exact ⟨fun f _ => trivial, anyIn17 hnd hlo k _ _ _ h2⟩
def noDefer (ops : Array Oper) : Bool := ops.all fun o => match o.op with | .defer _ => false | _ => true
theorem noDefer_spec {ops : Array Oper} (h : noDefer ops = true) : ∀ (i : Nat) (o : Oper) c, ops[i]? = some o → o.op ≠ .defer c := fun i o c ho he => by
  unfold noDefer at h
  rw [Array.all_eq_true_iff_forall_mem] at h
  have := h o (Array.mem_of_getElem? ho)
  rw [he] at this; cases this
theorem region_round {l id : Nat} {ops : Array Oper} {Q : Exit → Act → World → Prop} {a : Act} {w : World} {S : World → Prop} (hm : P.follows .mixedOrders = true) (hnd : noDefer ops = true) (hlo : ¬ LetsOut Q) (hS : S w.drew)
    (h : S w.drew → wpAnyH P .any ops Q S ops.size (Array.replicate ops.size false) a w.drew) : (Code.region id ops true).wpIn (Fence.wide.inRound l) n P Q a w :=
  wpIn_region_any hm (anyIn17 (noDefer_spec hnd) hlo _ _ _ _ (wpAny_of_held _ _ _ _ (h hS)))
end
end Go.Proofs.Ytmonneeikkgllaa
