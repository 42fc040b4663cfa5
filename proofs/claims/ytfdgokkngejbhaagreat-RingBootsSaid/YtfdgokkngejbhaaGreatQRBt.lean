/- Texts of the ring, joined, what is used of them. No condition but those in the statements. -/
import Derived.BigQuiet
import Derived.BigRegion
import Derived.Deep.MidRow
import Derived.Deep.RegionHeld3
import Derived.Deep.Upon
import Derived.IntWalk
import Derived.Shelf.Abstract
import Derived.Test.YtfdgokkngejbhaaGreatQgI
namespace Go.Proofs.YtfdgokkngejbhaaGreat
open Go.RowKit Go.Sort
set_option linter.unusedVariables false
set_option linter.unusedSimpArgs false
set_option linter.unusedVariables false
set_option linter.unusedSimpArgs false
open Go.Proofs.YtfdgokkngejbhaaGreat.Simp
set_option maxRecDepth 100000
set_option maxHeartbeats 12800000
/-- A configuration's rows lie in blocks from n on. -/
def CfgNew (n : Nat) (x : CfgAt) : Prop := ∀ A, (A = x.pa ∨ A = x.ca ∨ A = x.aa ∨ A = x.ba) → ∀ a, A = some a → n ≤ a.block
theorem RowN.same {ks : List IntKind} {w w' : World} {B n : Nat} {A : Option Addr} {l : List (List Int)} (h : RowN ks w B A l) (hn : ∀ a, A = some a → n ≤ a.block) (hk : ∀ k, n ≤ k → k < B → w'.heap[k]? = w.heap[k]?) : RowN ks w' B A l := fun hp => by
  obtain ⟨b, o, hA, hlt, hc⟩ := h hp
  have hb : n ≤ b := hn _ hA
  exact ⟨b, o, hA, hlt, fun i x hx j v hv => cell_of_blk (hc i x hx j v hv) (hk b hb hlt)⟩
theorem CfgIn.same {w w' : World} {B n : Nat} {c : Cfg} {x : CfgAt} (h : CfgIn w B c x) (hn : CfgNew n x) (hk : ∀ k, n ≤ k → k < B → w'.heap[k]? = w.heap[k]?) : CfgIn w' B c x :=
  ⟨h.rp.same (hn _ (.inl rfl)) hk, h.rc.same (hn _ (.inr (.inl rfl))) hk, h.ra.same (hn _ (.inr (.inr (.inl rfl)))) hk, h.rb.same (hn _ (.inr (.inr (.inr rfl)))) hk, h.lp, h.lc, h.la, h.lb⟩
/-- A world as W is, but that its blocks are as they are in w'. -/
def patch (W w' : World) : World := { W with heap := w'.heap.extract 0 W.heap.size }
theorem patch_size {W w' : World} (h : W.heap.size ≤ w'.heap.size) : (patch W w').heap.size = W.heap.size := by unfold patch; simp; omega
theorem patch_at {W w' : World} {k : Nat} (hk : k < W.heap.size) (h : W.heap.size ≤ w'.heap.size) : (patch W w').heap[k]? = w'.heap[k]? := by
  unfold patch
  rw [Array.getElem?_extract]
  simp
  omega
section
variable {w1 w w' : World} {B mb rb bb br be : Nat} {E : Nat → Prop} {F : Qr} {ws : List Int} {bs : List Bool} {os og : Option (Nat × QS)}
/-- Blocks below B turn, too. -/
theorem Quo.rebase (h : Quo w1 w w1.heap.size E mb rb bb br F be ws bs os og) {T : Nat → Prop} (ho : Only T w w') (hT : ∀ k, k < w.heap.size → T k → (E k ∧ w1.heap.size ≤ k) ∨ k < w1.heap.size) {E' : Nat → Prop} (hE : ∀ k, E' k → E k ∨ (w.heap.size ≤ k ∧ k < w'.heap.size)) :
    Quo (patch w1 w') w' w1.heap.size E' mb rb bb br F be ws bs os og := by
  obtain ⟨Ss, Sg, h1, h2, h3, h4, h5⟩ := h.two
  have hlo := h.low
  have hml := h.mem.lt
  have hsl := h.bel.lt
  have hbs := h.below.size
  have hsz := ho.size
  have hnT : ∀ k, Ss k ∨ Sg k → ¬ T k := fun k hk ht => by
    have q := h2 k hk
    rcases hT k q.2.2 ht with a | a
    · have := h3 k a.1; exact hk.elim this.1 this.2.1
    · omega
  have hq : ∀ k, HQ mb rb bb br k → k < w.heap.size → ¬ T k := fun k hk hl ht => by
    rcases hT k hl ht with a | a
    · exact (h3 k a.1).2.2.1 hk
    · unfold HQ at hk; omega
  refine ⟨⟨ho.os.trans h.below.os, ho.tape.trans h.below.tape, ho.output.trans h.below.output, by rw [patch_size (by omega)]; omega, fun k hk => (patch_at hk (by omega)).symm⟩,
    h.mem.only ho (hq mb (.inl rfl) hml.1) (hq rb (.inr (.inl rfl)) hml.2), h.bel.kept ho (hq bb (.inr (.inr (.inl rfl))) hsl.1) (hq br (.inr (.inr (.inr rfl))) hsl.2), by rw [patch_size (by omega)]; exact hlo, h.fin, h.w32, h.belt,
    Ss, Sg, h1, fun k hk => ?_, fun k hk => ?_, fun ob s e => ⟨(h4 ob s e).1.only ho (fun k hk => hnT k (.inl hk)), (h4 ob s e).2⟩, fun ob s e => ⟨(h5 ob s e).1.only ho (fun k hk => hnT k (.inr hk)), (h5 ob s e).2⟩⟩
  · have := h2 k hk; exact ⟨this.1, this.2.1, by omega⟩
  · rcases hE k hk with he | ⟨hk1, hk2⟩
    · have := h3 k he; exact ⟨this.1, this.2.1, this.2.2.1, by omega⟩
    · refine ⟨fun hx => ?_, fun hx => ?_, fun hx => ?_, hk2⟩
      · have := (h2 k (.inl hx)).2.2; omega
      · have := (h2 k (.inr hx)).2.2; omega
      · unfold HQ at hx; omega
end
section
variable {W w w' : World} {E : Nat → Prop} {pb mb rb bb br N D K sq rq : Nat} {boot : Int} {x : CfgAt} {P : Ql}
theorem PQAt.rebase (h : PQAt W w E pb mb rb bb br N D boot x (K) (P) sq rq) {T : Nat → Prop} {n : Nat} (ho : Only T w w') (hn : CfgNew n x) (hT : ∀ k, k < w.heap.size → T k → (E k ∧ W.heap.size ≤ k ∧ k ≠ pb) ∨ k < n) (hnW : n ≤ W.heap.size) {E' : Nat → Prop} (hE : ∀ k, E' k → E k ∨ (w.heap.size ≤ k ∧ k < w'.heap.size)) (hpE : E' pb) :
    ∃ W', W'.heap.size = W.heap.size ∧ PQAt W' w' E' pb mb rb bb br N D boot x K P sq rq := by
  obtain ⟨bs, hq, hl, hbb⟩ := h.quo
  have hws := h.below.size
  have hsz := ho.size
  have hlt := h.lt
  have hpe := h.pe.2
  have hps := patch_size (W := W) (w' := w') (by omega)
  refine ⟨patch W w', hps, (ho.block pb h.lt (fun ht => ?_)).trans h.blk, ⟨bs, ?_, hl, hbb⟩, ⟨hpE, by rw [hps]; exact hpe⟩, ?_, h.nn, h.lim, h.u32⟩
  · rcases hT pb h.lt ht with a | a
    · exact a.2.2 rfl
    · omega
  · rw [hps]
    exact hq.rebase ho (fun k hk ht => by
      rcases hT k hk ht with a | a
      · exact .inl ⟨a.1, a.2.1⟩
      · exact .inr (by omega)) hE
  · rw [hps]
    refine h.cfg.same hn (fun k hk1 hk2 => ?_)
    rw [patch_at hk2 (by omega)]
    refine (ho.block k (by omega) (fun ht => ?_)).trans (h.below.block k hk2)
    rcases hT k (by omega) ht with a | a <;> omega
end
/-- Two plays in one memory: the first one's blocks lie below n2, or come behind n4; between the second one is made, whose base is of size m2. -/
structure Pair (W1 : World) (n2 m2 n4 pb mb rb bb br pb2 mb2 rb2 bb2 br2 N D : Nat) (boot boot2 : Int) (x x2 : CfgAt) (w : World) (K1 K2 : Nat) (P Q : Ql) : Prop where
  ex : ∃ (Wq : World) (Ep Eq : Nat → Prop) (sq rq sq2 rq2 : Nat), PQAt W1 w Ep pb mb rb bb br N D boot x (K1) (P) sq rq ∧ PQAt Wq w Eq pb2 mb2 rb2 bb2 br2 N D boot2 x2 (K2) (Q) sq2 rq2 ∧ Wq.heap.size = m2 ∧ (∀ k, n2 ≤ k → k < n4 → Ep k) ∧ (∀ k, n4 ≤ k → k < w.heap.size → Ep k ∨ Eq k)
  st : pb < n2 ∧ n2 ≤ m2 ∧ m2 ≤ pb2 ∧ pb2 < n4 ∧ W1.heap.size ≤ n2 ∧ CfgNew n2 x2
section
variable {W1 w w' : World} {n2 m2 n4 pb mb rb bb br pb2 mb2 rb2 bb2 br2 N D K1 K2 : Nat} {boot boot2 : Int} {x x2 : CfgAt} {P Q P' Q' : Ql}
theorem Pair.stepP {Wq : World} {Ep Eq : Nat → Prop} {sq rq sq2 rq2 : Nat} (st : pb < n2 ∧ n2 ≤ m2 ∧ m2 ≤ pb2 ∧ pb2 < n4 ∧ W1.heap.size ≤ n2 ∧ CfgNew n2 x2) (hq : PQAt Wq w Eq pb2 mb2 rb2 bb2 br2 N D boot2 x2 (K2) (Q) sq2 rq2) (hm : Wq.heap.size = m2) (hr : ∀ k, n2 ≤ k → k < n4 → Ep k) (hc : ∀ k, n4 ≤ k → k < w.heap.size → Ep k ∨ Eq k)
    (hp' : PQAt W1 w' Ep pb mb rb bb br N D boot x (K1) (P') sq rq) (ho : Only (fun k => (¬ Ep k ∨ k = pb) ∧ W1.heap.size ≤ k) w w') : Pair W1 n2 m2 n4 pb mb rb bb br pb2 mb2 rb2 bb2 br2 N D boot boot2 x x2 w' (K1) (K2) (P') (Q) := by
  obtain ⟨s1, s2, s3, s4, s5, s6⟩ := st
  obtain ⟨Wq', hW, hq'⟩ := hq.rebase (n := n2) (E' := fun k => Eq k ∨ (w.heap.size ≤ k ∧ k < w'.heap.size)) ho s6 (fun k hk ht => by
    rcases ht.1 with h | h
    · by_cases h2 : k < n2
      · exact .inr h2
      · have h4 : n4 ≤ k := Nat.le_of_not_lt (fun h4 => h (hr k (by omega) h4))
        exact .inl ⟨(hc k h4 hk).resolve_left h, by omega, by omega⟩
    · exact .inr (by omega)) (by omega) (fun k h => h) (.inl hq.pe.1)
  have hsz := ho.size
  exact ⟨⟨Wq', Ep, _, _, _, _, _, hp', hq', hW.trans hm, hr, fun k h1 h2 => if h3 : k < w.heap.size then (hc k h1 h3).imp id .inl else .inr (.inr ⟨by omega, h2⟩)⟩, s1, s2, s3, s4, s5, s6⟩
theorem Pair.stepQ {Wq : World} {Ep Eq : Nat → Prop} {sq rq sq2 rq2 : Nat} (st : pb < n2 ∧ n2 ≤ m2 ∧ m2 ≤ pb2 ∧ pb2 < n4 ∧ W1.heap.size ≤ n2 ∧ CfgNew n2 x2) (hp : PQAt W1 w Ep pb mb rb bb br N D boot x (K1) (P) sq rq) (hm : Wq.heap.size = m2) (hr : ∀ k, n2 ≤ k → k < n4 → Ep k) (hc : ∀ k, n4 ≤ k → k < w.heap.size → Ep k ∨ Eq k)
    (hq' : PQAt Wq w' Eq pb2 mb2 rb2 bb2 br2 N D boot2 x2 (K2) (Q') sq2 rq2) (ho : Only (fun k => (¬ Eq k ∨ k = pb2) ∧ Wq.heap.size ≤ k) w w') : Pair W1 n2 m2 n4 pb mb rb bb br pb2 mb2 rb2 bb2 br2 N D boot boot2 x x2 w' (K1) (K2) (P) (Q') := by
  obtain ⟨s1, s2, s3, s4, s5, s6⟩ := st
  obtain ⟨bs, hq, hl, hbb⟩ := hp.quo
  have hsz := ho.size
  have hT : ∀ k, k < w.heap.size → ((¬ Eq k ∨ k = pb2) ∧ Wq.heap.size ≤ k) → Ep k ∧ W1.heap.size ≤ k := fun k hk ht => by
    by_cases h4 : k < n4
    · exact ⟨hr k (by omega) h4, by omega⟩
    · rcases ht.1 with h | h
      · exact ⟨(hc k (by omega) hk).resolve_right h, by omega⟩
      · omega
  have hp' : PQAt W1 w' (fun k => Ep k ∨ (w.heap.size ≤ k ∧ k < w'.heap.size)) pb mb rb bb br N D boot x (K1) (P) sq rq :=
    ⟨(ho.block pb hp.lt (fun ht => by have := ht.2; omega)).trans hp.blk, ⟨bs, hq.only ho hT (fun k h => h), hl, hbb⟩, ⟨.inl hp.pe.1, hp.pe.2⟩, hp.cfg, hp.nn, hp.lim, hp.u32⟩
  exact ⟨⟨Wq, _, Eq, _, _, _, _, hp', hq', hm, fun k h1 h2 => .inl (hr k h1 h2), fun k h1 h2 => if h3 : k < w.heap.size then (hc k h1 h3).imp .inl id else .inl (.inr ⟨by omega, h2⟩)⟩, s1, s2, s3, s4, s5, s6⟩
theorem Pair.sendP (h : Pair W1 n2 m2 n4 pb mb rb bb br pb2 mb2 rb2 bb2 br2 N D boot boot2 x x2 w (K1) (K2) (P) (Q)) (hK : K1 ≤ 90000) (hok : (playS N D P).2 = true) : Calls Tryz.prog 30 #[.pointer (some ⟨pb, 0, none⟩)] w fun e w' => e = .returned (.bool true) ∧ Pair W1 n2 m2 n4 pb mb rb bb br pb2 mb2 rb2 bb2 br2 N D boot boot2 x x2 w' (K1 + 1) (K2) ((playS N D P).1) (Q) := by
  obtain ⟨⟨Wq, Ep, Eq, sq, rq, sq2, rq2, hp, hq, hm, hr, hc⟩, st⟩ := h
  refine (send_b hp hK hok).mono ?_
  rintro e w' ⟨rfl, sq', hp', ho⟩
  exact ⟨rfl, Pair.stepP st hq hm hr hc hp' ho⟩
theorem Pair.recvP (h : Pair W1 n2 m2 n4 pb mb rb bb br pb2 mb2 rb2 bb2 br2 N D boot boot2 x x2 w (K1) (K2) (P) (Q)) (hK : K1 ≤ 90000) (hok : (playQ N D boot P).2 = true) : Calls Tryz.prog 31 #[.pointer (some ⟨pb, 0, none⟩)] w fun e w' => e = .returned (.bool true) ∧ Pair W1 n2 m2 n4 pb mb rb bb br pb2 mb2 rb2 bb2 br2 N D boot boot2 x x2 w' (K1 + 1) (K2) ((playQ N D boot P).1) (Q) := by
  obtain ⟨⟨Wq, Ep, Eq, sq, rq, sq2, rq2, hp, hq, hm, hr, hc⟩, st⟩ := h
  refine (recv_b hp hK hok).mono ?_
  rintro e w' ⟨rfl, rq', hp', ho⟩
  exact ⟨rfl, Pair.stepP st hq hm hr hc hp' ho⟩
theorem Pair.sendQ (h : Pair W1 n2 m2 n4 pb mb rb bb br pb2 mb2 rb2 bb2 br2 N D boot boot2 x x2 w (K1) (K2) (P) (Q)) (hK : K2 ≤ 90000) (hok : (playS N D Q).2 = true) : Calls Tryz.prog 30 #[.pointer (some ⟨pb2, 0, none⟩)] w fun e w' => e = .returned (.bool true) ∧ Pair W1 n2 m2 n4 pb mb rb bb br pb2 mb2 rb2 bb2 br2 N D boot boot2 x x2 w' (K1) (K2 + 1) (P) ((playS N D Q).1) := by
  obtain ⟨⟨Wq, Ep, Eq, sq, rq, sq2, rq2, hp, hq, hm, hr, hc⟩, st⟩ := h
  refine (send_b hq hK hok).mono ?_
  rintro e w' ⟨rfl, sq', hq', ho⟩
  exact ⟨rfl, Pair.stepQ st hp hm hr hc hq' ho⟩
theorem Pair.recvQ (h : Pair W1 n2 m2 n4 pb mb rb bb br pb2 mb2 rb2 bb2 br2 N D boot boot2 x x2 w (K1) (K2) (P) (Q)) (hK : K2 ≤ 90000) (hok : (playQ N D boot2 Q).2 = true) : Calls Tryz.prog 31 #[.pointer (some ⟨pb2, 0, none⟩)] w fun e w' => e = .returned (.bool true) ∧ Pair W1 n2 m2 n4 pb mb rb bb br pb2 mb2 rb2 bb2 br2 N D boot boot2 x x2 w' (K1) (K2 + 1) (P) ((playQ N D boot2 Q).1) := by
  obtain ⟨⟨Wq, Ep, Eq, sq, rq, sq2, rq2, hp, hq, hm, hr, hc⟩, st⟩ := h
  refine (recv_b hq hK hok).mono ?_
  rintro e w' ⟨rfl, rq', hq', ho⟩
  exact ⟨rfl, Pair.stepQ st hp hm hr hc hq' ho⟩
theorem Pair.first {v2 v4 W2 : World} (hp : PQAt W1 v2 (fun k => k = pb) pb mb rb bb br N D boot x (K1) (P) 0 0) (hb : Below v2.heap.size v2 W2) (hq : PQAt W2 v4 (fun k => k = pb2) pb2 mb2 rb2 bb2 br2 N D boot2 x2 (K2) (Q) 0 0) (hn : CfgNew v2.heap.size x2) : Pair W1 v2.heap.size W2.heap.size v4.heap.size pb mb rb bb br pb2 mb2 rb2 bb2 br2 N D boot boot2 x x2 v4 K1 K2 P Q := by
  obtain ⟨bs, hqq, hl, hbb⟩ := hp.quo
  have hbq := hq.below
  have hb4 : Below v2.heap.size v2 v4 := hb.trans (hbq.mono hb.size)
  have hs1 := hb.size
  have hs2 := hb4.size
  have hp' : PQAt W1 v4 (fun k => k = pb ∨ (v2.heap.size ≤ k ∧ k < v4.heap.size)) pb mb rb bb br N D boot x (K1) (P) 0 0 :=
    ⟨(hb4.block pb hp.lt).trans hp.blk, ⟨bs, hqq.only (T := fun _ => False) (Only.of_below hb4) (fun _ _ h => h.elim) (fun k h => h), hl, hbb⟩, ⟨.inl rfl, hp.pe.2⟩, hp.cfg, hp.nn, hp.lim, hp.u32⟩
  exact ⟨⟨W2, _, _, _, _, _, _, hp', hq, rfl, fun k h1 h2 => .inr ⟨h1, h2⟩, fun k h1 h2 => absurd h1 (by omega)⟩, hp.lt, hs1, hq.pe.2, hq.lt, by have := hp.below.size; exact this, hn⟩
end
theorem twoQn_b (n d boot : Int) (w : World) (q1 : (Lit.int .i64 n).wf = true) (q2 : (Lit.int .i64 d).wf = true) (q3 : (Lit.int .u32 boot).wf = true) : Calls Tryz.prog 29 #[.int .i64 n, .int .i64 d, .int .u32 boot] w fun e w' => ∃ x, e = .returned (.agg (cfgCells (cfgQ n d boot) x)) ∧ CfgIn w' w'.heap.size (cfgQ n d boot) x ∧ Below w.heap.size w w' ∧ CfgNew w.heap.size x := by
  have hwf := cfgQ_wf q1 q2 q3
  go_enter Tryz.func29, Tryz.ntmps29
  go_wp2
  obtain ⟨V, hV⟩ : ∃ u, Hid (u = ((((((w.alloc (.cells #[.slice (some ⟨w.heap.size + 1, 0, none⟩) 2 2, .slice (some ⟨w.heap.size + 1 + 1, 0, none⟩) 1 1, .int .i64 1, .slice (some ⟨w.heap.size + 1 + 1 + 1 + 1, 0, none⟩) 1 1, .int .i64 1, .slice (some ⟨w.heap.size + 1 + 1 + 1 + 1 + 1, 0, none⟩) 1 1] 29)).alloc (.cells #[.int .i64 0, .int .i64 1, .int .i64 1, .int .i64 0] 117)).alloc (.cells #[.int .i64 2, .int .i64 0, .int .i64 1, .int .i64 n, .int .i64 d, .int .i64 0, .int .u32 boot] 36)).alloc (.cells #[.slice (some ⟨w.heap.size + 1, 0, none⟩) 2 2, .slice (some ⟨w.heap.size + 1 + 1, 0, none⟩) 1 1, .int .i64 1, .slice (some ⟨w.heap.size + 1 + 1 + 1 + 1, 0, none⟩) 1 1, .int .i64 1, .slice (some ⟨w.heap.size + 1 + 1 + 1 + 1 + 1, 0, none⟩) 1 1] 29)).alloc (.cells #[.int .i64 0, .int .i64 0, .int .i64 1] 119)).alloc (.cells #[.int .i64 1, .int .i64 0, .int .i64 1] 119))) := ⟨_, rfl⟩
  rw [← hV.out]
  have h0 : V.heap[w.heap.size]? = some (.cells #[.slice (some ⟨w.heap.size + 1, 0, none⟩) 2 2, .slice (some ⟨w.heap.size + 1 + 1, 0, none⟩) 1 1, .int .i64 1, .slice (some ⟨w.heap.size + 1 + 1 + 1 + 1, 0, none⟩) 1 1, .int .i64 1, .slice (some ⟨w.heap.size + 1 + 1 + 1 + 1 + 1, 0, none⟩) 1 1] 29) := by rw [hV.out]; rw [Below.heap_alloc _ _ _ (by simp; try omega)]; rw [Below.heap_alloc _ _ _ (by simp; try omega)]; rw [Below.heap_alloc _ _ _ (by simp; try omega)]; rw [Below.heap_alloc _ _ _ (by simp; try omega)]; rw [Below.heap_alloc _ _ _ (by simp; try omega)]; exact heap_new_at _ _ (by simp)
  have h1 : V.heap[w.heap.size + 1]? = some (.cells #[.int .i64 0, .int .i64 1, .int .i64 1, .int .i64 0] 117) := by rw [hV.out]; rw [Below.heap_alloc _ _ _ (by simp; try omega)]; rw [Below.heap_alloc _ _ _ (by simp; try omega)]; rw [Below.heap_alloc _ _ _ (by simp; try omega)]; rw [Below.heap_alloc _ _ _ (by simp; try omega)]; exact heap_new_at _ _ (by simp)
  have h2 : V.heap[w.heap.size + 1 + 1]? = some (.cells #[.int .i64 2, .int .i64 0, .int .i64 1, .int .i64 n, .int .i64 d, .int .i64 0, .int .u32 boot] 36) := by rw [hV.out]; rw [Below.heap_alloc _ _ _ (by simp; try omega)]; rw [Below.heap_alloc _ _ _ (by simp; try omega)]; rw [Below.heap_alloc _ _ _ (by simp; try omega)]; exact heap_new_at _ _ (by simp)
  have h3 : V.heap[w.heap.size + 1 + 1 + 1]? = some (.cells #[.slice (some ⟨w.heap.size + 1, 0, none⟩) 2 2, .slice (some ⟨w.heap.size + 1 + 1, 0, none⟩) 1 1, .int .i64 1, .slice (some ⟨w.heap.size + 1 + 1 + 1 + 1, 0, none⟩) 1 1, .int .i64 1, .slice (some ⟨w.heap.size + 1 + 1 + 1 + 1 + 1, 0, none⟩) 1 1] 29) := by rw [hV.out]; rw [Below.heap_alloc _ _ _ (by simp; try omega)]; rw [Below.heap_alloc _ _ _ (by simp; try omega)]; exact heap_new_at _ _ (by simp)
  have h4 : V.heap[w.heap.size + 1 + 1 + 1 + 1]? = some (.cells #[.int .i64 0, .int .i64 0, .int .i64 1] 119) := by rw [hV.out]; rw [Below.heap_alloc _ _ _ (by simp; try omega)]; exact heap_new_at _ _ (by simp)
  have h5 : V.heap[w.heap.size + 1 + 1 + 1 + 1 + 1]? = some (.cells #[.int .i64 1, .int .i64 0, .int .i64 1] 119) := by rw [hV.out]; exact heap_new_at _ _ (by simp)
  have hB : Below w.heap.size w V := by rw [hV.out]; exact ((((((Below.refl _ _).alloc (Nat.le_refl _) _).alloc (by simp; try omega) _).alloc (by simp; try omega) _).alloc (by simp; try omega) _).alloc (by simp; try omega) _).alloc (by simp; try omega) _
  have hS : V.heap.size = w.heap.size + 6 := by rw [hV.out]; simp
  have y0 := cell_blk h0 (i := 0) rfl
  have y1 := cell_blk h0 (i := 1) rfl
  have y2 := cell_blk h0 (i := 2) rfl
  have y3 := cell_blk h0 (i := 3) rfl
  have y4 := cell_blk h0 (i := 4) rfl
  have y5 := cell_blk h0 (i := 5) rfl
  clear hV
  refine bodyPost_ret (v := .agg #[.slice (some ⟨w.heap.size + 1, 0, none⟩) 2 2, .slice (some ⟨w.heap.size + 1 + 1, 0, none⟩) 1 1, .int .i64 1, .slice (some ⟨w.heap.size + 1 + 1 + 1 + 1, 0, none⟩) 1 1, .int .i64 1, .slice (some ⟨w.heap.size + 1 + 1 + 1 + 1 + 1, 0, none⟩) 1 1]) (by simp [results, Tryz.results29, go_sem, y0, y1, y2, y3, y4, y5]) rfl ⟨⟨some ⟨w.heap.size + 1, 0, none⟩, 2, some ⟨w.heap.size + 1 + 1, 0, none⟩, 1, some ⟨w.heap.size + 1 + 1 + 1 + 1, 0, none⟩, 1, some ⟨w.heap.size + 1 + 1 + 1 + 1 + 1, 0, none⟩, 1⟩, rfl, ⟨?_, ?_, ?_, ?_, ?_, ?_, ?_, ?_⟩, hB, fun A hA a ha => ?_⟩
  · exact row_lit [.i64, .i64] (l := (cfgQ n d boot).parts) h1 (by omega) hwf.wp rfl
  · exact row_lit [.i64, .i64, .i64, .i64, .i64, .i64, .u32] (l := (cfgQ n d boot).chans) h2 (by omega) hwf.wc rfl
  · exact row_lit [.i64, .i64, .i64] (l := (cfgQ n d boot).win0) h4 (by omega) hwf.wa rfl
  · exact row_lit [.i64, .i64, .i64] (l := (cfgQ n d boot).win1) h5 (by omega) hwf.wb rfl
  · exact ⟨by simp [cfgQ], by simp [maxLen], fun h => by cases h⟩
  · exact ⟨by simp [cfgQ], by simp [maxLen], fun h => by cases h⟩
  · exact ⟨by simp [cfgQ], by simp [maxLen], fun h => by cases h⟩
  · exact ⟨by simp [cfgQ], by simp [maxLen], fun h => by cases h⟩
  · rcases hA with rfl | rfl | rfl | rfl <;> cases ha
    · show w.heap.size ≤ w.heap.size + 1; omega
    · show w.heap.size ≤ w.heap.size + 1 + 1; omega
    · show w.heap.size ≤ w.heap.size + 1 + 1 + 1 + 1; omega
    · show w.heap.size ≤ w.heap.size + 1 + 1 + 1 + 1 + 1; omega
theorem two_atQn (v1 v2 : Int) (N D : Nat) (boot : Int) (w : World) (h1 : v1 = (N : Int)) (h2 : v2 = (D : Int)) (h3 : N ≤ 16 ∧ D ≤ 16) (h0 : 0 ≤ boot ∧ boot ≤ 4294967295) :
    Calls Tryz.prog 29 #[.int .i64 v1, .int .i64 v2, .int .u32 boot] w fun e w' => ∃ x : CfgAt, e = .returned (.agg #[.slice x.pa 2 x.pc, .slice x.ca 1 x.cc, .int .i64 1, .slice x.aa 1 x.ac, .int .i64 1, .slice x.ba 1 x.bc]) ∧ CfgIn w' w'.heap.size (cfgQ N D boot) x ∧ Below w.heap.size w w' ∧ CfgNew w.heap.size x := by
  subst h1; subst h2
  exact twoQn_b N D boot w (i64_of (by omega)) (i64_of (by omega)) (u32_ofQ h0)
end Go.Proofs.YtfdgokkngejbhaaGreat
