/- The clock's block; pairs by their two values. No condition but those in the statements. -/
import Derived.Test.YtfpcldkgcifciaaCorP
import Derived.Test.YtfpcldkgcifciaaAt
import Derived.Test.YtfpcldkgcifciaaRAt
import Derived.Test.YtfpcldkgcifciaaRLay
import Derived.BigQuiet
import Derived.IntWalk
import Derived.BigRegion
import Derived.OpenShut
namespace Go.Proofs.Ytfpcldkgcifciaa
open Go.RowKit Go.Sort Go.ChangeShapes Go.WideShapes
set_option linter.unusedVariables false
set_option linter.unusedSimpArgs false

set_option linter.unusedVariables false
set_option linter.unusedSimpArgs false

theorem at_open_v (len : Int) (l : List (List Int)) (A : Option Addr) (c : Nat) (t : Int) (x : Int) (q : Bool) (w : World) (hf : FIn w len l A) (h0 : (atO openB len l t).getD 0 = x) (h1 : (atO openB len l t).isSome = q) : Calls Try.prog 19 #[.agg #[.int .i64 len, .slice A l.length c], .int .i64 t] w fun e w' => e = .returned (.tuple #[.int .i64 x, .bool q]) ∧ Below w.heap.size w w' := by
  subst h0 h1
  exact at_open_b len l A c t w hf
theorem rat_v (len : Int) (l : List (List Int)) (A : Option Addr) (c : Nat) (t : Int) (x : Int) (q : Bool) (w : World) (hf : FIn w len l A) (h0 : (atO openB len l t).getD 0 = x) (h1 : (atO openB len l t).isSome = q) : Calls Try.prog 20 #[.agg #[.int .i64 len, .slice A l.length c], .int .i64 t] w fun e w' => e = .returned (.tuple #[.int .i64 x, .bool q]) ∧ Below w.heap.size w w' := by
  subst h0 h1
  exact rat_b len l A c t w hf
theorem at_ent_no (len : Int) (l : List (List Int)) (A : Option Addr) (c : Nat) (t : Int) (w : World) (hf : FIn w len l A)  (h : atO entB len l t = none) : Calls Try.prog 21 #[.agg #[.int .i64 len, .slice A l.length c], .int .i64 t] w fun e w' => e = .returned (.tuple #[.int .i64 0, .bool false]) ∧ Below w.heap.size w w' := by
  have := at_ent_b len l A c t w hf
  rwa [h] at this
theorem at_ent_yes (len : Int) (l : List (List Int)) (A : Option Addr) (c : Nat) (t : Int) (q : Int) (w : World) (hf : FIn w len l A)  (h : atO entB len l t = some q) : Calls Try.prog 21 #[.agg #[.int .i64 len, .slice A l.length c], .int .i64 t] w fun e w' => e = .returned (.tuple #[.int .i64 q, .bool true]) ∧ Below w.heap.size w w' := by
  have := at_ent_b len l A c t w hf
  rwa [h] at this
theorem renters_no (len : Int) (l : List (List Int)) (A : Option Addr) (c : Nat) (t : Int) (w : World) (hf : FIn w len l A)  (h : atO entB len l t = none) : Calls Try.prog 22 #[.agg #[.int .i64 len, .slice A l.length c], .int .i64 t] w fun e w' => e = .returned (.tuple #[.int .i64 0, .bool false]) ∧ Below w.heap.size w w' := by
  have := renters_b len l A c t w hf
  rwa [h] at this
theorem renters_yes (len : Int) (l : List (List Int)) (A : Option Addr) (c : Nat) (t : Int) (q : Int) (w : World) (hf : FIn w len l A)  (h : atO entB len l t = some q) : Calls Try.prog 22 #[.agg #[.int .i64 len, .slice A l.length c], .int .i64 t] w fun e w' => e = .returned (.tuple #[.int .i64 q, .bool true]) ∧ Below w.heap.size w w' := by
  have := renters_b len l A c t w hf
  rwa [h] at this

/-- What a configuration's frames are, as plain numbers. -/
structure CfgFr (c : Cfg) : Prop where
  wa : wfR [.i64, .i64, .i64] c.win0
  wb : wfR [.i64, .i64, .i64] c.win1
  w0 : (Lit.int .i64 c.len0).wf = true
  w1 : (Lit.int .i64 c.len1).wf = true
  f0 : c.win0.length ≤ 1000000
  f1 : c.win1.length ≤ 1000000
theorem CfgFr.of {c : Cfg} (wx : CfgWf c) (lx : CfgFew c) : CfgFr c := ⟨wx.wa, wx.wb, wx.w0, wx.w1, lx.2.2.1, lx.2.2.2⟩
theorem RowN.only {ks : List IntKind} {w w' : World} {B : Nat} {A : Option Addr} {l : List (List Int)} {S : Nat → Prop} (h : RowN ks w B A l) (hB : B ≤ w.heap.size) (ho : Only S w w') (hA : 0 < l.length → ∀ a, A = some a → ¬ S a.block) : RowN ks w' B A l := fun hn => by
  obtain ⟨b, o, rfl, hlt, hc⟩ := h hn
  refine ⟨b, o, rfl, hlt, fun i x hx j v hv => ?_⟩
  rw [← hc i x hx j v hv]
  simp [World.cell?, ho.block b (by omega) (hA hn _ rfl)]
/-- The clock's block b: the frames' lengths, where their windows lie, the tick. -/
structure ClkAt (w : World) (b : Nat) (c : Cfg) (x : CfgAt) (t : Int) : Prop where
  blk : w.heap[b]? = some (.cells #[.int .i64 c.len0, .slice x.aa c.win0.length x.ac, .int .i64 c.len1, .slice x.ba c.win1.length x.bc, .int .i64 (t)] 52 (0, 0))
  r0 : RowN [.i64, .i64, .i64] w w.heap.size x.aa c.win0
  r1 : RowN [.i64, .i64, .i64] w w.heap.size x.ba c.win1
  o0 : 0 < c.win0.length → ∀ a, x.aa = some a → a.block ≠ b
  o1 : 0 < c.win1.length → ∀ a, x.ba = some a → a.block ≠ b
theorem ClkAt.lt {w : World} {b : Nat} {c : Cfg} {x : CfgAt} {t : Int} (h : ClkAt w b c x t) : b < w.heap.size := (Array.getElem?_eq_some_iff.1 h.blk).1
theorem ClkAt.later {w w' : World} {b : Nat} {c : Cfg} {x : CfgAt} {t : Int} (h : ClkAt w b c x t) (hb : Below w.heap.size w w') : ClkAt w' b c x t :=
  ⟨(hb.block b h.lt).trans h.blk, h.r0.later hb, h.r1.later hb, h.o0, h.o1⟩
theorem ClkAt.fin0 {w : World} {b : Nat} {c : Cfg} {x : CfgAt} {t : Int} (h : ClkAt w b c x t) (hc : CfgFr c) : FIn w c.len0 c.win0 x.aa := ⟨h.r0, hc.wa, hc.f0, hc.w0⟩
theorem ClkAt.fin1 {w : World} {b : Nat} {c : Cfg} {x : CfgAt} {t : Int} (h : ClkAt w b c x t) (hc : CfgFr c) : FIn w c.len1 c.win1 x.ba := ⟨h.r1, hc.wb, hc.f1, hc.w1⟩
theorem ClkAt.frozen {w : World} {b : Nat} {c : Cfg} {x : CfgAt} {t : Int} (h : ClkAt w b c x t) (k : Nat) : w.frozen? ⟨b, k, none⟩ = false := by simp [World.frozen?, h.blk]
theorem ClkAt.tick {w : World} {b : Nat} {c : Cfg} {x : CfgAt} {t : Int} (h : ClkAt w b c x t) (t' : Int) : ClkAt (w.setCell ⟨b, 4, none⟩ (.int .i64 t')) b c x t' := by
  have ho := Only.setCell w ⟨b, 4, none⟩ (.int .i64 t')
  have hs : (w.setCell ⟨b, 4, none⟩ (.int .i64 t')).heap.size = w.heap.size := by simp [World.setCell]
  refine ⟨?_, ?_, ?_, h.o0, h.o1⟩
  · have := h.blk
    simp [World.setCell, Array.getElem?_modify, this]
  · rw [hs]; exact h.r0.only (Nat.le_refl _) ho h.o0
  · rw [hs]; exact h.r1.only (Nat.le_refl _) ho h.o1
theorem now_b (c : Cfg) (x : CfgAt) (b : Nat) (t : Int) (w : World) (h : ClkAt w b c x t) : Calls Try.prog 10 #[.pointer (some ⟨b, 0, none⟩)] w fun e w' => e = .returned (.int .i64 t) ∧ w = w' := by
  have c4 := cell_blk h.blk (i := 4) rfl
  clear h
  go_enter Try.func10, Try.ntmps10
  go_wp2
  go_ret
  exact ⟨rfl, rfl⟩

set_option maxRecDepth 100000 in
set_option maxHeartbeats 1600000 in
theorem who_b (c : Cfg) (x : CfgAt) (b : Nat) (t f y : Int) (q : Bool) (w : World) (h : ClkAt w b c x t) (hc : CfgFr c) (hy : (whoO2 openB c f t).getD 0 = y) (hq : (whoO2 openB c f t).isSome = q) : Calls Try.prog 11 #[.pointer (some ⟨b, 0, none⟩), .int .i64 f] w fun e w' => e = .returned (.tuple #[.int .i64 y, .bool q]) ∧ Below w.heap.size w w' := by
  have c0 : ∀ p : Regrown, (grow (redrawn w p.d) p.os).cell? ⟨b, 0, none⟩ = some (.int .i64 c.len0) := fun p => cell_regrown (cell_blk h.blk (i := 0) rfl) p.d p.os
  have c1 : ∀ p : Regrown, (grow (redrawn w p.d) p.os).cell? ⟨b, 1, none⟩ = some (.slice x.aa c.win0.length x.ac) := fun p => cell_regrown (cell_blk h.blk (i := 1) rfl) p.d p.os
  have c2 : ∀ p : Regrown, (grow (redrawn w p.d) p.os).cell? ⟨b, 2, none⟩ = some (.int .i64 c.len1) := fun p => cell_regrown (cell_blk h.blk (i := 2) rfl) p.d p.os
  have c3 : ∀ p : Regrown, (grow (redrawn w p.d) p.os).cell? ⟨b, 3, none⟩ = some (.slice x.ba c.win1.length x.bc) := fun p => cell_regrown (cell_blk h.blk (i := 3) rfl) p.d p.os
  have c4 : ∀ p : Regrown, (grow (redrawn w p.d) p.os).cell? ⟨b, 4, none⟩ = some (.int .i64 t) := fun p => cell_regrown (cell_blk h.blk (i := 4) rfl) p.d p.os
  have hbc := Below.refl w.heap.size w
  by_cases h0 : f = 0
  · subst h0
    have HA := Lib.hid (fun d os => Calls.regrown_of (at_open_v c.len0 c.win0 x.aa x.ac t y q (grow (redrawn w d) os) ((h.fin0 hc).later (below_regrown w d os)) hy hq))
    clear h hy hq hc
    go_enter Try.func11, Try.ntmps11
    go_wp2_with ((first | with_reducible refine wpList_on hbc ?_ | with_reducible refine wp_on hbc (by kernel_rfl) (by kernel_rfl) ?_); (repeat (go_big_quiet_step (with_reducible exact HA.out _ _))); with_reducible refine wpQuiet_nil ?_; intro wc hbc)
    go_ret2
    exact ⟨rfl, hbc⟩
  · by_cases h1 : f = 1
    · subst h1
      have HA := Lib.hid (fun d os => Calls.regrown_of (at_open_v c.len1 c.win1 x.ba x.bc t y q (grow (redrawn w d) os) ((h.fin1 hc).later (below_regrown w d os)) hy hq))
      clear h hy hq hc h0
      go_enter Try.func11, Try.ntmps11
      go_wp2_with ((first | with_reducible refine wpList_on hbc ?_ | with_reducible refine wp_on hbc (by kernel_rfl) (by kernel_rfl) ?_); (repeat (go_big_quiet_step (with_reducible exact HA.out _ _))); with_reducible refine wpQuiet_nil ?_; intro wc hbc)
      go_ret2
      exact ⟨rfl, hbc⟩
    · unfold whoO2 at hy hq
      rw [if_neg h0, if_neg h1] at hy hq
      have hy2 : y = 0 := hy.symm
      have hq2 : q = false := hq.symm
      subst hy2 hq2
      clear h hy hq hc
      by_cases h2 : f < 0
      · go_enter Try.func11, Try.ntmps11
        go_wp2
        go_ret2
        exact ⟨rfl, hbc⟩
      · have h3 : 2 ≤ f := by omega
        clear h0 h1
        go_enter Try.func11, Try.ntmps11
        go_wp2
        go_ret2
        exact ⟨rfl, hbc⟩
set_option maxRecDepth 100000 in
set_option maxHeartbeats 1600000 in
theorem rwho_b (c : Cfg) (x : CfgAt) (t f y : Int) (q : Bool) (w : World) (hx : CfgIn w w.heap.size c x) (hc : CfgFr c) (hy : (whoO2 openB c f t).getD 0 = y) (hq : (whoO2 openB c f t).isSome = q) : Calls Try.prog 12 #[.agg (cfgCells c x), .int .i64 f, .int .i64 t] w fun e w' => e = .returned (.tuple #[.int .i64 y, .bool q]) ∧ Below w.heap.size w w' := by
  obtain ⟨V, HV, hB, -, bx⟩ := one_cbox w c x 29
  have hx := hx.later hB
  obtain ⟨c0, c1, c2, c3, c4, c5⟩ := bx _ (Below.refl _ _)
  have HB := Lib.hid hB
  simp only [cfgCells] at HV ⊢
  clear hB bx
  by_cases h0 : f = 0
  · subst h0
    have HA := Lib.hid (rat_v c.len0 c.win0 x.aa x.ac t y q V ⟨hx.ra, hc.wa, hc.f0, hc.w0⟩ hy hq)
    clear hx hy hq hc
    go_enter Try.func12, Try.ntmps12
    go_wp2_with (rw [← HV.out])
    refine HA.out.mono ?_
    rintro e w5 ⟨rfl, hb5⟩
    go_wp2
    go_ret2
    exact ⟨rfl, HB.out.trans (hb5.mono HB.out.size)⟩
  · by_cases h1 : f = 1
    · subst h1
      have HA := Lib.hid (rat_v c.len1 c.win1 x.ba x.bc t y q V ⟨hx.rb, hc.wb, hc.f1, hc.w1⟩ hy hq)
      clear hx hy hq hc h0
      go_enter Try.func12, Try.ntmps12
      go_wp2_with (rw [← HV.out])
      refine HA.out.mono ?_
      rintro e w5 ⟨rfl, hb5⟩
      go_wp2
      go_ret2
      exact ⟨rfl, HB.out.trans (hb5.mono HB.out.size)⟩
    · unfold whoO2 at hy hq
      rw [if_neg h0, if_neg h1] at hy hq
      have hy2 : y = 0 := hy.symm
      have hq2 : q = false := hq.symm
      subst hy2 hq2
      clear hx hy hq hc
      by_cases h2 : f < 0
      · go_enter Try.func12, Try.ntmps12
        go_wp2
        go_ret2
        exact ⟨rfl, (Below.refl _ _).alloc (Nat.le_refl _) _⟩
      · have h3 : 1 < f := by omega
        clear h0 h1
        go_enter Try.func12, Try.ntmps12
        go_wp2
        go_ret2
        exact ⟨rfl, (Below.refl _ _).alloc (Nat.le_refl _) _⟩
end Go.Proofs.Ytfpcldkgcifciaa
