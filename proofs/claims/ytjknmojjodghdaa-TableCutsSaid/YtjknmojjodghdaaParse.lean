/- Parse, as a contract. No condition but those in the statements. -/
import Derived.Test.YtjknmojjodghdaaRowsR
import Derived.Test.YtjknmojjodghdaaGreat
import Derived.Laws.EntriesVeiled
namespace Go.Proofs.Ytjknmojjodghdaa
open Go.RowKit Go.Sort Go.ChangeShapes Go.WideShapes
set_option linter.unusedVariables false
set_option linter.unusedSimpArgs false

/-- What words are parsed as. -/
def nP (xs : List Int) : Nat := (xs.getD 0 0).toNat
def nC (xs : List Int) : Nat := (xs.getD 1 0).toNat
def nA (xs : List Int) : Nat := (xs.getD 3 0).toNat
def nB (xs : List Int) : Nat := (xs.getD 5 0).toNat
def countN (xs : List Int) : Nat := 6 + 2 * nP xs + 7 * nC xs + 3 * nA xs + 3 * nB xs
def parseC (xs : List Int) : Cfg := ⟨rowsAt xs 6 2 (nP xs), rowsAt xs (6 + 2 * nP xs) 7 (nC xs), xs.getD 2 0, rowsAt xs (6 + 2 * nP xs + 7 * nC xs) 3 (nA xs), xs.getD 4 0, rowsAt xs (6 + 2 * nP xs + 7 * nC xs + 3 * nA xs) 3 (nB xs)⟩
def noCfg : Cfg := ⟨[], [], 0, [], 0, []⟩
def noAt : CfgAt := ⟨none, 0, none, 0, none, 0, none, 0⟩
def manyB (xs : List Int) : Bool := decide (64 < max4 (xs.getD 0 0) (xs.getD 1 0) (xs.getD 3 0) (xs.getD 5 0))
def parseE (xs : List Int) : Int := if xs.length < 6 then 8 else if manyB xs = true then 7 else if xs.length < countN xs then 8 else if countN xs < xs.length then 9 else 0
def parseO (xs : List Int) : Cfg := if parseE xs = 0 then parseC xs else noCfg
theorem noCfg_in (w : World) (B : Nat) : CfgIn w B noCfg noAt := ⟨RowN.nil _ _ _ _, RowN.nil _ _ _ _, RowN.nil _ _ _ _, RowN.nil _ _ _ _, by simp [noCfg, noAt, maxLen], by simp [noCfg, noAt, maxLen], by simp [noCfg, noAt, maxLen], by simp [noCfg, noAt, maxLen]⟩
theorem noCfg_wf : CfgWf noCfg := ⟨(fun _ h => by cases h), (fun _ h => by cases h), (fun _ h => by cases h), (fun _ h => by cases h), rfl, rfl⟩
theorem parseC_wf {xs : List Int} (h : wfW xs) : CfgWf (parseC xs) := ⟨rowsAt2_wf h _ _, rowsAt7_wf h _ _, rowsAt3_wf h _ _, rowsAt3_wf h _ _, i64_of_word (wfW_at h 2), i64_of_word (wfW_at h 4)⟩
theorem parseO_wf {xs : List Int} (h : wfW xs) : CfgWf (parseO xs) := by unfold parseO; split; exact parseC_wf h; exact noCfg_wf
/-- A call that hands back a configuration and an error's number, and turns nothing that was there. -/
def GivesCfg (w : World) (c : Cfg) (err : Int) (e : Ending) (w' : World) : Prop := ∃ x : CfgAt, e = .returned (.tuple #[.agg (cfgCells c x), .int .i64 err]) ∧ CfgIn w' w'.heap.size c x ∧ Below w.heap.size w w'
theorem RowN.only {ks : List IntKind} {w w' : World} {B : Nat} {A : Option Addr} {l : List (List Int)} {S : Nat → Prop} (h : RowN ks w B A l) (hB : B ≤ w.heap.size) (ho : Only S w w') (hA : ∀ a, A = some a → ¬ S a.block) : RowN ks w' B A l := fun hn => by
  obtain ⟨b, o, rfl, hlt, hc⟩ := h hn
  refine ⟨b, o, rfl, hlt, fun i x hx j v hv => ?_⟩
  rw [← hc i x hx j v hv]
  simp [World.cell?, ho.block b (by omega) (hA _ rfl)]
/-- The box and the variable that points to it, and the result's block, where k words were read. -/
structure PEnv (w : World) (B b p r : Nat) (xs : List Int) (k : Nat) : Prop where
  box : BoxAt w B b (xs.drop k) (decide (xs.length < k))
  ptr : w.cell? ⟨p, 0, none⟩ = some (.pointer (some ⟨b, 0, none⟩))
  res : w.heap[r]? = some (.cells #[.slice none 0 0, .slice none 0 0, .int .i64 0, .slice none 0 0, .int .i64 0, .slice none 0 0] 31 (0, 0))
  bp : b ≠ p
  br : b ≠ r
  lp : p < w.heap.size
  wf : wfW xs
theorem PEnv.turn {w w' : World} {B b p r : Nat} {xs : List Int} {k k' : Nat} (h : PEnv w B b p r xs k) (hX : BoxAt w' B b (xs.drop k') (decide (xs.length < k'))) (ho : Only (fun j => j = b) w w') : PEnv w' B b p r xs k' := by
  have hs := ho.size
  have c : ∀ j, j < w.heap.size → j ≠ b → w'.cell? ⟨j, 0, none⟩ = w.cell? ⟨j, 0, none⟩ := fun j hj hb => by simp [World.cell?, ho.block j hj hb]
  exact ⟨hX, (c p h.lp h.bp.symm).trans h.ptr, (ho.block r (Array.getElem?_eq_some_iff.1 h.res).1 (fun e => h.br e.symm)).trans h.res, h.bp, h.br, by have := h.lp; omega, h.wf⟩
theorem PEnv.keptB {w w' : World} {B b p r : Nat} {xs : List Int} {k : Nat} (h : PEnv w B b p r xs k) (hb : Below w.heap.size w w') : PEnv w' B b p r xs k := h.turn (h.box.keptB hb) (Only.of_below hb)
theorem pnext_b (B b p r k : Nat) (xs : List Int) (w : World) (h : PEnv w B b p r xs k) : Calls Try.prog 17 #[.pointer (some ⟨b, 0, none⟩)] w fun e w' => e = .returned (.int .u32 (xs.getD k 0)) ∧ PEnv w' B b p r xs (k + 1) ∧ Only (fun j => j = b) w w' :=
  (nextk_b B b k xs w h.box).mono fun _ _ hh => ⟨hh.1, h.turn hh.2.1 hh.2.2, hh.2.2⟩
/-- The error that words are answered by. -/
theorem parseE_six {xs : List Int} (h : xs.length < 6) : parseE xs = 8 := by simp [parseE, h]
theorem parseE_many {xs : List Int} (h : ¬ xs.length < 6) (hm : manyB xs = true) : parseE xs = 7 := by simp [parseE, h, hm]
theorem parseE_short {xs : List Int} (h : ¬ xs.length < 6) (hm : manyB xs = false) (hs : xs.length < countN xs) : parseE xs = 8 := by simp [parseE, h, hm, hs]
theorem parseE_rest {xs : List Int} (h : ¬ xs.length < 6) (hm : manyB xs = false) (hs : countN xs < xs.length) : parseE xs = 9 := by
  have h2 : ¬ xs.length < countN xs := by omega
  simp [parseE, h, hm, hs, h2]
theorem parseE_ok {xs : List Int} (h : ¬ xs.length < 6) (hm : manyB xs = false) (hs : xs.length = countN xs) : parseE xs = 0 := by
  have h2 : ¬ xs.length < countN xs := by omega
  have h3 : ¬ countN xs < xs.length := by omega
  simp [parseE, h, hm, h2, h3]
theorem parseO_no {xs : List Int} (h : parseE xs ≠ 0) : parseO xs = noCfg := by simp [parseO, h]
theorem parseO_yes {xs : List Int} (h : parseE xs = 0) : parseO xs = parseC xs := by simp [parseO, h]

theorem fin_no (xs : List Int) (err : Int) (w u wf : World) (he : parseE xs = err) (h0 : err ≠ 0) (ho : Below w.heap.size w u) (hf : Only (fun j => j = w.heap.size) u wf) : GivesCfg w (parseO xs) (parseE xs) (.returned (.tuple #[.agg #[.slice none 0 0, .slice none 0 0, .int .i64 0, .slice none 0 0, .int .i64 0, .slice none 0 0], .int .i64 err])) wf := by
  refine ⟨noAt, ?_, ?_, ho.trans (hf.below ho.size (fun k hk => by omega))⟩
  · rw [parseO_no (by rw [he]; exact h0), he]; rfl
  · rw [parseO_no (by rw [he]; exact h0)]; exact noCfg_in _ _

theorem max4_le {a b c d : Int} (h : ¬ 64 < max4 a b c d) : a ≤ 64 ∧ b ≤ 64 ∧ c ≤ 64 ∧ d ≤ 64 := by unfold max4 at h; omega
theorem done_is (B b : Nat) (xs : List Int) (sh v : Bool) (w : World) (h : BoxAt w B b xs sh) (hv : (xs.isEmpty && !sh) = v) : Calls Try.prog 25 #[.pointer (some ⟨b, 0, none⟩)] w fun e w' => e = .returned (.bool v) ∧ w = w' := by subst hv; exact done_b B b xs sh w h

set_option maxRecDepth 100000 in
set_option maxHeartbeats 8000000 in
theorem parse_head (xs : List Int) (A : Option Addr) (c : Nat) (w : World) (h1 : xs.length ≤ c) (h2 : c ≤ maxLen) (h3 : IntRowK .u32 w w.heap.size A xs) (h4 : A = none → xs = []) (hw : wfW xs) :
    Calls Try.prog 9 #[.slice A xs.length c] w (GivesCfg w (parseO xs) (parseE xs)) := by
  obtain ⟨u0, HU⟩ : ∃ u0, Hid (u0 = ((w.alloc (.cells #[.slice none 0 0, .slice none 0 0, .int .i64 0, .slice none 0 0, .int .i64 0, .slice none 0 0] 31)).alloc (.cells #[.slice A xs.length c, .bool false] 47)).alloc (.cells #[.pointer (some ⟨w.heap.size + 1, 0, none⟩)] 45)) := ⟨_, rfl⟩
  have hb1 : Below w.heap.size w (w.alloc (.cells #[.slice none 0 0, .slice none 0 0, .int .i64 0, .slice none 0 0, .int .i64 0, .slice none 0 0] 31)) := (Below.refl _ _).alloc (Nat.le_refl _) _
  have hbox : BoxAt ((w.alloc (.cells #[.slice none 0 0, .slice none 0 0, .int .i64 0, .slice none 0 0, .int .i64 0, .slice none 0 0] 31)).alloc (.cells #[.slice A xs.length c, .bool false] 47)) w.heap.size (w.alloc (.cells #[.slice none 0 0, .slice none 0 0, .int .i64 0, .slice none 0 0, .int .i64 0, .slice none 0 0] 31)).heap.size xs false :=
    ⟨by simp, A, c, heap_alloc_new _ _, h1, h2, h3.below (hb1.alloc (by simp) _), h4⟩
  rw [World.size_alloc] at hbox
  have hbU : Below w.heap.size w u0 := by rw [HU.out]; exact (hb1.alloc (by simp) _).alloc (by simp; omega) _
  have hP0 : PEnv u0 w.heap.size (w.heap.size + 1) (w.heap.size + 1 + 1) w.heap.size xs 0 := by
    rw [HU.out]
    refine ⟨?_, ?_, ?_, by omega, by omega, by simp, hw⟩
    · have := hbox.keptB ((Below.refl _ _).alloc (Nat.le_refl _) (.cells #[.pointer (some ⟨w.heap.size + 1, 0, none⟩)] 45))
      simpa using this
    · have h := cell_blk (heap_alloc_new ((w.alloc (.cells #[.slice none 0 0, .slice none 0 0, .int .i64 0, .slice none 0 0, .int .i64 0, .slice none 0 0] 31)).alloc (.cells #[.slice A xs.length c, .bool false] 47)) (.cells #[.pointer (some ⟨w.heap.size + 1, 0, none⟩)] 45)) (i := 0) rfl
      rw [World.size_alloc, World.size_alloc] at h
      exact h
    · have h := heap_alloc_new w (.cells #[.slice none 0 0, .slice none 0 0, .int .i64 0, .slice none 0 0, .int .i64 0, .slice none 0 0] 31)
      rw [Below.heap_alloc _ _ _ (by simp; omega), Below.heap_alloc _ _ _ (by simp)]
      exact h
  have hT0 : Only (fun j => j = w.heap.size + 1) w u0 := Only.of_below hbU
  clear hbox hb1 hbU
  go_enter Try.func9, Try.ntmps9
  go_wp2_with fail
  rw [← HU.out]
  have hQ0 := hP0.keptB ((Below.refl _ _).drew)
  have hD0 := Only.of_below (S := fun j => j = w.heap.size + 1) ((Below.refl u0.heap.size u0).drew)
  refine wp_region_held_drew (S := (fun W' => W'.cell? ⟨w.heap.size + 1 + 1, 0, none⟩ = some (.pointer (some ⟨w.heap.size + 1, 0, none⟩)))) (by kernel_rfl) (hQ0.ptr) (fun hHeld => ?_)
  refine wpAnyH_take (i := 0) rfl (by kernel_rfl) (by kernel_rfl) (by kernel_rfl) (fun _ _ _ h => h) (Or.inl ⟨by rfl, by intro w hSw; (go_simp <;> with_reducible rfl)⟩) (by assumption) ?_
  (try simp only [Act.put, List.setIfInBounds_toArray, List.set_cons_zero, List.set_cons_succ, List.getElem_toArray, List.getElem_cons_zero, List.getElem_cons_succ])
  refine wpAnyH_take (i := 2) rfl (by kernel_rfl) (by kernel_rfl) (by kernel_rfl) (fun _ _ _ h => h) (Or.inl ⟨by rfl, by intro w hSw; (go_simp <;> with_reducible rfl)⟩) (by assumption) ?_
  (try simp only [Act.put, List.setIfInBounds_toArray, List.set_cons_zero, List.set_cons_succ, List.getElem_toArray, List.getElem_cons_zero, List.getElem_cons_succ])
  refine wpAnyH_ready (rs := [1]) (by kernel_rfl) (by simp) (AllReadyH.cons rfl (fun K hK => ?_) AllReadyH.nil)
  go_simp
  refine (pnext_b _ _ _ _ 0 xs _ hQ0).mono ?_
  rintro e v1 ⟨rfl, hQ1, hO1⟩
  generalize hx : xs.getD 0 0 = x0
  have HX0 := Lib.hid hx
  clear hx
  refine hK.out _ _ (hQ1.ptr) (fun hHeld => ?_)
  clear hK K
  (try simp only [Act.put, List.setIfInBounds_toArray, List.set_cons_zero, List.set_cons_succ, List.getElem_toArray, List.getElem_cons_zero, List.getElem_cons_succ])
  refine wpAnyH_ready (rs := [3]) (by kernel_rfl) (by simp) (AllReadyH.cons rfl (fun K hK => ?_) AllReadyH.nil)
  go_simp
  refine (pnext_b _ _ _ _ 1 xs _ hQ1).mono ?_
  rintro e v2 ⟨rfl, hQ2, hO2⟩
  generalize hx : xs.getD 1 0 = x1
  have HX1 := Lib.hid hx
  clear hx
  refine hK.out _ _ (hQ2.ptr) (fun hHeld => ?_)
  clear hK K
  (try simp only [Act.put, List.setIfInBounds_toArray, List.set_cons_zero, List.set_cons_succ, List.getElem_toArray, List.getElem_cons_zero, List.getElem_cons_succ])
  refine wpAnyH_take (i := 4) rfl (by kernel_rfl) (by kernel_rfl) (by kernel_rfl) (fun _ _ _ h => h) (Or.inl ⟨by rfl, by intro w hSw; (go_simp <;> with_reducible rfl)⟩) (by assumption) ?_
  (try simp only [Act.put, List.setIfInBounds_toArray, List.set_cons_zero, List.set_cons_succ, List.getElem_toArray, List.getElem_cons_zero, List.getElem_cons_succ])
  refine wpAnyH_take (i := 5) rfl (by kernel_rfl) (by kernel_rfl) (by kernel_rfl) (fun _ _ _ h => h) (Or.inl ⟨by rfl, by intro w hSw; (go_simp <;> with_reducible rfl)⟩) (by assumption) ?_
  (try simp only [Act.put, List.setIfInBounds_toArray, List.set_cons_zero, List.set_cons_succ, List.getElem_toArray, List.getElem_cons_zero, List.getElem_cons_succ])
  refine wpAnyH_done (by kernel_rfl) ?_ _
  have hP2 := hQ2
  have hT2 := hT0.trans ((hD0.trans hO1).trans hO2)
  clear hP0 hQ0 hQ1 hD0 hO1 hO2 hT0 hQ2
  obtain ⟨u2, hu⟩ : ∃ u, u = v2 := ⟨_, rfl⟩
  subst hu
  go_wp2_with fail
  have hQ2 := hP2.keptB ((Below.refl _ _).drew)
  have hD2 := Only.of_below (S := fun j => j = w.heap.size + 1) ((Below.refl u2.heap.size u2).drew)
  refine wp_region_held_drew (S := (fun W' => W'.cell? ⟨w.heap.size + 1 + 1, 0, none⟩ = some (.pointer (some ⟨w.heap.size + 1, 0, none⟩)))) (by kernel_rfl) (hQ2.ptr) (fun hHeld => ?_)
  refine wpAnyH_take (i := 0) rfl (by kernel_rfl) (by kernel_rfl) (by kernel_rfl) (fun _ _ _ h => h) (Or.inl ⟨by rfl, by intro w hSw; (go_simp <;> with_reducible rfl)⟩) (by assumption) ?_
  (try simp only [Act.put, List.setIfInBounds_toArray, List.set_cons_zero, List.set_cons_succ, List.getElem_toArray, List.getElem_cons_zero, List.getElem_cons_succ])
  refine wpAnyH_take (i := 2) rfl (by kernel_rfl) (by kernel_rfl) (by kernel_rfl) (fun _ _ _ h => h) (Or.inl ⟨by rfl, by intro w hSw; (go_simp <;> with_reducible rfl)⟩) (by assumption) ?_
  (try simp only [Act.put, List.setIfInBounds_toArray, List.set_cons_zero, List.set_cons_succ, List.getElem_toArray, List.getElem_cons_zero, List.getElem_cons_succ])
  refine wpAnyH_ready (rs := [1]) (by kernel_rfl) (by simp) (AllReadyH.cons rfl (fun K hK => ?_) AllReadyH.nil)
  go_simp
  refine (pnext_b _ _ _ _ 2 xs _ hQ2).mono ?_
  rintro e v3 ⟨rfl, hQ3, hO3⟩
  generalize hx : xs.getD 2 0 = x2
  have HX2 := Lib.hid hx
  clear hx
  refine hK.out _ _ (hQ3.ptr) (fun hHeld => ?_)
  clear hK K
  (try simp only [Act.put, List.setIfInBounds_toArray, List.set_cons_zero, List.set_cons_succ, List.getElem_toArray, List.getElem_cons_zero, List.getElem_cons_succ])
  refine wpAnyH_ready (rs := [3]) (by kernel_rfl) (by simp) (AllReadyH.cons rfl (fun K hK => ?_) AllReadyH.nil)
  go_simp
  refine (pnext_b _ _ _ _ 3 xs _ hQ3).mono ?_
  rintro e v4 ⟨rfl, hQ4, hO4⟩
  generalize hx : xs.getD 3 0 = x3
  have HX3 := Lib.hid hx
  clear hx
  refine hK.out _ _ (hQ4.ptr) (fun hHeld => ?_)
  clear hK K
  (try simp only [Act.put, List.setIfInBounds_toArray, List.set_cons_zero, List.set_cons_succ, List.getElem_toArray, List.getElem_cons_zero, List.getElem_cons_succ])
  refine wpAnyH_take (i := 4) rfl (by kernel_rfl) (by kernel_rfl) (by kernel_rfl) (fun _ _ _ h => h) (Or.inl ⟨by rfl, by intro w hSw; (go_simp <;> with_reducible rfl)⟩) (by assumption) ?_
  (try simp only [Act.put, List.setIfInBounds_toArray, List.set_cons_zero, List.set_cons_succ, List.getElem_toArray, List.getElem_cons_zero, List.getElem_cons_succ])
  refine wpAnyH_take (i := 5) rfl (by kernel_rfl) (by kernel_rfl) (by kernel_rfl) (fun _ _ _ h => h) (Or.inl ⟨by rfl, by intro w hSw; (go_simp <;> with_reducible rfl)⟩) (by assumption) ?_
  (try simp only [Act.put, List.setIfInBounds_toArray, List.set_cons_zero, List.set_cons_succ, List.getElem_toArray, List.getElem_cons_zero, List.getElem_cons_succ])
  refine wpAnyH_done (by kernel_rfl) ?_ _
  have hP4 := hQ4
  have hT4 := hT2.trans ((hD2.trans hO3).trans hO4)
  clear hP2 hQ2 hQ3 hD2 hO3 hO4 hT2 hQ4
  obtain ⟨u4, hu⟩ : ∃ u, u = v4 := ⟨_, rfl⟩
  subst hu
  go_wp2_with fail
  have hQ4 := hP4.keptB ((Below.refl _ _).drew)
  have hD4 := Only.of_below (S := fun j => j = w.heap.size + 1) ((Below.refl u4.heap.size u4).drew)
  refine wp_region_held_drew (S := (fun W' => W'.cell? ⟨w.heap.size + 1 + 1, 0, none⟩ = some (.pointer (some ⟨w.heap.size + 1, 0, none⟩)))) (by kernel_rfl) (hQ4.ptr) (fun hHeld => ?_)
  refine wpAnyH_take (i := 0) rfl (by kernel_rfl) (by kernel_rfl) (by kernel_rfl) (fun _ _ _ h => h) (Or.inl ⟨by rfl, by intro w hSw; (go_simp <;> with_reducible rfl)⟩) (by assumption) ?_
  (try simp only [Act.put, List.setIfInBounds_toArray, List.set_cons_zero, List.set_cons_succ, List.getElem_toArray, List.getElem_cons_zero, List.getElem_cons_succ])
  refine wpAnyH_take (i := 2) rfl (by kernel_rfl) (by kernel_rfl) (by kernel_rfl) (fun _ _ _ h => h) (Or.inl ⟨by rfl, by intro w hSw; (go_simp <;> with_reducible rfl)⟩) (by assumption) ?_
  (try simp only [Act.put, List.setIfInBounds_toArray, List.set_cons_zero, List.set_cons_succ, List.getElem_toArray, List.getElem_cons_zero, List.getElem_cons_succ])
  refine wpAnyH_ready (rs := [1]) (by kernel_rfl) (by simp) (AllReadyH.cons rfl (fun K hK => ?_) AllReadyH.nil)
  go_simp
  refine (pnext_b _ _ _ _ 4 xs _ hQ4).mono ?_
  rintro e v5 ⟨rfl, hQ5, hO5⟩
  generalize hx : xs.getD 4 0 = x4
  have HX4 := Lib.hid hx
  clear hx
  refine hK.out _ _ (hQ5.ptr) (fun hHeld => ?_)
  clear hK K
  (try simp only [Act.put, List.setIfInBounds_toArray, List.set_cons_zero, List.set_cons_succ, List.getElem_toArray, List.getElem_cons_zero, List.getElem_cons_succ])
  refine wpAnyH_ready (rs := [3]) (by kernel_rfl) (by simp) (AllReadyH.cons rfl (fun K hK => ?_) AllReadyH.nil)
  go_simp
  refine (pnext_b _ _ _ _ 5 xs _ hQ5).mono ?_
  rintro e v6 ⟨rfl, hQ6, hO6⟩
  generalize hx : xs.getD 5 0 = x5
  have HX5 := Lib.hid hx
  clear hx
  refine hK.out _ _ (hQ6.ptr) (fun hHeld => ?_)
  clear hK K
  (try simp only [Act.put, List.setIfInBounds_toArray, List.set_cons_zero, List.set_cons_succ, List.getElem_toArray, List.getElem_cons_zero, List.getElem_cons_succ])
  refine wpAnyH_take (i := 4) rfl (by kernel_rfl) (by kernel_rfl) (by kernel_rfl) (fun _ _ _ h => h) (Or.inl ⟨by rfl, by intro w hSw; (go_simp <;> with_reducible rfl)⟩) (by assumption) ?_
  (try simp only [Act.put, List.setIfInBounds_toArray, List.set_cons_zero, List.set_cons_succ, List.getElem_toArray, List.getElem_cons_zero, List.getElem_cons_succ])
  refine wpAnyH_take (i := 5) rfl (by kernel_rfl) (by kernel_rfl) (by kernel_rfl) (fun _ _ _ h => h) (Or.inl ⟨by rfl, by intro w hSw; (go_simp <;> with_reducible rfl)⟩) (by assumption) ?_
  (try simp only [Act.put, List.setIfInBounds_toArray, List.set_cons_zero, List.set_cons_succ, List.getElem_toArray, List.getElem_cons_zero, List.getElem_cons_succ])
  refine wpAnyH_done (by kernel_rfl) ?_ _
  have hP6 := hQ6
  have hT6 := hT4.trans ((hD4.trans hO5).trans hO6)
  clear hP4 hQ4 hQ5 hD4 hO5 hO6 hT4 hQ6
  obtain ⟨u6, hu⟩ : ∃ u, u = v6 := ⟨_, rfl⟩
  subst hu
  have hbel : Below w.heap.size w u6 := hT6.below (Nat.le_refl _) (fun k hk => by omega)
  by_cases hlen : xs.length < 6
  · have hbx := hP6.box
    rw [decide_eq_true hlen] at hbx
    obtain ⟨_, A6, c6, hb6, _⟩ := hbx
    have d0 := hP6.ptr
    have d1 := cell_blk hb6 (i := 1) rfl
    have HBEL := Lib.hid hbel
    clear hb6 hbel
    have hres := hP6.res
    have z0 : u6.cell? ⟨w.heap.size, 0, none⟩ = some (.slice none 0 0) := cell_blk hres rfl
    have z1 : u6.cell? ⟨w.heap.size, 1, none⟩ = some (.slice none 0 0) := cell_blk hres rfl
    have z2 : u6.cell? ⟨w.heap.size, 2, none⟩ = some (.int .i64 0) := cell_blk hres rfl
    have z3 : u6.cell? ⟨w.heap.size, 3, none⟩ = some (.slice none 0 0) := cell_blk hres rfl
    have z4 : u6.cell? ⟨w.heap.size, 4, none⟩ = some (.int .i64 0) := cell_blk hres rfl
    have z5 : u6.cell? ⟨w.heap.size, 5, none⟩ = some (.slice none 0 0) := cell_blk hres rfl
    have f0 : u6.frozen? ⟨w.heap.size, 0, none⟩ = false := by simp [World.frozen?, hres]
    have f1 : u6.frozen? ⟨w.heap.size, 1, none⟩ = false := by simp [World.frozen?, hres]
    have f2 : u6.frozen? ⟨w.heap.size, 2, none⟩ = false := by simp [World.frozen?, hres]
    have f3 : u6.frozen? ⟨w.heap.size, 3, none⟩ = false := by simp [World.frozen?, hres]
    have f4 : u6.frozen? ⟨w.heap.size, 4, none⟩ = false := by simp [World.frozen?, hres]
    have f5 : u6.frozen? ⟨w.heap.size, 5, none⟩ = false := by simp [World.frozen?, hres]
    have HE := Lib.hid (show parseE xs = 8 from parseE_six hlen)
    have HP := Lib.hid hP6; have HT := Lib.hid hT6
    clear hres hP6 hT6
    go_wp2
    generalize hwf : ((((((u6.setCell ⟨w.heap.size, 0, none⟩ (.slice none 0 0)).setCell ⟨w.heap.size, 1, none⟩ (.slice none 0 0)).setCell ⟨w.heap.size, 2, none⟩ (.int .i64 0)).setCell ⟨w.heap.size, 3, none⟩ (.slice none 0 0)).setCell ⟨w.heap.size, 4, none⟩ (.int .i64 0)).setCell ⟨w.heap.size, 5, none⟩ (.slice none 0 0)) = wf
    have hfin : wf.heap[w.heap.size]? = some (.cells #[.slice none 0 0, .slice none 0 0, .int .i64 0, .slice none 0 0, .int .i64 0, .slice none 0 0] 31 (0, 0)) := by rw [← hwf]; simp [World.setCell, Array.getElem?_modify, HP.out.res]
    have y0 : wf.cell? ⟨w.heap.size, 0, none⟩ = some (.slice none 0 0) := cell_blk hfin rfl
    have y1 : wf.cell? ⟨w.heap.size, 1, none⟩ = some (.slice none 0 0) := cell_blk hfin rfl
    have y2 : wf.cell? ⟨w.heap.size, 2, none⟩ = some (.int .i64 0) := cell_blk hfin rfl
    have y3 : wf.cell? ⟨w.heap.size, 3, none⟩ = some (.slice none 0 0) := cell_blk hfin rfl
    have y4 : wf.cell? ⟨w.heap.size, 4, none⟩ = some (.int .i64 0) := cell_blk hfin rfl
    have y5 : wf.cell? ⟨w.heap.size, 5, none⟩ = some (.slice none 0 0) := cell_blk hfin rfl
    have hF : Only (fun j => j = w.heap.size) u6 wf := by rw [← hwf]; exact (((((Only.setCell _ ⟨w.heap.size, 0, none⟩ _).trans (Only.setCell _ ⟨w.heap.size, 1, none⟩ _)).trans (Only.setCell _ ⟨w.heap.size, 2, none⟩ _)).trans (Only.setCell _ ⟨w.heap.size, 3, none⟩ _)).trans (Only.setCell _ ⟨w.heap.size, 4, none⟩ _)).trans (Only.setCell _ ⟨w.heap.size, 5, none⟩ _)
    exact bodyPost_ret (v := .tuple #[.agg #[.slice none 0 0, .slice none 0 0, .int .i64 0, .slice none 0 0, .int .i64 0, .slice none 0 0], .int .i64 8]) (by simp [results, Try.results9, go_sem, y0, y1, y2, y3, y4, y5]) rfl (fin_no xs 8 w u6 wf HE.out (by decide) HBEL.out hF)
  · have hbx := hP6.box
    have D0 := hP6.ptr
    rw [decide_eq_false hlen] at hbx
    obtain ⟨_, A6, c6, hb6, _⟩ := hbx
    have d1 := cell_blk hb6 (i := 1) rfl
    have d0 := D0
    have hm := max4_run (P := Try.prog) #[43, 43, 43, 43] 43 .u32 x0 x1 x3 x5
    have HM := Lib.hid (show manyB xs = decide (64 < max4 x0 x1 x3 x5) by unfold manyB; rw [HX0.out, HX1.out, HX3.out, HX5.out])
    have hle := @max4_le x0 x1 x3 x5
    obtain ⟨M, hM⟩ : ∃ M, max4 x0 x1 x3 x5 = M := ⟨_, rfl⟩
    rw [hM] at hm HM hle
    clear hM hb6
    by_cases hmany : 64 < M
    · have HBEL := Lib.hid hbel
      clear hbel hle
      have hres := hP6.res
      have z0 : u6.cell? ⟨w.heap.size, 0, none⟩ = some (.slice none 0 0) := cell_blk hres rfl
      have z1 : u6.cell? ⟨w.heap.size, 1, none⟩ = some (.slice none 0 0) := cell_blk hres rfl
      have z2 : u6.cell? ⟨w.heap.size, 2, none⟩ = some (.int .i64 0) := cell_blk hres rfl
      have z3 : u6.cell? ⟨w.heap.size, 3, none⟩ = some (.slice none 0 0) := cell_blk hres rfl
      have z4 : u6.cell? ⟨w.heap.size, 4, none⟩ = some (.int .i64 0) := cell_blk hres rfl
      have z5 : u6.cell? ⟨w.heap.size, 5, none⟩ = some (.slice none 0 0) := cell_blk hres rfl
      have f0 : u6.frozen? ⟨w.heap.size, 0, none⟩ = false := by simp [World.frozen?, hres]
      have f1 : u6.frozen? ⟨w.heap.size, 1, none⟩ = false := by simp [World.frozen?, hres]
      have f2 : u6.frozen? ⟨w.heap.size, 2, none⟩ = false := by simp [World.frozen?, hres]
      have f3 : u6.frozen? ⟨w.heap.size, 3, none⟩ = false := by simp [World.frozen?, hres]
      have f4 : u6.frozen? ⟨w.heap.size, 4, none⟩ = false := by simp [World.frozen?, hres]
      have f5 : u6.frozen? ⟨w.heap.size, 5, none⟩ = false := by simp [World.frozen?, hres]
      have HE := Lib.hid (show parseE xs = 7 from parseE_many hlen (by rw [HM.out]; exact decide_eq_true hmany))
      have HP := Lib.hid hP6; have HT := Lib.hid hT6
      clear hres hP6 hT6
      go_wp2
      generalize hwf : ((((((u6.setCell ⟨w.heap.size, 0, none⟩ (.slice none 0 0)).setCell ⟨w.heap.size, 1, none⟩ (.slice none 0 0)).setCell ⟨w.heap.size, 2, none⟩ (.int .i64 0)).setCell ⟨w.heap.size, 3, none⟩ (.slice none 0 0)).setCell ⟨w.heap.size, 4, none⟩ (.int .i64 0)).setCell ⟨w.heap.size, 5, none⟩ (.slice none 0 0)) = wf
      have hfin : wf.heap[w.heap.size]? = some (.cells #[.slice none 0 0, .slice none 0 0, .int .i64 0, .slice none 0 0, .int .i64 0, .slice none 0 0] 31 (0, 0)) := by rw [← hwf]; simp [World.setCell, Array.getElem?_modify, HP.out.res]
      have y0 : wf.cell? ⟨w.heap.size, 0, none⟩ = some (.slice none 0 0) := cell_blk hfin rfl
      have y1 : wf.cell? ⟨w.heap.size, 1, none⟩ = some (.slice none 0 0) := cell_blk hfin rfl
      have y2 : wf.cell? ⟨w.heap.size, 2, none⟩ = some (.int .i64 0) := cell_blk hfin rfl
      have y3 : wf.cell? ⟨w.heap.size, 3, none⟩ = some (.slice none 0 0) := cell_blk hfin rfl
      have y4 : wf.cell? ⟨w.heap.size, 4, none⟩ = some (.int .i64 0) := cell_blk hfin rfl
      have y5 : wf.cell? ⟨w.heap.size, 5, none⟩ = some (.slice none 0 0) := cell_blk hfin rfl
      have hF : Only (fun j => j = w.heap.size) u6 wf := by rw [← hwf]; exact (((((Only.setCell _ ⟨w.heap.size, 0, none⟩ _).trans (Only.setCell _ ⟨w.heap.size, 1, none⟩ _)).trans (Only.setCell _ ⟨w.heap.size, 2, none⟩ _)).trans (Only.setCell _ ⟨w.heap.size, 3, none⟩ _)).trans (Only.setCell _ ⟨w.heap.size, 4, none⟩ _)).trans (Only.setCell _ ⟨w.heap.size, 5, none⟩ _)
      exact bodyPost_ret (v := .tuple #[.agg #[.slice none 0 0, .slice none 0 0, .int .i64 0, .slice none 0 0, .int .i64 0, .slice none 0 0], .int .i64 7]) (by simp [results, Try.results9, go_sem, y0, y1, y2, y3, y4, y5]) rfl (fin_no xs 7 w u6 wf HE.out (by decide) HBEL.out hF)
    · obtain ⟨b0, b1, b3, b5⟩ := hle hmany
      have HMF := Lib.hid (show manyB xs = false by rw [HM.out]; exact decide_eq_false hmany)
      have w0 := wfW_at hw 0; have w1 := wfW_at hw 1; have w2 := wfW_at hw 2; have w3 := wfW_at hw 3; have w4 := wfW_at hw 4; have w5 := wfW_at hw 5
      rw [HX0.out] at w0; rw [HX1.out] at w1; rw [HX2.out] at w2; rw [HX3.out] at w3; rw [HX4.out] at w4; rw [HX5.out] at w5
      obtain ⟨m0, rfl⟩ := Int.eq_ofNat_of_zero_le w0.1
      obtain ⟨m1, rfl⟩ := Int.eq_ofNat_of_zero_le w1.1
      obtain ⟨m3, rfl⟩ := Int.eq_ofNat_of_zero_le w3.1
      obtain ⟨m5, rfl⟩ := Int.eq_ofNat_of_zero_le w5.1
      have N0 := Lib.hid (show nP xs = m0 by unfold nP; rw [HX0.out]; rfl)
      have N1 := Lib.hid (show nC xs = m1 by unfold nC; rw [HX1.out]; rfl)
      have N3 := Lib.hid (show nA xs = m3 by unfold nA; rw [HX3.out]; rfl)
      have N5 := Lib.hid (show nB xs = m5 by unfold nB; rw [HX5.out]; rfl)
      have HK := Lib.hid (show countN xs = 6 + 2 * m0 + 7 * m1 + 3 * m3 + 3 * m5 by unfold countN; rw [N0.out, N1.out, N3.out, N5.out])
      have HL := Lib.hid hlen
      obtain ⟨l2, u2'⟩ := w2
      obtain ⟨l4, u4'⟩ := w4
      obtain ⟨u7, hu7⟩ : ∃ u7, Hid (u7 = u6.alloc (.cells #[.func (.func 18) #[] #[.pointer (some ⟨w.heap.size + 1 + 1, 0, none⟩)]] 49)) := ⟨_, rfl⟩
      have hb7 : Below u6.heap.size u6 u7 := by rw [hu7.out]; exact (Below.refl _ _).alloc (Nat.le_refl _) _
      have hE7 : Env u7 w.heap.size (w.heap.size + 1) (w.heap.size + 1 + 1) u6.heap.size xs 6 := by
        have h := hP6.keptB hb7
        have hlt := hP6.box.lt
        exact ⟨h.box, h.ptr, by rw [hu7.out]; exact cell_blk (heap_alloc_new _ _) rfl, h.bp, by omega, h.lp, by rw [hu7.out]; simp, hw⟩
      have hres := Lib.hid hP6.res
      have hrl := Lib.hid (Array.getElem?_eq_some_iff.1 hP6.res).1
      have h67 : Only (fun j => j = w.heap.size + 1) u6 u7 := Only.of_below hb7
      have hlt6 := hP6.box.lt
      have hs7 := hb7.size
      clear hb7 hP6 hbel hlen hle HM w0 w1 w3 w5
      go_wp2_with fail
      rw [← hu7.out]
      refine (rows2_b _ _ _ _ 6 m0 xs _ hE7 (by omega)).mono ?_
      rintro e u8 ⟨v8, rfl, hown8, hE8, hO8⟩
      have hwr8 := rowsAt2_wf hw 6 m0
      obtain ⟨L8, hL8⟩ : ∃ L, rowsAt xs 6 2 m0 = L := ⟨_, rfl⟩
      have HL8 := Lib.hid hL8
      rw [hL8] at hown8 hwr8
      obtain ⟨A8, c8, rfl, la8, lb8, hr8, hn8, hb8⟩ := OwnsOff.rowN (ks := [.i64, .i64]) hown8 hwr8
      have HN8 := Lib.hid hn8
      clear hL8 hown8 hwr8 hn8
      go_wp2_with fail
      refine (rows7_b _ _ _ _ (6 + 2 * m0) m1 xs _ hE8 (by omega)).mono ?_
      rintro e u9 ⟨v9, rfl, hown9, hE9, hO9⟩
      have hwr9 := rowsAt7_wf hw (6 + 2 * m0) m1
      obtain ⟨L9, hL9⟩ : ∃ L, rowsAt xs (6 + 2 * m0) 7 m1 = L := ⟨_, rfl⟩
      have HL9 := Lib.hid hL9
      rw [hL9] at hown9 hwr9
      obtain ⟨A9, c9, rfl, la9, lb9, hr9, hn9, hb9⟩ := OwnsOff.rowN (ks := [.i64, .i64, .i64, .i64, .i64, .i64, .u32]) hown9 hwr9
      have HN9 := Lib.hid hn9
      clear hL9 hown9 hwr9 hn9
      go_wp2_with fail
      refine (rows3_b _ _ _ _ (6 + 2 * m0 + 7 * m1) m3 xs _ hE9 (by omega)).mono ?_
      rintro e u10 ⟨v10, rfl, hown10, hE10, hO10⟩
      have hwr10 := rowsAt3_wf hw (6 + 2 * m0 + 7 * m1) m3
      obtain ⟨L10, hL10⟩ : ∃ L, rowsAt xs (6 + 2 * m0 + 7 * m1) 3 m3 = L := ⟨_, rfl⟩
      have HL10 := Lib.hid hL10
      rw [hL10] at hown10 hwr10
      obtain ⟨A10, c10, rfl, la10, lb10, hr10, hn10, hb10⟩ := OwnsOff.rowN (ks := [.i64, .i64, .i64]) hown10 hwr10
      have HN10 := Lib.hid hn10
      clear hL10 hown10 hwr10 hn10
      go_wp2_with fail
      refine (rows3_b _ _ _ _ (6 + 2 * m0 + 7 * m1 + 3 * m3) m5 xs _ hE10 (by omega)).mono ?_
      rintro e u11 ⟨v11, rfl, hown11, hE11, hO11⟩
      have hwr11 := rowsAt3_wf hw (6 + 2 * m0 + 7 * m1 + 3 * m3) m5
      obtain ⟨L11, hL11⟩ : ∃ L, rowsAt xs (6 + 2 * m0 + 7 * m1 + 3 * m3) 3 m5 = L := ⟨_, rfl⟩
      have HL11 := Lib.hid hL11
      rw [hL11] at hown11 hwr11
      obtain ⟨A11, c11, rfl, la11, lb11, hr11, hn11, hb11⟩ := OwnsOff.rowN (ks := [.i64, .i64, .i64]) hown11 hwr11
      have HN11 := Lib.hid hn11
      clear hL11 hown11 hwr11 hn11
      obtain ⟨k, hk⟩ : ∃ k, 6 + 2 * m0 + 7 * m1 + 3 * m3 + 3 * m5 = k := ⟨_, rfl⟩
      rw [hk] at HK hE11
      clear hk
      obtain ⟨uc, huc⟩ : ∃ uc, Hid (uc = u11.alloc (.cells #[.slice A8 L8.length c8, .slice A9 L9.length c9, .int .i64 x2, .slice A10 L10.length c10, .int .i64 x4, .slice A11 L11.length c11] 31)) := ⟨_, rfl⟩
      have hbc : Below u11.heap.size u11 uc := by rw [huc.out]; exact (Below.refl _ _).alloc (Nat.le_refl _) _
      have hEc := hE11.keptB hbc
      have q : uc.heap[u11.heap.size]? = some (.cells #[.slice A8 L8.length c8, .slice A9 L9.length c9, .int .i64 x2, .slice A10 L10.length c10, .int .i64 x4, .slice A11 L11.length c11] 31 (0, 0)) := by rw [huc.out]; exact heap_alloc_new _ _
      have q0 := cell_blk q (i := 0) rfl; have q1 := cell_blk q (i := 1) rfl; have q2 := cell_blk q (i := 2) rfl; have q3 := cell_blk q (i := 3) rfl; have q4 := cell_blk q (i := 4) rfl; have q5 := cell_blk q (i := 5) rfl
      have T7 : Only (fun j => j = w.heap.size + 1) u7 uc := (((hO8.trans hO9).trans hO10).trans hO11).trans (Only.of_below hbc)
      have T6 := h67.trans T7
      have TB := Lib.hid ((hT6.trans T6).below (B := w.heap.size) (Nat.le_refl _) (fun j hj => by omega))
      have hresc := (T6.block w.heap.size hrl.out (by omega)).trans hres.out
      have r8 := Lib.hid (hr8.only (Nat.le_refl _) (((hO9.trans hO10).trans hO11).trans (Only.of_below hbc)) (fun a ha hj => by have := hb8 a ha; omega))
      have r9 := Lib.hid (hr9.only (Nat.le_refl _) ((hO10.trans hO11).trans (Only.of_below hbc)) (fun a ha hj => by have := hb9 a ha; have := hO8.size; omega))
      have r10 := Lib.hid (hr10.only (Nat.le_refl _) (hO11.trans (Only.of_below hbc)) (fun a ha hj => by have := hb10 a ha; have := hO8.size; have := hO9.size; omega))
      have r11 := Lib.hid (hr11.only (Nat.le_refl _) (Only.of_below (S := fun j => j = w.heap.size + 1) hbc) (fun a ha hj => by have := hb11 a ha; have := hO8.size; have := hO9.size; have := hO10.size; omega))
      have s8 := (hO9.trans (hO10.trans hO11)).size; have s9 := (hO10.trans hO11).size; have s10 := hO11.size; have s11 := hbc.size
      have s7 := hO8.size
      have HB8 := Lib.hid hb8
      have HB9 := Lib.hid (fun a ha => Nat.le_trans s7 (hb9 a ha))
      have HB10 := Lib.hid (fun a ha => Nat.le_trans (Nat.le_trans s7 hO9.size) (hb10 a ha))
      have HB11 := Lib.hid (fun a ha => Nat.le_trans (Nat.le_trans s7 (hO9.trans hO10).size) (hb11 a ha))
      have e0 := hEc.ptr
      have e1 := hEc.box
      obtain ⟨_, Ac, cc, hbb, _⟩ := id e1
      have e2 := cell_blk hbb (i := 1) rfl
      have z0 : uc.cell? ⟨w.heap.size, 0, none⟩ = some (.slice none 0 0) := cell_blk hresc rfl
      have z1 : uc.cell? ⟨w.heap.size, 1, none⟩ = some (.slice none 0 0) := cell_blk hresc rfl
      have z2 : uc.cell? ⟨w.heap.size, 2, none⟩ = some (.int .i64 0) := cell_blk hresc rfl
      have z3 : uc.cell? ⟨w.heap.size, 3, none⟩ = some (.slice none 0 0) := cell_blk hresc rfl
      have z4 : uc.cell? ⟨w.heap.size, 4, none⟩ = some (.int .i64 0) := cell_blk hresc rfl
      have z5 : uc.cell? ⟨w.heap.size, 5, none⟩ = some (.slice none 0 0) := cell_blk hresc rfl
      have f0 : uc.frozen? ⟨w.heap.size, 0, none⟩ = false := by simp [World.frozen?, hresc]
      have f1 : uc.frozen? ⟨w.heap.size, 1, none⟩ = false := by simp [World.frozen?, hresc]
      have f2 : uc.frozen? ⟨w.heap.size, 2, none⟩ = false := by simp [World.frozen?, hresc]
      have f3 : uc.frozen? ⟨w.heap.size, 3, none⟩ = false := by simp [World.frozen?, hresc]
      have f4 : uc.frozen? ⟨w.heap.size, 4, none⟩ = false := by simp [World.frozen?, hresc]
      have f5 : uc.frozen? ⟨w.heap.size, 5, none⟩ = false := by simp [World.frozen?, hresc]
      have HRC := Lib.hid hresc
      clear q hbc hE11 hr8 hr9 hr10 hr11 hb8 hb9 hb10 hb11 hO8 hO9 hO10 hO11 T7 T6 h67 hT6 hresc hbb hEc d0 d1 D0 hu7 hres
      by_cases hsh : xs.length < k
      · rw [decide_eq_true hsh] at e2
        have HE := Lib.hid (show parseE xs = 8 from parseE_short HL.out HMF.out (by rw [HK.out]; exact hsh))
        clear e1
        go_wp2_with (rw [← huc.out])
        generalize hwf : ((((((uc.setCell ⟨w.heap.size, 0, none⟩ (.slice none 0 0)).setCell ⟨w.heap.size, 1, none⟩ (.slice none 0 0)).setCell ⟨w.heap.size, 2, none⟩ (.int .i64 0)).setCell ⟨w.heap.size, 3, none⟩ (.slice none 0 0)).setCell ⟨w.heap.size, 4, none⟩ (.int .i64 0)).setCell ⟨w.heap.size, 5, none⟩ (.slice none 0 0)) = wf
        have hfin : wf.heap[w.heap.size]? = some (.cells #[.slice none 0 0, .slice none 0 0, .int .i64 0, .slice none 0 0, .int .i64 0, .slice none 0 0] 31 (0, 0)) := by rw [← hwf]; simp [World.setCell, Array.getElem?_modify, HRC.out]
        have y0 : wf.cell? ⟨w.heap.size, 0, none⟩ = some (.slice none 0 0) := cell_blk hfin rfl
        have y1 : wf.cell? ⟨w.heap.size, 1, none⟩ = some (.slice none 0 0) := cell_blk hfin rfl
        have y2 : wf.cell? ⟨w.heap.size, 2, none⟩ = some (.int .i64 0) := cell_blk hfin rfl
        have y3 : wf.cell? ⟨w.heap.size, 3, none⟩ = some (.slice none 0 0) := cell_blk hfin rfl
        have y4 : wf.cell? ⟨w.heap.size, 4, none⟩ = some (.int .i64 0) := cell_blk hfin rfl
        have y5 : wf.cell? ⟨w.heap.size, 5, none⟩ = some (.slice none 0 0) := cell_blk hfin rfl
        have hF : Only (fun j => j = w.heap.size) uc wf := by rw [← hwf]; exact (((((Only.setCell _ ⟨w.heap.size, 0, none⟩ _).trans (Only.setCell _ ⟨w.heap.size, 1, none⟩ _)).trans (Only.setCell _ ⟨w.heap.size, 2, none⟩ _)).trans (Only.setCell _ ⟨w.heap.size, 3, none⟩ _)).trans (Only.setCell _ ⟨w.heap.size, 4, none⟩ _)).trans (Only.setCell _ ⟨w.heap.size, 5, none⟩ _)
        exact bodyPost_ret (v := .tuple #[.agg #[.slice none 0 0, .slice none 0 0, .int .i64 0, .slice none 0 0, .int .i64 0, .slice none 0 0], .int .i64 8]) (by simp [results, Try.results9, go_sem, y0, y1, y2, y3, y4, y5]) rfl (fin_no xs 8 w uc wf HE.out (by decide) TB.out hF)
      · rw [decide_eq_false hsh] at e1 e2
        go_wp2_with (rw [← huc.out])
        by_cases hrest : k < xs.length
        · have HE := Lib.hid (show parseE xs = 9 from parseE_rest HL.out HMF.out (by rw [HK.out]; exact hrest))
          refine (done_is _ _ (xs.drop k) false false _ e1 (by have : (xs.drop k).isEmpty = false := by (rw [List.isEmpty_eq_false_iff]; intro h; have := congrArg List.length h; simp at this; omega)
                                                               rw [this]; rfl)).mono ?_
          rintro e w' ⟨rfl, rfl⟩
          clear e1
          go_wp2
          generalize hwf : ((((((uc.setCell ⟨w.heap.size, 0, none⟩ (.slice none 0 0)).setCell ⟨w.heap.size, 1, none⟩ (.slice none 0 0)).setCell ⟨w.heap.size, 2, none⟩ (.int .i64 0)).setCell ⟨w.heap.size, 3, none⟩ (.slice none 0 0)).setCell ⟨w.heap.size, 4, none⟩ (.int .i64 0)).setCell ⟨w.heap.size, 5, none⟩ (.slice none 0 0)) = wf
          have hfin : wf.heap[w.heap.size]? = some (.cells #[.slice none 0 0, .slice none 0 0, .int .i64 0, .slice none 0 0, .int .i64 0, .slice none 0 0] 31 (0, 0)) := by rw [← hwf]; simp [World.setCell, Array.getElem?_modify, HRC.out]
          have y0 : wf.cell? ⟨w.heap.size, 0, none⟩ = some (.slice none 0 0) := cell_blk hfin rfl
          have y1 : wf.cell? ⟨w.heap.size, 1, none⟩ = some (.slice none 0 0) := cell_blk hfin rfl
          have y2 : wf.cell? ⟨w.heap.size, 2, none⟩ = some (.int .i64 0) := cell_blk hfin rfl
          have y3 : wf.cell? ⟨w.heap.size, 3, none⟩ = some (.slice none 0 0) := cell_blk hfin rfl
          have y4 : wf.cell? ⟨w.heap.size, 4, none⟩ = some (.int .i64 0) := cell_blk hfin rfl
          have y5 : wf.cell? ⟨w.heap.size, 5, none⟩ = some (.slice none 0 0) := cell_blk hfin rfl
          have hF : Only (fun j => j = w.heap.size) uc wf := by rw [← hwf]; exact (((((Only.setCell _ ⟨w.heap.size, 0, none⟩ _).trans (Only.setCell _ ⟨w.heap.size, 1, none⟩ _)).trans (Only.setCell _ ⟨w.heap.size, 2, none⟩ _)).trans (Only.setCell _ ⟨w.heap.size, 3, none⟩ _)).trans (Only.setCell _ ⟨w.heap.size, 4, none⟩ _)).trans (Only.setCell _ ⟨w.heap.size, 5, none⟩ _)
          exact bodyPost_ret (v := .tuple #[.agg #[.slice none 0 0, .slice none 0 0, .int .i64 0, .slice none 0 0, .int .i64 0, .slice none 0 0], .int .i64 9]) (by simp [results, Try.results9, go_sem, y0, y1, y2, y3, y4, y5]) rfl (fin_no xs 9 w uc wf HE.out (by decide) TB.out hF)
        · have HE := Lib.hid (show parseE xs = 0 from parseE_ok HL.out HMF.out (by rw [HK.out]; omega))
          refine (done_is _ _ (xs.drop k) false true _ e1 (by rw [show xs.drop k = [] from List.drop_eq_nil_of_le (by omega)]; rfl)).mono ?_
          rintro e w' ⟨rfl, rfl⟩
          clear e1
          go_wp2
          generalize hwf : ((((((uc.setCell ⟨w.heap.size, 0, none⟩ (.slice A8 L8.length c8)).setCell ⟨w.heap.size, 1, none⟩ (.slice A9 L9.length c9)).setCell ⟨w.heap.size, 2, none⟩ (.int .i64 x2)).setCell ⟨w.heap.size, 3, none⟩ (.slice A10 L10.length c10)).setCell ⟨w.heap.size, 4, none⟩ (.int .i64 x4)).setCell ⟨w.heap.size, 5, none⟩ (.slice A11 L11.length c11)) = wf
          have hfin : wf.heap[w.heap.size]? = some (.cells #[.slice A8 L8.length c8, .slice A9 L9.length c9, .int .i64 x2, .slice A10 L10.length c10, .int .i64 x4, .slice A11 L11.length c11] 31 (0, 0)) := by rw [← hwf]; simp [World.setCell, Array.getElem?_modify, HRC.out]
          have y0 : wf.cell? ⟨w.heap.size, 0, none⟩ = some (.slice A8 L8.length c8) := cell_blk hfin rfl
          have y1 : wf.cell? ⟨w.heap.size, 1, none⟩ = some (.slice A9 L9.length c9) := cell_blk hfin rfl
          have y2 : wf.cell? ⟨w.heap.size, 2, none⟩ = some (.int .i64 x2) := cell_blk hfin rfl
          have y3 : wf.cell? ⟨w.heap.size, 3, none⟩ = some (.slice A10 L10.length c10) := cell_blk hfin rfl
          have y4 : wf.cell? ⟨w.heap.size, 4, none⟩ = some (.int .i64 x4) := cell_blk hfin rfl
          have y5 : wf.cell? ⟨w.heap.size, 5, none⟩ = some (.slice A11 L11.length c11) := cell_blk hfin rfl
          have hF : Only (fun j => j = w.heap.size) uc wf := by rw [← hwf]; exact (((((Only.setCell _ ⟨w.heap.size, 0, none⟩ _).trans (Only.setCell _ ⟨w.heap.size, 1, none⟩ _)).trans (Only.setCell _ ⟨w.heap.size, 2, none⟩ _)).trans (Only.setCell _ ⟨w.heap.size, 3, none⟩ _)).trans (Only.setCell _ ⟨w.heap.size, 4, none⟩ _)).trans (Only.setCell _ ⟨w.heap.size, 5, none⟩ _)
          have hsf := hF.size
          have HC : parseC xs = ⟨L8, L9, x2, L10, x4, L11⟩ := by unfold parseC; rw [N0.out, N1.out, N3.out, N5.out, HL8.out, HL9.out, HL10.out, HL11.out, HX2.out, HX4.out]
          have hpost : GivesCfg w (parseO xs) (parseE xs) (.returned (.tuple #[.agg #[.slice A8 L8.length c8, .slice A9 L9.length c9, .int .i64 x2, .slice A10 L10.length c10, .int .i64 x4, .slice A11 L11.length c11], .int .i64 0])) wf := by
            rw [parseO_yes HE.out, HE.out, HC]
            exact ⟨⟨A8, c8, A9, c9, A10, c10, A11, c11⟩, rfl, ⟨(r8.out.only (by omega) hF (fun a ha hj => by have := HB8.out a ha; have := hrl.out; omega)).more (by omega), (r9.out.only (by omega) hF (fun a ha hj => by have := HB9.out a ha; have := hrl.out; omega)).more (by omega), (r10.out.only (by omega) hF (fun a ha hj => by have := HB10.out a ha; have := hrl.out; omega)).more (by omega), (r11.out.only (by omega) hF (fun a ha hj => by have := HB11.out a ha; have := hrl.out; omega)).more (by omega), ⟨la8, lb8, HN8.out⟩, ⟨la9, lb9, HN9.out⟩, ⟨la10, lb10, HN10.out⟩, ⟨la11, lb11, HN11.out⟩⟩, TB.out.trans (hF.below TB.out.size (fun k hk => by omega))⟩
          exact bodyPost_ret (v := .tuple #[.agg #[.slice A8 L8.length c8, .slice A9 L9.length c9, .int .i64 x2, .slice A10 L10.length c10, .int .i64 x4, .slice A11 L11.length c11], .int .i64 0]) (by simp [results, Try.results9, go_sem, y0, y1, y2, y3, y4, y5]) rfl hpost
end Go.Proofs.Ytjknmojjodghdaa
