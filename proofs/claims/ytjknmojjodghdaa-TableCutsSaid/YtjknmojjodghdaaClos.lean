/- The closures that read a struct. No condition but those in the statements. -/
import Derived.Test.YtjknmojjodghdaaEnv
namespace Go.Proofs.Ytjknmojjodghdaa
open Go.RowKit Go.Sort Go.ChangeShapes Go.WideShapes
set_option linter.unusedVariables false
set_option linter.unusedSimpArgs false

theorem Env.other {w w' : World} {B b p q r : Nat} {xs : List Int} {k : Nat} (h : Env w B b p q xs k) (ho : Only (fun j => j = r) w w') (hB : B ≤ r) (hb : r ≠ b) (hp : r ≠ p) (hq : r ≠ q) : Env w' B b p q xs k := by
  have hs := ho.size
  have c : ∀ j, j < w.heap.size → j ≠ r → w'.cell? ⟨j, 0, none⟩ = w.cell? ⟨j, 0, none⟩ := fun j hj hb => by simp [World.cell?, ho.block j hj hb]
  exact ⟨h.box.kept ho (fun j hj => by omega) (fun e => hb e.symm), (c p h.lp hp.symm).trans h.ptr, (c q h.lq hq.symm).trans h.num, h.bp, h.bq, by have := h.lp; omega, by have := h.lq; omega, h.wf⟩
theorem Only.new {S : Nat → Prop} {w w1 w2 : World} {r : Nat} (h : Only S w w1) (k : Only (fun j => j = r) w1 w2) (hr : w.heap.size ≤ r) : Only S w w2 :=
  ⟨k.os.trans h.os, k.tape.trans h.tape, k.output.trans h.output, Nat.le_trans h.size k.size, fun j hj hs => (k.block j (Nat.lt_of_lt_of_le hj h.size) (fun e => by omega)).trans (h.block j hj hs)⟩

set_option maxRecDepth 100000 in
set_option maxHeartbeats 4000000 in
theorem part_b (B b p q k : Nat) (xs : List Int) (w : World) (hE : Env w B b p q xs k) : Calls Try.prog 21 #[.pointer (some ⟨q, 0, none⟩)] w (Reads w B b p q xs (k + 2) (.agg #[.int .i64 (xs.getD k 0), .int .i64 (xs.getD (k + 1) 0)])) := by
  obtain ⟨W0, HW0⟩ : ∃ W0, Hid (W0 = w.alloc (.cells #[.int .i64 0, .int .i64 0] 55)) := ⟨_, rfl⟩
  have hbw : Below w.heap.size w W0 := by rw [HW0.out]; exact (Below.refl _ _).alloc (Nat.le_refl _) _
  have hr : W0.heap[w.heap.size]? = some (.cells #[.int .i64 0, .int .i64 0] 55 (0, 0)) := by rw [HW0.out]; exact heap_alloc_new w _
  have hlt : w.heap.size < W0.heap.size := (Array.getElem?_eq_some_iff.1 hr).1
  have hE0 := hE.keptB hbw
  have hrb : w.heap.size ≠ b := by have := hE.box.lt; omega
  have hrp : w.heap.size ≠ p := by have := hE.lp; omega
  have hrq : w.heap.size ≠ q := by have := hE.lq; omega
  have hB : B ≤ w.heap.size := by have := hE.box.lt; have := hE.box.1; omega
  have hE1 := hE0.keptB ((Below.refl W0.heap.size W0).drew)
  clear hE
  go_enter Try.func21, Try.ntmps21
  go_wp2_with fail
  rw [← HW0.out]
  refine wp_region_held_drew (S := (fun W' => W'.cell? ⟨q, 0, none⟩ = some (.func (.func 18) #[] #[.pointer (some ⟨p, 0, none⟩)]))) (by kernel_rfl) ((hE1).num) (fun hHeld => ?_)
  refine wpAnyH_take (i := 0) rfl (by kernel_rfl) (by kernel_rfl) (by kernel_rfl) (fun _ _ _ h => h) (Or.inl ⟨by rfl, by intro w hSw; (go_simp <;> with_reducible rfl)⟩) (by assumption) ?_
  (try simp only [Act.put, List.setIfInBounds_toArray, List.set_cons_zero, List.set_cons_succ, List.getElem_toArray, List.getElem_cons_zero, List.getElem_cons_succ])
  refine wpAnyH_take (i := 2) rfl (by kernel_rfl) (by kernel_rfl) (by kernel_rfl) (fun _ _ _ h => h) (Or.inl ⟨by rfl, by intro w hSw; (go_simp <;> with_reducible rfl)⟩) (by assumption) ?_
  (try simp only [Act.put, List.setIfInBounds_toArray, List.set_cons_zero, List.set_cons_succ, List.getElem_toArray, List.getElem_cons_zero, List.getElem_cons_succ])
  refine wpAnyH_ready (rs := [1]) (by kernel_rfl) (by simp) (AllReadyH.cons rfl (fun K hK => ?_) AllReadyH.nil)
  go_simp
  refine (number_b B b p q k xs _ hE1).mono ?_
  rintro e w1 ⟨rfl, hE2, hO2⟩
  generalize hx : xs.getD k 0 = x0
  have HX0 := Lib.hid hx
  clear hx
  refine hK.out _ _ ((hE2).num) (fun hHeld => ?_)
  clear hK K
  (try simp only [Act.put, List.setIfInBounds_toArray, List.set_cons_zero, List.set_cons_succ, List.getElem_toArray, List.getElem_cons_zero, List.getElem_cons_succ])
  refine wpAnyH_ready (rs := [3]) (by kernel_rfl) (by simp) (AllReadyH.cons rfl (fun K hK => ?_) AllReadyH.nil)
  go_simp
  refine (number_b B b p q (k + 1) xs _ hE2).mono ?_
  rintro e w2 ⟨rfl, hE3, hO3⟩
  generalize hx : xs.getD (k + 1) 0 = x1
  have HX1 := Lib.hid hx
  clear hx
  refine hK.out _ _ ((hE3).num) (fun hHeld => ?_)
  clear hK K
  (try simp only [Act.put, List.setIfInBounds_toArray, List.set_cons_zero, List.set_cons_succ, List.getElem_toArray, List.getElem_cons_zero, List.getElem_cons_succ])
  have hO := (Only.of_below (S := fun j => j = b) ((Below.refl W0.heap.size W0).drew)).trans (hO2.trans hO3)
  have hr2 := (hO.block w.heap.size hlt hrb).trans hr
  have z0 : w2.cell? ⟨w.heap.size, 0, none⟩ = some (.int .i64 0) := cell_blk hr2 rfl
  have f0 : w2.frozen? ⟨w.heap.size, 0, none⟩ = false := by simp [World.frozen?, hr2]
  have z1 : w2.cell? ⟨w.heap.size, 1, none⟩ = some (.int .i64 0) := cell_blk hr2 rfl
  have f1 : w2.frozen? ⟨w.heap.size, 1, none⟩ = false := by simp [World.frozen?, hr2]
  have hr3 := Lib.hid hr2
  clear hr2
  refine wpAnyH_take (i := 4) rfl (by kernel_rfl) (by kernel_rfl) (by kernel_rfl) (fun _ _ _ h => h) (Or.inl ⟨by rfl, by intro w hSw; (go_simp <;> with_reducible rfl)⟩) (by assumption) ?_
  (try simp only [Act.put, List.setIfInBounds_toArray, List.set_cons_zero, List.set_cons_succ, List.getElem_toArray, List.getElem_cons_zero, List.getElem_cons_succ])
  refine wpAnyH_ready (rs := [5]) (by kernel_rfl) (by simp) (AllReadyH.cons rfl (fun K hK => ?_) AllReadyH.nil)
  go_simp
  skip
  refine hK.out _ _ ((hE3.other ((Only.setCell _ ⟨w.heap.size, 0, none⟩ _).trans (Only.setCell _ ⟨w.heap.size, 1, none⟩ _)) hB hrb hrp hrq).num) (fun hHeld => ?_)
  clear hK K
  (try simp only [Act.put, List.setIfInBounds_toArray, List.set_cons_zero, List.set_cons_succ, List.getElem_toArray, List.getElem_cons_zero, List.getElem_cons_succ])
  refine wpAnyH_done (by kernel_rfl) ?_ _
  go_wp2_with fail
  generalize hwf : ((w2.setCell ⟨w.heap.size, 0, none⟩ (.int .i64 x0)).setCell ⟨w.heap.size, 1, none⟩ (.int .i64 x1)) = wf
  have hfin : wf.heap[w.heap.size]? = some (.cells #[.int .i64 x0, .int .i64 x1] 55 (0, 0)) := by rw [← hwf]; simp [World.setCell, Array.getElem?_modify, hr3.out]
  have y0 : wf.cell? ⟨w.heap.size, 0, none⟩ = some (.int .i64 x0) := cell_blk hfin rfl
  have y1 : wf.cell? ⟨w.heap.size, 1, none⟩ = some (.int .i64 x1) := cell_blk hfin rfl
  have hF : Env wf B b p q xs (k + 2) ∧ Only (fun j => j = b) w wf := by
    rw [← hwf]
    exact ⟨hE3.other ((Only.setCell _ ⟨w.heap.size, 0, none⟩ _).trans (Only.setCell _ ⟨w.heap.size, 1, none⟩ _)) hB hrb hrp hrq, ((Only.of_below hbw).trans hO).new ((Only.setCell _ ⟨w.heap.size, 0, none⟩ _).trans (Only.setCell _ ⟨w.heap.size, 1, none⟩ _)) (Nat.le_refl _)⟩
  refine bodyPost_ret (v := .agg #[.int .i64 x0, .int .i64 x1]) (by simp [results, Try.results21, go_sem, y0, y1]) rfl ⟨by rw [← HX0.out, ← HX1.out], hF⟩

set_option maxRecDepth 100000 in
set_option maxHeartbeats 4000000 in
theorem window_b (B b p q k : Nat) (xs : List Int) (w : World) (hE : Env w B b p q xs k) : Calls Try.prog 19 #[.pointer (some ⟨q, 0, none⟩)] w (Reads w B b p q xs (k + 3) (.agg #[.int .i64 (xs.getD k 0), .int .i64 (xs.getD (k + 1) 0), .int .i64 (xs.getD (k + 2) 0)])) := by
  obtain ⟨W0, HW0⟩ : ∃ W0, Hid (W0 = w.alloc (.cells #[.int .i64 0, .int .i64 0, .int .i64 0] 51)) := ⟨_, rfl⟩
  have hbw : Below w.heap.size w W0 := by rw [HW0.out]; exact (Below.refl _ _).alloc (Nat.le_refl _) _
  have hr : W0.heap[w.heap.size]? = some (.cells #[.int .i64 0, .int .i64 0, .int .i64 0] 51 (0, 0)) := by rw [HW0.out]; exact heap_alloc_new w _
  have hlt : w.heap.size < W0.heap.size := (Array.getElem?_eq_some_iff.1 hr).1
  have hE0 := hE.keptB hbw
  have hrb : w.heap.size ≠ b := by have := hE.box.lt; omega
  have hrp : w.heap.size ≠ p := by have := hE.lp; omega
  have hrq : w.heap.size ≠ q := by have := hE.lq; omega
  have hB : B ≤ w.heap.size := by have := hE.box.lt; have := hE.box.1; omega
  have hE1 := hE0.keptB ((Below.refl W0.heap.size W0).drew)
  clear hE
  go_enter Try.func19, Try.ntmps19
  go_wp2_with fail
  rw [← HW0.out]
  refine wp_region_held_drew (S := (fun W' => W'.cell? ⟨q, 0, none⟩ = some (.func (.func 18) #[] #[.pointer (some ⟨p, 0, none⟩)]))) (by kernel_rfl) ((hE1).num) (fun hHeld => ?_)
  refine wpAnyH_take (i := 0) rfl (by kernel_rfl) (by kernel_rfl) (by kernel_rfl) (fun _ _ _ h => h) (Or.inl ⟨by rfl, by intro w hSw; (go_simp <;> with_reducible rfl)⟩) (by assumption) ?_
  (try simp only [Act.put, List.setIfInBounds_toArray, List.set_cons_zero, List.set_cons_succ, List.getElem_toArray, List.getElem_cons_zero, List.getElem_cons_succ])
  refine wpAnyH_take (i := 2) rfl (by kernel_rfl) (by kernel_rfl) (by kernel_rfl) (fun _ _ _ h => h) (Or.inl ⟨by rfl, by intro w hSw; (go_simp <;> with_reducible rfl)⟩) (by assumption) ?_
  (try simp only [Act.put, List.setIfInBounds_toArray, List.set_cons_zero, List.set_cons_succ, List.getElem_toArray, List.getElem_cons_zero, List.getElem_cons_succ])
  refine wpAnyH_take (i := 4) rfl (by kernel_rfl) (by kernel_rfl) (by kernel_rfl) (fun _ _ _ h => h) (Or.inl ⟨by rfl, by intro w hSw; (go_simp <;> with_reducible rfl)⟩) (by assumption) ?_
  (try simp only [Act.put, List.setIfInBounds_toArray, List.set_cons_zero, List.set_cons_succ, List.getElem_toArray, List.getElem_cons_zero, List.getElem_cons_succ])
  refine wpAnyH_ready (rs := [1]) (by kernel_rfl) (by simp) (AllReadyH.cons rfl (fun K hK => ?_) AllReadyH.nil)
  go_simp
  refine (number_b B b p q k xs _ hE1).mono ?_
  rintro e w1 ⟨rfl, hE2, hO2⟩
  generalize hx : xs.getD k 0 = x0
  have HX0 := Lib.hid hx
  clear hx
  refine hK.out _ _ ((hE2).num) (fun hHeld => ?_)
  clear hK K
  (try simp only [Act.put, List.setIfInBounds_toArray, List.set_cons_zero, List.set_cons_succ, List.getElem_toArray, List.getElem_cons_zero, List.getElem_cons_succ])
  refine wpAnyH_ready (rs := [3]) (by kernel_rfl) (by simp) (AllReadyH.cons rfl (fun K hK => ?_) AllReadyH.nil)
  go_simp
  refine (number_b B b p q (k + 1) xs _ hE2).mono ?_
  rintro e w2 ⟨rfl, hE3, hO3⟩
  generalize hx : xs.getD (k + 1) 0 = x1
  have HX1 := Lib.hid hx
  clear hx
  refine hK.out _ _ ((hE3).num) (fun hHeld => ?_)
  clear hK K
  (try simp only [Act.put, List.setIfInBounds_toArray, List.set_cons_zero, List.set_cons_succ, List.getElem_toArray, List.getElem_cons_zero, List.getElem_cons_succ])
  refine wpAnyH_ready (rs := [5]) (by kernel_rfl) (by simp) (AllReadyH.cons rfl (fun K hK => ?_) AllReadyH.nil)
  go_simp
  refine (number_b B b p q (k + 1 + 1) xs _ hE3).mono ?_
  rintro e w3 ⟨rfl, hE4, hO4⟩
  generalize hx : xs.getD (k + 1 + 1) 0 = x2
  have HX2 := Lib.hid hx
  clear hx
  refine hK.out _ _ ((hE4).num) (fun hHeld => ?_)
  clear hK K
  (try simp only [Act.put, List.setIfInBounds_toArray, List.set_cons_zero, List.set_cons_succ, List.getElem_toArray, List.getElem_cons_zero, List.getElem_cons_succ])
  have hO := (Only.of_below (S := fun j => j = b) ((Below.refl W0.heap.size W0).drew)).trans ((hO2.trans hO3).trans hO4)
  have hr2 := (hO.block w.heap.size hlt hrb).trans hr
  have z0 : w3.cell? ⟨w.heap.size, 0, none⟩ = some (.int .i64 0) := cell_blk hr2 rfl
  have f0 : w3.frozen? ⟨w.heap.size, 0, none⟩ = false := by simp [World.frozen?, hr2]
  have z1 : w3.cell? ⟨w.heap.size, 1, none⟩ = some (.int .i64 0) := cell_blk hr2 rfl
  have f1 : w3.frozen? ⟨w.heap.size, 1, none⟩ = false := by simp [World.frozen?, hr2]
  have z2 : w3.cell? ⟨w.heap.size, 2, none⟩ = some (.int .i64 0) := cell_blk hr2 rfl
  have f2 : w3.frozen? ⟨w.heap.size, 2, none⟩ = false := by simp [World.frozen?, hr2]
  have hr3 := Lib.hid hr2
  clear hr2
  refine wpAnyH_take (i := 6) rfl (by kernel_rfl) (by kernel_rfl) (by kernel_rfl) (fun _ _ _ h => h) (Or.inl ⟨by rfl, by intro w hSw; (go_simp <;> with_reducible rfl)⟩) (by assumption) ?_
  (try simp only [Act.put, List.setIfInBounds_toArray, List.set_cons_zero, List.set_cons_succ, List.getElem_toArray, List.getElem_cons_zero, List.getElem_cons_succ])
  refine wpAnyH_ready (rs := [7]) (by kernel_rfl) (by simp) (AllReadyH.cons rfl (fun K hK => ?_) AllReadyH.nil)
  go_simp
  skip
  refine hK.out _ _ ((hE4.other (((Only.setCell _ ⟨w.heap.size, 0, none⟩ _).trans (Only.setCell _ ⟨w.heap.size, 1, none⟩ _)).trans (Only.setCell _ ⟨w.heap.size, 2, none⟩ _)) hB hrb hrp hrq).num) (fun hHeld => ?_)
  clear hK K
  (try simp only [Act.put, List.setIfInBounds_toArray, List.set_cons_zero, List.set_cons_succ, List.getElem_toArray, List.getElem_cons_zero, List.getElem_cons_succ])
  refine wpAnyH_done (by kernel_rfl) ?_ _
  go_wp2_with fail
  generalize hwf : (((w3.setCell ⟨w.heap.size, 0, none⟩ (.int .i64 x0)).setCell ⟨w.heap.size, 1, none⟩ (.int .i64 x1)).setCell ⟨w.heap.size, 2, none⟩ (.int .i64 x2)) = wf
  have hfin : wf.heap[w.heap.size]? = some (.cells #[.int .i64 x0, .int .i64 x1, .int .i64 x2] 51 (0, 0)) := by rw [← hwf]; simp [World.setCell, Array.getElem?_modify, hr3.out]
  have y0 : wf.cell? ⟨w.heap.size, 0, none⟩ = some (.int .i64 x0) := cell_blk hfin rfl
  have y1 : wf.cell? ⟨w.heap.size, 1, none⟩ = some (.int .i64 x1) := cell_blk hfin rfl
  have y2 : wf.cell? ⟨w.heap.size, 2, none⟩ = some (.int .i64 x2) := cell_blk hfin rfl
  have hF : Env wf B b p q xs (k + 3) ∧ Only (fun j => j = b) w wf := by
    rw [← hwf]
    exact ⟨hE4.other (((Only.setCell _ ⟨w.heap.size, 0, none⟩ _).trans (Only.setCell _ ⟨w.heap.size, 1, none⟩ _)).trans (Only.setCell _ ⟨w.heap.size, 2, none⟩ _)) hB hrb hrp hrq, ((Only.of_below hbw).trans hO).new (((Only.setCell _ ⟨w.heap.size, 0, none⟩ _).trans (Only.setCell _ ⟨w.heap.size, 1, none⟩ _)).trans (Only.setCell _ ⟨w.heap.size, 2, none⟩ _)) (Nat.le_refl _)⟩
  refine bodyPost_ret (v := .agg #[.int .i64 x0, .int .i64 x1, .int .i64 x2]) (by simp [results, Try.results19, go_sem, y0, y1, y2]) rfl ⟨by rw [← HX0.out, ← HX1.out, ← HX2.out], hF⟩

set_option maxRecDepth 100000 in
set_option maxHeartbeats 4000000 in
theorem chan_b (B b p q k : Nat) (xs : List Int) (w : World) (hE : Env w B b p q xs k) : Calls Try.prog 23 #[.pointer (some ⟨q, 0, none⟩), .pointer (some ⟨p, 0, none⟩)] w (Reads w B b p q xs (k + 7) (.agg #[.int .i64 (xs.getD k 0), .int .i64 (xs.getD (k + 1) 0), .int .i64 (xs.getD (k + 2) 0), .int .i64 (xs.getD (k + 3) 0), .int .i64 (xs.getD (k + 4) 0), .int .i64 (xs.getD (k + 5) 0), .int .u32 (xs.getD (k + 6) 0)])) := by
  obtain ⟨W0, HW0⟩ : ∃ W0, Hid (W0 = w.alloc (.cells #[.int .i64 0, .int .i64 0, .int .i64 0, .int .i64 0, .int .i64 0, .int .i64 0, .int .u32 0] 59)) := ⟨_, rfl⟩
  have hbw : Below w.heap.size w W0 := by rw [HW0.out]; exact (Below.refl _ _).alloc (Nat.le_refl _) _
  have hr : W0.heap[w.heap.size]? = some (.cells #[.int .i64 0, .int .i64 0, .int .i64 0, .int .i64 0, .int .i64 0, .int .i64 0, .int .u32 0] 59 (0, 0)) := by rw [HW0.out]; exact heap_alloc_new w _
  have hlt : w.heap.size < W0.heap.size := (Array.getElem?_eq_some_iff.1 hr).1
  have hE0 := hE.keptB hbw
  have hrb : w.heap.size ≠ b := by have := hE.box.lt; omega
  have hrp : w.heap.size ≠ p := by have := hE.lp; omega
  have hrq : w.heap.size ≠ q := by have := hE.lq; omega
  have hB : B ≤ w.heap.size := by have := hE.box.lt; have := hE.box.1; omega
  have hE1 := hE0.keptB ((Below.refl W0.heap.size W0).drew)
  clear hE
  go_enter Try.func23, Try.ntmps23
  go_wp2_with fail
  rw [← HW0.out]
  refine wp_region_held_drew (S := (fun W' => W'.cell? ⟨q, 0, none⟩ = some (.func (.func 18) #[] #[.pointer (some ⟨p, 0, none⟩)]) ∧ W'.cell? ⟨p, 0, none⟩ = some (.pointer (some ⟨b, 0, none⟩)))) (by kernel_rfl) (⟨(hE1).num, (hE1).ptr⟩) (fun hHeld => ?_)
  refine wpAnyH_take (i := 0) rfl (by kernel_rfl) (by kernel_rfl) (by kernel_rfl) (fun _ _ _ h => h) (Or.inl ⟨by rfl, by intro w hSw; (go_simp <;> with_reducible rfl)⟩) (by assumption) ?_
  (try simp only [Act.put, List.setIfInBounds_toArray, List.set_cons_zero, List.set_cons_succ, List.getElem_toArray, List.getElem_cons_zero, List.getElem_cons_succ])
  refine wpAnyH_take (i := 2) rfl (by kernel_rfl) (by kernel_rfl) (by kernel_rfl) (fun _ _ _ h => h) (Or.inl ⟨by rfl, by intro w hSw; (go_simp <;> with_reducible rfl)⟩) (by assumption) ?_
  (try simp only [Act.put, List.setIfInBounds_toArray, List.set_cons_zero, List.set_cons_succ, List.getElem_toArray, List.getElem_cons_zero, List.getElem_cons_succ])
  refine wpAnyH_take (i := 4) rfl (by kernel_rfl) (by kernel_rfl) (by kernel_rfl) (fun _ _ _ h => h) (Or.inl ⟨by rfl, by intro w hSw; (go_simp <;> with_reducible rfl)⟩) (by assumption) ?_
  (try simp only [Act.put, List.setIfInBounds_toArray, List.set_cons_zero, List.set_cons_succ, List.getElem_toArray, List.getElem_cons_zero, List.getElem_cons_succ])
  refine wpAnyH_take (i := 6) rfl (by kernel_rfl) (by kernel_rfl) (by kernel_rfl) (fun _ _ _ h => h) (Or.inl ⟨by rfl, by intro w hSw; (go_simp <;> with_reducible rfl)⟩) (by assumption) ?_
  (try simp only [Act.put, List.setIfInBounds_toArray, List.set_cons_zero, List.set_cons_succ, List.getElem_toArray, List.getElem_cons_zero, List.getElem_cons_succ])
  refine wpAnyH_take (i := 8) rfl (by kernel_rfl) (by kernel_rfl) (by kernel_rfl) (fun _ _ _ h => h) (Or.inl ⟨by rfl, by intro w hSw; (go_simp <;> with_reducible rfl)⟩) (by assumption) ?_
  (try simp only [Act.put, List.setIfInBounds_toArray, List.set_cons_zero, List.set_cons_succ, List.getElem_toArray, List.getElem_cons_zero, List.getElem_cons_succ])
  refine wpAnyH_take (i := 10) rfl (by kernel_rfl) (by kernel_rfl) (by kernel_rfl) (fun _ _ _ h => h) (Or.inl ⟨by rfl, by intro w hSw; (go_simp <;> with_reducible rfl)⟩) (by assumption) ?_
  (try simp only [Act.put, List.setIfInBounds_toArray, List.set_cons_zero, List.set_cons_succ, List.getElem_toArray, List.getElem_cons_zero, List.getElem_cons_succ])
  refine wpAnyH_take (i := 12) rfl (by kernel_rfl) (by kernel_rfl) (by kernel_rfl) (fun _ _ _ h => h) (Or.inl ⟨by rfl, by intro w hSw; (go_simp <;> with_reducible rfl)⟩) (by assumption) ?_
  (try simp only [Act.put, List.setIfInBounds_toArray, List.set_cons_zero, List.set_cons_succ, List.getElem_toArray, List.getElem_cons_zero, List.getElem_cons_succ])
  refine wpAnyH_ready (rs := [1]) (by kernel_rfl) (by simp) (AllReadyH.cons rfl (fun K hK => ?_) AllReadyH.nil)
  go_simp
  refine (number_b B b p q k xs _ hE1).mono ?_
  rintro e w1 ⟨rfl, hE2, hO2⟩
  generalize hx : xs.getD k 0 = x0
  have HX0 := Lib.hid hx
  clear hx
  refine hK.out _ _ (⟨(hE2).num, (hE2).ptr⟩) (fun hHeld => ?_)
  clear hK K
  (try simp only [Act.put, List.setIfInBounds_toArray, List.set_cons_zero, List.set_cons_succ, List.getElem_toArray, List.getElem_cons_zero, List.getElem_cons_succ])
  refine wpAnyH_ready (rs := [3]) (by kernel_rfl) (by simp) (AllReadyH.cons rfl (fun K hK => ?_) AllReadyH.nil)
  go_simp
  refine (number_b B b p q (k + 1) xs _ hE2).mono ?_
  rintro e w2 ⟨rfl, hE3, hO3⟩
  generalize hx : xs.getD (k + 1) 0 = x1
  have HX1 := Lib.hid hx
  clear hx
  refine hK.out _ _ (⟨(hE3).num, (hE3).ptr⟩) (fun hHeld => ?_)
  clear hK K
  (try simp only [Act.put, List.setIfInBounds_toArray, List.set_cons_zero, List.set_cons_succ, List.getElem_toArray, List.getElem_cons_zero, List.getElem_cons_succ])
  refine wpAnyH_ready (rs := [5]) (by kernel_rfl) (by simp) (AllReadyH.cons rfl (fun K hK => ?_) AllReadyH.nil)
  go_simp
  refine (number_b B b p q (k + 1 + 1) xs _ hE3).mono ?_
  rintro e w3 ⟨rfl, hE4, hO4⟩
  generalize hx : xs.getD (k + 1 + 1) 0 = x2
  have HX2 := Lib.hid hx
  clear hx
  refine hK.out _ _ (⟨(hE4).num, (hE4).ptr⟩) (fun hHeld => ?_)
  clear hK K
  (try simp only [Act.put, List.setIfInBounds_toArray, List.set_cons_zero, List.set_cons_succ, List.getElem_toArray, List.getElem_cons_zero, List.getElem_cons_succ])
  refine wpAnyH_ready (rs := [7]) (by kernel_rfl) (by simp) (AllReadyH.cons rfl (fun K hK => ?_) AllReadyH.nil)
  go_simp
  refine (number_b B b p q (k + 1 + 1 + 1) xs _ hE4).mono ?_
  rintro e w4 ⟨rfl, hE5, hO5⟩
  generalize hx : xs.getD (k + 1 + 1 + 1) 0 = x3
  have HX3 := Lib.hid hx
  clear hx
  refine hK.out _ _ (⟨(hE5).num, (hE5).ptr⟩) (fun hHeld => ?_)
  clear hK K
  (try simp only [Act.put, List.setIfInBounds_toArray, List.set_cons_zero, List.set_cons_succ, List.getElem_toArray, List.getElem_cons_zero, List.getElem_cons_succ])
  refine wpAnyH_ready (rs := [9]) (by kernel_rfl) (by simp) (AllReadyH.cons rfl (fun K hK => ?_) AllReadyH.nil)
  go_simp
  refine (number_b B b p q (k + 1 + 1 + 1 + 1) xs _ hE5).mono ?_
  rintro e w5 ⟨rfl, hE6, hO6⟩
  generalize hx : xs.getD (k + 1 + 1 + 1 + 1) 0 = x4
  have HX4 := Lib.hid hx
  clear hx
  refine hK.out _ _ (⟨(hE6).num, (hE6).ptr⟩) (fun hHeld => ?_)
  clear hK K
  (try simp only [Act.put, List.setIfInBounds_toArray, List.set_cons_zero, List.set_cons_succ, List.getElem_toArray, List.getElem_cons_zero, List.getElem_cons_succ])
  refine wpAnyH_ready (rs := [11]) (by kernel_rfl) (by simp) (AllReadyH.cons rfl (fun K hK => ?_) AllReadyH.nil)
  go_simp
  refine (number_b B b p q (k + 1 + 1 + 1 + 1 + 1) xs _ hE6).mono ?_
  rintro e w6 ⟨rfl, hE7, hO7⟩
  generalize hx : xs.getD (k + 1 + 1 + 1 + 1 + 1) 0 = x5
  have HX5 := Lib.hid hx
  clear hx
  refine hK.out _ _ (⟨(hE7).num, (hE7).ptr⟩) (fun hHeld => ?_)
  clear hK K
  (try simp only [Act.put, List.setIfInBounds_toArray, List.set_cons_zero, List.set_cons_succ, List.getElem_toArray, List.getElem_cons_zero, List.getElem_cons_succ])
  refine wpAnyH_ready (rs := [13]) (by kernel_rfl) (by simp) (AllReadyH.cons rfl (fun K hK => ?_) AllReadyH.nil)
  go_simp
  refine (enext_b B b p q (k + 1 + 1 + 1 + 1 + 1 + 1) xs _ hE7).mono ?_
  rintro e w7 ⟨rfl, hE8, hO8⟩
  generalize hx : xs.getD (k + 1 + 1 + 1 + 1 + 1 + 1) 0 = x6
  have HX6 := Lib.hid hx
  clear hx
  refine hK.out _ _ (⟨(hE8).num, (hE8).ptr⟩) (fun hHeld => ?_)
  clear hK K
  (try simp only [Act.put, List.setIfInBounds_toArray, List.set_cons_zero, List.set_cons_succ, List.getElem_toArray, List.getElem_cons_zero, List.getElem_cons_succ])
  have hO := (Only.of_below (S := fun j => j = b) ((Below.refl W0.heap.size W0).drew)).trans ((((((hO2.trans hO3).trans hO4).trans hO5).trans hO6).trans hO7).trans hO8)
  have hr2 := (hO.block w.heap.size hlt hrb).trans hr
  have z0 : w7.cell? ⟨w.heap.size, 0, none⟩ = some (.int .i64 0) := cell_blk hr2 rfl
  have f0 : w7.frozen? ⟨w.heap.size, 0, none⟩ = false := by simp [World.frozen?, hr2]
  have z1 : w7.cell? ⟨w.heap.size, 1, none⟩ = some (.int .i64 0) := cell_blk hr2 rfl
  have f1 : w7.frozen? ⟨w.heap.size, 1, none⟩ = false := by simp [World.frozen?, hr2]
  have z2 : w7.cell? ⟨w.heap.size, 2, none⟩ = some (.int .i64 0) := cell_blk hr2 rfl
  have f2 : w7.frozen? ⟨w.heap.size, 2, none⟩ = false := by simp [World.frozen?, hr2]
  have z3 : w7.cell? ⟨w.heap.size, 3, none⟩ = some (.int .i64 0) := cell_blk hr2 rfl
  have f3 : w7.frozen? ⟨w.heap.size, 3, none⟩ = false := by simp [World.frozen?, hr2]
  have z4 : w7.cell? ⟨w.heap.size, 4, none⟩ = some (.int .i64 0) := cell_blk hr2 rfl
  have f4 : w7.frozen? ⟨w.heap.size, 4, none⟩ = false := by simp [World.frozen?, hr2]
  have z5 : w7.cell? ⟨w.heap.size, 5, none⟩ = some (.int .i64 0) := cell_blk hr2 rfl
  have f5 : w7.frozen? ⟨w.heap.size, 5, none⟩ = false := by simp [World.frozen?, hr2]
  have z6 : w7.cell? ⟨w.heap.size, 6, none⟩ = some (.int .u32 0) := cell_blk hr2 rfl
  have f6 : w7.frozen? ⟨w.heap.size, 6, none⟩ = false := by simp [World.frozen?, hr2]
  have hr3 := Lib.hid hr2
  clear hr2
  refine wpAnyH_take (i := 14) rfl (by kernel_rfl) (by kernel_rfl) (by kernel_rfl) (fun _ _ _ h => h) (Or.inl ⟨by rfl, by intro w hSw; (go_simp <;> with_reducible rfl)⟩) (by assumption) ?_
  (try simp only [Act.put, List.setIfInBounds_toArray, List.set_cons_zero, List.set_cons_succ, List.getElem_toArray, List.getElem_cons_zero, List.getElem_cons_succ])
  refine wpAnyH_ready (rs := [15]) (by kernel_rfl) (by simp) (AllReadyH.cons rfl (fun K hK => ?_) AllReadyH.nil)
  go_simp
  skip
  refine hK.out _ _ (⟨(hE8.other (((((((Only.setCell _ ⟨w.heap.size, 0, none⟩ _).trans (Only.setCell _ ⟨w.heap.size, 1, none⟩ _)).trans (Only.setCell _ ⟨w.heap.size, 2, none⟩ _)).trans (Only.setCell _ ⟨w.heap.size, 3, none⟩ _)).trans (Only.setCell _ ⟨w.heap.size, 4, none⟩ _)).trans (Only.setCell _ ⟨w.heap.size, 5, none⟩ _)).trans (Only.setCell _ ⟨w.heap.size, 6, none⟩ _)) hB hrb hrp hrq).num, (hE8.other (((((((Only.setCell _ ⟨w.heap.size, 0, none⟩ _).trans (Only.setCell _ ⟨w.heap.size, 1, none⟩ _)).trans (Only.setCell _ ⟨w.heap.size, 2, none⟩ _)).trans (Only.setCell _ ⟨w.heap.size, 3, none⟩ _)).trans (Only.setCell _ ⟨w.heap.size, 4, none⟩ _)).trans (Only.setCell _ ⟨w.heap.size, 5, none⟩ _)).trans (Only.setCell _ ⟨w.heap.size, 6, none⟩ _)) hB hrb hrp hrq).ptr⟩) (fun hHeld => ?_)
  clear hK K
  (try simp only [Act.put, List.setIfInBounds_toArray, List.set_cons_zero, List.set_cons_succ, List.getElem_toArray, List.getElem_cons_zero, List.getElem_cons_succ])
  refine wpAnyH_done (by kernel_rfl) ?_ _
  go_wp2_with fail
  generalize hwf : (((((((w7.setCell ⟨w.heap.size, 0, none⟩ (.int .i64 x0)).setCell ⟨w.heap.size, 1, none⟩ (.int .i64 x1)).setCell ⟨w.heap.size, 2, none⟩ (.int .i64 x2)).setCell ⟨w.heap.size, 3, none⟩ (.int .i64 x3)).setCell ⟨w.heap.size, 4, none⟩ (.int .i64 x4)).setCell ⟨w.heap.size, 5, none⟩ (.int .i64 x5)).setCell ⟨w.heap.size, 6, none⟩ (.int .u32 x6)) = wf
  have hfin : wf.heap[w.heap.size]? = some (.cells #[.int .i64 x0, .int .i64 x1, .int .i64 x2, .int .i64 x3, .int .i64 x4, .int .i64 x5, .int .u32 x6] 59 (0, 0)) := by rw [← hwf]; simp [World.setCell, Array.getElem?_modify, hr3.out]
  have y0 : wf.cell? ⟨w.heap.size, 0, none⟩ = some (.int .i64 x0) := cell_blk hfin rfl
  have y1 : wf.cell? ⟨w.heap.size, 1, none⟩ = some (.int .i64 x1) := cell_blk hfin rfl
  have y2 : wf.cell? ⟨w.heap.size, 2, none⟩ = some (.int .i64 x2) := cell_blk hfin rfl
  have y3 : wf.cell? ⟨w.heap.size, 3, none⟩ = some (.int .i64 x3) := cell_blk hfin rfl
  have y4 : wf.cell? ⟨w.heap.size, 4, none⟩ = some (.int .i64 x4) := cell_blk hfin rfl
  have y5 : wf.cell? ⟨w.heap.size, 5, none⟩ = some (.int .i64 x5) := cell_blk hfin rfl
  have y6 : wf.cell? ⟨w.heap.size, 6, none⟩ = some (.int .u32 x6) := cell_blk hfin rfl
  have hF : Env wf B b p q xs (k + 7) ∧ Only (fun j => j = b) w wf := by
    rw [← hwf]
    exact ⟨hE8.other (((((((Only.setCell _ ⟨w.heap.size, 0, none⟩ _).trans (Only.setCell _ ⟨w.heap.size, 1, none⟩ _)).trans (Only.setCell _ ⟨w.heap.size, 2, none⟩ _)).trans (Only.setCell _ ⟨w.heap.size, 3, none⟩ _)).trans (Only.setCell _ ⟨w.heap.size, 4, none⟩ _)).trans (Only.setCell _ ⟨w.heap.size, 5, none⟩ _)).trans (Only.setCell _ ⟨w.heap.size, 6, none⟩ _)) hB hrb hrp hrq, ((Only.of_below hbw).trans hO).new (((((((Only.setCell _ ⟨w.heap.size, 0, none⟩ _).trans (Only.setCell _ ⟨w.heap.size, 1, none⟩ _)).trans (Only.setCell _ ⟨w.heap.size, 2, none⟩ _)).trans (Only.setCell _ ⟨w.heap.size, 3, none⟩ _)).trans (Only.setCell _ ⟨w.heap.size, 4, none⟩ _)).trans (Only.setCell _ ⟨w.heap.size, 5, none⟩ _)).trans (Only.setCell _ ⟨w.heap.size, 6, none⟩ _)) (Nat.le_refl _)⟩
  refine bodyPost_ret (v := .agg #[.int .i64 x0, .int .i64 x1, .int .i64 x2, .int .i64 x3, .int .i64 x4, .int .i64 x5, .int .u32 x6]) (by simp [results, Try.results23, go_sem, y0, y1, y2, y3, y4, y5, y6]) rfl ⟨by rw [← HX0.out, ← HX1.out, ← HX2.out, ← HX3.out, ← HX4.out, ← HX5.out, ← HX6.out], hF⟩
end Go.Proofs.Ytjknmojjodghdaa
