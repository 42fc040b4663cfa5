/- slices.Clone of words, anew, as contracts. No condition but those in the statements. -/
import Derived.Test.YtjhfkpimejaboaaHDa
import Derived.Test.YtjhfkpimejaboaaTill
import Derived.BigQuiet
import Derived.IntWalk
import Derived.BigRegion
import Derived.OpenShut
import Derived.Deep.MidRow
import Derived.Deep.RegionHeld3
import Derived.OwnWalk
import Derived.Lib.SliceRun
namespace Go.Proofs.Ytjhfkpimejaboaa
open Go.RowKit Go.Sort Go.ChangeShapes Go.WideShapes
set_option linter.unusedVariables false
set_option linter.unusedSimpArgs false


/-- A call that hands back words of its own, and turns nothing that was there. -/
def GivesIntK (K : IntKind) (w : World) (l : List Int) (e : Ending) (w' : World) : Prop := ∃ A' c', e = .returned (.slice A' l.length c') ∧ IntRowK K w' w'.heap.size A' l ∧ (0 < l.length → ∀ a, A' = some a → w.heap.size ≤ a.block) ∧ (l.length ≤ c' ∧ c' ≤ maxLen ∧ (A' = none → l = [])) ∧ Below w.heap.size w w'

theorem Try.infoClU : (Try.prog.info? 63).map (fun i => (i.zero, i.size, i.bytes)) = some (some (.int .u32 0), 1, 4) := by kernel_rfl
theorem cloneU_b (A : Option Addr) (c : Nat) (l : List Int) (w : World) (h : IntRowK .u32 w w.heap.size A l) (hn : A = none → l = []) (hl : l.length * 4 ≤ 140737488351232) : Calls Try.prog 31 #[.slice A l.length c] w (GivesIntK .u32 w l) := by
  obtain ⟨i0, hi, hz0, hz1, hz2⟩ := info_parts Try.infoClU
  have q := Lib.run_eql_slice_nil (P := Try.prog) w 27 63 A l.length c 0 0 Try.underlying27
  cases A with
  | none =>
    obtain rfl := hn rfl
    simp only [List.length_nil] at q ⊢
    clear h
    go_enter Try.func31, Try.ntmps31
    go_wp2
    go_ret
    exact ⟨_, _, rfl, (fun h => by simp at h), (fun h => by simp at h), ⟨by simp, by simp [maxLen], fun _ => rfl⟩, Below.refl _ _⟩
  | some ad =>
    have hcell : ∀ j u, (l.map (Value.int .u32))[j]? = some u → w.cell? (ad.add j) = some u := (fun j u hj => by
      have hl : j < l.length := by have := (List.getElem?_eq_some_iff.1 hj).1; simpa using this
      obtain ⟨b, o', he, _, hc⟩ := h (by omega)
      cases he
      have hu : u = .int .u32 (l.getD j 0) := by simp [List.getD_eq_getElem?_getD, hl] at hj ⊢; exact hj.symm
      rw [Addr.add_lit, hu]
      exact hc j hl)
    have hb1 : Below w.heap.size w (w.alloc (.cells #[] 63)) := (Below.refl _ _).alloc (Nat.le_refl _) _
    have hown := World.ownsRow_made (base := w.heap.size) (e := 63) (size := 1) w #[] 0 (Nat.le_refl _) (by unfold maxLen; omega) (by simp)
    have hcell1 : ∀ j u, (l.map (Value.int .u32))[j]? = some u → (w.alloc (.cells #[] 63)).cell? (ad.add j) = some u := fun j u hj =>
      (hb1.cell (by have := World.block_lt_of_cell? _ _ (hcell j u hj); exact this)).trans (hcell j u hj)
    have HO := Lib.hid ((show ∀ u ∈ l.map (Value.int .u32), u.oneCell' = true from fun u hu => by obtain ⟨x, _, rfl⟩ := List.mem_map.1 hu; rfl)); have HC := Lib.hid hcell1
    have HL := Lib.hid ((show (l.map (Value.int .u32)).length = l.length * 1 by simp))
    clear h hcell hcell1 hn
    go_enter Try.func31, Try.ntmps31
    go_wp2_with (at_builtin; refine wpList_append_own _ rfl _ _ 27 rfl w.heap.size 63 i0 (.int .u32 0) 1 4 Try.underlying27 hi hz0 hz1 hz2 rfl (by decide) _ _ _ rfl hown ad l.length c _ rfl HL.out HC.out HO.out (by unfold maxLen; omega) (by omega) (by simp) ?_)
    · intro v' w2 hown' hgrow _
      have hb2 : Below w.heap.size w w2 := hb1.grown hgrow hb1.size (fun k hk => by cases hk; exact Nat.le_refl _)
      have ho : OwnsOff w2 w.heap.size 63 1 v' l.length (l.map (Value.int .u32)) := by have := OwnsOff.of_own hown'; simpa using this
      obtain ⟨A', c', rfl, hq1, hq2⟩ := ho.slice
      have HR : Hid (IntRowK .u32 w2 w2.heap.size A' l) := Lib.hid (fun hp => by
        obtain ⟨g, off, cap, hv, _, hg, _, _, _, hc⟩ := ho.lies hp
        cases hv
        exact ⟨g, off, rfl, hg, fun i hi => by have := hc i (.int .u32 (l.getD i 0)) (by simp [List.getD_eq_getElem?_getD, hi]); exact this⟩)
      have HN : Hid (0 < l.length → ∀ a, A' = some a → w.heap.size ≤ a.block) := Lib.hid (fun hp a ha => by have := (ho.lt a.block (by rw [ha]; rfl)).1; exact this)
      have HQ : Hid (l.length ≤ c' ∧ c' ≤ maxLen ∧ (A' = none → l = [])) := Lib.hid ⟨hq1, hq2, fun e => by
        rcases Nat.eq_zero_or_pos l.length with h0 | h0
        · exact List.eq_nil_of_length_eq_zero h0
        · obtain ⟨g, off, cap, hv, _⟩ := ho.lies h0
          rw [e] at hv; cases hv⟩
      clear ho hq1 hq2
      have HB := Lib.hid hb2
      clear hown' hgrow hb1 hown hb2
      go_wp2
      go_ret
      exact ⟨_, _, rfl, HR.out, HN.out, HQ.out, HB.out⟩

theorem cell_at {w : World} {b : Nat} {cs : Array Value} {t : TypeId} {m : Nat × Nat} (h : w.heap[b]? = some (.cells cs t m)) (j : Nat) : w.cell? ⟨b, j, none⟩ = cs[j]? := by simp [World.cell?, h]
theorem Only.sets' {S : Nat → Prop} {w : World} {b : Nat} (hb : S b) : ∀ (vs : List Value) (o : Nat) {w' : World}, Only S w w' → Only S w (w'.setCells b o vs)
  | [], _, _, h => h
  | v :: r, o, w', h => Only.sets' hb r (o + 1) (h.trans ((Only.setCell w' ⟨b, o, none⟩ v).mono (fun k _ e => by rw [show k = b from e]; exact hb)))
theorem row_only {K : IntKind} {w w' : World} {n : Nat} {A : Option Addr} {l : List Int} (h : IntRowK K w w.heap.size A l) (hn : 0 < l.length → ∀ a, A = some a → n + 2 ≤ a.block) (ho : Only (fun k => k = n ∨ k = n + 1) w w') (hb : n ≤ w.heap.size) : IntRowK K w' w'.heap.size A l := fun hp => by
  obtain ⟨b, o, hA, hlt, hc⟩ := h hp
  have hbn := hn hp _ hA
  refine ⟨b, o, hA, Nat.lt_of_lt_of_le hlt ho.size, fun i hi => ?_⟩
  rw [← hc i hi]
  have hbn : n + 2 ≤ b := hbn
  simp [World.cell?, ho.block b hlt (by omega)]
/-- The same call, its lists elsewhere. -/
def CV.at_ (v : CV) (A1 : Option Addr) (c1 : Nat) (A2 : Option Addr) (c2 : Nat) : CV := { v with ra := A1, rc := c1, aa := A2, ac := c2 }
theorem cCells_at (v : CV) (A1 : Option Addr) (c1 : Nat) (A2 : Option Addr) (c2 : Nat) : (((cCells v).toArray.setIfInBounds 4 (.slice A1 v.rd.length c1)).setIfInBounds 6 (.slice A2 v.ad.length c2)) = (cCells (v.at_ A1 c1 A2 c2)).toArray := by unfold cCells CV.at_; rfl
theorem results_cell_mid {fn : Func} {p : Tmp} {ty : TypeId} (h : fn.results = #[.cell p ty]) (tmps : Array Value) (w : World) (b : Nat) (cs : List Value) (d : TypeDesc)
    (hp : tmps.getD p undef = .pointer (some ⟨b, 0, none⟩)) (hc : w.rangeAt b 0 cs) (hu : Try.prog.underlying ty = some d) (hd : d.isRow = true) (hi : (Try.prog.info? ty).map (·.size) = some cs.length) :
    (results fn tmps).run Try.prog w = .ok (.agg cs.toArray) w := by
  have hp' : tmps[p]?.getD undef = .pointer (some ⟨b, 0, none⟩) := by simpa using hp
  simp [results, h, hp', asAddr, run_loadVar_mid w b 0 ty cs d hc hu hd hi]
/-- What anew hands back. -/
def GivesCall (w : World) (v : CV) (e : Ending) (w' : World) : Prop := ∃ A1 c1 A2 c2, e = .returned (.agg (cCells (v.at_ A1 c1 A2 c2)).toArray) ∧ CRows w' w'.heap.size (v.at_ A1 c1 A2 c2) ∧ ((0 < v.rd.length → ∀ a, A1 = some a → w.heap.size ≤ a.block) ∧ (0 < v.ad.length → ∀ a, A2 = some a → w.heap.size ≤ a.block)) ∧ Below w.heap.size w w'

set_option maxRecDepth 100000 in
set_option maxHeartbeats 4000000 in
theorem anew_b (v : CV) (w : World) (hr : CRows w w.heap.size v) (hz : CSz 140737488351232 v) : Calls Try.prog 24 #[.agg (cCells v).toArray] w (GivesCall w v) := by
  obtain ⟨W, HW⟩ : ∃ u, Hid (u = (w.alloc (.cells (cCells v).toArray 34)).alloc (.cells #[.int .i64 0, .int .i64 0, .int .i64 0, .int .u64 0, .slice none 0 0, .int .i64 0, .slice none 0 0, .bool false, .int .i64 0, .bool false, .int .i64 0, .int .i64 0, .int .i64 0, .int .i64 0, .int .i64 0, .int .i64 0, .int .i64 0, .int .i64 0, .int .i64 0, .int .i64 0] 34)) := ⟨_, rfl⟩
  have hB : Below w.heap.size w W := by rw [HW.out]; exact ((Below.refl _ _).alloc (Nat.le_refl _) _).alloc (by simp) _
  have hsz : W.heap.size = w.heap.size + 2 := by rw [HW.out]; simp
  have e1 : W.heap[w.heap.size]? = some (.cells (cCells v).toArray 34 (0, 0)) := by rw [HW.out]; exact (Below.heap_alloc _ _ _ (by simp)).trans (heap_alloc_new w _)
  have e2 : W.heap[w.heap.size + 1]? = some (.cells #[.int .i64 0, .int .i64 0, .int .i64 0, .int .u64 0, .slice none 0 0, .int .i64 0, .slice none 0 0, .bool false, .int .i64 0, .bool false, .int .i64 0, .int .i64 0, .int .i64 0, .int .i64 0, .int .i64 0, .int .i64 0, .int .i64 0, .int .i64 0, .int .i64 0, .int .i64 0] 34 (0, 0)) := by rw [HW.out]; have h := heap_alloc_new (w.alloc (.cells (cCells v).toArray 34)) (.cells #[.int .i64 0, .int .i64 0, .int .i64 0, .int .u64 0, .slice none 0 0, .int .i64 0, .slice none 0 0, .bool false, .int .i64 0, .bool false, .int .i64 0, .int .i64 0, .int .i64 0, .int .i64 0, .int .i64 0, .int .i64 0, .int .i64 0, .int .i64 0, .int .i64 0, .int .i64 0] 34); rwa [World.size_alloc] at h
  have HB := Lib.hid hB; have HSZ := Lib.hid hsz
  have HE1 : Hid (∀ W', Below W.heap.size W W' → W'.heap[w.heap.size]? = some (.cells (cCells v).toArray 34 (0, 0))) := Lib.hid (fun W' h => (h.block _ (by omega)).trans e1)
  have HE2 : Hid (∀ W', Below W.heap.size W W' → W'.heap[w.heap.size + 1]? = some (.cells #[.int .i64 0, .int .i64 0, .int .i64 0, .int .u64 0, .slice none 0 0, .int .i64 0, .slice none 0 0, .bool false, .int .i64 0, .bool false, .int .i64 0, .int .i64 0, .int .i64 0, .int .i64 0, .int .i64 0, .int .i64 0, .int .i64 0, .int .i64 0, .int .i64 0, .int .i64 0] 34 (0, 0))) := Lib.hid (fun W' h => (h.block _ (by omega)).trans e2)
  have HV1 : Hid (∀ W', Below W.heap.size W W' → CAt W' w.heap.size 0 v) := Lib.hid (fun W' h => CAt.of_blk (HE1.out W' h))
  have HR := Lib.hid (hr.below hB)
  have HZ := Lib.hid hz
  clear hB hsz e1 e2 hr hz
  go_enter Try.func24, Try.ntmps24
  go_wp2_with (rw [← HW.out])
  refine wp_region_till (fun W' => Below W.heap.size W W') 10 (by kernel_rfl) ((Below.refl _ _).drew) (fun hHeld => ?_)
  refine till_take (i := 0) rfl (by kernel_rfl) (by kernel_rfl) (by kernel_rfl) (fun _ _ _ h => h) (by kernel_rfl) (Or.inl ⟨by rfl, by intro w _; (go_simp <;> with_reducible rfl)⟩) (by assumption) ?_
  (try simp only [Act.put, List.setIfInBounds_toArray, List.set_cons_zero, List.set_cons_succ, List.getElem_toArray, List.getElem_cons_zero, List.getElem_cons_succ])
  refine till_take (i := 1) rfl (by kernel_rfl) (by kernel_rfl) (by kernel_rfl) (fun _ _ _ h => h) (by kernel_rfl) (Or.inl ⟨by rfl, by intro w _; (go_simp <;> with_reducible rfl)⟩) (by assumption) ?_
  (try simp only [Act.put, List.setIfInBounds_toArray, List.set_cons_zero, List.set_cons_succ, List.getElem_toArray, List.getElem_cons_zero, List.getElem_cons_succ])
  refine till_load (i := 2) rfl (by kernel_rfl) (by kernel_rfl) (by kernel_rfl) (fun _ _ _ h => h) (by kernel_rfl) (by kernel_rfl) (by kernel_rfl) (Or.inl ⟨by rfl, by intro w hSw; (have v_rd := (HV1.out _ hSw).b_rd); (go_simp <;> with_reducible rfl)⟩) (by assumption) ?_
  (try simp only [Act.put, List.setIfInBounds_toArray, List.set_cons_zero, List.set_cons_succ, List.getElem_toArray, List.getElem_cons_zero, List.getElem_cons_succ])
  refine till_take (i := 4) rfl (by kernel_rfl) (by kernel_rfl) (by kernel_rfl) (fun _ _ _ h => h) (by kernel_rfl) (Or.inl ⟨by rfl, by intro w _; (go_simp <;> with_reducible rfl)⟩) (by assumption) ?_
  (try simp only [Act.put, List.setIfInBounds_toArray, List.set_cons_zero, List.set_cons_succ, List.getElem_toArray, List.getElem_cons_zero, List.getElem_cons_succ])
  refine till_take (i := 5) rfl (by kernel_rfl) (by kernel_rfl) (by kernel_rfl) (fun _ _ _ h => h) (by kernel_rfl) (Or.inl ⟨by rfl, by intro w _; (go_simp <;> with_reducible rfl)⟩) (by assumption) ?_
  (try simp only [Act.put, List.setIfInBounds_toArray, List.set_cons_zero, List.set_cons_succ, List.getElem_toArray, List.getElem_cons_zero, List.getElem_cons_succ])
  refine till_load (i := 6) rfl (by kernel_rfl) (by kernel_rfl) (by kernel_rfl) (fun _ _ _ h => h) (by kernel_rfl) (by kernel_rfl) (by kernel_rfl) (Or.inl ⟨by rfl, by intro w hSw; (have v_ad := (HV1.out _ hSw).b_ad); (go_simp <;> with_reducible rfl)⟩) (by assumption) ?_
  (try simp only [Act.put, List.setIfInBounds_toArray, List.set_cons_zero, List.set_cons_succ, List.getElem_toArray, List.getElem_cons_zero, List.getElem_cons_succ])
  refine till_one (i := 3) (by kernel_rfl) rfl (fun K hK => ?_)
  go_simp
  refine (cloneU_b v.ra v.rc v.rd W.drew ((HR.out.rr.more HB.out.size).below (Below.refl _ _).drew) HR.out.rl.2.2 HZ.out.1).mono ?_
  rintro e w1 ⟨A1, c1, rfl, hrow1, hn1, hl1, hb1⟩
  (try go_wp2_with fail)
  have HB1 := Lib.hid ((Below.refl W.heap.size W).drew.trans hb1)
  have HR1 := Lib.hid hrow1; have HL1 := Lib.hid hl1; have HN1 : Hid (0 < v.rd.length → ∀ a, A1 = some a → w.heap.size + 2 ≤ a.block) := Lib.hid (fun hp a ha => by have h1 := hn1 hp a ha; have h2 : W.drew.heap.size = W.heap.size := rfl; have h3 := HSZ.out; omega)
  clear hb1 hrow1 hl1 hn1
  refine hK.out _ _ (HB1.out) (fun hHeld => ?_)
  clear hK K
  (try simp only [Act.put, List.setIfInBounds_toArray, List.set_cons_zero, List.set_cons_succ, List.getElem_toArray, List.getElem_cons_zero, List.getElem_cons_succ])
  refine till_take (i := 8) rfl (by kernel_rfl) (by kernel_rfl) (by kernel_rfl) (fun _ _ _ h => h) (by kernel_rfl) (Or.inl ⟨by rfl, by intro w _; (go_simp <;> with_reducible rfl)⟩) (by assumption) ?_
  (try simp only [Act.put, List.setIfInBounds_toArray, List.set_cons_zero, List.set_cons_succ, List.getElem_toArray, List.getElem_cons_zero, List.getElem_cons_succ])
  refine till_take (i := 9) rfl (by kernel_rfl) (by kernel_rfl) (by kernel_rfl) (fun _ _ _ h => h) (by kernel_rfl) (Or.inl ⟨by rfl, by intro w _; (go_simp <;> with_reducible rfl)⟩) (by assumption) ?_
  (try simp only [Act.put, List.setIfInBounds_toArray, List.set_cons_zero, List.set_cons_succ, List.getElem_toArray, List.getElem_cons_zero, List.getElem_cons_succ])
  refine till_one (i := 7) (by kernel_rfl) rfl (fun K hK => ?_)
  go_simp
  refine (cloneU_b v.aa v.ac v.ad w1 ((HR.out.ar.more HB.out.size).below HB1.out |>.more HB1.out.size) HR.out.al.2.2 HZ.out.2).mono ?_
  rintro e w2 ⟨A2, c2, rfl, hrow2, hn2, hl2, hb2⟩
  (try go_wp2_with fail)
  have HB2 := Lib.hid (HB1.out.trans (hb2.mono HB1.out.size))
  have HR2 := Lib.hid hrow2; have HL2 := Lib.hid hl2; have HR1 := Lib.hid ((HR1.out.below hb2).more hb2.size); have HN2 : Hid (0 < v.ad.length → ∀ a, A2 = some a → w.heap.size + 2 ≤ a.block) := Lib.hid (fun hp a ha => by have h1 := hn2 hp a ha; have h2 := HB1.out.size; have h3 := HSZ.out; omega)
  clear hb2 hrow2 hl2 hn2
  refine hK.out _ _ (HB2.out) (fun hHeld => ?_)
  clear hK K
  (try simp only [Act.put, List.setIfInBounds_toArray, List.set_cons_zero, List.set_cons_succ, List.getElem_toArray, List.getElem_cons_zero, List.getElem_cons_succ])
  obtain ⟨X1, HX1⟩ : ∃ u, Hid (u = w2.setCell ⟨w.heap.size, 4, none⟩ (.slice A1 v.rd.length c1)) := ⟨_, rfl⟩
  obtain ⟨X2, HX2⟩ : ∃ u, Hid (u = X1.setCell ⟨w.heap.size, 6, none⟩ (.slice A2 v.ad.length c2)) := ⟨_, rfl⟩
  have b0 := HE1.out w2 HB2.out
  have b1 : X1.heap[w.heap.size]? = some (.cells ((cCells v).toArray.setIfInBounds 4 (.slice A1 v.rd.length c1)) 34 (0, 0)) := by rw [HX1.out]; simp [World.setCell, Array.getElem?_modify, b0]
  have b2 : X2.heap[w.heap.size]? = some (.cells (cCells (v.at_ A1 c1 A2 c2)).toArray 34 (0, 0)) := by rw [HX2.out, ← cCells_at]; simp [World.setCell, Array.getElem?_modify, b1]
  have o1 : Only (fun k => k = w.heap.size) w2 X1 := by rw [HX1.out]; exact (Only.setCell w2 ⟨w.heap.size, 4, none⟩ _)
  have o2 : Only (fun k => k = w.heap.size) w2 X2 := o1.trans (by rw [HX2.out]; exact (Only.setCell X1 ⟨w.heap.size, 6, none⟩ _))
  have hw2 := HB.out.trans (HB2.out.mono HB.out.size)
  have d1 : X2.heap[w.heap.size + 1]? = some (.cells #[.int .i64 0, .int .i64 0, .int .i64 0, .int .u64 0, .slice none 0 0, .int .i64 0, .slice none 0 0, .bool false, .int .i64 0, .bool false, .int .i64 0, .int .i64 0, .int .i64 0, .int .i64 0, .int .i64 0, .int .i64 0, .int .i64 0, .int .i64 0, .int .i64 0, .int .i64 0] 34 (0, 0)) := (o2.block _ (by have := HB2.out.size; have := HSZ.out; omega) (by omega)).trans (HE2.out w2 HB2.out)
  have z4 := (HV1.out w2 HB2.out).b_rd
  have z6 : X1.cell? ⟨w.heap.size, 6, none⟩ = some (.slice v.aa v.ad.length v.ac) := by rw [cell_at b1 6]; simp [cCells_ad]
  have HBX := Lib.hid (o2.below (Nat.le_trans HB.out.size HB2.out.size) (fun k e => by omega))
  have HB0 := Lib.hid b0; have HB1' := Lib.hid b1; have HB2' := Lib.hid b2
  have HO1 := Lib.hid o1; have HO2 := Lib.hid o2
  have HTR : Hid (X2.there (w.heap.size + 1) 0 (cCells (v.at_ A1 c1 A2 c2)).toArray.size) := Lib.hid (there_at d1 (by rw [cCells_size]; rfl))
  have HAT := Lib.hid (CAt.of_blk b2)
  clear b0 b1 b2 o1 o2 hw2 d1
  refine till_last (by kernel_rfl) rfl (fun K hK => ?_)
  have z1 : w2.frozen? ⟨w.heap.size, 4, none⟩ = false := by simp [World.frozen?, HB0.out]
  go_simp
  clear z1
  rw [← HX1.out]
  refine hK.out _ _ ?_
  clear hK K
  (try simp only [Act.put, List.setIfInBounds_toArray, List.set_cons_zero, List.set_cons_succ, List.getElem_toArray, List.getElem_cons_zero, List.getElem_cons_succ])
  refine till_after (i := 11) (by kernel_rfl) rfl (by kernel_rfl) (fun K hK => ?_)
  go_simp
  refine hK.out _ _ ?_
  clear hK K
  (try simp only [Act.put, List.setIfInBounds_toArray, List.set_cons_zero, List.set_cons_succ, List.getElem_toArray, List.getElem_cons_zero, List.getElem_cons_succ])
  refine till_after (i := 12) (by kernel_rfl) rfl (by kernel_rfl) (fun K hK => ?_)
  go_simp
  refine hK.out _ _ ?_
  clear hK K
  (try simp only [Act.put, List.setIfInBounds_toArray, List.set_cons_zero, List.set_cons_succ, List.getElem_toArray, List.getElem_cons_zero, List.getElem_cons_succ])
  refine till_after (i := 13) (by kernel_rfl) rfl (by kernel_rfl) (fun K hK => ?_)
  have z1 : X1.frozen? ⟨w.heap.size, 6, none⟩ = false := by simp [World.frozen?, HB1'.out]
  go_simp
  clear z1
  rw [← HX2.out]
  refine hK.out _ _ ?_
  clear hK K
  (try simp only [Act.put, List.setIfInBounds_toArray, List.set_cons_zero, List.set_cons_succ, List.getElem_toArray, List.getElem_cons_zero, List.getElem_cons_succ])
  refine till_done (by kernel_rfl) ?_ _
  clear hHeld
  obtain ⟨X3, HX3⟩ : ∃ u, Hid (u = X2.setCells (w.heap.size + 1) 0 (cCells (v.at_ A1 c1 A2 c2)).toArray.toList) := ⟨_, rfl⟩
  go_wp2_with (first | (with_reducible refine wpList_loadC (by with_unfolding_all rfl) _ rfl _ _ _ (by with_unfolding_all rfl) HAT.out ?_) | (with_reducible refine wpList_store_mid (by kernel_rfl) _ _ _ rfl (w.heap.size + 1) 0 (cCells (v.at_ A1 c1 A2 c2)).toArray (by kernel_rfl) (by kernel_rfl) HTR.out (cCells_infoA (v.at_ A1 c1 A2 c2)) (cCells_one (v.at_ A1 c1 A2 c2)) ?_) | (rw [← HX3.out]))
  have hrg : X3.rangeAt (w.heap.size + 1) 0 (cCells (v.at_ A1 c1 A2 c2)) := by
    rw [HX3.out]
    (try simp only [List.toList_toArray])
    exact World.rangeAt_setCells_same _ _ _ _ (by simpa using HTR.out)
  have o3 : Only (fun k => k = w.heap.size ∨ k = w.heap.size + 1) w2 X3 := by
    rw [HX3.out]
    exact Only.sets' (.inr rfl) _ _ (HO2.out.mono (fun k _ h => .inl h))
  have hbz := HB.out.trans (HB2.out.mono HB.out.size)
  have hfin : Below w.heap.size w X3 := hbz.trans (o3.below hbz.size (fun k e => by omega))
  have hrows : CRows X3 X3.heap.size (v.at_ A1 c1 A2 c2) := ⟨row_only HR1.out HN1.out o3 hbz.size, HL1.out, row_only HR2.out HN2.out o3 hbz.size, HL2.out⟩
  have HFIN := Lib.hid hfin; have HROWS := Lib.hid hrows; have HRG := Lib.hid hrg
  clear hrg o3 hbz hfin hrows
  (try simp only [Exit.inBlock, Exit.then])
  refine bodyPost_ret (results_cell_mid rfl _ _ (w.heap.size + 1) (cCells (v.at_ A1 c1 A2 c2)) _ rfl HRG.out Try.underlying34 rfl (cCells_info _)) rfl ?_
  exact ⟨A1, c1, A2, c2, rfl, HROWS.out, ⟨fun hp a ha => by have := HN1.out hp a ha; omega, fun hp a ha => by have := HN2.out hp a ha; omega⟩, HFIN.out⟩
end Go.Proofs.Ytjhfkpimejaboaa
