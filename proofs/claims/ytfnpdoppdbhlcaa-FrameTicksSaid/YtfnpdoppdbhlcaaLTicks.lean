/- FrameTicks answers true. No condition but those in the statements. -/
import Derived.Test.YtfnpdoppdbhlcaaTickIt
import Derived.Test.YtfnpdoppdbhlcaaWakes
import Derived.Test.YtfnpdoppdbhlcaaLOpen
import Derived.OrdersHeld
import Derived.Deep.RegionHeld3
namespace Go.Proofs.Ytfnpdoppdbhlcaa
open Go.RowKit Go.Sort Go.Shelf
set_option linter.unusedVariables false
set_option linter.unusedSimpArgs false
set_option linter.unusedVariables false
attribute [local go_sem] Oper.semAt_some

theorem neq_nil (w : World) (fn : Fn) (xs ys : Array Value) : (binOp .neq 34 (.func fn xs ys) .nilFunc).run Try.prog w = .ok (.bool true) w := by
  have h : ∀ d : Nat, (Op.equalIn (d + 1) 34 (.func fn xs ys) .nilFunc).run Try.prog w = .ok false w := fun d => by
    simp [Op.equalIn, run_underlying Try.underlying34]
  simp only [binOp]
  simp [Op.equal, Op.maxDepth, h 9999]
/-- What the loops over iterators have left among the function's deferred calls: a mark each, each with a block of its own, in which there is nothing. -/
def markOf (D : Nat) : Deferred := { target := .collected D, args := #[] }
def Marks (B : Nat) (ds : List Deferred) (w : World) : Prop := ∃ Ds : List Nat, ds = Ds.map markOf ∧ Ds.Nodup ∧ ∀ D ∈ Ds, B ≤ D ∧ w.heap[D]? = some (.deferred (some []))
theorem Marks.nil (B : Nat) (w : World) : Marks B [] w := ⟨[], rfl, List.nodup_nil, fun _ h => by cases h⟩
theorem Marks.keep {B : Nat} {ds : List Deferred} {w w' : World} (h : Marks B ds w) (hb : Below w.heap.size w w') : ∃ Ds : List Nat, ds = Ds.map markOf ∧ Ds.Nodup ∧ (∀ D ∈ Ds, D < w.heap.size) ∧ ∀ D ∈ Ds, B ≤ D ∧ w'.heap[D]? = some (.deferred (some [])) := by
  obtain ⟨Ds, h1, h2, h3⟩ := h
  have hl : ∀ D ∈ Ds, D < w.heap.size := fun D hD => (Array.getElem?_eq_some_iff.1 (h3 D hD).2).1
  exact ⟨Ds, h1, h2, hl, fun D hD => ⟨(h3 D hD).1, (hb.block D (hl D hD)).trans (h3 D hD).2⟩⟩
theorem Marks.later {B : Nat} {ds : List Deferred} {w w' : World} (h : Marks B ds w) (hb : Below w.heap.size w w') : Marks B ds w' := by
  obtain ⟨Ds, h1, h2, _, h3⟩ := h.keep hb
  exact ⟨Ds, h1, h2, h3⟩
theorem marks_cons {B s D : Nat} {ds : List Deferred} {w' : World} (h : ∃ Ds : List Nat, ds = Ds.map markOf ∧ Ds.Nodup ∧ (∀ D ∈ Ds, D < s) ∧ ∀ D ∈ Ds, B ≤ D ∧ w'.heap[D]? = some (.deferred (some []))) (hD : w'.heap[D]? = some (.deferred (some []))) (hB : B ≤ D) (hs : s ≤ D) : Marks B (markOf D :: ds) w' := by
  obtain ⟨Ds, rfl, h2, h3, h4⟩ := h
  refine ⟨D :: Ds, rfl, List.nodup_cons.2 ⟨fun hc => by have := h3 D hc; omega, h2⟩, fun E hE => ?_⟩
  rcases List.mem_cons.1 hE with rfl | hE
  · exact ⟨hB, hD⟩
  · exact h4 E hE
theorem leaves_marks {F : Fence} {n : Nat} {P : Program} {fn : Func} {tmps : Array Value} {R : Ending → World → Prop} {B : Nat} : ∀ (Ds : List Nat) (w : World), Ds.Nodup → (∀ D ∈ Ds, B ≤ D ∧ w.heap[D]? = some (.deferred (some []))) →
    (∀ w', Below B w w' → LeavesIn F n P fn tmps R [] .returning w') → LeavesInM F n P fn tmps R (Ds.map markOf) .returning w
  | [], w, _, _, h => h w (Below.refl _ _)
  | D :: Ds, w, hn, hD, h => by
    obtain ⟨h1, h2⟩ := hD D (by simp)
    have hlt := (Array.getElem?_eq_some_iff.1 h2).1
    have hput : Below B w (w.putObj D (.deferred none)) := (Below.refl B w).grown (grownBy_putObj' w D _) (by omega) (fun k e => by cases e; exact h1)
    have hn2 := List.nodup_cons.1 hn
    exact ⟨by simp, .inl ⟨D, _, rfl, run_takeDeferred h2, leaves_marks Ds _ hn2.2 (fun E hE => ⟨(hD E (by simp [hE])).1, (World.putObj_heap_other (show E ≠ D from fun e => hn2.1 (by rw [← e]; exact hE))).trans (hD E (by simp [hE])).2⟩) (fun w' hb => h w' (hput.trans hb))⟩⟩
/-- Between two rounds: what has been gathered, in the box of 'out'; its row lies in a block from n1 on. -/
def TKI (wr : World) (n1 k : Nat) (pre : List Int) (X : World) : Prop :=
  pre.length ≤ k ∧ Boxed X wr.heap.size 3 (.int .i64 (k : Int)) ∧ (∃ v, Boxed X (wr.heap.size + 1) 32 v ∧ OwnsOff X (wr.heap.size + 1) 3 1 v pre.length (icells pre) ∧ ∀ g, v.ownBlock = some g → n1 ≤ g) ∧ n1 ≤ X.heap.size ∧ Below wr.heap.size wr X
/-- A round has left by the break. -/
def TKX (wr : World) (n1 k : Nat) (c : Code) (xs : List Int) (X : World) : Prop := c = .exit 2 ∧ ∃ pre x, xs = pre ++ [x] ∧ pre.length = k ∧ TKI wr n1 k pre X
theorem TKI.turn {wr : World} {n₀ n1 k : Nat} (hn : wr.heap.size ≤ n₀) : OwnFrom n₀ (TKI wr n1 k) := by
  rintro s W W' row ⟨h1, h2, ⟨v, h3, h4, h6⟩, h7, h5⟩ hg hr
  have keep : ∀ (k : Nat) (o : Obj), W.heap[k]? = some o → o.isCells = true → W'.heap[k]? = some o := fun k o hk ho =>
    (hg.block k (Array.getElem?_eq_some_iff.1 hk).1 (fun e => by obtain ⟨_, o', ho', hc⟩ := hr k e.symm; rw [hk] at ho'; cases ho'; rw [ho] at hc; cases hc)).trans hk
  refine ⟨h1, keep _ _ h2 rfl, ⟨v, keep _ _ h3 rfl, h4.kept (Only.of_grown hg) (fun g hg' e => ?_), h6⟩, Nat.le_trans h7 hg.size, h5.grown hg h5.size (fun k e => by have := (hr k e).1; omega)⟩
  obtain ⟨cs, hc⟩ := h4.typed g hg'
  obtain ⟨_, o', ho', hcc⟩ := hr g e.symm
  rw [hc] at ho'; cases ho'; cases hcc
theorem TKX.turn {wr : World} {n₀ n1 k : Nat} (hn : wr.heap.size ≤ n₀) (c : Code) : OwnFrom n₀ (TKX wr n1 k c) := by
  rintro s W W' row ⟨h1, pre, x, h2, h3, h4⟩ hg hr
  exact ⟨h1, pre, x, h2, h3, TKI.turn hn _ _ _ _ h4 hg hr⟩
theorem nums_row {w' : World} {base : Nat} {xs : List Int} {v : Value} (h : OwnsOff w' base 3 1 v xs.length (icells xs)) : ∃ A cap, v = .slice A xs.length cap ∧ xs.length ≤ cap ∧ cap ≤ maxLen ∧ (A = none → xs = []) ∧ IntRowK .i64 w' w'.heap.size A xs := by
  obtain ⟨A, cap, rfl, h1, h2⟩ := h.slice
  by_cases hp : 0 < xs.length
  · obtain ⟨g, off, cap', hv, hg, hgl, _, _, _, hcell⟩ := h.lies hp
    cases hv
    refine ⟨_, _, rfl, h1, h2, (fun e => by cases e), fun _ => ⟨g, off, rfl, hgl, fun i hi => hcell i _ ?_⟩⟩
    simp [icells, List.getD_eq_getElem?_getD, hi]
  · have e : xs = [] := List.eq_nil_of_length_eq_zero (by omega)
    exact ⟨A, cap, rfl, h1, h2, fun _ => e, fun h => absurd h hp⟩
theorem cell_one_new (w : World) (v : Value) (t : TypeId) : ∀ j u, [v][j]? = some u → (w.alloc (.cells #[v] t)).cell? ((⟨w.heap.size, 0, none⟩ : Addr).add j) = some u := news_new w #[v] t
set_option maxRecDepth 100000 in
set_option maxHeartbeats 16000000 in
theorem lticks_in (n : Nat) (hn : 3 ≤ n) (len : Int) (l : List (List Int)) (A : Option Addr) (c : Nat) (part t : Int) (w : World) (hx : FArg w len l A c) (wpart : (Lit.int .i64 part).wf = true) (wt : (Lit.int .i64 t).wf = true) : CallsIn Fence.wide n Try.prog 5 #[.agg #[.int .i64 len, .slice A l.length c], .int .i64 part, .int .i64 t] w fun e w' => e = .returned (.bool true) ∧ Below w.heap.size w w' := by
  have h1 : 1 ≤ n := by omega
  obtain ⟨i0, hi0, hz0, hz1, hz2⟩ := info_parts Try.infoI
  have hneq := neq_nil
  obtain ⟨W, HW, hB, hWs, bx⟩ := fbox_new w len A l.length c 24
  obtain ⟨tlo, thi⟩ := bounds_i64 wt
  obtain ⟨c0, c1⟩ := bx _ (Below.refl _ _)
  refine callsIn_of_wp_marks Try.func5 rfl trivial ?_ rfl
  simp only [Try.ntmps5, List.size_toArray, List.length_cons, List.length_nil, Nat.reduceAdd, Nat.reduceSub, Array.replicate_succ, Array.replicate_zero, List.push_toArray, List.append_toArray, List.nil_append, List.cons_append]
  gi_wp2_with (rw [← HW.out])
  refine ⟨trivial, (callsIn_wide.2 (wakes_b W)).mono ?_⟩
  rintro e V ⟨rfl, hbV⟩
  obtain ⟨c0, c1⟩ := bx _ hbV
  by_cases hg : (100 : Int) < (l.length : Int)
  · gi_wp2
    exact ⟨_, results_tmp rfl _ _ _, rfl, hB.trans (hbV.mono hB.size)⟩
  · have hfV : FIn V len l A := (hx.fin (by omega)).later (hB.trans (hbV.mono hB.size))
    have HBV := Lib.hid (hB.trans (hbV.mono hB.size))
    have hWV := hbV.size
    have BX : ∀ w', Below V.heap.size V w' → w'.cell? ⟨w.heap.size, 0, none⟩ = some (.int .i64 len) ∧ w'.cell? ⟨w.heap.size, 1, none⟩ = some (.slice A l.length c) := fun w' h => bx w' (hbV.trans (h.mono hWV))
    have hgd : decide ((100 : Int) < (l.length : Int)) = false := decide_eq_false hg
    obtain ⟨V1, hV1⟩ : ∃ u, Hid (u = V.alloc (.cells #[.int .i64 0, .int .i64 1, .int .i64 7] 3)) := ⟨_, rfl⟩
    have HM1 : V1.heap[V.heap.size]? = some (.cells #[.int .i64 0, .int .i64 1, .int .i64 7] 3 (0, 0)) := by rw [hV1.out]; exact heap_alloc_new _ _
    have hbV1 : Below V.heap.size V V1 := by rw [hV1.out]; exact (Below.refl _ _).alloc (Nat.le_refl _) _
    clear bx hbV hx hB
    gi_wp2_with (rw [← hV1.out])
    clear c0 c1
    obtain ⟨IN, hIN⟩ : ∃ IN : Act → World → Prop, IN = (fun a w' => ∃ (i : Nat) (ds : List Deferred) (u8 u9 u10 u11 u20 u21 u22 u23 u24 u25 u26 u27 u28 u29 u30 u31 u32 u33 u34 u35 u36 u37 u38 u39 u40 u41 u42 u43 u44 u45 u46 u47 u48 u49 u50 u51 u52 : Value), a = ({ tmps := #[.agg #[.int .i64 len, .slice A l.length c], .int .i64 part, .int .i64 t, .pointer (some ⟨w.heap.size, 0, none⟩), undef, undef, .bool false, undef, u8, u9, u10, u11, .bool true, .bool false, .pointer (some ⟨w.heap.size, 1, none⟩), .slice A l.length c, .int .i64 (l.length : Int), .bool false, .slice (some ⟨V.heap.size, 0, none⟩) 3 3, .int .i64 3, u20, u21, u22, u23, u24, u25, u26, u27, u28, u29, u30, u31, u32, u33, u34, u35, u36, u37, u38, u39, u40, u41, u42, u43, u44, u45, u46, u47, u48, u49, u50, u51, u52], defers := ds } : Act) ∧ u20 = .int .i64 (i : Int) ∧ i ≤ 3 ∧ Marks V1.heap.size ds w' ∧ Below V1.heap.size V1 w') := ⟨_, rfl⟩
    have HIN := Lib.hid hIN
    clear hIN
    refine wpIn_loop IN (fun a _ => 3 - (intOf (a.tmps.getD 20 undef)).toNat) (by rw [HIN.out]; exact ⟨0, [], _, _, _, _, _, _, _, _, _, _, _, _, _, _, _, _, _, _, _, _, _, _, _, _, _, _, _, _, _, _, _, _, _, _, _, _, _, rfl, rfl, by omega, Marks.nil _ _, Below.refl _ _⟩) ?_
    intro a0 wr hin
    rw [HIN.out] at hin
    obtain ⟨i, ds, u8, u9, u10, u11, u20, u21, u22, u23, u24, u25, u26, u27, u28, u29, u30, u31, u32, u33, u34, u35, u36, u37, u38, u39, u40, u41, u42, u43, u44, u45, u46, u47, u48, u49, u50, u51, u52, rfl, rfl, hi, hM, hbc⟩ := hin
    by_cases hlt : i < 3
    · obtain ⟨k, hk, hk7⟩ : ∃ k : Nat, wr.cell? ⟨V.heap.size, i, none⟩ = some (.int .i64 (k : Int)) ∧ k ≤ 7 := by
        have hv : wr.heap[V.heap.size]? = some (.cells #[.int .i64 0, .int .i64 1, .int .i64 7] 3 (0, 0)) := (hbc.block _ (Array.getElem?_eq_some_iff.1 HM1).1).trans HM1
        match i, hlt with
        | 0, _ => exact ⟨0, cell_blk hv rfl, by omega⟩
        | 1, _ => exact ⟨1, cell_blk hv rfl, by omega⟩
        | 2, _ => exact ⟨7, cell_blk hv rfl, by omega⟩
      obtain ⟨W0, hW0⟩ : ∃ u, Hid (u = (wr.alloc (.cells #[.int .i64 (k : Int)] 3)).alloc (.cells #[.slice none 0 0] 32)) := ⟨_, rfl⟩
      have hb0W : Below wr.heap.size wr W0 := by rw [hW0.out]; exact ((Below.refl _ wr).alloc (Nat.le_refl _) _).alloc (by simp) _
      have HS0 : Hid (W0.heap.size = wr.heap.size + 2) := Lib.hid (by rw [hW0.out]; simp)
      have HbM : Hid (Boxed W0 wr.heap.size 3 (.int .i64 (k : Int))) := Lib.hid (by rw [hW0.out]; exact (Boxed.new wr 3 (.int .i64 (k : Int))).alloc _)
      have HbO : Hid (Boxed W0 (wr.heap.size + 1) 32 (.slice none 0 0)) := Lib.hid (by
        rw [hW0.out]
        have := Boxed.new (wr.alloc (.cells #[.int .i64 (k : Int)] 3)) 32 (.slice none 0 0)
        rwa [World.size_alloc] at this)
      have hVW := hbV1.trans ((hbc.trans (hb0W.mono hbc.size)).mono hbV1.size)
      have hfr := hfV.later hVW
      obtain ⟨d0, d1⟩ := BX _ hVW
      clear hVW
      gi_wp2_with (rw [← hW0.out])
      clear hk
      cases hm : mayB len l t with
      | false =>
        have HTK := Lib.hid (show ticksO len l part t k = [] by unfold ticksO; rw [if_pos (next_none hm)])
        refine ⟨trivial, (callsIn_wide.2 (ticks_never len l A c part t _ hfr hm)).mono ?_⟩
        rintro e w1 ⟨rfl, hb1⟩
        have hs0 := HS0.out
        have hbw := hb0W.trans (hb1.mono hb0W.size)
        have bM : Boxed w1 wr.heap.size 3 (.int .i64 (k : Int)) := (hb1.block wr.heap.size (by omega)).trans HbM.out
        have bO : Boxed w1 (wr.heap.size + 1) 32 (.slice none 0 0) := (hb1.block (wr.heap.size + 1) (by omega)).trans HbO.out
        have hb1s := hb1.size
        have hI0 : TKI wr w1.heap.size k [] w1 := ⟨Nat.zero_le _, bM, ⟨_, bO, OwnsOff.nil _ _ _ _, fun g hg => by cases hg⟩, Nat.le_refl _, hbw⟩
        clear bM bO hb1 hbw d0 d1
        gi_wp2
        refine wpIn_rangeFunc_ownG rfl h1 (gf := 28) (lb := #[]) rfl trivial (enters_of Try.func28 (by kernel_rfl) rfl)
          (iter_never (n - 1) w1) (fun h k => h.trans k) (fun W lp o o' hle _ _ _ => keepsB_put o' (by simp)) (Below.refl _ _) (fun _ => rfl)
          (TKI wr w1.heap.size k) (TKX wr w1.heap.size k) (TKI.turn (by omega)) (TKX.turn (by omega)) hI0
          ?a1_never ?assign_never ?body_never ?done_never ?stop_never
        case assign_never =>
          intro lp x X K hK
          gi_wp2
          exact hK
        case body_never =>
          intro lp pre x X _ hlt9
          exact absurd hlt9 (Nat.not_lt_zero _)
        case done_never =>
          rintro D ys X hD rfl ⟨hpm, bM, ⟨v, bO, hown9, _⟩, _, hBX⟩ hD9
          obtain ⟨ys, hys⟩ : ∃ ys : List Int, [] = ys := ⟨_, rfl⟩
          rw [hys] at hown9
          have HT := Lib.hid (HTK.out.trans hys)
          have hB0D : wr.heap.size ≤ D := by omega
          have hnew : wr.heap.size ≤ D := hB0D
          have hy7 : ys.length ≤ 1000000000 := by rw [← hys]; simp
          clear hys
          obtain ⟨a9, c9, rfl, hc9, hm9⟩ := hown9.slice
          obtain ⟨a9', c9', e9, _, _, _, hr9'⟩ := nums_row hown9
          cases e9
          have hr9 : IntRowK .i64 X X.heap.size a9 ys := hr9'
          have z9 : X.cell? ⟨wr.heap.size + 1, 0, none⟩ = some (.slice a9 ys.length c9) := bO.cell
          have z8 : X.cell? ⟨wr.heap.size, 0, none⟩ = some (.int .i64 (k : Int)) := bM.cell
          have hlo := bO.lt
          have hlm := bM.lt
          have HXV := Lib.hid (hbV1.trans ((hbc.trans (hBX.mono hbc.size)).mono hbV1.size))
          have HB1X := Lib.hid (hbc.trans (hBX.mono hbc.size))
          have BXX : ∀ w', Below X.heap.size X w' → w'.cell? ⟨w.heap.size, 0, none⟩ = some (.int .i64 len) ∧ w'.cell? ⟨w.heap.size, 1, none⟩ = some (.slice A l.length c) := fun w' h => BX w' (HXV.out.trans (h.mono HXV.out.size))
          obtain ⟨x0, x1⟩ := BXX _ (Below.refl _ _)
          have HMK := Lib.hid (marks_cons (hM.keep hBX) hD9 (Nat.le_trans hbc.size hB0D) hnew)
          clear hown9 bM bO hBX hM
          gi_wp2
          by_cases hgt : t < 1099511626776
          · have hb0 : Below X.heap.size X X.drew := (Below.refl _ _).drew
            refine wpIn_wide.2 ?_
            refine wp_region_noPanic ?_
            refine wp_region_held_drew (S := (fun w' => w'.cell? ⟨w.heap.size, 0, none⟩ = some (.int .i64 len) ∧ w'.cell? ⟨w.heap.size, 1, none⟩ = some (.slice A l.length c) ∧ w'.cell? ⟨wr.heap.size + 1, 0, none⟩ = some (.slice a9 ys.length c9) ∧ w'.cell? ⟨wr.heap.size, 0, none⟩ = some (.int .i64 (k : Int)) ∧ Below X.heap.size X w')) (by kernel_rfl) (⟨(BXX _ hb0).1, (BXX _ hb0).2, (hb0.cell (p := ⟨wr.heap.size + 1, 0, none⟩) hlo).trans z9, (hb0.cell (p := ⟨wr.heap.size, 0, none⟩) hlm).trans z8, hb0⟩) (fun hHeld => ?_)
            refine wpAnyH_take (i := 0) rfl (by kernel_rfl) (by kernel_rfl) (by kernel_rfl) (fun _ _ _ h => h) (Or.inl ⟨by rfl, by intro w hSw; (go_simp <;> with_reducible rfl)⟩) (by assumption) ?_
            (try simp only [Act.put, List.setIfInBounds_toArray, List.set_cons_zero, List.set_cons_succ, List.getElem_toArray, List.getElem_cons_zero, List.getElem_cons_succ])
            refine wpAnyH_take (i := 1) rfl (by kernel_rfl) (by kernel_rfl) (by kernel_rfl) (fun _ _ _ h => h) (Or.inl ⟨by rfl, by intro w hSw; (go_simp <;> with_reducible rfl)⟩) (by assumption) ?_
            (try simp only [Act.put, List.setIfInBounds_toArray, List.set_cons_zero, List.set_cons_succ, List.getElem_toArray, List.getElem_cons_zero, List.getElem_cons_succ])
            refine wpAnyH_take (i := 2) rfl (by kernel_rfl) (by kernel_rfl) (by kernel_rfl) (fun _ _ _ h => h) (Or.inl ⟨by rfl, by intro w hSw; (go_simp <;> with_reducible rfl)⟩) (by assumption) ?_
            (try simp only [Act.put, List.setIfInBounds_toArray, List.set_cons_zero, List.set_cons_succ, List.getElem_toArray, List.getElem_cons_zero, List.getElem_cons_succ])
            refine wpAnyH_take (i := 3) rfl (by kernel_rfl) (by kernel_rfl) (by kernel_rfl) (fun _ _ _ h => h) (Or.inl ⟨by rfl, by intro w hSw; (go_simp <;> with_reducible rfl)⟩) (by assumption) ?_
            (try simp only [Act.put, List.setIfInBounds_toArray, List.set_cons_zero, List.set_cons_succ, List.getElem_toArray, List.getElem_cons_zero, List.getElem_cons_succ])
            refine wpAnyH_take (i := 4) rfl (by kernel_rfl) (by kernel_rfl) (by kernel_rfl) (fun _ _ _ h => h) (Or.inl ⟨by rfl, by intro w hSw; (go_simp <;> with_reducible rfl)⟩) (by assumption) ?_
            (try simp only [Act.put, List.setIfInBounds_toArray, List.set_cons_zero, List.set_cons_succ, List.getElem_toArray, List.getElem_cons_zero, List.getElem_cons_succ])
            refine wpAnyH_take (i := 5) rfl (by kernel_rfl) (by kernel_rfl) (by kernel_rfl) (fun _ _ _ h => h) (Or.inl ⟨by rfl, by intro w hSw; (go_simp <;> with_reducible rfl)⟩) (by assumption) ?_
            (try simp only [Act.put, List.setIfInBounds_toArray, List.set_cons_zero, List.set_cons_succ, List.getElem_toArray, List.getElem_cons_zero, List.getElem_cons_succ])
            refine wpAnyH_take (i := 6) rfl (by kernel_rfl) (by kernel_rfl) (by kernel_rfl) (fun _ _ _ h => h) (Or.inl ⟨by rfl, by intro w hSw; (go_simp <;> with_reducible rfl)⟩) (by assumption) ?_
            (try simp only [Act.put, List.setIfInBounds_toArray, List.set_cons_zero, List.set_cons_succ, List.getElem_toArray, List.getElem_cons_zero, List.getElem_cons_succ])
            refine wpAnyH_take (i := 7) rfl (by kernel_rfl) (by kernel_rfl) (by kernel_rfl) (fun _ _ _ h => h) (Or.inl ⟨by rfl, by intro w hSw; (go_simp <;> with_reducible rfl)⟩) (by assumption) ?_
            (try simp only [Act.put, List.setIfInBounds_toArray, List.set_cons_zero, List.set_cons_succ, List.getElem_toArray, List.getElem_cons_zero, List.getElem_cons_succ])
            refine wpAnyH_ready (rs := [8]) (by kernel_rfl) (by simp) (AllReadyH.cons rfl (fun K hK => ?_) AllReadyH.nil)
            go_simp
            refine (rticks_b len l A c part t k _ (hfV.later (HXV.out.drew)) hk7 hgt).mono ?_
            rintro e Y ⟨v8, rfl, hown8, hb8⟩
            rw [HT.out] at hown8
            obtain ⟨a8, c8, rfl, _, _, _, hr8⟩ := nums_at hown8
            have hrY := (((hr9.below hb0).more hb0.size).below hb8).more hb8.size
            have hBY := hb0.trans (hb8.mono hb0.size)
            refine hK.out _ _ ⟨(BXX _ hBY).1, (BXX _ hBY).2, (hBY.cell (p := ⟨wr.heap.size + 1, 0, none⟩) hlo).trans z9, (hBY.cell (p := ⟨wr.heap.size, 0, none⟩) hlm).trans z8, hBY⟩ (fun hHeld => ?_)
            clear hK K
            (try simp only [Act.put, List.setIfInBounds_toArray, List.set_cons_zero, List.set_cons_succ, List.getElem_toArray, List.getElem_cons_zero, List.getElem_cons_succ])
            refine wpAnyH_ready (rs := [9]) (by kernel_rfl) (by simp) (AllReadyH.cons rfl (fun K hK => ?_) AllReadyH.nil)
            go_simp
            refine (same_b ys ys a9 a8 c9 c8 _ hrY hr8 hy7).mono ?_
            rintro e Z ⟨rfl, hb9⟩
            have hBZ := hBY.trans (hb9.mono hBY.size)
            rw [decide_eq_true (rfl : ys = ys)]
            refine hK.out _ _ ⟨(BXX _ hBZ).1, (BXX _ hBZ).2, (hBZ.cell (p := ⟨wr.heap.size + 1, 0, none⟩) hlo).trans z9, (hBZ.cell (p := ⟨wr.heap.size, 0, none⟩) hlm).trans z8, hBZ⟩ (fun hHeld => ?_)
            clear hK K
            (try simp only [Act.put, List.setIfInBounds_toArray, List.set_cons_zero, List.set_cons_succ, List.getElem_toArray, List.getElem_cons_zero, List.getElem_cons_succ])
            refine wpAnyH_take (i := 10) rfl (by kernel_rfl) (by kernel_rfl) (by kernel_rfl) (fun _ _ _ h => h) (Or.inl ⟨by rfl, by intro w hSw; (go_simp <;> with_reducible rfl)⟩) (by assumption) ?_
            (try simp only [Act.put, List.setIfInBounds_toArray, List.set_cons_zero, List.set_cons_succ, List.getElem_toArray, List.getElem_cons_zero, List.getElem_cons_succ])
            refine wpAnyH_take (i := 11) rfl (by kernel_rfl) (by kernel_rfl) (by kernel_rfl) (fun _ _ _ h => h) (Or.inl ⟨by rfl, by intro w hSw; (go_simp <;> with_reducible rfl)⟩) (by assumption) ?_
            (try simp only [Act.put, List.setIfInBounds_toArray, List.set_cons_zero, List.set_cons_succ, List.getElem_toArray, List.getElem_cons_zero, List.getElem_cons_succ])
            refine wpAnyH_done (by kernel_rfl) ?_ _
            refine NoPanic.normal ?_
            have HZZ := Lib.hid hBZ
            clear hHeld
            gi_wp2
            refine ⟨?_, by simp [intOf]; omega⟩
            rw [HIN.out]
            exact ⟨i + 1, _, _, _, _, _, _, _, _, _, _, _, _, _, _, _, _, _, _, _, _, _, _, _, _, _, _, _, _, _, _, _, _, _, _, _, _, _, _, rfl, by go_num, by omega, HMK.out.later HZZ.out, HB1X.out.trans (HZZ.out.mono HB1X.out.size)⟩
          · have hgd2 : decide (t < 1099511626776) = false := decide_eq_false hgt
            have hb0 : Below X.heap.size X X.drew := (Below.refl _ _).drew
            refine wpIn_wide.2 ?_
            refine wp_region_noPanic ?_
            refine wp_region_held_drew (S := (fun w' => w'.cell? ⟨w.heap.size, 0, none⟩ = some (.int .i64 len) ∧ w'.cell? ⟨w.heap.size, 1, none⟩ = some (.slice A l.length c) ∧ w'.cell? ⟨wr.heap.size + 1, 0, none⟩ = some (.slice a9 ys.length c9) ∧ w'.cell? ⟨wr.heap.size, 0, none⟩ = some (.int .i64 (k : Int)) ∧ Below X.heap.size X w')) (by kernel_rfl) (⟨(BXX _ hb0).1, (BXX _ hb0).2, (hb0.cell (p := ⟨wr.heap.size + 1, 0, none⟩) hlo).trans z9, (hb0.cell (p := ⟨wr.heap.size, 0, none⟩) hlm).trans z8, hb0⟩) (fun hHeld => ?_)
            refine wpAnyH_take (i := 0) rfl (by kernel_rfl) (by kernel_rfl) (by kernel_rfl) (fun _ _ _ h => h) (Or.inl ⟨by rfl, by intro w hSw; (go_simp <;> with_reducible rfl)⟩) (by assumption) ?_
            (try simp only [Act.put, List.setIfInBounds_toArray, List.set_cons_zero, List.set_cons_succ, List.getElem_toArray, List.getElem_cons_zero, List.getElem_cons_succ])
            refine wpAnyH_take (i := 1) rfl (by kernel_rfl) (by kernel_rfl) (by kernel_rfl) (fun _ _ _ h => h) (Or.inl ⟨by rfl, by intro w hSw; (go_simp <;> with_reducible rfl)⟩) (by assumption) ?_
            (try simp only [Act.put, List.setIfInBounds_toArray, List.set_cons_zero, List.set_cons_succ, List.getElem_toArray, List.getElem_cons_zero, List.getElem_cons_succ])
            refine wpAnyH_take (i := 2) rfl (by kernel_rfl) (by kernel_rfl) (by kernel_rfl) (fun _ _ _ h => h) (Or.inl ⟨by rfl, by intro w hSw; (go_simp <;> with_reducible rfl)⟩) (by assumption) ?_
            (try simp only [Act.put, List.setIfInBounds_toArray, List.set_cons_zero, List.set_cons_succ, List.getElem_toArray, List.getElem_cons_zero, List.getElem_cons_succ])
            refine wpAnyH_take (i := 3) rfl (by kernel_rfl) (by kernel_rfl) (by kernel_rfl) (fun _ _ _ h => h) (Or.inr ⟨by rfl, rfl⟩) (by assumption) ?_
            (try simp only [Act.put, List.setIfInBounds_toArray, List.set_cons_zero, List.set_cons_succ, List.getElem_toArray, List.getElem_cons_zero, List.getElem_cons_succ])
            refine wpAnyH_take (i := 4) rfl (by kernel_rfl) (by kernel_rfl) (by kernel_rfl) (fun _ _ _ h => h) (Or.inr ⟨by rfl, rfl⟩) (by assumption) ?_
            (try simp only [Act.put, List.setIfInBounds_toArray, List.set_cons_zero, List.set_cons_succ, List.getElem_toArray, List.getElem_cons_zero, List.getElem_cons_succ])
            refine wpAnyH_take (i := 5) rfl (by kernel_rfl) (by kernel_rfl) (by kernel_rfl) (fun _ _ _ h => h) (Or.inr ⟨by rfl, rfl⟩) (by assumption) ?_
            (try simp only [Act.put, List.setIfInBounds_toArray, List.set_cons_zero, List.set_cons_succ, List.getElem_toArray, List.getElem_cons_zero, List.getElem_cons_succ])
            refine wpAnyH_take (i := 6) rfl (by kernel_rfl) (by kernel_rfl) (by kernel_rfl) (fun _ _ _ h => h) (Or.inr ⟨by rfl, rfl⟩) (by assumption) ?_
            (try simp only [Act.put, List.setIfInBounds_toArray, List.set_cons_zero, List.set_cons_succ, List.getElem_toArray, List.getElem_cons_zero, List.getElem_cons_succ])
            refine wpAnyH_take (i := 7) rfl (by kernel_rfl) (by kernel_rfl) (by kernel_rfl) (fun _ _ _ h => h) (Or.inr ⟨by rfl, rfl⟩) (by assumption) ?_
            (try simp only [Act.put, List.setIfInBounds_toArray, List.set_cons_zero, List.set_cons_succ, List.getElem_toArray, List.getElem_cons_zero, List.getElem_cons_succ])
            refine wpAnyH_take (i := 8) rfl (by kernel_rfl) (by kernel_rfl) (by kernel_rfl) (fun _ _ _ h => h) (Or.inr ⟨by rfl, rfl⟩) (by assumption) ?_
            (try simp only [Act.put, List.setIfInBounds_toArray, List.set_cons_zero, List.set_cons_succ, List.getElem_toArray, List.getElem_cons_zero, List.getElem_cons_succ])
            refine wpAnyH_take (i := 9) rfl (by kernel_rfl) (by kernel_rfl) (by kernel_rfl) (fun _ _ _ h => h) (Or.inr ⟨by rfl, rfl⟩) (by assumption) ?_
            (try simp only [Act.put, List.setIfInBounds_toArray, List.set_cons_zero, List.set_cons_succ, List.getElem_toArray, List.getElem_cons_zero, List.getElem_cons_succ])
            refine wpAnyH_take (i := 10) rfl (by kernel_rfl) (by kernel_rfl) (by kernel_rfl) (fun _ _ _ h => h) (Or.inr ⟨by rfl, rfl⟩) (by assumption) ?_
            (try simp only [Act.put, List.setIfInBounds_toArray, List.set_cons_zero, List.set_cons_succ, List.getElem_toArray, List.getElem_cons_zero, List.getElem_cons_succ])
            refine wpAnyH_take (i := 11) rfl (by kernel_rfl) (by kernel_rfl) (by kernel_rfl) (fun _ _ _ h => h) (Or.inl ⟨by rfl, by intro w hSw; (go_simp <;> with_reducible rfl)⟩) (by assumption) ?_
            (try simp only [Act.put, List.setIfInBounds_toArray, List.set_cons_zero, List.set_cons_succ, List.getElem_toArray, List.getElem_cons_zero, List.getElem_cons_succ])
            refine wpAnyH_done (by kernel_rfl) ?_ _
            refine NoPanic.normal ?_
            have HZZ := Lib.hid hb0
            clear hHeld
            gi_wp2
            refine ⟨?_, by simp [intOf]; omega⟩
            rw [HIN.out]
            exact ⟨i + 1, _, _, _, _, _, _, _, _, _, _, _, _, _, _, _, _, _, _, _, _, _, _, _, _, _, _, _, _, _, _, _, _, _, _, _, _, _, _, rfl, by go_num, by omega, HMK.out.later HZZ.out, HB1X.out.trans (HZZ.out.mono HB1X.out.size)⟩
        case stop_never =>
          rintro D cc ys X hD hpx ⟨rfl, pre, x, rfl, _⟩ hD9
          have := List.prefix_nil.1 hpx
          simp at this
      | true =>
        obtain ⟨hR, t0, t1, hq⟩ := may_rt hm
        have hhi := hR.hi
        have hlo2 := hR.lo
        obtain ⟨m, hlm2⟩ := Int.eq_ofNat_of_zero_le (a := len) (by omega)
        subst hlm2
        have hlo1 : 1 ≤ m := by omega
        have hhi1 : m ≤ 64 := by omega
        have hun2 : ((m : Int)).toNat = m := by omega
        have hull := upL_len openB m l part t m
        have HXB : Hid (∀ x ∈ upL openB m l part t m, 0 ≤ x ∧ x ≤ 2199023255552) := Lib.hid (fun x hx => by
          obtain ⟨⟨j, hj, rfl⟩, _⟩ := upL_mem.1 hx
          omega)
        have HNV := Lib.hid (next_never (part := part) hm)
        obtain ⟨xs, hxs⟩ : ∃ xs, upL openB m l part t m = xs := ⟨_, rfl⟩
        have hun : upL openB m l part t ((m : Int)).toNat = xs := by rw [hun2]; exact hxs
        rw [hxs] at HXB HNV hull
        have HTX : Hid (¬ xs = [] → ticksO m l part t k = toldT xs m k) := Lib.hid (fun h => by unfold ticksO; rw [if_neg (fun h2 => h (HNV.out.1 h2)), hun])
        clear hR hq hun2 hxs
        cases xs with
        | nil =>
          have HTK := Lib.hid (show ticksO m l part t k = [] by unfold ticksO; rw [if_pos (HNV.out.2 rfl)])
          refine ⟨trivial, (callsIn_wide.2 (ticks_b m l A c part t _ hfr hm)).mono ?_⟩
          intro e w1 hG
          rw [hun] at hG
          obtain ⟨tb, nb, rb, A9, cap, rfl, htb, hnb, hrb, hF, hnb9, hb1⟩ := hG.at_
          have ltb := (Array.getElem?_eq_some_iff.1 hF.box).1
          have lnb := (Array.getElem?_eq_some_iff.1 hnb9).1
          have lrb := hF.lt
          have HF := Lib.hid hF; have HNB := Lib.hid hnb9
          clear hF hnb9 hG hun hull hm
          have hs0 := HS0.out
          have hbw := hb0W.trans (hb1.mono hb0W.size)
          have bM : Boxed w1 wr.heap.size 3 (.int .i64 (k : Int)) := (hb1.block wr.heap.size (by omega)).trans HbM.out
          have bO : Boxed w1 (wr.heap.size + 1) 32 (.slice none 0 0) := (hb1.block (wr.heap.size + 1) (by omega)).trans HbO.out
          have hb1s := hb1.size
          have hI0 : TKI wr w1.heap.size k [] w1 := ⟨Nat.zero_le _, bM, ⟨_, bO, OwnsOff.nil _ _ _ _, fun g hg => by cases hg⟩, Nat.le_refl _, hbw⟩
          clear bM bO hb1 hbw d0 d1
          gi_wp2
          refine wpIn_rangeFunc_ownG rfl h1 (gf := 29) (lb := #[.pointer (some ⟨tb, 0, none⟩), .pointer (some ⟨nb, 0, none⟩)]) rfl trivial (enters_of Try.func29 (by kernel_rfl) rfl)
            (iter_empty (n - 1) tb nb rb A9 cap w1 HF.out) (fun h k => h.trans k) (fun W lp o o' hle _ _ _ => keepsB_put o' (by simp; omega)) (Below.refl _ _) (fun _ => rfl)
            (TKI wr w1.heap.size k) (TKX wr w1.heap.size k) (TKI.turn (by omega)) (TKX.turn (by omega)) hI0
            ?a1_empty ?assign_empty ?body_empty ?done_empty ?stop_empty
          case assign_empty =>
            intro lp x X K hK
            gi_wp2
            exact hK
          case body_empty =>
            intro lp pre x X _ hlt9
            exact absurd hlt9 (Nat.not_lt_zero _)
          case done_empty =>
            rintro D ys X hD rfl ⟨hpm, bM, ⟨v, bO, hown9, _⟩, _, hBX⟩ hD9
            obtain ⟨ys, hys⟩ : ∃ ys : List Int, [] = ys := ⟨_, rfl⟩
            rw [hys] at hown9
            have HT := Lib.hid (HTK.out.trans hys)
            have hB0D : wr.heap.size ≤ D := by omega
            have hnew : wr.heap.size ≤ D := hB0D
            have hy7 : ys.length ≤ 1000000000 := by rw [← hys]; simp
            clear hys
            obtain ⟨a9, c9, rfl, hc9, hm9⟩ := hown9.slice
            obtain ⟨a9', c9', e9, _, _, _, hr9'⟩ := nums_row hown9
            cases e9
            have hr9 : IntRowK .i64 X X.heap.size a9 ys := hr9'
            have z9 : X.cell? ⟨wr.heap.size + 1, 0, none⟩ = some (.slice a9 ys.length c9) := bO.cell
            have z8 : X.cell? ⟨wr.heap.size, 0, none⟩ = some (.int .i64 (k : Int)) := bM.cell
            have hlo := bO.lt
            have hlm := bM.lt
            have HXV := Lib.hid (hbV1.trans ((hbc.trans (hBX.mono hbc.size)).mono hbV1.size))
            have HB1X := Lib.hid (hbc.trans (hBX.mono hbc.size))
            have BXX : ∀ w', Below X.heap.size X w' → w'.cell? ⟨w.heap.size, 0, none⟩ = some (.int .i64 (m : Int)) ∧ w'.cell? ⟨w.heap.size, 1, none⟩ = some (.slice A l.length c) := fun w' h => BX w' (HXV.out.trans (h.mono HXV.out.size))
            obtain ⟨x0, x1⟩ := BXX _ (Below.refl _ _)
            have HMK := Lib.hid (marks_cons (hM.keep hBX) hD9 (Nat.le_trans hbc.size hB0D) hnew)
            clear hown9 bM bO hBX hM
            gi_wp2
            by_cases hgt : t < 1099511626776
            · have hb0 : Below X.heap.size X X.drew := (Below.refl _ _).drew
              refine wpIn_wide.2 ?_
              refine wp_region_noPanic ?_
              refine wp_region_held_drew (S := (fun w' => w'.cell? ⟨w.heap.size, 0, none⟩ = some (.int .i64 (m : Int)) ∧ w'.cell? ⟨w.heap.size, 1, none⟩ = some (.slice A l.length c) ∧ w'.cell? ⟨wr.heap.size + 1, 0, none⟩ = some (.slice a9 ys.length c9) ∧ w'.cell? ⟨wr.heap.size, 0, none⟩ = some (.int .i64 (k : Int)) ∧ Below X.heap.size X w')) (by kernel_rfl) (⟨(BXX _ hb0).1, (BXX _ hb0).2, (hb0.cell (p := ⟨wr.heap.size + 1, 0, none⟩) hlo).trans z9, (hb0.cell (p := ⟨wr.heap.size, 0, none⟩) hlm).trans z8, hb0⟩) (fun hHeld => ?_)
              refine wpAnyH_take (i := 0) rfl (by kernel_rfl) (by kernel_rfl) (by kernel_rfl) (fun _ _ _ h => h) (Or.inl ⟨by rfl, by intro w hSw; (go_simp <;> with_reducible rfl)⟩) (by assumption) ?_
              (try simp only [Act.put, List.setIfInBounds_toArray, List.set_cons_zero, List.set_cons_succ, List.getElem_toArray, List.getElem_cons_zero, List.getElem_cons_succ])
              refine wpAnyH_take (i := 1) rfl (by kernel_rfl) (by kernel_rfl) (by kernel_rfl) (fun _ _ _ h => h) (Or.inl ⟨by rfl, by intro w hSw; (go_simp <;> with_reducible rfl)⟩) (by assumption) ?_
              (try simp only [Act.put, List.setIfInBounds_toArray, List.set_cons_zero, List.set_cons_succ, List.getElem_toArray, List.getElem_cons_zero, List.getElem_cons_succ])
              refine wpAnyH_take (i := 2) rfl (by kernel_rfl) (by kernel_rfl) (by kernel_rfl) (fun _ _ _ h => h) (Or.inl ⟨by rfl, by intro w hSw; (go_simp <;> with_reducible rfl)⟩) (by assumption) ?_
              (try simp only [Act.put, List.setIfInBounds_toArray, List.set_cons_zero, List.set_cons_succ, List.getElem_toArray, List.getElem_cons_zero, List.getElem_cons_succ])
              refine wpAnyH_take (i := 3) rfl (by kernel_rfl) (by kernel_rfl) (by kernel_rfl) (fun _ _ _ h => h) (Or.inl ⟨by rfl, by intro w hSw; (go_simp <;> with_reducible rfl)⟩) (by assumption) ?_
              (try simp only [Act.put, List.setIfInBounds_toArray, List.set_cons_zero, List.set_cons_succ, List.getElem_toArray, List.getElem_cons_zero, List.getElem_cons_succ])
              refine wpAnyH_take (i := 4) rfl (by kernel_rfl) (by kernel_rfl) (by kernel_rfl) (fun _ _ _ h => h) (Or.inl ⟨by rfl, by intro w hSw; (go_simp <;> with_reducible rfl)⟩) (by assumption) ?_
              (try simp only [Act.put, List.setIfInBounds_toArray, List.set_cons_zero, List.set_cons_succ, List.getElem_toArray, List.getElem_cons_zero, List.getElem_cons_succ])
              refine wpAnyH_take (i := 5) rfl (by kernel_rfl) (by kernel_rfl) (by kernel_rfl) (fun _ _ _ h => h) (Or.inl ⟨by rfl, by intro w hSw; (go_simp <;> with_reducible rfl)⟩) (by assumption) ?_
              (try simp only [Act.put, List.setIfInBounds_toArray, List.set_cons_zero, List.set_cons_succ, List.getElem_toArray, List.getElem_cons_zero, List.getElem_cons_succ])
              refine wpAnyH_take (i := 6) rfl (by kernel_rfl) (by kernel_rfl) (by kernel_rfl) (fun _ _ _ h => h) (Or.inl ⟨by rfl, by intro w hSw; (go_simp <;> with_reducible rfl)⟩) (by assumption) ?_
              (try simp only [Act.put, List.setIfInBounds_toArray, List.set_cons_zero, List.set_cons_succ, List.getElem_toArray, List.getElem_cons_zero, List.getElem_cons_succ])
              refine wpAnyH_take (i := 7) rfl (by kernel_rfl) (by kernel_rfl) (by kernel_rfl) (fun _ _ _ h => h) (Or.inl ⟨by rfl, by intro w hSw; (go_simp <;> with_reducible rfl)⟩) (by assumption) ?_
              (try simp only [Act.put, List.setIfInBounds_toArray, List.set_cons_zero, List.set_cons_succ, List.getElem_toArray, List.getElem_cons_zero, List.getElem_cons_succ])
              refine wpAnyH_ready (rs := [8]) (by kernel_rfl) (by simp) (AllReadyH.cons rfl (fun K hK => ?_) AllReadyH.nil)
              go_simp
              refine (rticks_b m l A c part t k _ (hfV.later (HXV.out.drew)) hk7 hgt).mono ?_
              rintro e Y ⟨v8, rfl, hown8, hb8⟩
              rw [HT.out] at hown8
              obtain ⟨a8, c8, rfl, _, _, _, hr8⟩ := nums_at hown8
              have hrY := (((hr9.below hb0).more hb0.size).below hb8).more hb8.size
              have hBY := hb0.trans (hb8.mono hb0.size)
              refine hK.out _ _ ⟨(BXX _ hBY).1, (BXX _ hBY).2, (hBY.cell (p := ⟨wr.heap.size + 1, 0, none⟩) hlo).trans z9, (hBY.cell (p := ⟨wr.heap.size, 0, none⟩) hlm).trans z8, hBY⟩ (fun hHeld => ?_)
              clear hK K
              (try simp only [Act.put, List.setIfInBounds_toArray, List.set_cons_zero, List.set_cons_succ, List.getElem_toArray, List.getElem_cons_zero, List.getElem_cons_succ])
              refine wpAnyH_ready (rs := [9]) (by kernel_rfl) (by simp) (AllReadyH.cons rfl (fun K hK => ?_) AllReadyH.nil)
              go_simp
              refine (same_b ys ys a9 a8 c9 c8 _ hrY hr8 hy7).mono ?_
              rintro e Z ⟨rfl, hb9⟩
              have hBZ := hBY.trans (hb9.mono hBY.size)
              rw [decide_eq_true (rfl : ys = ys)]
              refine hK.out _ _ ⟨(BXX _ hBZ).1, (BXX _ hBZ).2, (hBZ.cell (p := ⟨wr.heap.size + 1, 0, none⟩) hlo).trans z9, (hBZ.cell (p := ⟨wr.heap.size, 0, none⟩) hlm).trans z8, hBZ⟩ (fun hHeld => ?_)
              clear hK K
              (try simp only [Act.put, List.setIfInBounds_toArray, List.set_cons_zero, List.set_cons_succ, List.getElem_toArray, List.getElem_cons_zero, List.getElem_cons_succ])
              refine wpAnyH_take (i := 10) rfl (by kernel_rfl) (by kernel_rfl) (by kernel_rfl) (fun _ _ _ h => h) (Or.inl ⟨by rfl, by intro w hSw; (go_simp <;> with_reducible rfl)⟩) (by assumption) ?_
              (try simp only [Act.put, List.setIfInBounds_toArray, List.set_cons_zero, List.set_cons_succ, List.getElem_toArray, List.getElem_cons_zero, List.getElem_cons_succ])
              refine wpAnyH_take (i := 11) rfl (by kernel_rfl) (by kernel_rfl) (by kernel_rfl) (fun _ _ _ h => h) (Or.inl ⟨by rfl, by intro w hSw; (go_simp <;> with_reducible rfl)⟩) (by assumption) ?_
              (try simp only [Act.put, List.setIfInBounds_toArray, List.set_cons_zero, List.set_cons_succ, List.getElem_toArray, List.getElem_cons_zero, List.getElem_cons_succ])
              refine wpAnyH_done (by kernel_rfl) ?_ _
              refine NoPanic.normal ?_
              have HZZ := Lib.hid hBZ
              clear hHeld
              gi_wp2
              refine ⟨?_, by simp [intOf]; omega⟩
              rw [HIN.out]
              exact ⟨i + 1, _, _, _, _, _, _, _, _, _, _, _, _, _, _, _, _, _, _, _, _, _, _, _, _, _, _, _, _, _, _, _, _, _, _, _, _, _, _, rfl, by go_num, by omega, HMK.out.later HZZ.out, HB1X.out.trans (HZZ.out.mono HB1X.out.size)⟩
            · have hgd2 : decide (t < 1099511626776) = false := decide_eq_false hgt
              have hb0 : Below X.heap.size X X.drew := (Below.refl _ _).drew
              refine wpIn_wide.2 ?_
              refine wp_region_noPanic ?_
              refine wp_region_held_drew (S := (fun w' => w'.cell? ⟨w.heap.size, 0, none⟩ = some (.int .i64 (m : Int)) ∧ w'.cell? ⟨w.heap.size, 1, none⟩ = some (.slice A l.length c) ∧ w'.cell? ⟨wr.heap.size + 1, 0, none⟩ = some (.slice a9 ys.length c9) ∧ w'.cell? ⟨wr.heap.size, 0, none⟩ = some (.int .i64 (k : Int)) ∧ Below X.heap.size X w')) (by kernel_rfl) (⟨(BXX _ hb0).1, (BXX _ hb0).2, (hb0.cell (p := ⟨wr.heap.size + 1, 0, none⟩) hlo).trans z9, (hb0.cell (p := ⟨wr.heap.size, 0, none⟩) hlm).trans z8, hb0⟩) (fun hHeld => ?_)
              refine wpAnyH_take (i := 0) rfl (by kernel_rfl) (by kernel_rfl) (by kernel_rfl) (fun _ _ _ h => h) (Or.inl ⟨by rfl, by intro w hSw; (go_simp <;> with_reducible rfl)⟩) (by assumption) ?_
              (try simp only [Act.put, List.setIfInBounds_toArray, List.set_cons_zero, List.set_cons_succ, List.getElem_toArray, List.getElem_cons_zero, List.getElem_cons_succ])
              refine wpAnyH_take (i := 1) rfl (by kernel_rfl) (by kernel_rfl) (by kernel_rfl) (fun _ _ _ h => h) (Or.inl ⟨by rfl, by intro w hSw; (go_simp <;> with_reducible rfl)⟩) (by assumption) ?_
              (try simp only [Act.put, List.setIfInBounds_toArray, List.set_cons_zero, List.set_cons_succ, List.getElem_toArray, List.getElem_cons_zero, List.getElem_cons_succ])
              refine wpAnyH_take (i := 2) rfl (by kernel_rfl) (by kernel_rfl) (by kernel_rfl) (fun _ _ _ h => h) (Or.inl ⟨by rfl, by intro w hSw; (go_simp <;> with_reducible rfl)⟩) (by assumption) ?_
              (try simp only [Act.put, List.setIfInBounds_toArray, List.set_cons_zero, List.set_cons_succ, List.getElem_toArray, List.getElem_cons_zero, List.getElem_cons_succ])
              refine wpAnyH_take (i := 3) rfl (by kernel_rfl) (by kernel_rfl) (by kernel_rfl) (fun _ _ _ h => h) (Or.inr ⟨by rfl, rfl⟩) (by assumption) ?_
              (try simp only [Act.put, List.setIfInBounds_toArray, List.set_cons_zero, List.set_cons_succ, List.getElem_toArray, List.getElem_cons_zero, List.getElem_cons_succ])
              refine wpAnyH_take (i := 4) rfl (by kernel_rfl) (by kernel_rfl) (by kernel_rfl) (fun _ _ _ h => h) (Or.inr ⟨by rfl, rfl⟩) (by assumption) ?_
              (try simp only [Act.put, List.setIfInBounds_toArray, List.set_cons_zero, List.set_cons_succ, List.getElem_toArray, List.getElem_cons_zero, List.getElem_cons_succ])
              refine wpAnyH_take (i := 5) rfl (by kernel_rfl) (by kernel_rfl) (by kernel_rfl) (fun _ _ _ h => h) (Or.inr ⟨by rfl, rfl⟩) (by assumption) ?_
              (try simp only [Act.put, List.setIfInBounds_toArray, List.set_cons_zero, List.set_cons_succ, List.getElem_toArray, List.getElem_cons_zero, List.getElem_cons_succ])
              refine wpAnyH_take (i := 6) rfl (by kernel_rfl) (by kernel_rfl) (by kernel_rfl) (fun _ _ _ h => h) (Or.inr ⟨by rfl, rfl⟩) (by assumption) ?_
              (try simp only [Act.put, List.setIfInBounds_toArray, List.set_cons_zero, List.set_cons_succ, List.getElem_toArray, List.getElem_cons_zero, List.getElem_cons_succ])
              refine wpAnyH_take (i := 7) rfl (by kernel_rfl) (by kernel_rfl) (by kernel_rfl) (fun _ _ _ h => h) (Or.inr ⟨by rfl, rfl⟩) (by assumption) ?_
              (try simp only [Act.put, List.setIfInBounds_toArray, List.set_cons_zero, List.set_cons_succ, List.getElem_toArray, List.getElem_cons_zero, List.getElem_cons_succ])
              refine wpAnyH_take (i := 8) rfl (by kernel_rfl) (by kernel_rfl) (by kernel_rfl) (fun _ _ _ h => h) (Or.inr ⟨by rfl, rfl⟩) (by assumption) ?_
              (try simp only [Act.put, List.setIfInBounds_toArray, List.set_cons_zero, List.set_cons_succ, List.getElem_toArray, List.getElem_cons_zero, List.getElem_cons_succ])
              refine wpAnyH_take (i := 9) rfl (by kernel_rfl) (by kernel_rfl) (by kernel_rfl) (fun _ _ _ h => h) (Or.inr ⟨by rfl, rfl⟩) (by assumption) ?_
              (try simp only [Act.put, List.setIfInBounds_toArray, List.set_cons_zero, List.set_cons_succ, List.getElem_toArray, List.getElem_cons_zero, List.getElem_cons_succ])
              refine wpAnyH_take (i := 10) rfl (by kernel_rfl) (by kernel_rfl) (by kernel_rfl) (fun _ _ _ h => h) (Or.inr ⟨by rfl, rfl⟩) (by assumption) ?_
              (try simp only [Act.put, List.setIfInBounds_toArray, List.set_cons_zero, List.set_cons_succ, List.getElem_toArray, List.getElem_cons_zero, List.getElem_cons_succ])
              refine wpAnyH_take (i := 11) rfl (by kernel_rfl) (by kernel_rfl) (by kernel_rfl) (fun _ _ _ h => h) (Or.inl ⟨by rfl, by intro w hSw; (go_simp <;> with_reducible rfl)⟩) (by assumption) ?_
              (try simp only [Act.put, List.setIfInBounds_toArray, List.set_cons_zero, List.set_cons_succ, List.getElem_toArray, List.getElem_cons_zero, List.getElem_cons_succ])
              refine wpAnyH_done (by kernel_rfl) ?_ _
              refine NoPanic.normal ?_
              have HZZ := Lib.hid hb0
              clear hHeld
              gi_wp2
              refine ⟨?_, by simp [intOf]; omega⟩
              rw [HIN.out]
              exact ⟨i + 1, _, _, _, _, _, _, _, _, _, _, _, _, _, _, _, _, _, _, _, _, _, _, _, _, _, _, _, _, _, _, _, _, _, _, _, _, _, _, rfl, by go_num, by omega, HMK.out.later HZZ.out, HB1X.out.trans (HZZ.out.mono HB1X.out.size)⟩
          case stop_empty =>
            rintro D cc ys X hD hpx ⟨rfl, pre, x, rfl, _⟩ hD9
            have := List.prefix_nil.1 hpx
            simp at this
        | cons y0 ys0 =>
          have HTK := Lib.hid (HTX.out (by simp))
          obtain ⟨xs, hxs⟩ : ∃ xs, y0 :: ys0 = xs := ⟨_, rfl⟩
          have hp0 : 0 < xs.length := by rw [← hxs]; simp
          rw [hxs] at HXB HNV hull hun HTK
          clear hxs HTX HNV
          have HULL : Hid (xs.length ≤ 64) := Lib.hid (by omega)
          refine ⟨trivial, (callsIn_wide.2 (ticks_b m l A c part t _ hfr hm)).mono ?_⟩
          intro e w1 hG
          rw [hun] at hG
          obtain ⟨tb, nb, rb, A9, cap, rfl, htb, hnb, hrb, hF, hnb9, hb1⟩ := hG.at_
          have ltb := (Array.getElem?_eq_some_iff.1 hF.box).1
          have lnb := (Array.getElem?_eq_some_iff.1 hnb9).1
          have lrb := hF.lt
          have HF := Lib.hid hF; have HNB := Lib.hid hnb9
          clear hF hnb9 hG hun hull hm
          have hs0 := HS0.out
          have hbw := hb0W.trans (hb1.mono hb0W.size)
          have bM : Boxed w1 wr.heap.size 3 (.int .i64 (k : Int)) := (hb1.block wr.heap.size (by omega)).trans HbM.out
          have bO : Boxed w1 (wr.heap.size + 1) 32 (.slice none 0 0) := (hb1.block (wr.heap.size + 1) (by omega)).trans HbO.out
          have hb1s := hb1.size
          have hI0 : TKI wr w1.heap.size k [] w1 := ⟨Nat.zero_le _, bM, ⟨_, bO, OwnsOff.nil _ _ _ _, fun g hg => by cases hg⟩, Nat.le_refl _, hbw⟩
          clear bM bO hb1 hbw d0 d1
          gi_wp2
          refine wpIn_rangeFunc_ever rfl h1 (gf := 29) (lb := #[.pointer (some ⟨tb, 0, none⟩), .pointer (some ⟨nb, 0, none⟩)]) rfl trivial (enters_of Try.func29 (by kernel_rfl) rfl)
            (iter_ever (n - 1) (by omega) tb nb rb A9 cap xs m hlo1 hhi1 hp0 HULL.out HXB.out (k + 1) (by omega) w1 HF.out HNB.out) (fun h k => h.trans k) (fun W lp o o' hle _ _ _ => keepsB_put o' (by simp; omega)) (Below.refl _ _) (fun _ => rfl)
            (TKI wr w1.heap.size k) (TKX wr w1.heap.size k) (fun pre X h => by have := h.1; omega) (TKI.turn (by omega)) (TKX.turn (by omega)) hI0
            ?a1_ever ?assign_ever ?body_ever ?stop_ever
          case assign_ever =>
            intro lp x X K hK
            gi_wp2
            exact hK
          case body_ever =>
            rintro lp pre x X ⟨hpm, bM, ⟨v, bO, hown, hvn⟩, hnW, hB⟩
            obtain ⟨A', c', rfl, hle, hmx⟩ := hown.slice
            have hcM := bM.cell
            have hcO := bO.cell
            have hfO := bO.frozen
            by_cases hpe : pre.length = k
            · have ht : (k : Int) ≤ pre.length := by omega
              gi_wp2
              exact ⟨KeepsFrom.refl _ _, rfl, pre, x, rfl, hpe, hpm, bM, ⟨_, bO, hown, hvn⟩, hnW, hB⟩
            · have ht : ¬ (k : Int) ≤ pre.length := by omega
              have HV := Lib.hid hvn
              clear hvn
              gi_wp2_with (gi_at_builtin; refine wpListIn_append_off _ rfl _ _ 32 rfl (wr.heap.size + 1) 3 i0 (.int .i64 0) 1 8 Try.underlying32 hi0 hz0 hz1 hz2 rfl (by decide) _ _ _ rfl (hown.keptB ((Below.refl _ _).alloc (Nat.le_refl _) _)) ⟨X.heap.size, 0, none⟩ 1 1 [.int .i64 x] rfl rfl (cell_one_new _ _ _) (by simp [Value.oneCell']) (by unfold maxLen; omega) (by omega) ?c5_ever ?_)
              case c5_ever => have := hB.size; have := bO.lt; simp; omega
              · intro v' w2 hown' hgrow hfr
                have hkt : KeepsB [tb, nb, rb] X (w2.setCell ⟨wr.heap.size + 1, 0, none⟩ v') := keepsB_store (n1 := w1.heap.size) hgrow HV.out (by simp; omega) hnW
                have hvn' : ∀ g, v'.ownBlock = some g → w1.heap.size ≤ g := fun g hg => by
                  rcases hfr g hg with h | h
                  · exact HV.out g h
                  · omega
                obtain ⟨hv1, hv2, hr2, hk2, hb2⟩ := Boxed.appendedOff bO (by decide) hown (by have := bO.lt; omega) (Nat.le_refl _) hown' hgrow
                obtain ⟨a', c', rfl, _⟩ := hown'.slice
                have hc1 := hv1.cell
                have hf1 := hv1.frozen
                have bM2 := (hb2.block wr.heap.size (by omega)).trans bM
                have hBB := hB.trans (hb2.mono (by omega))
                have hnW2 := Nat.le_trans hnW hkt.1
                have HV2 := Lib.hid hvn'
                clear hown' hgrow hcM hcO hfO hv1 hb2 hfr hvn'
                gi_wp2
                exact ⟨hk2.from _, hkt, by simp; omega, bM2, ⟨_, hv2, by rw [List.length_append, icells_app]; exact hr2, HV2.out⟩, hnW2, hBB⟩
          case stop_ever =>
            rintro D cc pre9 X hD ⟨j, rfl⟩ ⟨rfl, ys, x, hxy, hyl, hpm, bM, ⟨v, bO, hown9, _⟩, _, hBX⟩ hD9
            have hys : toldT xs m k = ys := by
              have hj : j = k + 1 := by have := congrArg List.length hxy; rw [toldT_len] at this; simp at this; omega
              subst hj
              rw [toldT_succ] at hxy
              exact List.append_inj_left' hxy rfl
            have HT := Lib.hid (HTK.out.trans hys)
            have hB0D : wr.heap.size ≤ D := by omega
            have hnew : wr.heap.size ≤ D := hB0D
            have hy7 : ys.length ≤ 1000000000 := by omega
            clear hxy hys hyl hpm hp0
            obtain ⟨a9, c9, rfl, hc9, hm9⟩ := hown9.slice
            obtain ⟨a9', c9', e9, _, _, _, hr9'⟩ := nums_row hown9
            cases e9
            have hr9 : IntRowK .i64 X X.heap.size a9 ys := hr9'
            have z9 : X.cell? ⟨wr.heap.size + 1, 0, none⟩ = some (.slice a9 ys.length c9) := bO.cell
            have z8 : X.cell? ⟨wr.heap.size, 0, none⟩ = some (.int .i64 (k : Int)) := bM.cell
            have hlo := bO.lt
            have hlm := bM.lt
            have HXV := Lib.hid (hbV1.trans ((hbc.trans (hBX.mono hbc.size)).mono hbV1.size))
            have HB1X := Lib.hid (hbc.trans (hBX.mono hbc.size))
            have BXX : ∀ w', Below X.heap.size X w' → w'.cell? ⟨w.heap.size, 0, none⟩ = some (.int .i64 (m : Int)) ∧ w'.cell? ⟨w.heap.size, 1, none⟩ = some (.slice A l.length c) := fun w' h => BX w' (HXV.out.trans (h.mono HXV.out.size))
            obtain ⟨x0, x1⟩ := BXX _ (Below.refl _ _)
            have HMK := Lib.hid (marks_cons (hM.keep hBX) hD9 (Nat.le_trans hbc.size hB0D) hnew)
            clear hown9 bM bO hBX hM
            gi_wp2
            by_cases hgt : t < 1099511626776
            · have hb0 : Below X.heap.size X X.drew := (Below.refl _ _).drew
              refine wpIn_wide.2 ?_
              refine wp_region_noPanic ?_
              refine wp_region_held_drew (S := (fun w' => w'.cell? ⟨w.heap.size, 0, none⟩ = some (.int .i64 (m : Int)) ∧ w'.cell? ⟨w.heap.size, 1, none⟩ = some (.slice A l.length c) ∧ w'.cell? ⟨wr.heap.size + 1, 0, none⟩ = some (.slice a9 ys.length c9) ∧ w'.cell? ⟨wr.heap.size, 0, none⟩ = some (.int .i64 (k : Int)) ∧ Below X.heap.size X w')) (by kernel_rfl) (⟨(BXX _ hb0).1, (BXX _ hb0).2, (hb0.cell (p := ⟨wr.heap.size + 1, 0, none⟩) hlo).trans z9, (hb0.cell (p := ⟨wr.heap.size, 0, none⟩) hlm).trans z8, hb0⟩) (fun hHeld => ?_)
              refine wpAnyH_take (i := 0) rfl (by kernel_rfl) (by kernel_rfl) (by kernel_rfl) (fun _ _ _ h => h) (Or.inl ⟨by rfl, by intro w hSw; (go_simp <;> with_reducible rfl)⟩) (by assumption) ?_
              (try simp only [Act.put, List.setIfInBounds_toArray, List.set_cons_zero, List.set_cons_succ, List.getElem_toArray, List.getElem_cons_zero, List.getElem_cons_succ])
              refine wpAnyH_take (i := 1) rfl (by kernel_rfl) (by kernel_rfl) (by kernel_rfl) (fun _ _ _ h => h) (Or.inl ⟨by rfl, by intro w hSw; (go_simp <;> with_reducible rfl)⟩) (by assumption) ?_
              (try simp only [Act.put, List.setIfInBounds_toArray, List.set_cons_zero, List.set_cons_succ, List.getElem_toArray, List.getElem_cons_zero, List.getElem_cons_succ])
              refine wpAnyH_take (i := 2) rfl (by kernel_rfl) (by kernel_rfl) (by kernel_rfl) (fun _ _ _ h => h) (Or.inl ⟨by rfl, by intro w hSw; (go_simp <;> with_reducible rfl)⟩) (by assumption) ?_
              (try simp only [Act.put, List.setIfInBounds_toArray, List.set_cons_zero, List.set_cons_succ, List.getElem_toArray, List.getElem_cons_zero, List.getElem_cons_succ])
              refine wpAnyH_take (i := 3) rfl (by kernel_rfl) (by kernel_rfl) (by kernel_rfl) (fun _ _ _ h => h) (Or.inl ⟨by rfl, by intro w hSw; (go_simp <;> with_reducible rfl)⟩) (by assumption) ?_
              (try simp only [Act.put, List.setIfInBounds_toArray, List.set_cons_zero, List.set_cons_succ, List.getElem_toArray, List.getElem_cons_zero, List.getElem_cons_succ])
              refine wpAnyH_take (i := 4) rfl (by kernel_rfl) (by kernel_rfl) (by kernel_rfl) (fun _ _ _ h => h) (Or.inl ⟨by rfl, by intro w hSw; (go_simp <;> with_reducible rfl)⟩) (by assumption) ?_
              (try simp only [Act.put, List.setIfInBounds_toArray, List.set_cons_zero, List.set_cons_succ, List.getElem_toArray, List.getElem_cons_zero, List.getElem_cons_succ])
              refine wpAnyH_take (i := 5) rfl (by kernel_rfl) (by kernel_rfl) (by kernel_rfl) (fun _ _ _ h => h) (Or.inl ⟨by rfl, by intro w hSw; (go_simp <;> with_reducible rfl)⟩) (by assumption) ?_
              (try simp only [Act.put, List.setIfInBounds_toArray, List.set_cons_zero, List.set_cons_succ, List.getElem_toArray, List.getElem_cons_zero, List.getElem_cons_succ])
              refine wpAnyH_take (i := 6) rfl (by kernel_rfl) (by kernel_rfl) (by kernel_rfl) (fun _ _ _ h => h) (Or.inl ⟨by rfl, by intro w hSw; (go_simp <;> with_reducible rfl)⟩) (by assumption) ?_
              (try simp only [Act.put, List.setIfInBounds_toArray, List.set_cons_zero, List.set_cons_succ, List.getElem_toArray, List.getElem_cons_zero, List.getElem_cons_succ])
              refine wpAnyH_take (i := 7) rfl (by kernel_rfl) (by kernel_rfl) (by kernel_rfl) (fun _ _ _ h => h) (Or.inl ⟨by rfl, by intro w hSw; (go_simp <;> with_reducible rfl)⟩) (by assumption) ?_
              (try simp only [Act.put, List.setIfInBounds_toArray, List.set_cons_zero, List.set_cons_succ, List.getElem_toArray, List.getElem_cons_zero, List.getElem_cons_succ])
              refine wpAnyH_ready (rs := [8]) (by kernel_rfl) (by simp) (AllReadyH.cons rfl (fun K hK => ?_) AllReadyH.nil)
              go_simp
              refine (rticks_b m l A c part t k _ (hfV.later (HXV.out.drew)) hk7 hgt).mono ?_
              rintro e Y ⟨v8, rfl, hown8, hb8⟩
              rw [HT.out] at hown8
              obtain ⟨a8, c8, rfl, _, _, _, hr8⟩ := nums_at hown8
              have hrY := (((hr9.below hb0).more hb0.size).below hb8).more hb8.size
              have hBY := hb0.trans (hb8.mono hb0.size)
              refine hK.out _ _ ⟨(BXX _ hBY).1, (BXX _ hBY).2, (hBY.cell (p := ⟨wr.heap.size + 1, 0, none⟩) hlo).trans z9, (hBY.cell (p := ⟨wr.heap.size, 0, none⟩) hlm).trans z8, hBY⟩ (fun hHeld => ?_)
              clear hK K
              (try simp only [Act.put, List.setIfInBounds_toArray, List.set_cons_zero, List.set_cons_succ, List.getElem_toArray, List.getElem_cons_zero, List.getElem_cons_succ])
              refine wpAnyH_ready (rs := [9]) (by kernel_rfl) (by simp) (AllReadyH.cons rfl (fun K hK => ?_) AllReadyH.nil)
              go_simp
              refine (same_b ys ys a9 a8 c9 c8 _ hrY hr8 hy7).mono ?_
              rintro e Z ⟨rfl, hb9⟩
              have hBZ := hBY.trans (hb9.mono hBY.size)
              rw [decide_eq_true (rfl : ys = ys)]
              refine hK.out _ _ ⟨(BXX _ hBZ).1, (BXX _ hBZ).2, (hBZ.cell (p := ⟨wr.heap.size + 1, 0, none⟩) hlo).trans z9, (hBZ.cell (p := ⟨wr.heap.size, 0, none⟩) hlm).trans z8, hBZ⟩ (fun hHeld => ?_)
              clear hK K
              (try simp only [Act.put, List.setIfInBounds_toArray, List.set_cons_zero, List.set_cons_succ, List.getElem_toArray, List.getElem_cons_zero, List.getElem_cons_succ])
              refine wpAnyH_take (i := 10) rfl (by kernel_rfl) (by kernel_rfl) (by kernel_rfl) (fun _ _ _ h => h) (Or.inl ⟨by rfl, by intro w hSw; (go_simp <;> with_reducible rfl)⟩) (by assumption) ?_
              (try simp only [Act.put, List.setIfInBounds_toArray, List.set_cons_zero, List.set_cons_succ, List.getElem_toArray, List.getElem_cons_zero, List.getElem_cons_succ])
              refine wpAnyH_take (i := 11) rfl (by kernel_rfl) (by kernel_rfl) (by kernel_rfl) (fun _ _ _ h => h) (Or.inl ⟨by rfl, by intro w hSw; (go_simp <;> with_reducible rfl)⟩) (by assumption) ?_
              (try simp only [Act.put, List.setIfInBounds_toArray, List.set_cons_zero, List.set_cons_succ, List.getElem_toArray, List.getElem_cons_zero, List.getElem_cons_succ])
              refine wpAnyH_done (by kernel_rfl) ?_ _
              refine NoPanic.normal ?_
              have HZZ := Lib.hid hBZ
              clear hHeld
              gi_wp2
              refine ⟨?_, by simp [intOf]; omega⟩
              rw [HIN.out]
              exact ⟨i + 1, _, _, _, _, _, _, _, _, _, _, _, _, _, _, _, _, _, _, _, _, _, _, _, _, _, _, _, _, _, _, _, _, _, _, _, _, _, _, rfl, by go_num, by omega, HMK.out.later HZZ.out, HB1X.out.trans (HZZ.out.mono HB1X.out.size)⟩
            · have hgd2 : decide (t < 1099511626776) = false := decide_eq_false hgt
              have hb0 : Below X.heap.size X X.drew := (Below.refl _ _).drew
              refine wpIn_wide.2 ?_
              refine wp_region_noPanic ?_
              refine wp_region_held_drew (S := (fun w' => w'.cell? ⟨w.heap.size, 0, none⟩ = some (.int .i64 (m : Int)) ∧ w'.cell? ⟨w.heap.size, 1, none⟩ = some (.slice A l.length c) ∧ w'.cell? ⟨wr.heap.size + 1, 0, none⟩ = some (.slice a9 ys.length c9) ∧ w'.cell? ⟨wr.heap.size, 0, none⟩ = some (.int .i64 (k : Int)) ∧ Below X.heap.size X w')) (by kernel_rfl) (⟨(BXX _ hb0).1, (BXX _ hb0).2, (hb0.cell (p := ⟨wr.heap.size + 1, 0, none⟩) hlo).trans z9, (hb0.cell (p := ⟨wr.heap.size, 0, none⟩) hlm).trans z8, hb0⟩) (fun hHeld => ?_)
              refine wpAnyH_take (i := 0) rfl (by kernel_rfl) (by kernel_rfl) (by kernel_rfl) (fun _ _ _ h => h) (Or.inl ⟨by rfl, by intro w hSw; (go_simp <;> with_reducible rfl)⟩) (by assumption) ?_
              (try simp only [Act.put, List.setIfInBounds_toArray, List.set_cons_zero, List.set_cons_succ, List.getElem_toArray, List.getElem_cons_zero, List.getElem_cons_succ])
              refine wpAnyH_take (i := 1) rfl (by kernel_rfl) (by kernel_rfl) (by kernel_rfl) (fun _ _ _ h => h) (Or.inl ⟨by rfl, by intro w hSw; (go_simp <;> with_reducible rfl)⟩) (by assumption) ?_
              (try simp only [Act.put, List.setIfInBounds_toArray, List.set_cons_zero, List.set_cons_succ, List.getElem_toArray, List.getElem_cons_zero, List.getElem_cons_succ])
              refine wpAnyH_take (i := 2) rfl (by kernel_rfl) (by kernel_rfl) (by kernel_rfl) (fun _ _ _ h => h) (Or.inl ⟨by rfl, by intro w hSw; (go_simp <;> with_reducible rfl)⟩) (by assumption) ?_
              (try simp only [Act.put, List.setIfInBounds_toArray, List.set_cons_zero, List.set_cons_succ, List.getElem_toArray, List.getElem_cons_zero, List.getElem_cons_succ])
              refine wpAnyH_take (i := 3) rfl (by kernel_rfl) (by kernel_rfl) (by kernel_rfl) (fun _ _ _ h => h) (Or.inr ⟨by rfl, rfl⟩) (by assumption) ?_
              (try simp only [Act.put, List.setIfInBounds_toArray, List.set_cons_zero, List.set_cons_succ, List.getElem_toArray, List.getElem_cons_zero, List.getElem_cons_succ])
              refine wpAnyH_take (i := 4) rfl (by kernel_rfl) (by kernel_rfl) (by kernel_rfl) (fun _ _ _ h => h) (Or.inr ⟨by rfl, rfl⟩) (by assumption) ?_
              (try simp only [Act.put, List.setIfInBounds_toArray, List.set_cons_zero, List.set_cons_succ, List.getElem_toArray, List.getElem_cons_zero, List.getElem_cons_succ])
              refine wpAnyH_take (i := 5) rfl (by kernel_rfl) (by kernel_rfl) (by kernel_rfl) (fun _ _ _ h => h) (Or.inr ⟨by rfl, rfl⟩) (by assumption) ?_
              (try simp only [Act.put, List.setIfInBounds_toArray, List.set_cons_zero, List.set_cons_succ, List.getElem_toArray, List.getElem_cons_zero, List.getElem_cons_succ])
              refine wpAnyH_take (i := 6) rfl (by kernel_rfl) (by kernel_rfl) (by kernel_rfl) (fun _ _ _ h => h) (Or.inr ⟨by rfl, rfl⟩) (by assumption) ?_
              (try simp only [Act.put, List.setIfInBounds_toArray, List.set_cons_zero, List.set_cons_succ, List.getElem_toArray, List.getElem_cons_zero, List.getElem_cons_succ])
              refine wpAnyH_take (i := 7) rfl (by kernel_rfl) (by kernel_rfl) (by kernel_rfl) (fun _ _ _ h => h) (Or.inr ⟨by rfl, rfl⟩) (by assumption) ?_
              (try simp only [Act.put, List.setIfInBounds_toArray, List.set_cons_zero, List.set_cons_succ, List.getElem_toArray, List.getElem_cons_zero, List.getElem_cons_succ])
              refine wpAnyH_take (i := 8) rfl (by kernel_rfl) (by kernel_rfl) (by kernel_rfl) (fun _ _ _ h => h) (Or.inr ⟨by rfl, rfl⟩) (by assumption) ?_
              (try simp only [Act.put, List.setIfInBounds_toArray, List.set_cons_zero, List.set_cons_succ, List.getElem_toArray, List.getElem_cons_zero, List.getElem_cons_succ])
              refine wpAnyH_take (i := 9) rfl (by kernel_rfl) (by kernel_rfl) (by kernel_rfl) (fun _ _ _ h => h) (Or.inr ⟨by rfl, rfl⟩) (by assumption) ?_
              (try simp only [Act.put, List.setIfInBounds_toArray, List.set_cons_zero, List.set_cons_succ, List.getElem_toArray, List.getElem_cons_zero, List.getElem_cons_succ])
              refine wpAnyH_take (i := 10) rfl (by kernel_rfl) (by kernel_rfl) (by kernel_rfl) (fun _ _ _ h => h) (Or.inr ⟨by rfl, rfl⟩) (by assumption) ?_
              (try simp only [Act.put, List.setIfInBounds_toArray, List.set_cons_zero, List.set_cons_succ, List.getElem_toArray, List.getElem_cons_zero, List.getElem_cons_succ])
              refine wpAnyH_take (i := 11) rfl (by kernel_rfl) (by kernel_rfl) (by kernel_rfl) (fun _ _ _ h => h) (Or.inl ⟨by rfl, by intro w hSw; (go_simp <;> with_reducible rfl)⟩) (by assumption) ?_
              (try simp only [Act.put, List.setIfInBounds_toArray, List.set_cons_zero, List.set_cons_succ, List.getElem_toArray, List.getElem_cons_zero, List.getElem_cons_succ])
              refine wpAnyH_done (by kernel_rfl) ?_ _
              refine NoPanic.normal ?_
              have HZZ := Lib.hid hb0
              clear hHeld
              gi_wp2
              refine ⟨?_, by simp [intOf]; omega⟩
              rw [HIN.out]
              exact ⟨i + 1, _, _, _, _, _, _, _, _, _, _, _, _, _, _, _, _, _, _, _, _, _, _, _, _, _, _, _, _, _, _, _, _, _, _, _, _, _, _, rfl, by go_num, by omega, HMK.out.later HZZ.out, HB1X.out.trans (HZZ.out.mono HB1X.out.size)⟩
    · obtain ⟨Ds, rfl, hD1, hD2⟩ := hM
      have hi3 : ¬ (i : Int) < 3 := by omega
      gi_wp2
      exact leaves_marks Ds _ hD1 (fun D hD => ⟨Nat.le_trans (Nat.le_trans HBV.out.size hbV1.size) (hD2 D hD).1, (hD2 D hD).2⟩) (fun w' hb => ⟨_, results_tmp rfl _ _ _, rfl, HBV.out.trans ((hbV1.trans (hbc.mono hbV1.size)).mono HBV.out.size) |>.trans hb⟩)
theorem lticks_b (len : Int) (l : List (List Int)) (A : Option Addr) (c : Nat) (part t : Int) (w : World) (hx : FArg w len l A c) (wpart : (Lit.int .i64 part).wf = true) (wt : (Lit.int .i64 t).wf = true) : Calls Try.prog 5 #[.agg #[.int .i64 len, .slice A l.length c], .int .i64 part, .int .i64 t] w fun e w' => e = .returned (.bool true) ∧ Below w.heap.size w w' := callsIn_wide.1 (lticks_in 5 (by omega) len l A c part t w hx wpart wt)
end Go.Proofs.Ytfnpdoppdbhlcaa
