/- WitAll answers true. No condition but those in the statements. -/
import Derived.Test.YtmonneeikkgllaaWLo
import Derived.Test.YtmonneeikkgllaaTells
import Derived.BigQuiet
import Derived.IntWalk
import Derived.BigRegion
import Derived.OpenShut
import Derived.Deep.MidRow
import Derived.Lib.Hide
import Derived.Deep.Slices
import Derived.Lib.SmallJoins
import Derived.RangeFuncBox
import Derived.RangeFuncNested
import Derived.RangeFuncBound
import Derived.RangeFuncCalls
import Derived.RangeFuncLeaves
import Derived.Shelf.Abstract
import Derived.Shelf.RegionOpen
import Derived.OwnWalkIn
import Derived.TacticsInMore
import Derived.LoopNIn
import Derived.LoopIn
import Derived.OpenShut
import Derived.Laws.StructEq
import Derived.OwnWalk
import Derived.Deep.RegionHeld3
import Derived.Lib.SlicesMore
namespace Go.Proofs.Ytmonneeikkgllaa
open Go.Shelf WtP Go.RowKit Go.Sort Go.Deep Go.ChangeShapes Go.WideShapes Go.Joins
attribute [local go_sem] Oper.semAt_some
set_option linter.unusedVariables false
set_option linter.unusedSimpArgs false


/-- A bool result that lies in a cell. -/
theorem results_cell_bool {fn : Func} {p : Tmp} {ty : TypeId} {P : Program} (h : fn.results = #[.cell p ty]) (hu : P.underlying ty = some .bool) (tmps : Array Value) (w : World) (g : Nat) (b : Bool)
    (hp : tmps.getD p undef = .pointer (some ⟨g, 0, none⟩)) (hc : w.cell? ⟨g, 0, none⟩ = some (.bool b)) : (results fn tmps).run P w = .ok (.bool b) w := by
  have hp' : tmps[p]?.getD undef = .pointer (some ⟨g, 0, none⟩) := by simpa using hp
  simp [results, h, hp', asAddr, loadVar, isAgg, run_underlying hu]
  go_simp
theorem neq_itemQ (w : World) (a b a' b' : Int) : (binOp .neq 37 (.agg #[.int .i64 a, .int .i64 b]) (.agg #[.int .i64 a', .int .i64 b'])).run Try.prog w = .ok (.bool (!(a == a' && b == b'))) w := by
  go_simp
  by_cases h1 : a = a' <;> by_cases h2 : b = b' <;> simp [h1, h2]
theorem u8_in19 {n : Int} (h : (Lit.int .u8 n).wf = true) : 0 ≤ n ∧ n ≤ 255 := by
  simp [Lit.wf, IntKind.min, IntKind.max, IntKind.signed, IntKind.bits] at h; omega
/-- What a loop is told of an item. -/
def told19 (x : T4) : Int × Int × Int := (x.mom, x.kind, x.idx)
/-- Between two rounds: so many items have been told, those of the list; the boxes stand. -/
structure WI (w w6 : World) (L : List T4) (A3 : Option Addr) (c3 b7 b8 stop : Nat) (pre : List T4) (W : World) : Prop where
  le : pre.length ≤ stop
  len : pre.length ≤ L.length
  tl : pre.map told19 = (L.take pre.length).map told19
  bS : Boxed W w.heap.size 5 (.int .u8 (stop : Int))
  bR : Boxed W (w.heap.size + 1) 4 (.bool false)
  bW : Boxed W b7 30 (.slice A3 L.length c3)
  bN : Boxed W b8 3 (.int .i64 (pre.length : Int))
  rb : W.heap[blkOf A3 b7]? = w6.heap[blkOf A3 b7]?
  ro : ∃ o : Obj, w6.heap[blkOf A3 b7]? = some o ∧ o.isCells = true
  n1le : w6.heap.size ≤ W.heap.size
  below : Below w.heap.size w W
theorem WI.turn {w w6 : World} {L : List T4} {A3 : Option Addr} {c3 b7 b8 stop n₀ : Nat} (hn : w.heap.size ≤ n₀) : OwnFrom n₀ (WI w w6 L A3 c3 b7 b8 stop) := by
  rintro s W W' row h hg hr
  have keep : ∀ (k : Nat) (o : Obj), W.heap[k]? = some o → o.isCells = true → W'.heap[k]? = some o := fun k o hk ho =>
    (hg.block k (Array.getElem?_eq_some_iff.1 hk).1 (fun e => by obtain ⟨_, o', ho', hc⟩ := hr k e.symm; rw [hk] at ho'; cases ho'; rw [ho] at hc; cases hc)).trans hk
  obtain ⟨o, ho1, ho2⟩ := h.ro
  exact ⟨h.le, h.len, h.tl, keep _ _ h.bS rfl, keep _ _ h.bR rfl, keep _ _ h.bW rfl, keep _ _ h.bN rfl, (keep _ o (h.rb.trans ho1) ho2).trans ho1.symm, h.ro, Nat.le_trans h.n1le hg.size, h.below.grown hg h.below.size (fun k e => by have := (hr k e).1; omega)⟩
/-- A round has left: by the break, or, had it been told what isn't in the list, by the return. -/
def WX (w w6 : World) (L : List T4) (A3 : Option Addr) (c3 b7 b8 stop : Nat) (cd : Code) (xs : List T4) (W : World) : Prop :=
  (cd = .exit 0 ∧ ∃ pre x, xs = pre ++ [x] ∧ pre.length = stop ∧ WI w w6 L A3 c3 b7 b8 stop pre W) ∨ ¬ xs <+: L
theorem WX.turn {w w6 : World} {L : List T4} {A3 : Option Addr} {c3 b7 b8 stop n₀ : Nat} (hn : w.heap.size ≤ n₀) (cd : Code) : OwnFrom n₀ (WX w w6 L A3 c3 b7 b8 stop cd) := by
  rintro s W W' row h hg hr
  rcases h with ⟨h1, pre, x, h2, h3, h4⟩ | h
  · exact .inl ⟨h1, pre, x, h2, h3, WI.turn hn _ _ _ _ h4 hg hr⟩
  · exact .inr h
theorem told_next {L pre : List T4} {x y : T4} (h : pre.map told19 = (L.take pre.length).map told19) (hy : L[pre.length]? = some y) (he : told19 x = told19 y) : (pre ++ [x]).map told19 = (L.take (pre ++ [x]).length).map told19 := by
  rw [List.map_append, List.length_append, show [x].length = 1 from rfl, take_pre19 hy, List.map_append, h]
  simp [he]
theorem told_not {L pre : List T4} {x y : T4} (hy : L[pre.length]? = some y) (he : told19 x ≠ told19 y) : ¬ pre ++ [x] <+: L := fun ⟨r, hr⟩ => by
  rw [← hr] at hy
  have h : (pre ++ [x] ++ r)[pre.length]? = some x := by
    rw [List.append_assoc, List.getElem?_append_right (Nat.le_refl _)]; simp
  rw [h] at hy
  injection hy with hy
  exact he (by rw [hy])
set_option maxRecDepth 100000 in
set_option maxHeartbeats 16000000 in
theorem lall_in (l : List CV) (A : Option Addr) (c : Nat) (b : List BV) (B : Option Addr) (d : Nat) (stop : Nat) (w : World) (hr : CRow w w.heap.size A l) (hrb : BRow w w.heap.size B b) (hst : stop ≤ 255) : CallsIn Fence.wide 5 Try.prog 4 #[.slice A l.length c, .slice B b.length d, .int .u8 (stop : Int)] w fun e w' => e = .returned (.bool true) ∧ Below w.heap.size w w' := by
  have hneq := neq_nil19
  obtain ⟨w0, hw0⟩ : ∃ u, Hid (u = (w.alloc (.cells #[.int .u8 (stop : Int)] 5)).alloc (.cells #[.bool false] 4)) := ⟨_, rfl⟩
  have hb0 : Below w.heap.size w w0 := by rw [hw0.out]; exact ((Below.refl _ w).alloc (Nat.le_refl _) _).alloc (by simp) _
  have bS0 : Boxed w0 w.heap.size 5 (.int .u8 (stop : Int)) := by rw [hw0.out]; exact (Boxed.new w _ _).alloc _
  have bR0 : Boxed w0 (w.heap.size + 1) 4 (.bool false) := by
    rw [hw0.out]
    have := Boxed.new (w.alloc (.cells #[.int .u8 (stop : Int)] 5)) 4 (.bool false)
    rwa [World.size_alloc] at this
  have HR := Lib.hid hr; have HRB := Lib.hid hrb; have HB0 := Lib.hid hb0; have HST0 := Lib.hid bS0; have HR0 := Lib.hid bR0
  have HS0 := Lib.hid (show w0.heap.size = w.heap.size + 2 by rw [hw0.out]; simp)
  clear hr hrb hb0 bS0 bR0
  refine callsIn_of_wp_marks Try.func4 rfl trivial ?_ rfl
  simp only [Try.ntmps4, List.size_toArray, List.length_cons, List.length_nil, Nat.reduceAdd, Nat.reduceSub, Array.replicate_succ, Array.replicate_zero, List.push_toArray, List.append_toArray, List.nil_append, List.cons_append]
  gi_wp2_with (rw [← hw0.out])
  refine ⟨trivial, (callsIn_wide.2 (wakes19_b w0)).mono ?_⟩
  rintro e w1 ⟨rfl, hb1⟩
  have HB1 := Lib.hid hb1
  have HBW1 := Lib.hid (HB0.out.trans (hb1.mono HB0.out.size))
  have HR1 : Hid (Boxed w1 (w.heap.size + 1) 4 (.bool false)) := Lib.hid ((hb1.block _ HR0.out.lt).trans HR0.out)
  clear hb1
  by_cases hl : (60 : Int) < (l.length : Int)
  · have bz := HR1.out
    have cz := bz.cell
    have fz := bz.frozen
    gi_wp2
    refine ⟨trivial, ?_⟩
    gi_wp2
    have br9 := bz.set (.bool true)
    exact ⟨_, results_cell_bool rfl Try.underlying4 _ _ (w.heap.size + 1) true rfl br9.cell, rfl, (HBW1.out).setCell (by simp) _⟩
  have hld : decide ((60 : Int) < (l.length : Int)) = false := decide_eq_false hl
  have hl60 : l.length ≤ 60 := by omega
  by_cases hbl : (60 : Int) < (b.length : Int)
  · have bz := HR1.out
    have cz := bz.cell
    have fz := bz.frozen
    gi_wp2
    refine ⟨trivial, ?_⟩
    gi_wp2
    have br9 := bz.set (.bool true)
    exact ⟨_, results_cell_bool rfl Try.underlying4 _ _ (w.heap.size + 1) true rfl br9.cell, rfl, (HBW1.out).setCell (by simp) _⟩
  have hbld : decide ((60 : Int) < (b.length : Int)) = false := decide_eq_false hbl
  have hb60 : b.length ≤ 60 := by omega
  cases hso : soundB l with
  | false =>
    have HSO := Lib.hid hso
    clear hso
    gi_wp2_with fail
    refine ⟨trivial, (callsIn_wide.2 (rsound_q A l c false _ (HR.out.later HBW1.out) hl60 HSO.out)).mono ?_⟩
    rintro e w2 ⟨rfl, hb2⟩
    have HB2 := Lib.hid hb2
    clear hb2
    have bz := show Boxed w2 (w.heap.size + 1) 4 (.bool false) from (HB2.out.block _ HR1.out.lt).trans HR1.out
    have cz := bz.cell
    have fz := bz.frozen
    gi_wp2
    have br9 := bz.set (.bool true)
    exact ⟨_, results_cell_bool rfl Try.underlying4 _ _ (w.heap.size + 1) true rfl br9.cell, rfl, (HBW1.out.trans (HB2.out.mono HBW1.out.size)).setCell (by simp) _⟩
  | true =>
    have HSO := Lib.hid hso
    clear hso
    gi_wp2_with fail
    refine ⟨trivial, (callsIn_wide.2 (rsound_q A l c true _ (HR.out.later HBW1.out) hl60 HSO.out)).mono ?_⟩
    rintro e w2 ⟨rfl, hb2⟩
    have HB2 := Lib.hid (HB1.out.trans (hb2.mono HB1.out.size))
    have HBW2 := Lib.hid (HB0.out.trans (HB2.out.mono HB0.out.size))
    obtain ⟨L, hL⟩ : ∃ L, witS l b = L := ⟨_, rfl⟩
    have hLL := witS_len l b hl60 hb60
    have HRO := Lib.hid (fun (u : World) (h : Below w.heap.size w u) => rorder_b l A c b B d u (HR.out.later h) (HRB.out.later h) hl60 hb60 HSO.out)
    have HAL := Lib.hid (fun (u : World) (h : Below w.heap.size w u) => all19_b l A c b B d u (HR.out.later h) (HRB.out.later h) hl60 hb60)
    rw [hL] at hLL HRO HAL
    have HLL := Lib.hid hLL
    clear hb2 hl hbl hld hbld hL hLL
    gi_wp2_with fail
    refine ⟨trivial, (callsIn_wide.2 (HRO.out _ HBW2.out)).mono ?_⟩
    rintro e w3 ⟨v3, rfl, hown3, hb3⟩
    obtain ⟨A3, c3, rfl, -, -, ht3⟩ := own_trow hown3 rfl
    have HLT3 := Lib.hid (fun k e => hown3.lt k e)
    have HTY3 := Lib.hid (fun k e => hown3.typed k e)
    have HB3 := Lib.hid (HB2.out.trans (hb3.mono HB2.out.size))
    have HT3 := Lib.hid ht3
    have HS3 := Lib.hid hb3.size
    clear hown3 hb3 ht3
    obtain ⟨w5, hw5⟩ : ∃ u, Hid (u = (w3.alloc (.cells #[.slice A3 L.length c3] 30)).alloc (.cells #[.int .i64 0] 3)) := ⟨_, rfl⟩
    have hb5 : Below w3.heap.size w3 w5 := by rw [hw5.out]; exact ((Below.refl _ _).alloc (Nat.le_refl _) _).alloc (by simp) _
    have HW5 : Hid (Boxed w5 w3.heap.size 30 (.slice A3 L.length c3)) := Lib.hid (by rw [hw5.out]; exact (Boxed.new w3 _ _).alloc _)
    have HN5 : Hid (Boxed w5 (w3.heap.size + 1) 3 (.int .i64 0)) := Lib.hid (by
      rw [hw5.out]
      have := Boxed.new (w3.alloc (.cells #[.slice A3 L.length c3] 30)) 3 (.int .i64 0)
      rwa [World.size_alloc] at this)
    have HB5 := Lib.hid (HB3.out.trans (hb5.mono HB3.out.size))
    have HBW5 := Lib.hid (HB0.out.trans (HB5.out.mono HB0.out.size))
    have HH5 := Lib.hid hb5
    clear hb5
    gi_wp2_with fail
    rw [← hw5.out]
    refine ⟨trivial, (callsIn_wide.2 (HAL.out _ HBW5.out)).mono ?_⟩
    rintro e w6 ⟨p, A6, c6, rfl, hp, hF, htr, hb6, ha6⟩
    obtain ⟨b7, hb7⟩ : ∃ b7, w3.heap.size = b7 := ⟨_, rfl⟩
    obtain ⟨b8, hb8⟩ : ∃ b8, w3.heap.size + 1 = b8 := ⟨_, rfl⟩
    have h56 := HB5.out.trans (hb6.mono HB5.out.size)
    have hs2 : w3.heap.size + 2 ≤ w5.heap.size := by have := HN5.out.lt; omega
    have hw3s : w.heap.size + 2 ≤ w3.heap.size := by have := HB3.out.size; have := HS0.out; omega
    have hbs : ∀ k ∈ [p, blkOf A6 p], k < w6.heap.size ∧ w5.heap.size ≤ k := by
      intro k hk
      simp at hk
      have hpl := (Array.getElem?_eq_some_iff.1 hF).1
      rcases hk with rfl | rfl
      · exact ⟨hpl, hp⟩
      · cases A6 with
        | none => exact ⟨hpl, hp⟩
        | some a => have := ha6 a rfl; exact ⟨this.2, this.1⟩
    have HBS := Lib.hid hbs
    have hI0 : WI w w6 L A3 c3 b7 b8 stop [] w6 := by
      refine ⟨Nat.zero_le _, Nat.zero_le _, rfl, (h56.block _ HST0.out.lt).trans HST0.out, (h56.block _ HR0.out.lt).trans HR0.out, ?_, ?_, rfl, ?_, Nat.le_refl _, HBW5.out.trans (hb6.mono HBW5.out.size)⟩
      · rw [← hb7]; exact (hb6.block _ HW5.out.lt).trans HW5.out
      · rw [← hb8]; exact (hb6.block _ HN5.out.lt).trans HN5.out
      · cases A3 with
        | none => exact ⟨_, by show w6.heap[b7]? = _; rw [← hb7]; exact (hb6.block _ HW5.out.lt).trans HW5.out, rfl⟩
        | some a =>
          have hlt := (HLT3.out a.block rfl).2
          obtain ⟨cs, hcs⟩ := HTY3.out a.block rfl
          exact ⟨_, (hb6.block a.block (by have := HH5.out.size; omega)).trans ((HH5.out.block _ hlt).trans hcs), rfl⟩
    have HTR6 : Hid (TRow w6 w3.heap.size A3 L) := Lib.hid (HT3.out.below (HH5.out.trans (hb6.mono HH5.out.size)))
    have HBD : Hid (b7 < w5.heap.size ∧ b8 < w5.heap.size ∧ blkOf A3 b7 < w5.heap.size ∧ w.heap.size + 2 ≤ b7 ∧ w.heap.size + 2 ≤ b8 ∧ b7 ≠ b8 ∧ b8 ≠ blkOf A3 b7 ∧ w.heap.size + 1 ≠ blkOf A3 b7) := Lib.hid (by
      refine ⟨by omega, by omega, ?_, by omega, by omega, by omega, ?_, ?_⟩
      · cases A3 with
        | none => show b7 < _; omega
        | some a => have := HLT3.out a.block rfl; show a.block < _; omega
      · cases A3 with
        | none => show b8 ≠ b7; omega
        | some a => have := HLT3.out a.block rfl; show b8 ≠ a.block; omega
      · cases A3 with
        | none => show _ ≠ b7; omega
        | some a => have := HLT3.out a.block rfl; have := HBW2.out.size; have := HB2.out.size; have := HS0.out; show _ ≠ a.block; omega)
    have HN6 := Lib.hid (show w.heap.size + 2 < w6.heap.size by have := hb6.size; omega)
    have HP6 := Lib.hid (show w5.heap.size ≤ w6.heap.size from hb6.size)
    have HF := Lib.hid hF; have HTR := Lib.hid htr; have HI0 := Lib.hid hI0
    rw [hb8, hb7]
    clear hp hF htr hb6 ha6 h56 hs2 hw3s hbs hI0 hb7 hb8
    gi_wp2
    refine wpIn_rangeFunc_ownH rfl (by omega) (gf := 25) (lb := #[.pointer (some ⟨p, 0, none⟩)]) rfl trivial (enters_of Try.func25 (by kernel_rfl) rfl)
      (iter19_stops (5 - 1) (by omega) p A6 c6 L (by have := HLL.out; omega) w6 HF.out HTR.out) (fun h k => h.trans k) (fun W lp o o' hle _ _ _ => keepsB_put o' (fun k hk => by have := HBS.out k hk; omega)) (Below.refl _ _) (fun _ => rfl)
      (WI w w6 L A3 c3 b7 b8 stop) (WX w w6 L A3 c3 b7 b8 stop) (WI.turn (by have := HN6.out; omega)) (WX.turn (by have := HN6.out; omega)) HI0.out
      (fun x a' W => ∃ Bx, w6.heap.size ≤ Bx ∧ W.heap[Bx]? = some (.cells #[.int .i64 x.kind, .int .i64 x.idx] 37 (0, 0)) ∧ a' = { tmps := #[.slice A l.length c, .slice B b.length d, .int .u8 (stop : Int), undef, undef, .pointer (some ⟨w.heap.size, 0, none⟩), .pointer (some ⟨w.heap.size + 1, 0, none⟩), .pointer (some ⟨b7, 0, none⟩), .pointer (some ⟨b8, 0, none⟩), .func (.func 25) #[] #[.pointer (some ⟨p, 0, none⟩)], .int .i64 x.mom, .pointer (some ⟨Bx, 0, none⟩), .bool true, .bool false, .slice A l.length c, .int .i64 (l.length : Int), .bool false, .bool false, .slice B b.length d, .int .i64 (b.length : Int), .bool false, .bool false, .bool false, .slice A l.length c, .bool true, .bool false, .bool false, .slice A l.length c, .slice B b.length d, .slice A3 L.length c3, .slice A l.length c, .slice B b.length d, .func (.func 25) #[] #[.pointer (some ⟨p, 0, none⟩)], .func (.func 25) #[] #[.pointer (some ⟨p, 0, none⟩)], .bool true, .func (.func 25) #[] #[.pointer (some ⟨p, 0, none⟩)], .int .i64 x.mom, .agg #[.int .i64 x.kind, .int .i64 x.idx], undef, undef, undef, undef, undef, undef, undef, undef, undef, undef, undef, undef, undef, undef, undef, undef, undef, undef, undef, undef, undef, undef, undef, undef, undef, undef, undef, undef, undef, undef, undef, undef, undef, undef, undef], defers := [] }) ?hAx ?assign ?body ?done ?stop
    case hAx =>
      rintro x a' s W W' row ⟨Bx, e1, e2, e3⟩ hg hr
      exact ⟨Bx, e1, (hg.block Bx (Array.getElem?_eq_some_iff.1 e2).1 (fun e => by obtain ⟨_, o', ho', hc⟩ := hr Bx e.symm; rw [e2] at ho'; cases ho'; cases hc)).trans e2, e3⟩
    case assign =>
      rintro lo pre x W K hI hK
      gi_wp2
      have hal : Below W.heap.size W (W.alloc (.cells #[.int .i64 x.kind, .int .i64 x.idx] 37)) := (Below.refl _ _).alloc (Nat.le_refl _) _
      refine hK _ _ ((KeepsOthers.alloc _ _).from _) (keepsB_below hal (fun k hk => by have := HBS.out k hk; have := hI.n1le; omega)) ⟨hI.le, hI.len, hI.tl, hI.bS.alloc _, hI.bR.alloc _, hI.bW.alloc _, hI.bN.alloc _, (hal.block _ (by have := HBD.out.2.2.1; have := HP6.out; have := hI.n1le; omega)).trans hI.rb, hI.ro, by have := hI.n1le; simp; omega, hI.below.alloc hI.below.size _⟩ ⟨W.heap.size, hI.n1le, heap_alloc_new _ _, rfl⟩
    case body =>
      rintro lp pre x a' W hlo ⟨rr, hrr⟩ hI ⟨Bx, hBx, bX, rfl⟩ hlt2
      have hcN := hI.bN.cell
      have hfN := hI.bN.frozen
      have hcS := hI.bS.cell
      have hcv := IntWalk.i64_in (stop : Int) (by omega)
      have HI := Lib.hid hI
      by_cases hpe : pre.length = stop
      · have ht : (stop : Int) ≤ (pre.length : Int) := by omega
        have HPE := Lib.hid hpe
        clear hpe bX hI
        gi_wp2
        exact ⟨KeepsFrom.refl _ _, .inl ⟨rfl, pre, _, rfl, HPE.out, HI.out⟩⟩
      · have ht : ¬ (stop : Int) ≤ (pre.length : Int) := by have := hI.le; omega
        have htd : decide ((stop : Int) ≤ (pre.length : Int)) = false := decide_eq_false ht
        have hnl : ¬ (L.length : Int) ≤ (pre.length : Int) := by omega
        have hnd : decide ((L.length : Int) ≤ (pre.length : Int)) = false := decide_eq_false hnl
        have hnt : (pre.length : Int) < (L.length : Int) := by omega
        have hnN : decide (L.length ≤ pre.length) = false := decide_eq_false (by omega)
        have hnp : decide ((pre.length : Int) < 0) = false := decide_eq_false (by omega)
        obtain ⟨bb, oo, y, rfl, hbl3, hy, hyc⟩ := HTR6.out.at_ hlt2
        have hyw := hyc w6 (Below.refl _ _)
        have hrb := hI.rb
        have HSC : Hid (∀ V, Below W.heap.size W V → V.cell? ⟨b8, 0, none⟩ = some (.int .i64 (pre.length : Int)) ∧ V.cell? ⟨b7, 0, none⟩ = some (.slice (some ⟨bb, oo, none⟩) L.length c3) ∧ V.cell? ⟨bb, oo + pre.length * 4, none⟩ = some (.int .i64 y.mom) ∧ V.cell? ⟨bb, oo + pre.length * 4 + 2, none⟩ = some (.int .i64 y.kind) ∧ V.cell? ⟨bb, oo + pre.length * 4 + 3, none⟩ = some (.int .i64 y.idx) ∧ V.cell? ⟨Bx, 0, none⟩ = some (.int .i64 x.kind) ∧ V.cell? ⟨Bx, 1, none⟩ = some (.int .i64 x.idx)) := Lib.hid (fun V hV => by
          have h1 := tc_cells (w := W) (b := bb) (o := oo + pre.length * 4) (x := y) (fun j u hu => by
            rw [← hyw j u hu]
            simp [World.cell?, show W.heap[bb]? = w6.heap[bb]? from hrb])
          have hbbW : bb < W.heap.size := World.block_lt_of_cell? W ⟨bb, oo + pre.length * 4, none⟩ h1.1
          have hBxW := (Array.getElem?_eq_some_iff.1 bX).1
          exact ⟨(hV.cell (p := ⟨b8, 0, none⟩) hI.bN.lt).trans hcN, (hV.cell (p := ⟨b7, 0, none⟩) hI.bW.lt).trans hI.bW.cell, (hV.cell (p := ⟨bb, oo + pre.length * 4, none⟩) hbbW).trans h1.1, (hV.cell (p := ⟨bb, oo + pre.length * 4 + 2, none⟩) hbbW).trans h1.2.2.1, (hV.cell (p := ⟨bb, oo + pre.length * 4 + 3, none⟩) hbbW).trans h1.2.2.2, (hV.cell (p := ⟨Bx, 0, none⟩) hBxW).trans (cell_at19 bX rfl), (hV.cell (p := ⟨Bx, 1, none⟩) hBxW).trans (cell_at19 bX rfl)⟩)
        have HPE := Lib.hid hpe; have HY := Lib.hid hy; have HLT := Lib.hid hlt2
        have bR := hI.bR
        have hcR := bR.cell
        have hfR := bR.frozen
        clear hyc hyw hrb hbl3 hpe hy bX bR hI
        by_cases h1 : x.mom = y.mom
        · have h1d : (x.mom != y.mom) = false := by simp [h1]
          by_cases h2 : x.kind = y.kind ∧ x.idx = y.idx
          · have hnq : ∀ w, (binOp .neq 37 (.agg #[.int .i64 x.kind, .int .i64 x.idx]) (.agg #[.int .i64 y.kind, .int .i64 y.idx])).run Try.prog w = .ok (.bool false) w := fun w => by rw [h2.1, h2.2]; exact neq_item w _ _
            have HT := Lib.hid (told_next HI.out.tl HY.out (show told19 x = told19 y by unfold told19; rw [h1, h2.1, h2.2]))
            clear h1 h2
            gi_wp2_with fail
            refine region_round (S := fun V => Below W.heap.size W V) (by kernel_rfl) (by kernel_rfl) (by rintro ⟨a0, w0', h0'⟩; exact h0') ((Below.refl _ _).drew) (fun hHeld => ?_)
            first
              | (refine wpAnyH_take (i := 0) rfl (by kernel_rfl) (by kernel_rfl) (by kernel_rfl) (fun _ _ _ h => h) (Or.inl ⟨by rfl, by intro wS hSw; obtain ⟨q0, q1, q2, q3, q4, q5, q6⟩ := HSC.out _ hSw; (go_simp <;> with_reducible rfl)⟩) (by assumption) ?_)
              | (refine wpAnyH_take (i := 0) rfl (by kernel_rfl) (by kernel_rfl) (by kernel_rfl) (fun _ _ _ h => h) (Or.inr ⟨by rfl, rfl⟩) (by assumption) ?_)
            (try simp only [Act.put, List.setIfInBounds_toArray, List.set_cons_zero, List.set_cons_succ, List.getElem_toArray, List.getElem_cons_zero, List.getElem_cons_succ])
            first
              | (refine wpAnyH_take (i := 1) rfl (by kernel_rfl) (by kernel_rfl) (by kernel_rfl) (fun _ _ _ h => h) (Or.inl ⟨by rfl, by intro wS hSw; obtain ⟨q0, q1, q2, q3, q4, q5, q6⟩ := HSC.out _ hSw; (go_simp <;> with_reducible rfl)⟩) (by assumption) ?_)
              | (refine wpAnyH_take (i := 1) rfl (by kernel_rfl) (by kernel_rfl) (by kernel_rfl) (fun _ _ _ h => h) (Or.inr ⟨by rfl, rfl⟩) (by assumption) ?_)
            (try simp only [Act.put, List.setIfInBounds_toArray, List.set_cons_zero, List.set_cons_succ, List.getElem_toArray, List.getElem_cons_zero, List.getElem_cons_succ])
            first
              | (refine wpAnyH_take (i := 2) rfl (by kernel_rfl) (by kernel_rfl) (by kernel_rfl) (fun _ _ _ h => h) (Or.inl ⟨by rfl, by intro wS hSw; obtain ⟨q0, q1, q2, q3, q4, q5, q6⟩ := HSC.out _ hSw; (go_simp <;> with_reducible rfl)⟩) (by assumption) ?_)
              | (refine wpAnyH_take (i := 2) rfl (by kernel_rfl) (by kernel_rfl) (by kernel_rfl) (fun _ _ _ h => h) (Or.inr ⟨by rfl, rfl⟩) (by assumption) ?_)
            (try simp only [Act.put, List.setIfInBounds_toArray, List.set_cons_zero, List.set_cons_succ, List.getElem_toArray, List.getElem_cons_zero, List.getElem_cons_succ])
            first
              | (refine wpAnyH_take (i := 3) rfl (by kernel_rfl) (by kernel_rfl) (by kernel_rfl) (fun _ _ _ h => h) (Or.inl ⟨by rfl, by intro wS hSw; obtain ⟨q0, q1, q2, q3, q4, q5, q6⟩ := HSC.out _ hSw; (go_simp <;> with_reducible rfl)⟩) (by assumption) ?_)
              | (refine wpAnyH_take (i := 3) rfl (by kernel_rfl) (by kernel_rfl) (by kernel_rfl) (fun _ _ _ h => h) (Or.inr ⟨by rfl, rfl⟩) (by assumption) ?_)
            (try simp only [Act.put, List.setIfInBounds_toArray, List.set_cons_zero, List.set_cons_succ, List.getElem_toArray, List.getElem_cons_zero, List.getElem_cons_succ])
            first
              | (refine wpAnyH_take (i := 4) rfl (by kernel_rfl) (by kernel_rfl) (by kernel_rfl) (fun _ _ _ h => h) (Or.inl ⟨by rfl, by intro wS hSw; obtain ⟨q0, q1, q2, q3, q4, q5, q6⟩ := HSC.out _ hSw; (go_simp <;> with_reducible rfl)⟩) (by assumption) ?_)
              | (refine wpAnyH_take (i := 4) rfl (by kernel_rfl) (by kernel_rfl) (by kernel_rfl) (fun _ _ _ h => h) (Or.inr ⟨by rfl, rfl⟩) (by assumption) ?_)
            (try simp only [Act.put, List.setIfInBounds_toArray, List.set_cons_zero, List.set_cons_succ, List.getElem_toArray, List.getElem_cons_zero, List.getElem_cons_succ])
            first
              | (refine wpAnyH_take (i := 5) rfl (by kernel_rfl) (by kernel_rfl) (by kernel_rfl) (fun _ _ _ h => h) (Or.inl ⟨by rfl, by intro wS hSw; obtain ⟨q0, q1, q2, q3, q4, q5, q6⟩ := HSC.out _ hSw; (go_simp <;> with_reducible rfl)⟩) (by assumption) ?_)
              | (refine wpAnyH_take (i := 5) rfl (by kernel_rfl) (by kernel_rfl) (by kernel_rfl) (fun _ _ _ h => h) (Or.inr ⟨by rfl, rfl⟩) (by assumption) ?_)
            (try simp only [Act.put, List.setIfInBounds_toArray, List.set_cons_zero, List.set_cons_succ, List.getElem_toArray, List.getElem_cons_zero, List.getElem_cons_succ])
            first
              | (refine wpAnyH_take (i := 6) rfl (by kernel_rfl) (by kernel_rfl) (by kernel_rfl) (fun _ _ _ h => h) (Or.inl ⟨by rfl, by intro wS hSw; obtain ⟨q0, q1, q2, q3, q4, q5, q6⟩ := HSC.out _ hSw; (go_simp <;> with_reducible rfl)⟩) (by assumption) ?_)
              | (refine wpAnyH_take (i := 6) rfl (by kernel_rfl) (by kernel_rfl) (by kernel_rfl) (fun _ _ _ h => h) (Or.inr ⟨by rfl, rfl⟩) (by assumption) ?_)
            (try simp only [Act.put, List.setIfInBounds_toArray, List.set_cons_zero, List.set_cons_succ, List.getElem_toArray, List.getElem_cons_zero, List.getElem_cons_succ])
            first
              | (refine wpAnyH_take (i := 7) rfl (by kernel_rfl) (by kernel_rfl) (by kernel_rfl) (fun _ _ _ h => h) (Or.inl ⟨by rfl, by intro wS hSw; obtain ⟨q0, q1, q2, q3, q4, q5, q6⟩ := HSC.out _ hSw; (go_simp <;> with_reducible rfl)⟩) (by assumption) ?_)
              | (refine wpAnyH_take (i := 7) rfl (by kernel_rfl) (by kernel_rfl) (by kernel_rfl) (fun _ _ _ h => h) (Or.inr ⟨by rfl, rfl⟩) (by assumption) ?_)
            (try simp only [Act.put, List.setIfInBounds_toArray, List.set_cons_zero, List.set_cons_succ, List.getElem_toArray, List.getElem_cons_zero, List.getElem_cons_succ])
            first
              | (refine wpAnyH_take (i := 8) rfl (by kernel_rfl) (by kernel_rfl) (by kernel_rfl) (fun _ _ _ h => h) (Or.inl ⟨by rfl, by intro wS hSw; obtain ⟨q0, q1, q2, q3, q4, q5, q6⟩ := HSC.out _ hSw; (go_simp <;> with_reducible rfl)⟩) (by assumption) ?_)
              | (refine wpAnyH_take (i := 8) rfl (by kernel_rfl) (by kernel_rfl) (by kernel_rfl) (fun _ _ _ h => h) (Or.inr ⟨by rfl, rfl⟩) (by assumption) ?_)
            (try simp only [Act.put, List.setIfInBounds_toArray, List.set_cons_zero, List.set_cons_succ, List.getElem_toArray, List.getElem_cons_zero, List.getElem_cons_succ])
            first
              | (refine wpAnyH_take (i := 9) rfl (by kernel_rfl) (by kernel_rfl) (by kernel_rfl) (fun _ _ _ h => h) (Or.inl ⟨by rfl, by intro wS hSw; obtain ⟨q0, q1, q2, q3, q4, q5, q6⟩ := HSC.out _ hSw; (go_simp <;> with_reducible rfl)⟩) (by assumption) ?_)
              | (refine wpAnyH_take (i := 9) rfl (by kernel_rfl) (by kernel_rfl) (by kernel_rfl) (fun _ _ _ h => h) (Or.inr ⟨by rfl, rfl⟩) (by assumption) ?_)
            (try simp only [Act.put, List.setIfInBounds_toArray, List.set_cons_zero, List.set_cons_succ, List.getElem_toArray, List.getElem_cons_zero, List.getElem_cons_succ])
            first
              | (refine wpAnyH_take (i := 10) rfl (by kernel_rfl) (by kernel_rfl) (by kernel_rfl) (fun _ _ _ h => h) (Or.inl ⟨by rfl, by intro wS hSw; obtain ⟨q0, q1, q2, q3, q4, q5, q6⟩ := HSC.out _ hSw; (go_simp <;> with_reducible rfl)⟩) (by assumption) ?_)
              | (refine wpAnyH_take (i := 10) rfl (by kernel_rfl) (by kernel_rfl) (by kernel_rfl) (fun _ _ _ h => h) (Or.inr ⟨by rfl, rfl⟩) (by assumption) ?_)
            (try simp only [Act.put, List.setIfInBounds_toArray, List.set_cons_zero, List.set_cons_succ, List.getElem_toArray, List.getElem_cons_zero, List.getElem_cons_succ])
            first
              | (refine wpAnyH_take (i := 11) rfl (by kernel_rfl) (by kernel_rfl) (by kernel_rfl) (fun _ _ _ h => h) (Or.inl ⟨by rfl, by intro wS hSw; obtain ⟨q0, q1, q2, q3, q4, q5, q6⟩ := HSC.out _ hSw; (go_simp <;> with_reducible rfl)⟩) (by assumption) ?_)
              | (refine wpAnyH_take (i := 11) rfl (by kernel_rfl) (by kernel_rfl) (by kernel_rfl) (fun _ _ _ h => h) (Or.inr ⟨by rfl, rfl⟩) (by assumption) ?_)
            (try simp only [Act.put, List.setIfInBounds_toArray, List.set_cons_zero, List.set_cons_succ, List.getElem_toArray, List.getElem_cons_zero, List.getElem_cons_succ])
            first
              | (refine wpAnyH_take (i := 12) rfl (by kernel_rfl) (by kernel_rfl) (by kernel_rfl) (fun _ _ _ h => h) (Or.inl ⟨by rfl, by intro wS hSw; obtain ⟨q0, q1, q2, q3, q4, q5, q6⟩ := HSC.out _ hSw; (go_simp <;> with_reducible rfl)⟩) (by assumption) ?_)
              | (refine wpAnyH_take (i := 12) rfl (by kernel_rfl) (by kernel_rfl) (by kernel_rfl) (fun _ _ _ h => h) (Or.inr ⟨by rfl, rfl⟩) (by assumption) ?_)
            (try simp only [Act.put, List.setIfInBounds_toArray, List.set_cons_zero, List.set_cons_succ, List.getElem_toArray, List.getElem_cons_zero, List.getElem_cons_succ])
            first
              | (refine wpAnyH_take (i := 13) rfl (by kernel_rfl) (by kernel_rfl) (by kernel_rfl) (fun _ _ _ h => h) (Or.inl ⟨by rfl, by intro wS hSw; obtain ⟨q0, q1, q2, q3, q4, q5, q6⟩ := HSC.out _ hSw; (go_simp <;> with_reducible rfl)⟩) (by assumption) ?_)
              | (refine wpAnyH_take (i := 13) rfl (by kernel_rfl) (by kernel_rfl) (by kernel_rfl) (fun _ _ _ h => h) (Or.inr ⟨by rfl, rfl⟩) (by assumption) ?_)
            (try simp only [Act.put, List.setIfInBounds_toArray, List.set_cons_zero, List.set_cons_succ, List.getElem_toArray, List.getElem_cons_zero, List.getElem_cons_succ])
            first
              | (refine wpAnyH_take (i := 14) rfl (by kernel_rfl) (by kernel_rfl) (by kernel_rfl) (fun _ _ _ h => h) (Or.inl ⟨by rfl, by intro wS hSw; obtain ⟨q0, q1, q2, q3, q4, q5, q6⟩ := HSC.out _ hSw; (go_simp <;> with_reducible rfl)⟩) (by assumption) ?_)
              | (refine wpAnyH_take (i := 14) rfl (by kernel_rfl) (by kernel_rfl) (by kernel_rfl) (fun _ _ _ h => h) (Or.inr ⟨by rfl, rfl⟩) (by assumption) ?_)
            (try simp only [Act.put, List.setIfInBounds_toArray, List.set_cons_zero, List.set_cons_succ, List.getElem_toArray, List.getElem_cons_zero, List.getElem_cons_succ])
            first
              | (refine wpAnyH_take (i := 15) rfl (by kernel_rfl) (by kernel_rfl) (by kernel_rfl) (fun _ _ _ h => h) (Or.inl ⟨by rfl, by intro wS hSw; obtain ⟨q0, q1, q2, q3, q4, q5, q6⟩ := HSC.out _ hSw; (go_simp <;> with_reducible rfl)⟩) (by assumption) ?_)
              | (refine wpAnyH_take (i := 15) rfl (by kernel_rfl) (by kernel_rfl) (by kernel_rfl) (fun _ _ _ h => h) (Or.inr ⟨by rfl, rfl⟩) (by assumption) ?_)
            (try simp only [Act.put, List.setIfInBounds_toArray, List.set_cons_zero, List.set_cons_succ, List.getElem_toArray, List.getElem_cons_zero, List.getElem_cons_succ])
            first
              | (refine wpAnyH_take (i := 16) rfl (by kernel_rfl) (by kernel_rfl) (by kernel_rfl) (fun _ _ _ h => h) (Or.inl ⟨by rfl, by intro wS hSw; obtain ⟨q0, q1, q2, q3, q4, q5, q6⟩ := HSC.out _ hSw; (go_simp <;> with_reducible rfl)⟩) (by assumption) ?_)
              | (refine wpAnyH_take (i := 16) rfl (by kernel_rfl) (by kernel_rfl) (by kernel_rfl) (fun _ _ _ h => h) (Or.inr ⟨by rfl, rfl⟩) (by assumption) ?_)
            (try simp only [Act.put, List.setIfInBounds_toArray, List.set_cons_zero, List.set_cons_succ, List.getElem_toArray, List.getElem_cons_zero, List.getElem_cons_succ])
            first
              | (refine wpAnyH_take (i := 17) rfl (by kernel_rfl) (by kernel_rfl) (by kernel_rfl) (fun _ _ _ h => h) (Or.inl ⟨by rfl, by intro wS hSw; obtain ⟨q0, q1, q2, q3, q4, q5, q6⟩ := HSC.out _ hSw; (go_simp <;> with_reducible rfl)⟩) (by assumption) ?_)
              | (refine wpAnyH_take (i := 17) rfl (by kernel_rfl) (by kernel_rfl) (by kernel_rfl) (fun _ _ _ h => h) (Or.inr ⟨by rfl, rfl⟩) (by assumption) ?_)
            (try simp only [Act.put, List.setIfInBounds_toArray, List.set_cons_zero, List.set_cons_succ, List.getElem_toArray, List.getElem_cons_zero, List.getElem_cons_succ])
            first
              | (refine wpAnyH_take (i := 18) rfl (by kernel_rfl) (by kernel_rfl) (by kernel_rfl) (fun _ _ _ h => h) (Or.inl ⟨by rfl, by intro wS hSw; obtain ⟨q0, q1, q2, q3, q4, q5, q6⟩ := HSC.out _ hSw; (go_simp <;> with_reducible rfl)⟩) (by assumption) ?_)
              | (refine wpAnyH_take (i := 18) rfl (by kernel_rfl) (by kernel_rfl) (by kernel_rfl) (fun _ _ _ h => h) (Or.inr ⟨by rfl, rfl⟩) (by assumption) ?_)
            (try simp only [Act.put, List.setIfInBounds_toArray, List.set_cons_zero, List.set_cons_succ, List.getElem_toArray, List.getElem_cons_zero, List.getElem_cons_succ])
            first
              | (refine wpAnyH_take (i := 19) rfl (by kernel_rfl) (by kernel_rfl) (by kernel_rfl) (fun _ _ _ h => h) (Or.inl ⟨by rfl, by intro wS hSw; obtain ⟨q0, q1, q2, q3, q4, q5, q6⟩ := HSC.out _ hSw; (go_simp <;> with_reducible rfl)⟩) (by assumption) ?_)
              | (refine wpAnyH_take (i := 19) rfl (by kernel_rfl) (by kernel_rfl) (by kernel_rfl) (fun _ _ _ h => h) (Or.inr ⟨by rfl, rfl⟩) (by assumption) ?_)
            (try simp only [Act.put, List.setIfInBounds_toArray, List.set_cons_zero, List.set_cons_succ, List.getElem_toArray, List.getElem_cons_zero, List.getElem_cons_succ])
            first
              | (refine wpAnyH_take (i := 20) rfl (by kernel_rfl) (by kernel_rfl) (by kernel_rfl) (fun _ _ _ h => h) (Or.inl ⟨by rfl, by intro wS hSw; obtain ⟨q0, q1, q2, q3, q4, q5, q6⟩ := HSC.out _ hSw; (go_simp <;> with_reducible rfl)⟩) (by assumption) ?_)
              | (refine wpAnyH_take (i := 20) rfl (by kernel_rfl) (by kernel_rfl) (by kernel_rfl) (fun _ _ _ h => h) (Or.inr ⟨by rfl, rfl⟩) (by assumption) ?_)
            (try simp only [Act.put, List.setIfInBounds_toArray, List.set_cons_zero, List.set_cons_succ, List.getElem_toArray, List.getElem_cons_zero, List.getElem_cons_succ])
            first
              | (refine wpAnyH_take (i := 21) rfl (by kernel_rfl) (by kernel_rfl) (by kernel_rfl) (fun _ _ _ h => h) (Or.inl ⟨by rfl, by intro wS hSw; obtain ⟨q0, q1, q2, q3, q4, q5, q6⟩ := HSC.out _ hSw; (go_simp <;> with_reducible rfl)⟩) (by assumption) ?_)
              | (refine wpAnyH_take (i := 21) rfl (by kernel_rfl) (by kernel_rfl) (by kernel_rfl) (fun _ _ _ h => h) (Or.inr ⟨by rfl, rfl⟩) (by assumption) ?_)
            (try simp only [Act.put, List.setIfInBounds_toArray, List.set_cons_zero, List.set_cons_succ, List.getElem_toArray, List.getElem_cons_zero, List.getElem_cons_succ])
            refine wpAnyH_done (by kernel_rfl) ?_ _
            clear hHeld
            gi_wp2
            have hx1 : b8 ≠ w.heap.size := by have := HBD.out; omega
            have hx2 : b8 ≠ w.heap.size + 1 := by have := HBD.out; omega
            have hx3 : b8 ≠ b7 := fun e => HBD.out.2.2.2.2.2.1 e.symm
            have hx4 := HBD.out.2.2.2.2.2.2.1
            have oth : ∀ (k : Nat) (u : Value), b8 ≠ k → (W.drew.setCell ⟨b8, 0, none⟩ u).heap[k]? = W.heap[k]? := fun k u hk => Below.heap_setCell _ _ _ _ (fun e => hk e.symm)
            refine ⟨((KeepsOthers.drew W).trans (KeepsOthers.setCell _ _ _)).from _, keepsB_set (W := W.drew) _ (fun k hk => by have := HBS.out k hk; have := HBD.out; omega), ?_⟩
            refine ⟨by have h1 := HI.out.le; have h2 := HPE.out; simp; omega, by have := HLT.out; simp; omega, HT.out, (oth _ _ hx1).trans HI.out.bS, (oth _ _ hx2).trans HI.out.bR, (oth _ _ hx3).trans HI.out.bW, ?_, (oth _ _ hx4).trans HI.out.rb, HI.out.ro, by have := HI.out.n1le; simpa [World.setCell] using this, (HI.out.below.drew).setCell (p := ⟨b8, 0, none⟩) (by have := HBD.out; simp; omega) _⟩
            have hb := Boxed.set (.int .i64 ((pre.length : Int) + 1)) (show Boxed W.drew b8 3 (.int .i64 (pre.length : Int)) from HI.out.bN)
            rw [List.length_append]
            exact hb
          · have hne : (x.kind == y.kind && x.idx == y.idx) = false := by
              cases hq : (x.kind == y.kind && x.idx == y.idx) with
              | false => rfl
              | true => exact absurd (by simpa using hq) h2
            have hnq : ∀ w, (binOp .neq 37 (.agg #[.int .i64 x.kind, .int .i64 x.idx]) (.agg #[.int .i64 y.kind, .int .i64 y.idx])).run Try.prog w = .ok (.bool true) w := fun w => by rw [neq_itemQ, hne]; rfl
            have HT := Lib.hid (told_not HY.out (show told19 x ≠ told19 y from fun e => h2 (by unfold told19 at e; simp at e; exact e.2)))
            clear h1 h2 hne
            gi_wp2_with fail
            refine region_round (S := fun V => Below W.heap.size W V) (by kernel_rfl) (by kernel_rfl) (by rintro ⟨a0, w0', h0'⟩; exact h0') ((Below.refl _ _).drew) (fun hHeld => ?_)
            first
              | (refine wpAnyH_take (i := 0) rfl (by kernel_rfl) (by kernel_rfl) (by kernel_rfl) (fun _ _ _ h => h) (Or.inl ⟨by rfl, by intro wS hSw; obtain ⟨q0, q1, q2, q3, q4, q5, q6⟩ := HSC.out _ hSw; (go_simp <;> with_reducible rfl)⟩) (by assumption) ?_)
              | (refine wpAnyH_take (i := 0) rfl (by kernel_rfl) (by kernel_rfl) (by kernel_rfl) (fun _ _ _ h => h) (Or.inr ⟨by rfl, rfl⟩) (by assumption) ?_)
            (try simp only [Act.put, List.setIfInBounds_toArray, List.set_cons_zero, List.set_cons_succ, List.getElem_toArray, List.getElem_cons_zero, List.getElem_cons_succ])
            first
              | (refine wpAnyH_take (i := 1) rfl (by kernel_rfl) (by kernel_rfl) (by kernel_rfl) (fun _ _ _ h => h) (Or.inl ⟨by rfl, by intro wS hSw; obtain ⟨q0, q1, q2, q3, q4, q5, q6⟩ := HSC.out _ hSw; (go_simp <;> with_reducible rfl)⟩) (by assumption) ?_)
              | (refine wpAnyH_take (i := 1) rfl (by kernel_rfl) (by kernel_rfl) (by kernel_rfl) (fun _ _ _ h => h) (Or.inr ⟨by rfl, rfl⟩) (by assumption) ?_)
            (try simp only [Act.put, List.setIfInBounds_toArray, List.set_cons_zero, List.set_cons_succ, List.getElem_toArray, List.getElem_cons_zero, List.getElem_cons_succ])
            first
              | (refine wpAnyH_take (i := 2) rfl (by kernel_rfl) (by kernel_rfl) (by kernel_rfl) (fun _ _ _ h => h) (Or.inl ⟨by rfl, by intro wS hSw; obtain ⟨q0, q1, q2, q3, q4, q5, q6⟩ := HSC.out _ hSw; (go_simp <;> with_reducible rfl)⟩) (by assumption) ?_)
              | (refine wpAnyH_take (i := 2) rfl (by kernel_rfl) (by kernel_rfl) (by kernel_rfl) (fun _ _ _ h => h) (Or.inr ⟨by rfl, rfl⟩) (by assumption) ?_)
            (try simp only [Act.put, List.setIfInBounds_toArray, List.set_cons_zero, List.set_cons_succ, List.getElem_toArray, List.getElem_cons_zero, List.getElem_cons_succ])
            first
              | (refine wpAnyH_take (i := 3) rfl (by kernel_rfl) (by kernel_rfl) (by kernel_rfl) (fun _ _ _ h => h) (Or.inl ⟨by rfl, by intro wS hSw; obtain ⟨q0, q1, q2, q3, q4, q5, q6⟩ := HSC.out _ hSw; (go_simp <;> with_reducible rfl)⟩) (by assumption) ?_)
              | (refine wpAnyH_take (i := 3) rfl (by kernel_rfl) (by kernel_rfl) (by kernel_rfl) (fun _ _ _ h => h) (Or.inr ⟨by rfl, rfl⟩) (by assumption) ?_)
            (try simp only [Act.put, List.setIfInBounds_toArray, List.set_cons_zero, List.set_cons_succ, List.getElem_toArray, List.getElem_cons_zero, List.getElem_cons_succ])
            first
              | (refine wpAnyH_take (i := 4) rfl (by kernel_rfl) (by kernel_rfl) (by kernel_rfl) (fun _ _ _ h => h) (Or.inl ⟨by rfl, by intro wS hSw; obtain ⟨q0, q1, q2, q3, q4, q5, q6⟩ := HSC.out _ hSw; (go_simp <;> with_reducible rfl)⟩) (by assumption) ?_)
              | (refine wpAnyH_take (i := 4) rfl (by kernel_rfl) (by kernel_rfl) (by kernel_rfl) (fun _ _ _ h => h) (Or.inr ⟨by rfl, rfl⟩) (by assumption) ?_)
            (try simp only [Act.put, List.setIfInBounds_toArray, List.set_cons_zero, List.set_cons_succ, List.getElem_toArray, List.getElem_cons_zero, List.getElem_cons_succ])
            first
              | (refine wpAnyH_take (i := 5) rfl (by kernel_rfl) (by kernel_rfl) (by kernel_rfl) (fun _ _ _ h => h) (Or.inl ⟨by rfl, by intro wS hSw; obtain ⟨q0, q1, q2, q3, q4, q5, q6⟩ := HSC.out _ hSw; (go_simp <;> with_reducible rfl)⟩) (by assumption) ?_)
              | (refine wpAnyH_take (i := 5) rfl (by kernel_rfl) (by kernel_rfl) (by kernel_rfl) (fun _ _ _ h => h) (Or.inr ⟨by rfl, rfl⟩) (by assumption) ?_)
            (try simp only [Act.put, List.setIfInBounds_toArray, List.set_cons_zero, List.set_cons_succ, List.getElem_toArray, List.getElem_cons_zero, List.getElem_cons_succ])
            first
              | (refine wpAnyH_take (i := 6) rfl (by kernel_rfl) (by kernel_rfl) (by kernel_rfl) (fun _ _ _ h => h) (Or.inl ⟨by rfl, by intro wS hSw; obtain ⟨q0, q1, q2, q3, q4, q5, q6⟩ := HSC.out _ hSw; (go_simp <;> with_reducible rfl)⟩) (by assumption) ?_)
              | (refine wpAnyH_take (i := 6) rfl (by kernel_rfl) (by kernel_rfl) (by kernel_rfl) (fun _ _ _ h => h) (Or.inr ⟨by rfl, rfl⟩) (by assumption) ?_)
            (try simp only [Act.put, List.setIfInBounds_toArray, List.set_cons_zero, List.set_cons_succ, List.getElem_toArray, List.getElem_cons_zero, List.getElem_cons_succ])
            first
              | (refine wpAnyH_take (i := 7) rfl (by kernel_rfl) (by kernel_rfl) (by kernel_rfl) (fun _ _ _ h => h) (Or.inl ⟨by rfl, by intro wS hSw; obtain ⟨q0, q1, q2, q3, q4, q5, q6⟩ := HSC.out _ hSw; (go_simp <;> with_reducible rfl)⟩) (by assumption) ?_)
              | (refine wpAnyH_take (i := 7) rfl (by kernel_rfl) (by kernel_rfl) (by kernel_rfl) (fun _ _ _ h => h) (Or.inr ⟨by rfl, rfl⟩) (by assumption) ?_)
            (try simp only [Act.put, List.setIfInBounds_toArray, List.set_cons_zero, List.set_cons_succ, List.getElem_toArray, List.getElem_cons_zero, List.getElem_cons_succ])
            first
              | (refine wpAnyH_take (i := 8) rfl (by kernel_rfl) (by kernel_rfl) (by kernel_rfl) (fun _ _ _ h => h) (Or.inl ⟨by rfl, by intro wS hSw; obtain ⟨q0, q1, q2, q3, q4, q5, q6⟩ := HSC.out _ hSw; (go_simp <;> with_reducible rfl)⟩) (by assumption) ?_)
              | (refine wpAnyH_take (i := 8) rfl (by kernel_rfl) (by kernel_rfl) (by kernel_rfl) (fun _ _ _ h => h) (Or.inr ⟨by rfl, rfl⟩) (by assumption) ?_)
            (try simp only [Act.put, List.setIfInBounds_toArray, List.set_cons_zero, List.set_cons_succ, List.getElem_toArray, List.getElem_cons_zero, List.getElem_cons_succ])
            first
              | (refine wpAnyH_take (i := 9) rfl (by kernel_rfl) (by kernel_rfl) (by kernel_rfl) (fun _ _ _ h => h) (Or.inl ⟨by rfl, by intro wS hSw; obtain ⟨q0, q1, q2, q3, q4, q5, q6⟩ := HSC.out _ hSw; (go_simp <;> with_reducible rfl)⟩) (by assumption) ?_)
              | (refine wpAnyH_take (i := 9) rfl (by kernel_rfl) (by kernel_rfl) (by kernel_rfl) (fun _ _ _ h => h) (Or.inr ⟨by rfl, rfl⟩) (by assumption) ?_)
            (try simp only [Act.put, List.setIfInBounds_toArray, List.set_cons_zero, List.set_cons_succ, List.getElem_toArray, List.getElem_cons_zero, List.getElem_cons_succ])
            first
              | (refine wpAnyH_take (i := 10) rfl (by kernel_rfl) (by kernel_rfl) (by kernel_rfl) (fun _ _ _ h => h) (Or.inl ⟨by rfl, by intro wS hSw; obtain ⟨q0, q1, q2, q3, q4, q5, q6⟩ := HSC.out _ hSw; (go_simp <;> with_reducible rfl)⟩) (by assumption) ?_)
              | (refine wpAnyH_take (i := 10) rfl (by kernel_rfl) (by kernel_rfl) (by kernel_rfl) (fun _ _ _ h => h) (Or.inr ⟨by rfl, rfl⟩) (by assumption) ?_)
            (try simp only [Act.put, List.setIfInBounds_toArray, List.set_cons_zero, List.set_cons_succ, List.getElem_toArray, List.getElem_cons_zero, List.getElem_cons_succ])
            first
              | (refine wpAnyH_take (i := 11) rfl (by kernel_rfl) (by kernel_rfl) (by kernel_rfl) (fun _ _ _ h => h) (Or.inl ⟨by rfl, by intro wS hSw; obtain ⟨q0, q1, q2, q3, q4, q5, q6⟩ := HSC.out _ hSw; (go_simp <;> with_reducible rfl)⟩) (by assumption) ?_)
              | (refine wpAnyH_take (i := 11) rfl (by kernel_rfl) (by kernel_rfl) (by kernel_rfl) (fun _ _ _ h => h) (Or.inr ⟨by rfl, rfl⟩) (by assumption) ?_)
            (try simp only [Act.put, List.setIfInBounds_toArray, List.set_cons_zero, List.set_cons_succ, List.getElem_toArray, List.getElem_cons_zero, List.getElem_cons_succ])
            first
              | (refine wpAnyH_take (i := 12) rfl (by kernel_rfl) (by kernel_rfl) (by kernel_rfl) (fun _ _ _ h => h) (Or.inl ⟨by rfl, by intro wS hSw; obtain ⟨q0, q1, q2, q3, q4, q5, q6⟩ := HSC.out _ hSw; (go_simp <;> with_reducible rfl)⟩) (by assumption) ?_)
              | (refine wpAnyH_take (i := 12) rfl (by kernel_rfl) (by kernel_rfl) (by kernel_rfl) (fun _ _ _ h => h) (Or.inr ⟨by rfl, rfl⟩) (by assumption) ?_)
            (try simp only [Act.put, List.setIfInBounds_toArray, List.set_cons_zero, List.set_cons_succ, List.getElem_toArray, List.getElem_cons_zero, List.getElem_cons_succ])
            first
              | (refine wpAnyH_take (i := 13) rfl (by kernel_rfl) (by kernel_rfl) (by kernel_rfl) (fun _ _ _ h => h) (Or.inl ⟨by rfl, by intro wS hSw; obtain ⟨q0, q1, q2, q3, q4, q5, q6⟩ := HSC.out _ hSw; (go_simp <;> with_reducible rfl)⟩) (by assumption) ?_)
              | (refine wpAnyH_take (i := 13) rfl (by kernel_rfl) (by kernel_rfl) (by kernel_rfl) (fun _ _ _ h => h) (Or.inr ⟨by rfl, rfl⟩) (by assumption) ?_)
            (try simp only [Act.put, List.setIfInBounds_toArray, List.set_cons_zero, List.set_cons_succ, List.getElem_toArray, List.getElem_cons_zero, List.getElem_cons_succ])
            first
              | (refine wpAnyH_take (i := 14) rfl (by kernel_rfl) (by kernel_rfl) (by kernel_rfl) (fun _ _ _ h => h) (Or.inl ⟨by rfl, by intro wS hSw; obtain ⟨q0, q1, q2, q3, q4, q5, q6⟩ := HSC.out _ hSw; (go_simp <;> with_reducible rfl)⟩) (by assumption) ?_)
              | (refine wpAnyH_take (i := 14) rfl (by kernel_rfl) (by kernel_rfl) (by kernel_rfl) (fun _ _ _ h => h) (Or.inr ⟨by rfl, rfl⟩) (by assumption) ?_)
            (try simp only [Act.put, List.setIfInBounds_toArray, List.set_cons_zero, List.set_cons_succ, List.getElem_toArray, List.getElem_cons_zero, List.getElem_cons_succ])
            first
              | (refine wpAnyH_take (i := 15) rfl (by kernel_rfl) (by kernel_rfl) (by kernel_rfl) (fun _ _ _ h => h) (Or.inl ⟨by rfl, by intro wS hSw; obtain ⟨q0, q1, q2, q3, q4, q5, q6⟩ := HSC.out _ hSw; (go_simp <;> with_reducible rfl)⟩) (by assumption) ?_)
              | (refine wpAnyH_take (i := 15) rfl (by kernel_rfl) (by kernel_rfl) (by kernel_rfl) (fun _ _ _ h => h) (Or.inr ⟨by rfl, rfl⟩) (by assumption) ?_)
            (try simp only [Act.put, List.setIfInBounds_toArray, List.set_cons_zero, List.set_cons_succ, List.getElem_toArray, List.getElem_cons_zero, List.getElem_cons_succ])
            first
              | (refine wpAnyH_take (i := 16) rfl (by kernel_rfl) (by kernel_rfl) (by kernel_rfl) (fun _ _ _ h => h) (Or.inl ⟨by rfl, by intro wS hSw; obtain ⟨q0, q1, q2, q3, q4, q5, q6⟩ := HSC.out _ hSw; (go_simp <;> with_reducible rfl)⟩) (by assumption) ?_)
              | (refine wpAnyH_take (i := 16) rfl (by kernel_rfl) (by kernel_rfl) (by kernel_rfl) (fun _ _ _ h => h) (Or.inr ⟨by rfl, rfl⟩) (by assumption) ?_)
            (try simp only [Act.put, List.setIfInBounds_toArray, List.set_cons_zero, List.set_cons_succ, List.getElem_toArray, List.getElem_cons_zero, List.getElem_cons_succ])
            first
              | (refine wpAnyH_take (i := 17) rfl (by kernel_rfl) (by kernel_rfl) (by kernel_rfl) (fun _ _ _ h => h) (Or.inl ⟨by rfl, by intro wS hSw; obtain ⟨q0, q1, q2, q3, q4, q5, q6⟩ := HSC.out _ hSw; (go_simp <;> with_reducible rfl)⟩) (by assumption) ?_)
              | (refine wpAnyH_take (i := 17) rfl (by kernel_rfl) (by kernel_rfl) (by kernel_rfl) (fun _ _ _ h => h) (Or.inr ⟨by rfl, rfl⟩) (by assumption) ?_)
            (try simp only [Act.put, List.setIfInBounds_toArray, List.set_cons_zero, List.set_cons_succ, List.getElem_toArray, List.getElem_cons_zero, List.getElem_cons_succ])
            first
              | (refine wpAnyH_take (i := 18) rfl (by kernel_rfl) (by kernel_rfl) (by kernel_rfl) (fun _ _ _ h => h) (Or.inl ⟨by rfl, by intro wS hSw; obtain ⟨q0, q1, q2, q3, q4, q5, q6⟩ := HSC.out _ hSw; (go_simp <;> with_reducible rfl)⟩) (by assumption) ?_)
              | (refine wpAnyH_take (i := 18) rfl (by kernel_rfl) (by kernel_rfl) (by kernel_rfl) (fun _ _ _ h => h) (Or.inr ⟨by rfl, rfl⟩) (by assumption) ?_)
            (try simp only [Act.put, List.setIfInBounds_toArray, List.set_cons_zero, List.set_cons_succ, List.getElem_toArray, List.getElem_cons_zero, List.getElem_cons_succ])
            first
              | (refine wpAnyH_take (i := 19) rfl (by kernel_rfl) (by kernel_rfl) (by kernel_rfl) (fun _ _ _ h => h) (Or.inl ⟨by rfl, by intro wS hSw; obtain ⟨q0, q1, q2, q3, q4, q5, q6⟩ := HSC.out _ hSw; (go_simp <;> with_reducible rfl)⟩) (by assumption) ?_)
              | (refine wpAnyH_take (i := 19) rfl (by kernel_rfl) (by kernel_rfl) (by kernel_rfl) (fun _ _ _ h => h) (Or.inr ⟨by rfl, rfl⟩) (by assumption) ?_)
            (try simp only [Act.put, List.setIfInBounds_toArray, List.set_cons_zero, List.set_cons_succ, List.getElem_toArray, List.getElem_cons_zero, List.getElem_cons_succ])
            first
              | (refine wpAnyH_take (i := 20) rfl (by kernel_rfl) (by kernel_rfl) (by kernel_rfl) (fun _ _ _ h => h) (Or.inl ⟨by rfl, by intro wS hSw; obtain ⟨q0, q1, q2, q3, q4, q5, q6⟩ := HSC.out _ hSw; (go_simp <;> with_reducible rfl)⟩) (by assumption) ?_)
              | (refine wpAnyH_take (i := 20) rfl (by kernel_rfl) (by kernel_rfl) (by kernel_rfl) (fun _ _ _ h => h) (Or.inr ⟨by rfl, rfl⟩) (by assumption) ?_)
            (try simp only [Act.put, List.setIfInBounds_toArray, List.set_cons_zero, List.set_cons_succ, List.getElem_toArray, List.getElem_cons_zero, List.getElem_cons_succ])
            first
              | (refine wpAnyH_take (i := 21) rfl (by kernel_rfl) (by kernel_rfl) (by kernel_rfl) (fun _ _ _ h => h) (Or.inl ⟨by rfl, by intro wS hSw; obtain ⟨q0, q1, q2, q3, q4, q5, q6⟩ := HSC.out _ hSw; (go_simp <;> with_reducible rfl)⟩) (by assumption) ?_)
              | (refine wpAnyH_take (i := 21) rfl (by kernel_rfl) (by kernel_rfl) (by kernel_rfl) (fun _ _ _ h => h) (Or.inr ⟨by rfl, rfl⟩) (by assumption) ?_)
            (try simp only [Act.put, List.setIfInBounds_toArray, List.set_cons_zero, List.set_cons_succ, List.getElem_toArray, List.getElem_cons_zero, List.getElem_cons_succ])
            refine wpAnyH_done (by kernel_rfl) ?_ _
            clear hHeld
            gi_wp2
            exact ⟨((KeepsOthers.drew W).trans (KeepsOthers.setCell _ _ _)).from _, .inr HT.out⟩
        · have h1d : (x.mom != y.mom) = true := by simp [h1]
          have HT := Lib.hid (told_not HY.out (show told19 x ≠ told19 y from fun e => h1 (by unfold told19 at e; simp at e; exact e.1)))
          clear h1
          gi_wp2_with fail
          refine region_round (S := fun V => Below W.heap.size W V) (by kernel_rfl) (by kernel_rfl) (by rintro ⟨a0, w0', h0'⟩; exact h0') ((Below.refl _ _).drew) (fun hHeld => ?_)
          first
            | (refine wpAnyH_take (i := 0) rfl (by kernel_rfl) (by kernel_rfl) (by kernel_rfl) (fun _ _ _ h => h) (Or.inl ⟨by rfl, by intro wS hSw; obtain ⟨q0, q1, q2, q3, q4, q5, q6⟩ := HSC.out _ hSw; (go_simp <;> with_reducible rfl)⟩) (by assumption) ?_)
            | (refine wpAnyH_take (i := 0) rfl (by kernel_rfl) (by kernel_rfl) (by kernel_rfl) (fun _ _ _ h => h) (Or.inr ⟨by rfl, rfl⟩) (by assumption) ?_)
          (try simp only [Act.put, List.setIfInBounds_toArray, List.set_cons_zero, List.set_cons_succ, List.getElem_toArray, List.getElem_cons_zero, List.getElem_cons_succ])
          first
            | (refine wpAnyH_take (i := 1) rfl (by kernel_rfl) (by kernel_rfl) (by kernel_rfl) (fun _ _ _ h => h) (Or.inl ⟨by rfl, by intro wS hSw; obtain ⟨q0, q1, q2, q3, q4, q5, q6⟩ := HSC.out _ hSw; (go_simp <;> with_reducible rfl)⟩) (by assumption) ?_)
            | (refine wpAnyH_take (i := 1) rfl (by kernel_rfl) (by kernel_rfl) (by kernel_rfl) (fun _ _ _ h => h) (Or.inr ⟨by rfl, rfl⟩) (by assumption) ?_)
          (try simp only [Act.put, List.setIfInBounds_toArray, List.set_cons_zero, List.set_cons_succ, List.getElem_toArray, List.getElem_cons_zero, List.getElem_cons_succ])
          first
            | (refine wpAnyH_take (i := 2) rfl (by kernel_rfl) (by kernel_rfl) (by kernel_rfl) (fun _ _ _ h => h) (Or.inl ⟨by rfl, by intro wS hSw; obtain ⟨q0, q1, q2, q3, q4, q5, q6⟩ := HSC.out _ hSw; (go_simp <;> with_reducible rfl)⟩) (by assumption) ?_)
            | (refine wpAnyH_take (i := 2) rfl (by kernel_rfl) (by kernel_rfl) (by kernel_rfl) (fun _ _ _ h => h) (Or.inr ⟨by rfl, rfl⟩) (by assumption) ?_)
          (try simp only [Act.put, List.setIfInBounds_toArray, List.set_cons_zero, List.set_cons_succ, List.getElem_toArray, List.getElem_cons_zero, List.getElem_cons_succ])
          first
            | (refine wpAnyH_take (i := 3) rfl (by kernel_rfl) (by kernel_rfl) (by kernel_rfl) (fun _ _ _ h => h) (Or.inl ⟨by rfl, by intro wS hSw; obtain ⟨q0, q1, q2, q3, q4, q5, q6⟩ := HSC.out _ hSw; (go_simp <;> with_reducible rfl)⟩) (by assumption) ?_)
            | (refine wpAnyH_take (i := 3) rfl (by kernel_rfl) (by kernel_rfl) (by kernel_rfl) (fun _ _ _ h => h) (Or.inr ⟨by rfl, rfl⟩) (by assumption) ?_)
          (try simp only [Act.put, List.setIfInBounds_toArray, List.set_cons_zero, List.set_cons_succ, List.getElem_toArray, List.getElem_cons_zero, List.getElem_cons_succ])
          first
            | (refine wpAnyH_take (i := 4) rfl (by kernel_rfl) (by kernel_rfl) (by kernel_rfl) (fun _ _ _ h => h) (Or.inl ⟨by rfl, by intro wS hSw; obtain ⟨q0, q1, q2, q3, q4, q5, q6⟩ := HSC.out _ hSw; (go_simp <;> with_reducible rfl)⟩) (by assumption) ?_)
            | (refine wpAnyH_take (i := 4) rfl (by kernel_rfl) (by kernel_rfl) (by kernel_rfl) (fun _ _ _ h => h) (Or.inr ⟨by rfl, rfl⟩) (by assumption) ?_)
          (try simp only [Act.put, List.setIfInBounds_toArray, List.set_cons_zero, List.set_cons_succ, List.getElem_toArray, List.getElem_cons_zero, List.getElem_cons_succ])
          first
            | (refine wpAnyH_take (i := 5) rfl (by kernel_rfl) (by kernel_rfl) (by kernel_rfl) (fun _ _ _ h => h) (Or.inl ⟨by rfl, by intro wS hSw; obtain ⟨q0, q1, q2, q3, q4, q5, q6⟩ := HSC.out _ hSw; (go_simp <;> with_reducible rfl)⟩) (by assumption) ?_)
            | (refine wpAnyH_take (i := 5) rfl (by kernel_rfl) (by kernel_rfl) (by kernel_rfl) (fun _ _ _ h => h) (Or.inr ⟨by rfl, rfl⟩) (by assumption) ?_)
          (try simp only [Act.put, List.setIfInBounds_toArray, List.set_cons_zero, List.set_cons_succ, List.getElem_toArray, List.getElem_cons_zero, List.getElem_cons_succ])
          first
            | (refine wpAnyH_take (i := 6) rfl (by kernel_rfl) (by kernel_rfl) (by kernel_rfl) (fun _ _ _ h => h) (Or.inl ⟨by rfl, by intro wS hSw; obtain ⟨q0, q1, q2, q3, q4, q5, q6⟩ := HSC.out _ hSw; (go_simp <;> with_reducible rfl)⟩) (by assumption) ?_)
            | (refine wpAnyH_take (i := 6) rfl (by kernel_rfl) (by kernel_rfl) (by kernel_rfl) (fun _ _ _ h => h) (Or.inr ⟨by rfl, rfl⟩) (by assumption) ?_)
          (try simp only [Act.put, List.setIfInBounds_toArray, List.set_cons_zero, List.set_cons_succ, List.getElem_toArray, List.getElem_cons_zero, List.getElem_cons_succ])
          first
            | (refine wpAnyH_take (i := 7) rfl (by kernel_rfl) (by kernel_rfl) (by kernel_rfl) (fun _ _ _ h => h) (Or.inl ⟨by rfl, by intro wS hSw; obtain ⟨q0, q1, q2, q3, q4, q5, q6⟩ := HSC.out _ hSw; (go_simp <;> with_reducible rfl)⟩) (by assumption) ?_)
            | (refine wpAnyH_take (i := 7) rfl (by kernel_rfl) (by kernel_rfl) (by kernel_rfl) (fun _ _ _ h => h) (Or.inr ⟨by rfl, rfl⟩) (by assumption) ?_)
          (try simp only [Act.put, List.setIfInBounds_toArray, List.set_cons_zero, List.set_cons_succ, List.getElem_toArray, List.getElem_cons_zero, List.getElem_cons_succ])
          first
            | (refine wpAnyH_take (i := 8) rfl (by kernel_rfl) (by kernel_rfl) (by kernel_rfl) (fun _ _ _ h => h) (Or.inl ⟨by rfl, by intro wS hSw; obtain ⟨q0, q1, q2, q3, q4, q5, q6⟩ := HSC.out _ hSw; (go_simp <;> with_reducible rfl)⟩) (by assumption) ?_)
            | (refine wpAnyH_take (i := 8) rfl (by kernel_rfl) (by kernel_rfl) (by kernel_rfl) (fun _ _ _ h => h) (Or.inr ⟨by rfl, rfl⟩) (by assumption) ?_)
          (try simp only [Act.put, List.setIfInBounds_toArray, List.set_cons_zero, List.set_cons_succ, List.getElem_toArray, List.getElem_cons_zero, List.getElem_cons_succ])
          first
            | (refine wpAnyH_take (i := 9) rfl (by kernel_rfl) (by kernel_rfl) (by kernel_rfl) (fun _ _ _ h => h) (Or.inl ⟨by rfl, by intro wS hSw; obtain ⟨q0, q1, q2, q3, q4, q5, q6⟩ := HSC.out _ hSw; (go_simp <;> with_reducible rfl)⟩) (by assumption) ?_)
            | (refine wpAnyH_take (i := 9) rfl (by kernel_rfl) (by kernel_rfl) (by kernel_rfl) (fun _ _ _ h => h) (Or.inr ⟨by rfl, rfl⟩) (by assumption) ?_)
          (try simp only [Act.put, List.setIfInBounds_toArray, List.set_cons_zero, List.set_cons_succ, List.getElem_toArray, List.getElem_cons_zero, List.getElem_cons_succ])
          first
            | (refine wpAnyH_take (i := 10) rfl (by kernel_rfl) (by kernel_rfl) (by kernel_rfl) (fun _ _ _ h => h) (Or.inl ⟨by rfl, by intro wS hSw; obtain ⟨q0, q1, q2, q3, q4, q5, q6⟩ := HSC.out _ hSw; (go_simp <;> with_reducible rfl)⟩) (by assumption) ?_)
            | (refine wpAnyH_take (i := 10) rfl (by kernel_rfl) (by kernel_rfl) (by kernel_rfl) (fun _ _ _ h => h) (Or.inr ⟨by rfl, rfl⟩) (by assumption) ?_)
          (try simp only [Act.put, List.setIfInBounds_toArray, List.set_cons_zero, List.set_cons_succ, List.getElem_toArray, List.getElem_cons_zero, List.getElem_cons_succ])
          first
            | (refine wpAnyH_take (i := 11) rfl (by kernel_rfl) (by kernel_rfl) (by kernel_rfl) (fun _ _ _ h => h) (Or.inl ⟨by rfl, by intro wS hSw; obtain ⟨q0, q1, q2, q3, q4, q5, q6⟩ := HSC.out _ hSw; (go_simp <;> with_reducible rfl)⟩) (by assumption) ?_)
            | (refine wpAnyH_take (i := 11) rfl (by kernel_rfl) (by kernel_rfl) (by kernel_rfl) (fun _ _ _ h => h) (Or.inr ⟨by rfl, rfl⟩) (by assumption) ?_)
          (try simp only [Act.put, List.setIfInBounds_toArray, List.set_cons_zero, List.set_cons_succ, List.getElem_toArray, List.getElem_cons_zero, List.getElem_cons_succ])
          first
            | (refine wpAnyH_take (i := 12) rfl (by kernel_rfl) (by kernel_rfl) (by kernel_rfl) (fun _ _ _ h => h) (Or.inl ⟨by rfl, by intro wS hSw; obtain ⟨q0, q1, q2, q3, q4, q5, q6⟩ := HSC.out _ hSw; (go_simp <;> with_reducible rfl)⟩) (by assumption) ?_)
            | (refine wpAnyH_take (i := 12) rfl (by kernel_rfl) (by kernel_rfl) (by kernel_rfl) (fun _ _ _ h => h) (Or.inr ⟨by rfl, rfl⟩) (by assumption) ?_)
          (try simp only [Act.put, List.setIfInBounds_toArray, List.set_cons_zero, List.set_cons_succ, List.getElem_toArray, List.getElem_cons_zero, List.getElem_cons_succ])
          first
            | (refine wpAnyH_take (i := 13) rfl (by kernel_rfl) (by kernel_rfl) (by kernel_rfl) (fun _ _ _ h => h) (Or.inl ⟨by rfl, by intro wS hSw; obtain ⟨q0, q1, q2, q3, q4, q5, q6⟩ := HSC.out _ hSw; (go_simp <;> with_reducible rfl)⟩) (by assumption) ?_)
            | (refine wpAnyH_take (i := 13) rfl (by kernel_rfl) (by kernel_rfl) (by kernel_rfl) (fun _ _ _ h => h) (Or.inr ⟨by rfl, rfl⟩) (by assumption) ?_)
          (try simp only [Act.put, List.setIfInBounds_toArray, List.set_cons_zero, List.set_cons_succ, List.getElem_toArray, List.getElem_cons_zero, List.getElem_cons_succ])
          first
            | (refine wpAnyH_take (i := 14) rfl (by kernel_rfl) (by kernel_rfl) (by kernel_rfl) (fun _ _ _ h => h) (Or.inl ⟨by rfl, by intro wS hSw; obtain ⟨q0, q1, q2, q3, q4, q5, q6⟩ := HSC.out _ hSw; (go_simp <;> with_reducible rfl)⟩) (by assumption) ?_)
            | (refine wpAnyH_take (i := 14) rfl (by kernel_rfl) (by kernel_rfl) (by kernel_rfl) (fun _ _ _ h => h) (Or.inr ⟨by rfl, rfl⟩) (by assumption) ?_)
          (try simp only [Act.put, List.setIfInBounds_toArray, List.set_cons_zero, List.set_cons_succ, List.getElem_toArray, List.getElem_cons_zero, List.getElem_cons_succ])
          first
            | (refine wpAnyH_take (i := 15) rfl (by kernel_rfl) (by kernel_rfl) (by kernel_rfl) (fun _ _ _ h => h) (Or.inl ⟨by rfl, by intro wS hSw; obtain ⟨q0, q1, q2, q3, q4, q5, q6⟩ := HSC.out _ hSw; (go_simp <;> with_reducible rfl)⟩) (by assumption) ?_)
            | (refine wpAnyH_take (i := 15) rfl (by kernel_rfl) (by kernel_rfl) (by kernel_rfl) (fun _ _ _ h => h) (Or.inr ⟨by rfl, rfl⟩) (by assumption) ?_)
          (try simp only [Act.put, List.setIfInBounds_toArray, List.set_cons_zero, List.set_cons_succ, List.getElem_toArray, List.getElem_cons_zero, List.getElem_cons_succ])
          first
            | (refine wpAnyH_take (i := 16) rfl (by kernel_rfl) (by kernel_rfl) (by kernel_rfl) (fun _ _ _ h => h) (Or.inl ⟨by rfl, by intro wS hSw; obtain ⟨q0, q1, q2, q3, q4, q5, q6⟩ := HSC.out _ hSw; (go_simp <;> with_reducible rfl)⟩) (by assumption) ?_)
            | (refine wpAnyH_take (i := 16) rfl (by kernel_rfl) (by kernel_rfl) (by kernel_rfl) (fun _ _ _ h => h) (Or.inr ⟨by rfl, rfl⟩) (by assumption) ?_)
          (try simp only [Act.put, List.setIfInBounds_toArray, List.set_cons_zero, List.set_cons_succ, List.getElem_toArray, List.getElem_cons_zero, List.getElem_cons_succ])
          first
            | (refine wpAnyH_take (i := 17) rfl (by kernel_rfl) (by kernel_rfl) (by kernel_rfl) (fun _ _ _ h => h) (Or.inl ⟨by rfl, by intro wS hSw; obtain ⟨q0, q1, q2, q3, q4, q5, q6⟩ := HSC.out _ hSw; (go_simp <;> with_reducible rfl)⟩) (by assumption) ?_)
            | (refine wpAnyH_take (i := 17) rfl (by kernel_rfl) (by kernel_rfl) (by kernel_rfl) (fun _ _ _ h => h) (Or.inr ⟨by rfl, rfl⟩) (by assumption) ?_)
          (try simp only [Act.put, List.setIfInBounds_toArray, List.set_cons_zero, List.set_cons_succ, List.getElem_toArray, List.getElem_cons_zero, List.getElem_cons_succ])
          first
            | (refine wpAnyH_take (i := 18) rfl (by kernel_rfl) (by kernel_rfl) (by kernel_rfl) (fun _ _ _ h => h) (Or.inl ⟨by rfl, by intro wS hSw; obtain ⟨q0, q1, q2, q3, q4, q5, q6⟩ := HSC.out _ hSw; (go_simp <;> with_reducible rfl)⟩) (by assumption) ?_)
            | (refine wpAnyH_take (i := 18) rfl (by kernel_rfl) (by kernel_rfl) (by kernel_rfl) (fun _ _ _ h => h) (Or.inr ⟨by rfl, rfl⟩) (by assumption) ?_)
          (try simp only [Act.put, List.setIfInBounds_toArray, List.set_cons_zero, List.set_cons_succ, List.getElem_toArray, List.getElem_cons_zero, List.getElem_cons_succ])
          first
            | (refine wpAnyH_take (i := 19) rfl (by kernel_rfl) (by kernel_rfl) (by kernel_rfl) (fun _ _ _ h => h) (Or.inl ⟨by rfl, by intro wS hSw; obtain ⟨q0, q1, q2, q3, q4, q5, q6⟩ := HSC.out _ hSw; (go_simp <;> with_reducible rfl)⟩) (by assumption) ?_)
            | (refine wpAnyH_take (i := 19) rfl (by kernel_rfl) (by kernel_rfl) (by kernel_rfl) (fun _ _ _ h => h) (Or.inr ⟨by rfl, rfl⟩) (by assumption) ?_)
          (try simp only [Act.put, List.setIfInBounds_toArray, List.set_cons_zero, List.set_cons_succ, List.getElem_toArray, List.getElem_cons_zero, List.getElem_cons_succ])
          first
            | (refine wpAnyH_take (i := 20) rfl (by kernel_rfl) (by kernel_rfl) (by kernel_rfl) (fun _ _ _ h => h) (Or.inl ⟨by rfl, by intro wS hSw; obtain ⟨q0, q1, q2, q3, q4, q5, q6⟩ := HSC.out _ hSw; (go_simp <;> with_reducible rfl)⟩) (by assumption) ?_)
            | (refine wpAnyH_take (i := 20) rfl (by kernel_rfl) (by kernel_rfl) (by kernel_rfl) (fun _ _ _ h => h) (Or.inr ⟨by rfl, rfl⟩) (by assumption) ?_)
          (try simp only [Act.put, List.setIfInBounds_toArray, List.set_cons_zero, List.set_cons_succ, List.getElem_toArray, List.getElem_cons_zero, List.getElem_cons_succ])
          first
            | (refine wpAnyH_take (i := 21) rfl (by kernel_rfl) (by kernel_rfl) (by kernel_rfl) (fun _ _ _ h => h) (Or.inl ⟨by rfl, by intro wS hSw; obtain ⟨q0, q1, q2, q3, q4, q5, q6⟩ := HSC.out _ hSw; (go_simp <;> with_reducible rfl)⟩) (by assumption) ?_)
            | (refine wpAnyH_take (i := 21) rfl (by kernel_rfl) (by kernel_rfl) (by kernel_rfl) (fun _ _ _ h => h) (Or.inr ⟨by rfl, rfl⟩) (by assumption) ?_)
          (try simp only [Act.put, List.setIfInBounds_toArray, List.set_cons_zero, List.set_cons_succ, List.getElem_toArray, List.getElem_cons_zero, List.getElem_cons_succ])
          refine wpAnyH_done (by kernel_rfl) ?_ _
          clear hHeld
          gi_wp2
          exact ⟨((KeepsOthers.drew W).trans (KeepsOthers.setCell _ _ _)).from _, .inr HT.out⟩
    case done =>
      rintro D pre W hD hys hI hK
      have HPL := Lib.hid (show pre.length = min stop L.length by have := hI.le; rw [show pre = L from hys] at *; omega)
      clear hys
      have hcN := hI.bN.cell
      have hcS := hI.bS.cell
      have hcW := hI.bW.cell
      have bR := hI.bR
      have hcR := bR.cell
      have hfR := bR.frozen
      have hB := hI.below
      have hDr : D ≠ w.heap.size + 1 := by have := HN6.out; omega
      have hcv := IntWalk.i64_in (stop : Int) (by omega)
      have hmin : ∀ (ts : Array TypeId) (t : TypeId) (w : World), (Builtin.min_ ts t #[.int .i64 (stop : Int), .int .i64 (L.length : Int)]).run Try.prog w = .ok (.int .i64 (pre.length : Int)) w := fun ts t w => by
        rw [run_min_int2, show (if (L.length : Int) < (stop : Int) then (L.length : Int) else (stop : Int)) = (pre.length : Int) by have := HPL.out; split <;> omega]
      clear hI
      gi_wp2
      have hD9 : (W.setCell ⟨w.heap.size + 1, 0, none⟩ (.bool true)).heap[D]? = some (.deferred (some [])) := (Below.heap_setCell _ _ _ _ (by simpa using hDr)).trans hK
      have br9 := bR.set (.bool true)
      refine ⟨by simp, .inl ⟨_, _, rfl, run_takeDeferred hD9, ?_⟩⟩
      have br10 : Boxed ((W.setCell ⟨w.heap.size + 1, 0, none⟩ (.bool true)).putObj D (.deferred none)) (w.heap.size + 1) 4 (.bool true) := (World.putObj_heap_other hDr.symm).trans br9
      exact ⟨_, results_cell_bool rfl Try.underlying4 _ _ (w.heap.size + 1) true rfl br10.cell, rfl, (hB.setCell (by simp) _).trans (belowK_b (w := w) (Nat.le_refl _) _ D _ _ (by have := HN6.out; omega) hD9 rfl rfl)⟩
    case stop =>
      rintro D cd xs W hD hpx hx hK
      rcases hx with ⟨rfl, pre, x, rfl, hpl, hI⟩ | hx
      · have HPL := Lib.hid (show pre.length = min stop L.length by have := hI.len; omega)
        clear hpx hpl
        have hcN := hI.bN.cell
        have hcS := hI.bS.cell
        have hcW := hI.bW.cell
        have bR := hI.bR
        have hcR := bR.cell
        have hfR := bR.frozen
        have hB := hI.below
        have hDr : D ≠ w.heap.size + 1 := by have := HN6.out; omega
        have hcv := IntWalk.i64_in (stop : Int) (by omega)
        have hmin : ∀ (ts : Array TypeId) (t : TypeId) (w : World), (Builtin.min_ ts t #[.int .i64 (stop : Int), .int .i64 (L.length : Int)]).run Try.prog w = .ok (.int .i64 (pre.length : Int)) w := fun ts t w => by
          rw [run_min_int2, show (if (L.length : Int) < (stop : Int) then (L.length : Int) else (stop : Int)) = (pre.length : Int) by have := HPL.out; split <;> omega]
        clear hI
        gi_wp2
        have hD9 : (W.setCell ⟨w.heap.size + 1, 0, none⟩ (.bool true)).heap[D]? = some (.deferred (some [])) := (Below.heap_setCell _ _ _ _ (by simpa using hDr)).trans hK
        have br9 := bR.set (.bool true)
        refine ⟨by simp, .inl ⟨_, _, rfl, run_takeDeferred hD9, ?_⟩⟩
        have br10 : Boxed ((W.setCell ⟨w.heap.size + 1, 0, none⟩ (.bool true)).putObj D (.deferred none)) (w.heap.size + 1) 4 (.bool true) := (World.putObj_heap_other hDr.symm).trans br9
        exact ⟨_, results_cell_bool rfl Try.underlying4 _ _ (w.heap.size + 1) true rfl br10.cell, rfl, (hB.setCell (by simp) _).trans (belowK_b (w := w) (Nat.le_refl _) _ D _ _ (by have := HN6.out; omega) hD9 rfl rfl)⟩
      · exact absurd hpx hx
theorem lall_b (l : List CV) (A : Option Addr) (c : Nat) (b : List BV) (B : Option Addr) (d : Nat) (stop : Int) (w : World) (hr : CRow w w.heap.size A l) (hrb : BRow w w.heap.size B b) (hst : 0 ≤ stop ∧ stop ≤ 255) : Calls Try.prog 4 #[.slice A l.length c, .slice B b.length d, .int .u8 stop] w fun e w' => e = .returned (.bool true) ∧ Below w.heap.size w w' := by
  obtain ⟨s, rfl⟩ := Int.eq_ofNat_of_zero_le hst.1
  exact callsIn_wide.1 (lall_in l A c b B d s w hr hrb (by omega))
end Go.Proofs.Ytmonneeikkgllaa
