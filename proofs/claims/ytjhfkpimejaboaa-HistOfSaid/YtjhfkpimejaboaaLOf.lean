/- HistOf answers true. No condition but those in the statements. -/
import Derived.Test.YtjhfkpimejaboaaHIt
import Derived.Test.YtjhfkpimejaboaaHWk
import Derived.BigQuiet
import Derived.IntWalk
import Derived.BigRegion
import Derived.OpenShut
import Derived.Deep.MidRow
import Derived.RangeFuncBox
import Derived.RangeFuncNested
import Derived.RangeFuncBound
import Derived.RangeFuncCalls
import Derived.RangeFuncLeaves
import Derived.Shelf.Abstract
import Derived.Shelf.RegionOpen
import Derived.OwnWalkIn
import Derived.TacticsInMore
import Derived.LoopNIn
import Derived.LoopIn
namespace Go.Proofs.Ytjhfkpimejaboaa
open Go.RowKit Go.Sort Go.Shelf Go.ChangeShapes Go.WideShapes
attribute [local go_sem] Oper.semAt_some
set_option linter.unusedVariables false
set_option linter.unusedSimpArgs false


theorem neq_nil17 (w : World) (fn : Fn) (xs ys : Array Value) : (binOp .neq 39 (.func fn xs ys) .nilFunc).run Try.prog w = .ok (.bool true) w := by
  have h : ∀ d : Nat, (Op.equalIn (d + 1) 39 (.func fn xs ys) .nilFunc).run Try.prog w = .ok false w := fun d => by
    simp [Op.equalIn, run_underlying Try.underlying39]
  simp only [binOp]
  simp [Op.equal, Op.maxDepth, h 9999]
theorem offOwn_put {W : World} {base : Nat} {e : TypeId} {size k : Nat} {v : Value} {xs : List Value} (h : OwnsOff W base e size v k xs) {l : Nat} {o : Obj} (o' : Obj) (hl : W.heap[l]? = some o) (ho : o.isCells = false) : OwnsOff (W.putObj l o') base e size v k xs :=
  h.kept (Only.of_grown (grownBy_putObj' W l o')) (fun g hg e' => by
    obtain ⟨cs, hc⟩ := h.typed g hg
    cases e'
    rw [hc] at hl; cases hl; cases ho)
/-- A bool result that lies in a cell. -/
theorem results_cell_bool {fn : Func} {p : Tmp} {ty : TypeId} {P : Program} (h : fn.results = #[.cell p ty]) (hu : P.underlying ty = some .bool) (tmps : Array Value) (w : World) (g : Nat) (b : Bool)
    (hp : tmps.getD p undef = .pointer (some ⟨g, 0, none⟩)) (hc : w.cell? ⟨g, 0, none⟩ = some (.bool b)) : (results fn tmps).run P w = .ok (.bool b) w := by
  have hp' : tmps[p]?.getD undef = .pointer (some ⟨g, 0, none⟩) := by simpa using hp
  simp [results, h, hp', asAddr, loadVar, isAgg, run_underlying hu]
  go_simp
set_option maxRecDepth 100000 in
set_option maxHeartbeats 3200000 in
theorem same01_b (xs : List Int) (A A' : Option Addr) (c c' : Nat) (w : World) (h1 : IntRowK .i64 w w.heap.size A xs) (h2 : IntRowK .i64 w w.heap.size A' xs) (hl : xs.length ≤ 1000000) : Calls Try.prog 15 #[.slice A xs.length c, .slice A' xs.length c'] w fun e w' => e = .returned (.bool true) ∧ Below w.heap.size w w' := by
  have H1 := Lib.hid h1; have H2 := Lib.hid h2
  clear h1 h2
  go_enter Try.func15, Try.ntmps15
  go_wp2
  go_loopw [5] (fun ix wr => ∃ k : Nat, k ≤ xs.length ∧ ix = .int .i64 k ∧ Below w.heap.size w wr) (fun ix _ => xs.length - (intOf ix).toNat)
  case atStart => exact ⟨0, Nat.zero_le _, rfl, Below.refl _ _⟩
  case round =>
    obtain ⟨k, hk, rfl, hb⟩ := hrel
    by_cases hkl : k < xs.length
    · obtain ⟨g, o, rfl, -, e1⟩ := H1.out.at_ hkl
      obtain ⟨g', o', rfl, -, e2⟩ := H2.out.at_ hkl
      have u1 := e1 wr hb
      have u2 := e2 wr hb
      obtain ⟨y, hy⟩ : ∃ y, xs.getD k 0 = y := ⟨_, rfl⟩
      rw [hy] at u1 u2
      have s1 : (k : Int) < (xs.length : Int) := by omega
      have HBR := Lib.hid hb
      clear e1 e2 hy hb
      go_wp2
      go_region
      go_wp2
      go_roundw
      case rel => exact ⟨k + 1, by omega, by go_num, HBR.out.drew⟩
      case measure => simp [intOf]; omega
    · have HBR := Lib.hid hb
      clear hb
      go_wp2
      go_ret
      exact ⟨rfl, HBR.out⟩
theorem keepsO_below17 {W W' : World} (hb : Below W.heap.size W W') : KeepsOthers W W' := ⟨hb.size, fun k o hk _ => (hb.block k (Array.getElem?_eq_some_iff.1 hk).1).trans hk⟩
/-- Only a normal end. -/
def OnlyN (Q : Exit → Act → World → Prop) : Exit → Act → World → Prop
  | .normal, a, w => Q .normal a w
  | _, _, _ => False
theorem onlyN_wp {P : Program} {cd : Code} {Q : Exit → Act → World → Prop} {a : Act} {w : World} (h : cd.wp P (OnlyN Q) a w) : cd.wp P Q a w := wp_mono h (fun e a w h => by cases e <;> first | exact h | exact h.elim)
/-- Between two rounds. -/
structure OI (w : World) (l : List CV) (A : Option Addr) (c stop b7 n1 : Nat) (us : List (Int × CV)) (W : World) : Prop where
  le : us.length ≤ stop
  bL : Boxed W w.heap.size 22 (.slice A l.length c)
  bS : Boxed W (w.heap.size + 1) 5 (.int .u8 (stop : Int))
  bR : Boxed W (w.heap.size + 1 + 1) 4 (.bool false)
  row : ∃ v, Boxed W b7 37 v ∧ OwnsOff W b7 3 1 v us.length (icells (us.map Prod.fst)) ∧ ∀ g, v.ownBlock = some g → n1 ≤ g
  n1le : n1 ≤ W.heap.size
  below : Below w.heap.size w W
/-- A round has left by the break. -/
def OX (w : World) (l : List CV) (A : Option Addr) (c stop b7 n1 : Nat) (cd : Code) (us : List (Int × CV)) (W : World) : Prop :=
  cd = .exit 0 ∧ ∃ pre x, us = pre ++ [x] ∧ pre.length = stop ∧ OI w l A c stop b7 n1 pre W
theorem OI.turn {w : World} {l : List CV} {A : Option Addr} {c stop b7 n1 n₀ : Nat} (hn : w.heap.size ≤ n₀) : OwnFrom n₀ (OI w l A c stop b7 n1) := by
  rintro s W W' row h hg hr
  have keep : ∀ (k : Nat) (o : Obj), W.heap[k]? = some o → o.isCells = true → W'.heap[k]? = some o := fun k o hk ho =>
    (hg.block k (Array.getElem?_eq_some_iff.1 hk).1 (fun e => by obtain ⟨_, o', ho', hc⟩ := hr k e.symm; rw [hk] at ho'; cases ho'; rw [ho] at hc; cases hc)).trans hk
  obtain ⟨v, h3, h4, h6⟩ := h.row
  refine ⟨h.le, keep _ _ h.bL rfl, keep _ _ h.bS rfl, keep _ _ h.bR rfl, ⟨v, keep _ _ h3 rfl, h4.kept (Only.of_grown hg) (fun g hg' e => ?_), h6⟩, Nat.le_trans h.n1le hg.size, h.below.grown hg h.below.size (fun k e => by have := (hr k e).1; omega)⟩
  obtain ⟨cs, hc⟩ := h4.typed g hg'
  obtain ⟨_, o', ho', hcc⟩ := hr g e.symm
  rw [hc] at ho'; cases ho'; cases hcc
theorem OI.later {w W W' : World} {l : List CV} {A : Option Addr} {c stop b7 n1 : Nat} {us : List (Int × CV)} (h : OI w l A c stop b7 n1 us W) (hb : Below W.heap.size W W') : OI w l A c stop b7 n1 us W' := by
  obtain ⟨v, h3, h4, h6⟩ := h.row
  exact ⟨h.le, (hb.block _ h.bL.lt).trans h.bL, (hb.block _ h.bS.lt).trans h.bS, (hb.block _ h.bR.lt).trans h.bR, ⟨v, (hb.block _ h3.lt).trans h3, h4.keptB hb, h6⟩, Nat.le_trans h.n1le hb.size, h.below.trans (hb.mono h.below.size)⟩
theorem OX.turn {w : World} {l : List CV} {A : Option Addr} {c stop b7 n1 n₀ : Nat} (hn : w.heap.size ≤ n₀) (cd : Code) : OwnFrom n₀ (OX w l A c stop b7 n1 cd) := by
  rintro s W W' row ⟨h1, pre, x, h2, h3, h4⟩ hg hr
  exact ⟨h1, pre, x, h2, h3, OI.turn hn _ _ _ _ h4 hg hr⟩
theorem row_grown {K : IntKind} {W W' : World} {A : Option Addr} {l : List Int} {row : Option Nat} (h : IntRowK K W W.heap.size A l) (hg : W.grownBy W' row) (hr : ∀ r, row = some r → ∃ o : Obj, W.heap[r]? = some o ∧ o.isCells = false) : IntRowK K W' W'.heap.size A l := fun hp => by
  obtain ⟨b, o, hA, hlt, hc⟩ := h hp
  exact ⟨b, o, hA, Nat.lt_of_lt_of_le hlt hg.size, fun i hi => cell_kept (hc i hi) hg hr⟩
/-- What the round's own variables hold. -/
structure VarX (l : List CV) (x : Int × CV) (Bx : Nat) (W : World) : Prop where
  at_ : CAt W Bx 0 x.2
  rows : CRows W W.heap.size x.2
  like : LikeX l x.1 x.2
theorem VarX.turn {l : List CV} {x : Int × CV} {Bx : Nat} {W W' : World} {row : Option Nat} (h : VarX l x Bx W) (hg : W.grownBy W' row) (hr : ∀ r, row = some r → ∃ o : Obj, W.heap[r]? = some o ∧ o.isCells = false) : VarX l x Bx W' :=
  ⟨fun j v hv => cell_kept (h.at_ j v hv) hg hr, ⟨row_grown h.rows.rr hg hr, h.rows.rl, row_grown h.rows.ar hg hr, h.rows.al⟩, h.like⟩

set_option maxRecDepth 100000 in
set_option maxHeartbeats 16000000 in
theorem lof_in (A : Option Addr) (l : List CV) (c : Nat) (p : Int) (stop : Nat) (w : World) (hr : CRow w w.heap.size A l) (hlc : l.length ≤ c) (hst : stop ≤ 255) (hz : ∀ (i : Nat) (v : CV), l[i]? = some v → CSz 140737488351232 v) : CallsIn Fence.wide 5 Try.prog 4 #[.slice A l.length c, .int .i64 p, .int .u8 (stop : Int)] w fun e w' => e = .returned (.bool true) ∧ Below w.heap.size w w' := by
  obtain ⟨i0, hi0, hz0, hz1, hz2⟩ := info_parts Try.infoI17
  have hneq := neq_nil17
  obtain ⟨w0, hw0⟩ : ∃ u, Hid (u = ((w.alloc (.cells #[.slice A l.length c] 22)).alloc (.cells #[.int .u8 (stop : Int)] 5)).alloc (.cells #[.bool false] 4)) := ⟨_, rfl⟩
  have hb0 : Below w.heap.size w w0 := by rw [hw0.out]; exact (((Below.refl _ w).alloc (Nat.le_refl _) _).alloc (by simp) _).alloc (by simp; omega) _
  have hs0 : w0.heap.size = w.heap.size + 3 := by rw [hw0.out]; simp
  have bL0 : Boxed w0 w.heap.size 22 (.slice A l.length c) := by rw [hw0.out]; exact ((Boxed.new w _ _).alloc _).alloc _
  have bS0 : Boxed w0 (w.heap.size + 1) 5 (.int .u8 (stop : Int)) := by
    rw [hw0.out]
    have := Boxed.new (w.alloc (.cells #[.slice A l.length c] 22)) 5 (.int .u8 (stop : Int))
    rw [World.size_alloc] at this
    exact this.alloc _
  have bR0 : Boxed w0 (w.heap.size + 1 + 1) 4 (.bool false) := by
    rw [hw0.out]
    have := Boxed.new ((w.alloc (.cells #[.slice A l.length c] 22)).alloc (.cells #[.int .u8 (stop : Int)] 5)) 4 (.bool false)
    rwa [World.size_alloc, World.size_alloc] at this
  have HR := Lib.hid hr; have HZ := Lib.hid hz; have HB0 := Lib.hid hb0; have HS0 := Lib.hid hs0; have HL0 := Lib.hid bL0; have HST0 := Lib.hid bS0; have HR0 := Lib.hid bR0
  clear hr hz hb0 hs0 bL0 bS0 bR0
  refine callsIn_of_wp_marks Try.func4 rfl trivial ?_ rfl
  simp only [Try.ntmps4, List.size_toArray, List.length_cons, List.length_nil, Nat.reduceAdd, Nat.reduceSub, Array.replicate_succ, Array.replicate_zero, List.push_toArray, List.append_toArray, List.nil_append, List.cons_append]
  gi_wp2_with (rw [← hw0.out])
  refine ⟨trivial, (callsIn_wide.2 (wakes_b w0)).mono ?_⟩
  rintro e w1 ⟨rfl, hb1⟩
  have HB1 := Lib.hid hb1
  have bL1 : Boxed w1 w.heap.size 22 (.slice A l.length c) := (hb1.block _ (by have := HS0.out; omega)).trans HL0.out
  have bR1 : Boxed w1 (w.heap.size + 1 + 1) 4 (.bool false) := (hb1.block _ (by have := HS0.out; omega)).trans HR0.out
  have cL := bL1.cell
  have cR := bR1.cell
  have fR := bR1.frozen
  have HR1 := Lib.hid bR1
  clear hb1
  by_cases hl : (60 : Int) < (l.length : Int)
  · gi_wp2
    have br9 := HR1.out.set (.bool true)
    have hfin := HB0.out.trans (HB1.out.mono HB0.out.size)
    exact ⟨_, results_cell_bool rfl Try.underlying4 _ _ (w.heap.size + 1 + 1) true rfl br9.cell, rfl, hfin.setCell (by simp; omega) _⟩
  have hl60 : l.length ≤ 60 := by omega
  have hld : decide ((60 : Int) < (l.length : Int)) = false := decide_eq_false hl
  obtain ⟨w2, hw2⟩ : ∃ u, Hid (u = w1.alloc (.cells #[.slice none 0 0] 37)) := ⟨_, rfl⟩
  have hb2 : Below w1.heap.size w1 w2 := by rw [hw2.out]; exact (Below.refl _ _).alloc (Nat.le_refl _) _
  have hs2 : w2.heap.size = w1.heap.size + 1 := by rw [hw2.out]; simp
  have bP2 : Boxed w2 w1.heap.size 37 (.slice none 0 0) := by rw [hw2.out]; exact Boxed.new w1 _ _
  have cL2 : w2.cell? ⟨w.heap.size, 0, none⟩ = some (.slice A l.length c) := (Boxed.cell ((hb2.block _ bL1.lt).trans bL1))
  have HB2 := Lib.hid (HB1.out.trans (hb2.mono HB1.out.size))
  have HP2 := Lib.hid bP2; have HS2 := Lib.hid hs2
  have HOF := Lib.hid (of_b A l c p w2 ((HR.out.below (HB0.out.trans (HB2.out.mono HB0.out.size))).more (HB0.out.trans (HB2.out.mono HB0.out.size)).size) hl60 HZ.out)
  clear hb2 hs2 bP2 hl cR fR
  gi_wp2_with (rw [← hw2.out])
  refine ⟨trivial, (callsIn_wide.2 HOF.out).mono ?_⟩
  rintro e w3 ⟨pb, ob, v1, v2, ys, rfl, hpb, hob, hst3, hlk, hsz, hb3⟩
  have HB3 := Lib.hid hb3; have HLK := Lib.hid hlk; have HSZ := Lib.hid hsz; have HPB := Lib.hid hpb; have HOB := Lib.hid hob
  have hown1 := hst3.r1; have hown2 := hst3.r2
  obtain ⟨A1, c1, rfl, -, -⟩ := hown1.slice
  obtain ⟨A2, c2, rfl, -, -⟩ := hown2.slice
  have HST3 := Lib.hid hst3
  have hs3 := hb3.size
  have hs2 : w1.heap.size + 1 ≤ w2.heap.size := by have := HS2.out; omega
  have hs0 : w.heap.size + 3 ≤ w0.heap.size := by have := HS0.out; omega
  have hs1 := HB1.out.size
  have hBw : Below w.heap.size w w3 := HB0.out.trans ((HB2.out.trans (hb3.mono HB2.out.size)).mono HB0.out.size)
  have hI0 : OI w l A c stop w1.heap.size w3.heap.size [] w3 := by
    have h13 := HB2.out.trans (hb3.mono HB2.out.size)
    exact ⟨Nat.zero_le _, (h13.block _ (by omega)).trans HL0.out, (h13.block _ (by omega)).trans HST0.out, (h13.block _ (by omega)).trans HR0.out, ⟨_, (hb3.block _ (by omega)).trans HP2.out, OwnsOff.nil _ _ _ _, fun g hg => by cases hg⟩, Nat.le_refl _, hBw⟩
  have HI0 := Lib.hid hI0
  have HX := Lib.hid (show (ofN l p l.length).length ≤ 60 by have := ofN_len l p l.length; omega)
  clear hb3 hlk hsz hst3 hown1 hown2 hI0 cL cL2 HOF
  gi_wp2
  refine rangeTells rfl (by omega) (gf := 25) (caps := #[.pointer (some ⟨pb, 0, none⟩), .pointer (some ⟨ob, 0, none⟩)]) rfl trivial (enters_of Try.func25 (by kernel_rfl) rfl)
    (ofIter (5 - 1) (by omega) l w2.heap.size pb ob A1 A2 c1 c2 (ofN l p l.length) ys w3 (by have := HLK.out.1; exact HST3.out) HPB.out HOB.out HLK.out HSZ.out HX.out) (fun h k => h.trans k) (fun W lp o o' hle _ _ _ => keepsR_put o' hle) (fun _ => rfl)
    (OI w l A c stop w1.heap.size w3.heap.size) (OX w l A c stop w1.heap.size w3.heap.size) (OI.turn (by omega)) (OX.turn (by omega)) HI0.out
    (fun x a' W => ∃ Bx, w3.heap.size ≤ Bx ∧ VarX l x Bx W ∧ a' = { tmps := #[.slice A l.length c, .int .i64 p, .int .u8 (stop : Int), .pointer (some ⟨w.heap.size, 0, none⟩), undef, .pointer (some ⟨w.heap.size + 1, 0, none⟩), .pointer (some ⟨w.heap.size + 1 + 1, 0, none⟩), .pointer (some ⟨w1.heap.size, 0, none⟩), .func (.func 25) #[] #[.pointer (some ⟨pb, 0, none⟩), .pointer (some ⟨ob, 0, none⟩)], .int .i64 x.1, .pointer (some ⟨Bx, 0, none⟩), undef, .bool true, .bool false, .slice A l.length c, .int .i64 (l.length : Int), .bool false, .slice A l.length c, .int .i64 p, .func (.func 25) #[] #[.pointer (some ⟨pb, 0, none⟩), .pointer (some ⟨ob, 0, none⟩)], .func (.func 25) #[] #[.pointer (some ⟨pb, 0, none⟩), .pointer (some ⟨ob, 0, none⟩)], .bool true, .func (.func 25) #[] #[.pointer (some ⟨pb, 0, none⟩), .pointer (some ⟨ob, 0, none⟩)], .int .i64 x.1, .agg (cCells x.2).toArray, undef, undef, undef, undef, undef, undef, undef, undef, undef, undef, undef, undef, undef, undef, undef, undef, undef, undef, undef, undef, undef, undef, undef, undef, undef, undef, undef, undef, undef, undef, undef, undef, undef, undef, undef, undef, undef, undef], defers := [] }) ?hAx ?assign ?body ?done ?stop
  case hAx =>
    rintro x a' s W W' row ⟨Bx, e1, e2, e3⟩ hg hr
    exact ⟨Bx, e1, e2.turn hg (fun r e => (hr r e).2), e3⟩
  case assign =>
    rintro pre x W K hI ⟨hrx, hlx⟩ hK
    simp only [encX]
    obtain ⟨X1, X2, HX1, HX2, hth, hxb1, hxb2, hxs, hxv⟩ := var17 W x.2 #[.int .i64 0, .int .i64 0, .int .i64 0, .int .u64 0, .slice none 0 0, .int .i64 0, .slice none 0 0, .bool false, .int .i64 0, .bool false, .int .i64 0, .int .i64 0, .int .i64 0, .int .i64 0, .int .i64 0, .int .i64 0, .int .i64 0, .int .i64 0, .int .i64 0, .int .i64 0] rfl
    have HXB := Lib.hid hxb2; have HXV := Lib.hid hxv; have HTH := Lib.hid hth
    clear hxb1 hxb2 hxs hxv hth
    have hn1 := hI.n1le
    have hI2 : OI w l A c stop w1.heap.size w3.heap.size pre X2 := by
      obtain ⟨v, h3, h4, h6⟩ := hI.row
      exact ⟨hI.le, (HXB.out.block _ hI.bL.lt).trans hI.bL, (HXB.out.block _ hI.bS.lt).trans hI.bS, (HXB.out.block _ hI.bR.lt).trans hI.bR, ⟨v, (HXB.out.block _ h3.lt).trans h3, h4.keptB HXB.out, h6⟩, Nat.le_trans hI.n1le HXB.out.size, hI.below.trans (HXB.out.mono hI.below.size)⟩
    have hV : VarX l x W.heap.size X2 := ⟨HXV.out, (hrx.below HXB.out).more HXB.out.size, hlx⟩
    have hKF : KeepsFrom w3.heap.size W X2 := (keepsO_below17 HXB.out).from _
    have HKK := Lib.hid (hK _ X2 hKF (keepsR_below HXB.out hn1) hI2 ⟨W.heap.size, hn1, hV, rfl⟩)
    clear hK hI hI2 hV hKF hrx hlx
    gi_wp2_with (first | (rw [← HX1.out]) | (with_reducible refine wpListIn_storeC rfl _ _ rfl W.heap.size x.2 (by with_unfolding_all rfl) (by with_unfolding_all rfl) HTH.out ?_) | (rw [← HX2.out]))
    (try rw [← HX2.out])
    exact HKK.out
  case body =>
    rintro pre ⟨z, u⟩ a' W ⟨rr, hrr⟩ hI ⟨Bx, hBx, hV, rfl⟩ hlt2
    obtain ⟨v, bO, hown, hvn⟩ := hI.row
    obtain ⟨A', c', rfl, hle, hmx⟩ := hown.slice
    have hcO := bO.cell
    have hcL := hI.bL.cell
    have hcS := hI.bS.cell
    have hpm := hI.le
    have hXX := HX.out
    have hcv := IntWalk.i64_in (stop : Int) (by omega)
    have HI := Lib.hid hI
    by_cases hpe : pre.length = stop
    · have ht : (stop : Int) ≤ pre.length := by omega
      have HPE := Lib.hid hpe
      clear hI hpe bO hown hV
      gi_wp2
      exact ⟨KeepsFrom.refl _ _, rfl, pre, _, rfl, HPE.out, HI.out⟩
    · have ht : ¬ (stop : Int) ≤ pre.length := by omega
      have htd : decide ((stop : Int) ≤ (pre.length : Int)) = false := decide_eq_false ht
      obtain ⟨j, v0, B1, d1, B2, d2, hz1, hj, hu⟩ := hV.like
      simp only at hz1 hu
      subst hz1 hu
      have hjl : j < l.length := (List.getElem?_eq_some_iff.1 hj).1
      obtain ⟨b, o, v', rfl, hbl, hv', -, hvc⟩ := HR.out.at_ hjl
      rw [hj] at hv'
      injection hv' with hv'
      subst hv'
      have HUX : Hid (∀ W', Below W.heap.size W W' → CAt W' Bx 0 (v0.at_ B1 d1 B2 d2)) := Lib.hid (fun W' h => hV.at_.later h hV.at_.lt)
      have HVX : Hid (∀ W', Below W.heap.size W W' → CAt W' b (o + j * 20) v0) := Lib.hid (fun W' h => (hvc _ (HI.out.below.trans (h.mono HI.out.below.size))).1)
      have HVR := Lib.hid (((hvc _ HI.out.below).2).more HI.out.below.size)
      have HUR := Lib.hid hV.rows
      have HZ0 := Lib.hid (HZ.out j v0 hj)
      have HBL : Hid (Boxed W w.heap.size 22 (.slice (some ⟨b, o, none⟩) l.length c)) := Lib.hid hI.bL
      have HPM := Lib.hid hpm; have HNE := Lib.hid hpe
      have hj2 : (j : Int) < (l.length : Int) := by omega
      have hjd : decide (l.length ≤ j) = false := decide_eq_false (by omega)
      have hj0 : decide ((j : Int) < 0) = false := decide_eq_false (by omega)
      clear hI hpe bO hown hV hvc hj hbl hvn
      gi_wp2_with fail
      refine region_round (S := fun W' => Below W.heap.size W W') (by kernel_rfl) (by kernel_rfl) (by rintro ⟨a0, w0', h0'⟩; exact h0') ((Below.refl _ _).drew) (fun hHeld => ?_)
      first
        | (refine wpAnyH_take (i := 0) rfl (by kernel_rfl) (by kernel_rfl) (by kernel_rfl) (fun _ _ _ h => h) (Or.inl ⟨by rfl, by intro wS hSw; have q0 := (hSw.cell (p := ⟨w.heap.size, 0, none⟩) HBL.out.lt).trans HBL.out.cell; (go_simp <;> with_reducible rfl)⟩) (by assumption) ?_)
        | (refine wpAnyH_take (i := 0) rfl (by kernel_rfl) (by kernel_rfl) (by kernel_rfl) (fun _ _ _ h => h) (Or.inr ⟨by rfl, rfl⟩) (by assumption) ?_)
      (try simp only [Act.put, List.setIfInBounds_toArray, List.set_cons_zero, List.set_cons_succ, List.getElem_toArray, List.getElem_cons_zero, List.getElem_cons_succ])
      first
        | (refine wpAnyH_take (i := 1) rfl (by kernel_rfl) (by kernel_rfl) (by kernel_rfl) (fun _ _ _ h => h) (Or.inl ⟨by rfl, by intro wS hSw; have q0 := (hSw.cell (p := ⟨w.heap.size, 0, none⟩) HBL.out.lt).trans HBL.out.cell; (go_simp <;> with_reducible rfl)⟩) (by assumption) ?_)
        | (refine wpAnyH_take (i := 1) rfl (by kernel_rfl) (by kernel_rfl) (by kernel_rfl) (fun _ _ _ h => h) (Or.inr ⟨by rfl, rfl⟩) (by assumption) ?_)
      (try simp only [Act.put, List.setIfInBounds_toArray, List.set_cons_zero, List.set_cons_succ, List.getElem_toArray, List.getElem_cons_zero, List.getElem_cons_succ])
      first
        | (refine wpAnyH_take (i := 2) rfl (by kernel_rfl) (by kernel_rfl) (by kernel_rfl) (fun _ _ _ h => h) (Or.inl ⟨by rfl, by intro wS hSw; have q0 := (hSw.cell (p := ⟨w.heap.size, 0, none⟩) HBL.out.lt).trans HBL.out.cell; (go_simp <;> with_reducible rfl)⟩) (by assumption) ?_)
        | (refine wpAnyH_take (i := 2) rfl (by kernel_rfl) (by kernel_rfl) (by kernel_rfl) (fun _ _ _ h => h) (Or.inr ⟨by rfl, rfl⟩) (by assumption) ?_)
      (try simp only [Act.put, List.setIfInBounds_toArray, List.set_cons_zero, List.set_cons_succ, List.getElem_toArray, List.getElem_cons_zero, List.getElem_cons_succ])
      first
        | (refine wpAnyH_take (i := 3) rfl (by kernel_rfl) (by kernel_rfl) (by kernel_rfl) (fun _ _ _ h => h) (Or.inl ⟨by rfl, by intro wS hSw; have q0 := (hSw.cell (p := ⟨w.heap.size, 0, none⟩) HBL.out.lt).trans HBL.out.cell; (go_simp <;> with_reducible rfl)⟩) (by assumption) ?_)
        | (refine wpAnyH_take (i := 3) rfl (by kernel_rfl) (by kernel_rfl) (by kernel_rfl) (fun _ _ _ h => h) (Or.inr ⟨by rfl, rfl⟩) (by assumption) ?_)
      (try simp only [Act.put, List.setIfInBounds_toArray, List.set_cons_zero, List.set_cons_succ, List.getElem_toArray, List.getElem_cons_zero, List.getElem_cons_succ])
      first
        | (refine wpAnyH_take (i := 4) rfl (by kernel_rfl) (by kernel_rfl) (by kernel_rfl) (fun _ _ _ h => h) (Or.inl ⟨by rfl, by intro wS hSw; have q0 := (hSw.cell (p := ⟨w.heap.size, 0, none⟩) HBL.out.lt).trans HBL.out.cell; (go_simp <;> with_reducible rfl)⟩) (by assumption) ?_)
        | (refine wpAnyH_take (i := 4) rfl (by kernel_rfl) (by kernel_rfl) (by kernel_rfl) (fun _ _ _ h => h) (Or.inr ⟨by rfl, rfl⟩) (by assumption) ?_)
      (try simp only [Act.put, List.setIfInBounds_toArray, List.set_cons_zero, List.set_cons_succ, List.getElem_toArray, List.getElem_cons_zero, List.getElem_cons_succ])
      first
        | (refine wpAnyH_take (i := 5) rfl (by kernel_rfl) (by kernel_rfl) (by kernel_rfl) (fun _ _ _ h => h) (Or.inl ⟨by rfl, by intro wS hSw; have q0 := (hSw.cell (p := ⟨w.heap.size, 0, none⟩) HBL.out.lt).trans HBL.out.cell; (go_simp <;> with_reducible rfl)⟩) (by assumption) ?_)
        | (refine wpAnyH_take (i := 5) rfl (by kernel_rfl) (by kernel_rfl) (by kernel_rfl) (fun _ _ _ h => h) (Or.inr ⟨by rfl, rfl⟩) (by assumption) ?_)
      (try simp only [Act.put, List.setIfInBounds_toArray, List.set_cons_zero, List.set_cons_succ, List.getElem_toArray, List.getElem_cons_zero, List.getElem_cons_succ])
      first
        | (refine wpAnyH_take (i := 6) rfl (by kernel_rfl) (by kernel_rfl) (by kernel_rfl) (fun _ _ _ h => h) (Or.inl ⟨by rfl, by intro wS hSw; have q0 := (hSw.cell (p := ⟨w.heap.size, 0, none⟩) HBL.out.lt).trans HBL.out.cell; (go_simp <;> with_reducible rfl)⟩) (by assumption) ?_)
        | (refine wpAnyH_take (i := 6) rfl (by kernel_rfl) (by kernel_rfl) (by kernel_rfl) (fun _ _ _ h => h) (Or.inr ⟨by rfl, rfl⟩) (by assumption) ?_)
      (try simp only [Act.put, List.setIfInBounds_toArray, List.set_cons_zero, List.set_cons_succ, List.getElem_toArray, List.getElem_cons_zero, List.getElem_cons_succ])
      first
        | (refine wpAnyH_take (i := 7) rfl (by kernel_rfl) (by kernel_rfl) (by kernel_rfl) (fun _ _ _ h => h) (Or.inl ⟨by rfl, by intro wS hSw; have q0 := (hSw.cell (p := ⟨w.heap.size, 0, none⟩) HBL.out.lt).trans HBL.out.cell; (go_simp <;> with_reducible rfl)⟩) (by assumption) ?_)
        | (refine wpAnyH_take (i := 7) rfl (by kernel_rfl) (by kernel_rfl) (by kernel_rfl) (fun _ _ _ h => h) (Or.inr ⟨by rfl, rfl⟩) (by assumption) ?_)
      (try simp only [Act.put, List.setIfInBounds_toArray, List.set_cons_zero, List.set_cons_succ, List.getElem_toArray, List.getElem_cons_zero, List.getElem_cons_succ])
      first
        | (refine wpAnyH_take (i := 8) rfl (by kernel_rfl) (by kernel_rfl) (by kernel_rfl) (fun _ _ _ h => h) (Or.inl ⟨by rfl, by intro wS hSw; have q0 := (hSw.cell (p := ⟨w.heap.size, 0, none⟩) HBL.out.lt).trans HBL.out.cell; (go_simp <;> with_reducible rfl)⟩) (by assumption) ?_)
        | (refine wpAnyH_take (i := 8) rfl (by kernel_rfl) (by kernel_rfl) (by kernel_rfl) (fun _ _ _ h => h) (Or.inr ⟨by rfl, rfl⟩) (by assumption) ?_)
      (try simp only [Act.put, List.setIfInBounds_toArray, List.set_cons_zero, List.set_cons_succ, List.getElem_toArray, List.getElem_cons_zero, List.getElem_cons_succ])
      refine wpAnyH_take (i := 9) rfl (by kernel_rfl) (by kernel_rfl) (by kernel_rfl) (fun _ _ _ h => h) (yieldsIf_load_mid (by with_unfolding_all rfl) 34 _ rfl (Bx) (0) (by with_unfolding_all rfl) (cCells (v0.at_ B1 d1 B2 d2)) _ (fun W' hW' => HUX.out W' hW') Try.underlying34 rfl (cCells_info (v0.at_ B1 d1 B2 d2))) (by assumption) ?_
      (try simp only [Act.put, List.setIfInBounds_toArray, List.set_cons_zero, List.set_cons_succ, List.getElem_toArray, List.getElem_cons_zero, List.getElem_cons_succ])
      first
        | (refine wpAnyH_take (i := 10) rfl (by kernel_rfl) (by kernel_rfl) (by kernel_rfl) (fun _ _ _ h => h) (Or.inl ⟨by rfl, by intro wS hSw; have q0 := (hSw.cell (p := ⟨w.heap.size, 0, none⟩) HBL.out.lt).trans HBL.out.cell; (go_simp <;> with_reducible rfl)⟩) (by assumption) ?_)
        | (refine wpAnyH_take (i := 10) rfl (by kernel_rfl) (by kernel_rfl) (by kernel_rfl) (fun _ _ _ h => h) (Or.inr ⟨by rfl, rfl⟩) (by assumption) ?_)
      (try simp only [Act.put, List.setIfInBounds_toArray, List.set_cons_zero, List.set_cons_succ, List.getElem_toArray, List.getElem_cons_zero, List.getElem_cons_succ])
      first
        | (refine wpAnyH_take (i := 11) rfl (by kernel_rfl) (by kernel_rfl) (by kernel_rfl) (fun _ _ _ h => h) (Or.inl ⟨by rfl, by intro wS hSw; have q0 := (hSw.cell (p := ⟨w.heap.size, 0, none⟩) HBL.out.lt).trans HBL.out.cell; (go_simp <;> with_reducible rfl)⟩) (by assumption) ?_)
        | (refine wpAnyH_take (i := 11) rfl (by kernel_rfl) (by kernel_rfl) (by kernel_rfl) (fun _ _ _ h => h) (Or.inr ⟨by rfl, rfl⟩) (by assumption) ?_)
      (try simp only [Act.put, List.setIfInBounds_toArray, List.set_cons_zero, List.set_cons_succ, List.getElem_toArray, List.getElem_cons_zero, List.getElem_cons_succ])
      first
        | (refine wpAnyH_take (i := 12) rfl (by kernel_rfl) (by kernel_rfl) (by kernel_rfl) (fun _ _ _ h => h) (Or.inl ⟨by rfl, by intro wS hSw; have q0 := (hSw.cell (p := ⟨w.heap.size, 0, none⟩) HBL.out.lt).trans HBL.out.cell; (go_simp <;> with_reducible rfl)⟩) (by assumption) ?_)
        | (refine wpAnyH_take (i := 12) rfl (by kernel_rfl) (by kernel_rfl) (by kernel_rfl) (fun _ _ _ h => h) (Or.inr ⟨by rfl, rfl⟩) (by assumption) ?_)
      (try simp only [Act.put, List.setIfInBounds_toArray, List.set_cons_zero, List.set_cons_succ, List.getElem_toArray, List.getElem_cons_zero, List.getElem_cons_succ])
      refine wpAnyH_take (i := 13) rfl (by kernel_rfl) (by kernel_rfl) (by kernel_rfl) (fun _ _ _ h => h) (yieldsIf_load_mid (by with_unfolding_all rfl) 34 _ rfl (b) (o + j * 20) (by with_unfolding_all rfl) (cCells v0) _ (fun W' hW' => HVX.out W' hW') Try.underlying34 rfl (cCells_info v0)) (by assumption) ?_
      (try simp only [Act.put, List.setIfInBounds_toArray, List.set_cons_zero, List.set_cons_succ, List.getElem_toArray, List.getElem_cons_zero, List.getElem_cons_succ])
      refine wpAnyH_ready (rs := [14]) (by kernel_rfl) (by simp) (AllReadyH.cons rfl (fun K hK => ?_) AllReadyH.nil)
      go_simp
      refine (sameCall_b v0 B1 d1 B2 d2 W.drew ((HVR.out.below (Below.refl W.heap.size W).drew).more (Nat.le_refl _)) ((HUR.out.below (Below.refl W.heap.size W).drew).more (Nat.le_refl _)) HZ0.out).mono ?_
      rintro e w6 ⟨rfl, hb6⟩
      (try go_wp2_with fail)
      have HB6 := Lib.hid ((Below.refl W.heap.size W).drew.trans hb6)
      clear hb6
      refine hK.out _ _ (HB6.out) (fun hHeld => ?_)
      clear hK K
      (try simp only [Act.put, List.setIfInBounds_toArray, List.set_cons_zero, List.set_cons_succ, List.getElem_toArray, List.getElem_cons_zero, List.getElem_cons_succ])
      first
        | (refine wpAnyH_take (i := 15) rfl (by kernel_rfl) (by kernel_rfl) (by kernel_rfl) (fun _ _ _ h => h) (Or.inl ⟨by rfl, by intro wS hSw; (go_simp <;> with_reducible rfl)⟩) (by assumption) ?_)
        | (refine wpAnyH_take (i := 15) rfl (by kernel_rfl) (by kernel_rfl) (by kernel_rfl) (fun _ _ _ h => h) (Or.inr ⟨by rfl, rfl⟩) (by assumption) ?_)
      (try simp only [Act.put, List.setIfInBounds_toArray, List.set_cons_zero, List.set_cons_succ, List.getElem_toArray, List.getElem_cons_zero, List.getElem_cons_succ])
      first
        | (refine wpAnyH_take (i := 16) rfl (by kernel_rfl) (by kernel_rfl) (by kernel_rfl) (fun _ _ _ h => h) (Or.inl ⟨by rfl, by intro wS hSw; (go_simp <;> with_reducible rfl)⟩) (by assumption) ?_)
        | (refine wpAnyH_take (i := 16) rfl (by kernel_rfl) (by kernel_rfl) (by kernel_rfl) (fun _ _ _ h => h) (Or.inr ⟨by rfl, rfl⟩) (by assumption) ?_)
      (try simp only [Act.put, List.setIfInBounds_toArray, List.set_cons_zero, List.set_cons_succ, List.getElem_toArray, List.getElem_cons_zero, List.getElem_cons_succ])
      refine wpAnyH_done (by kernel_rfl) ?_ _
      clear hHeld
      have hI6 := HI.out.later HB6.out
      obtain ⟨v, bO, hown, hvn⟩ := hI6.row
      obtain ⟨A', c', rfl, hle, hmx⟩ := hown.slice
      have hcO := bO.cell
      have hfO := bO.frozen
      have HI6 := Lib.hid hI6
      have HVN := Lib.hid hvn
      clear hI6 hvn hcL hcS
      gi_wp2_with (gi_at_builtin; refine wpListIn_append_off _ rfl _ _ 37 rfl w1.heap.size 3 i0 (.int .i64 0) 1 8 Try.underlying37 hi0 hz0 hz1 hz2 rfl (by decide) _ _ _ rfl (hown.keptB ((Below.refl _ _).alloc (Nat.le_refl _) _)) ⟨w6.heap.size, 0, none⟩ 1 1 [.int .i64 (j : Int)] rfl rfl (news_new _ _ _) (by simp [Value.oneCell']) (by unfold maxLen; omega) (by omega) ?c5 ?_)
      case c5 => have := bO.lt; simp; omega
      · intro v' w7 hown' hgrow hfr
        have hn6 := HI6.out.n1le
        have hkt : KeepsR w2.heap.size w3.heap.size W (w7.setCell ⟨w1.heap.size, 0, none⟩ v') := by
          refine (keepsR_below HB6.out HI.out.n1le).trans ⟨by have := hgrow.size; simp [World.setCell] at this ⊢; omega, fun q h1 h2 => ?_⟩
          refine (Below.heap_setCell _ _ _ _ (by simp; omega)).trans ((hgrow.block q (by simp; omega) (fun e => by have := HVN.out q e.symm; omega)).trans (Below.heap_alloc _ _ _ (by omega)))
        have hvn' : ∀ g, v'.ownBlock = some g → w3.heap.size ≤ g := fun g hg => by
          rcases hfr g hg with h | h
          · exact HVN.out g h
          · (try simp at h); omega
        obtain ⟨hv1, hv2, hr2, hk2, hb2⟩ := Boxed.appendedOff bO (by decide) hown (by have := bO.lt; omega) (Nat.le_refl _) hown' hgrow
        obtain ⟨a', c'', rfl, _⟩ := hown'.slice
        have hc1 := hv1.cell
        have hf1 := hv1.frozen
        have hOI : OI w l (some ⟨b, o, none⟩) c stop w1.heap.size w3.heap.size (pre ++ [((j : Int), v0.at_ B1 d1 B2 d2)]) (w7.setCell ⟨w1.heap.size, 0, none⟩ (.slice a' (pre.length + 1) c'')) := by
          have hI6 := HI6.out
          refine ⟨by have h1 := HPM.out; have h2 := HNE.out; simp; omega, (hb2.block _ (by omega)).trans hI6.bL, (hb2.block _ (by omega)).trans hI6.bS, (hb2.block _ (by omega)).trans hI6.bR, ⟨_, hv2, by rw [List.length_append, List.map_append, icells_app]; exact hr2, hvn'⟩, by have h1 := hkt.1; have h2 := HI.out.n1le; omega, hI6.below.trans (hb2.mono (by omega))⟩
        have HOI := Lib.hid hOI; have HKT := Lib.hid hkt
        have HKF : Hid (KeepsFrom w3.heap.size W (w7.setCell ⟨w1.heap.size, 0, none⟩ (.slice a' (pre.length + 1) c''))) := Lib.hid (((keepsO_below17 HB6.out).from _).trans (hk2.from _))
        clear hown' hgrow hcO hfO hv1 hb2 hfr hvn' hv2 hr2 hk2 hkt hOI bO hown
        gi_wp2
        exact ⟨HKF.out, HKT.out, HOI.out⟩
  case done =>
    rintro us W hus hTI hKD
    obtain ⟨m, hm⟩ : ∃ m, m = min stop (ofN l p l.length).length := ⟨_, rfl⟩
    have HM := Lib.hid hm
    have hL : us.length = m := by have h1 := hTI.le; have h2 := congrArg List.length hus; simp at h2; omega
    have ht : us.map Prod.fst = (ofN l p l.length).take m := by rw [hus, List.take_of_length_le]; have h1 := hTI.le; have h2 := congrArg List.length hus; simp at h2; omega
    clear hus hm
    obtain ⟨v, bO, hown0, -⟩ := hTI.row
    have htl : ((ofN l p l.length).take m).length = m := by rw [List.length_take]; have := HM.out; omega
    have hown : OwnsOff W w1.heap.size 3 1 v ((ofN l p l.length).take m).length (icells ((ofN l p l.length).take m)) := by rw [htl, ← ht, ← hL]; exact hown0
    obtain ⟨A', c', rfl, -, -, -, hArow⟩ := nums_row hown
    rw [htl] at bO
    have hcL := hTI.bL.cell
    have HTI := Lib.hid hTI; have HKD := Lib.hid hKD; have HAR := Lib.hid hArow; have HBO := Lib.hid bO
    clear hown hown0 bO hArow hTI hKD ht hL
    gi_wp2_with fail
    refine ⟨trivial, (callsIn_wide.2 (rof_b A l c p W ((HR.out.below HTI.out.below).more HTI.out.below.size) hl60)).mono ?_⟩
    rintro e w6 ⟨v6, rfl, hown6, hb6⟩
    obtain ⟨A6, c6, rfl, h6c, h6m, h6n, h6row⟩ := nums_row hown6
    have HB6 := Lib.hid (HTI.out.below.trans (hb6.mono HTI.out.below.size))
    have HD0 : Hid (Boxed w6 w1.heap.size 37 (.slice A' m c')) := Lib.hid ((hb6.block _ HBO.out.lt).trans HBO.out)
    have HD1 : Hid (Boxed w6 (w.heap.size + 1) 5 (.int .u8 (stop : Int))) := Lib.hid ((hb6.block _ HTI.out.bS.lt).trans HTI.out.bS)
    have HBR6 : Hid (Boxed w6 (w.heap.size + 1 + 1) 4 (.bool false)) := Lib.hid ((hb6.block _ HTI.out.bR.lt).trans HTI.out.bR)
    have HD6 := Lib.hid ((hb6.block w3.heap.size (Array.getElem?_eq_some_iff.1 HKD.out).1).trans HKD.out)
    have HROW6 := Lib.hid (h6row.take m)
    have HARW := Lib.hid ((HAR.out.below hb6).more hb6.size)
    have hmin : ∀ (ts : Array TypeId) (t : TypeId) (w : World), (Builtin.min_ ts t #[.int .i64 (stop : Int), .int .i64 ((ofN l p l.length).length : Int)]).run Try.prog w = .ok (.int .i64 (m : Int)) w := fun ts t w => by
      rw [run_min_int2, show (if ((ofN l p l.length).length : Int) < (stop : Int) then ((ofN l p l.length).length : Int) else (stop : Int)) = (m : Int) by have := HM.out; split <;> omega]
    have hsl := fun w' => upto_row Try.underlying37 (show Try.prog.info? 3 = some _ from rfl) A6 (ofN l p l.length).length c6 m (by have := HM.out; omega) w'
    have hsm := same01_b ((ofN l p l.length).take m) A' A6 c' c6
    rw [htl] at hsm
    have HSM := Lib.hid hsm
    have hcv := IntWalk.i64_in (stop : Int) (by omega)
    clear hown6 hb6 h6row hcL htl hsm
    gi_wp2_with fail
    refine wpIn_wide.2 (onlyN_wp ?_)
    refine wp_region_held_drew (S := fun W' => W'.cell? ⟨w1.heap.size, 0, none⟩ = some (.slice A' m c') ∧ W'.cell? ⟨w.heap.size + 1, 0, none⟩ = some (.int .u8 (stop : Int))) (by kernel_rfl) (⟨HD0.out.cell, HD1.out.cell⟩) (fun hHeld => ?_)
    first
      | (refine wpAnyH_take (i := 0) rfl (by kernel_rfl) (by kernel_rfl) (by kernel_rfl) (fun _ _ _ h => h) (Or.inl ⟨by rfl, by intro wS hSw; have q0 := hSw.1; have q1 := hSw.2; (go_simp <;> with_reducible rfl)⟩) (by assumption) ?_)
      | (refine wpAnyH_take (i := 0) rfl (by kernel_rfl) (by kernel_rfl) (by kernel_rfl) (fun _ _ _ h => h) (Or.inr ⟨by rfl, rfl⟩) (by assumption) ?_)
    (try simp only [Act.put, List.setIfInBounds_toArray, List.set_cons_zero, List.set_cons_succ, List.getElem_toArray, List.getElem_cons_zero, List.getElem_cons_succ])
    first
      | (refine wpAnyH_take (i := 1) rfl (by kernel_rfl) (by kernel_rfl) (by kernel_rfl) (fun _ _ _ h => h) (Or.inl ⟨by rfl, by intro wS hSw; have q0 := hSw.1; have q1 := hSw.2; (go_simp <;> with_reducible rfl)⟩) (by assumption) ?_)
      | (refine wpAnyH_take (i := 1) rfl (by kernel_rfl) (by kernel_rfl) (by kernel_rfl) (fun _ _ _ h => h) (Or.inr ⟨by rfl, rfl⟩) (by assumption) ?_)
    (try simp only [Act.put, List.setIfInBounds_toArray, List.set_cons_zero, List.set_cons_succ, List.getElem_toArray, List.getElem_cons_zero, List.getElem_cons_succ])
    first
      | (refine wpAnyH_take (i := 2) rfl (by kernel_rfl) (by kernel_rfl) (by kernel_rfl) (fun _ _ _ h => h) (Or.inl ⟨by rfl, by intro wS hSw; have q0 := hSw.1; have q1 := hSw.2; (go_simp <;> with_reducible rfl)⟩) (by assumption) ?_)
      | (refine wpAnyH_take (i := 2) rfl (by kernel_rfl) (by kernel_rfl) (by kernel_rfl) (fun _ _ _ h => h) (Or.inr ⟨by rfl, rfl⟩) (by assumption) ?_)
    (try simp only [Act.put, List.setIfInBounds_toArray, List.set_cons_zero, List.set_cons_succ, List.getElem_toArray, List.getElem_cons_zero, List.getElem_cons_succ])
    first
      | (refine wpAnyH_take (i := 3) rfl (by kernel_rfl) (by kernel_rfl) (by kernel_rfl) (fun _ _ _ h => h) (Or.inl ⟨by rfl, by intro wS hSw; have q0 := hSw.1; have q1 := hSw.2; (go_simp <;> with_reducible rfl)⟩) (by assumption) ?_)
      | (refine wpAnyH_take (i := 3) rfl (by kernel_rfl) (by kernel_rfl) (by kernel_rfl) (fun _ _ _ h => h) (Or.inr ⟨by rfl, rfl⟩) (by assumption) ?_)
    (try simp only [Act.put, List.setIfInBounds_toArray, List.set_cons_zero, List.set_cons_succ, List.getElem_toArray, List.getElem_cons_zero, List.getElem_cons_succ])
    first
      | (refine wpAnyH_take (i := 4) rfl (by kernel_rfl) (by kernel_rfl) (by kernel_rfl) (fun _ _ _ h => h) (Or.inl ⟨by rfl, by intro wS hSw; have q0 := hSw.1; have q1 := hSw.2; (go_simp <;> with_reducible rfl)⟩) (by assumption) ?_)
      | (refine wpAnyH_take (i := 4) rfl (by kernel_rfl) (by kernel_rfl) (by kernel_rfl) (fun _ _ _ h => h) (Or.inr ⟨by rfl, rfl⟩) (by assumption) ?_)
    (try simp only [Act.put, List.setIfInBounds_toArray, List.set_cons_zero, List.set_cons_succ, List.getElem_toArray, List.getElem_cons_zero, List.getElem_cons_succ])
    first
      | (refine wpAnyH_take (i := 5) rfl (by kernel_rfl) (by kernel_rfl) (by kernel_rfl) (fun _ _ _ h => h) (Or.inl ⟨by rfl, by intro wS hSw; have q0 := hSw.1; have q1 := hSw.2; (go_simp <;> with_reducible rfl)⟩) (by assumption) ?_)
      | (refine wpAnyH_take (i := 5) rfl (by kernel_rfl) (by kernel_rfl) (by kernel_rfl) (fun _ _ _ h => h) (Or.inr ⟨by rfl, rfl⟩) (by assumption) ?_)
    (try simp only [Act.put, List.setIfInBounds_toArray, List.set_cons_zero, List.set_cons_succ, List.getElem_toArray, List.getElem_cons_zero, List.getElem_cons_succ])
    first
      | (refine wpAnyH_take (i := 6) rfl (by kernel_rfl) (by kernel_rfl) (by kernel_rfl) (fun _ _ _ h => h) (Or.inl ⟨by rfl, by intro wS hSw; have q0 := hSw.1; have q1 := hSw.2; (go_simp <;> with_reducible rfl)⟩) (by assumption) ?_)
      | (refine wpAnyH_take (i := 6) rfl (by kernel_rfl) (by kernel_rfl) (by kernel_rfl) (fun _ _ _ h => h) (Or.inr ⟨by rfl, rfl⟩) (by assumption) ?_)
    (try simp only [Act.put, List.setIfInBounds_toArray, List.set_cons_zero, List.set_cons_succ, List.getElem_toArray, List.getElem_cons_zero, List.getElem_cons_succ])
    first
      | (refine wpAnyH_take (i := 7) rfl (by kernel_rfl) (by kernel_rfl) (by kernel_rfl) (fun _ _ _ h => h) (Or.inl ⟨by rfl, by intro wS hSw; have q0 := hSw.1; have q1 := hSw.2; (go_simp <;> with_reducible rfl)⟩) (by assumption) ?_)
      | (refine wpAnyH_take (i := 7) rfl (by kernel_rfl) (by kernel_rfl) (by kernel_rfl) (fun _ _ _ h => h) (Or.inr ⟨by rfl, rfl⟩) (by assumption) ?_)
    (try simp only [Act.put, List.setIfInBounds_toArray, List.set_cons_zero, List.set_cons_succ, List.getElem_toArray, List.getElem_cons_zero, List.getElem_cons_succ])
    refine wpAnyH_ready (rs := [8]) (by kernel_rfl) (by simp) (AllReadyH.cons rfl (fun K hK => ?_) AllReadyH.nil)
    go_simp
    refine (HSM.out _ ((HARW.out.below ((Below.refl w6.heap.size w6).drew)).more (Nat.le_refl _)) ((HROW6.out.below ((Below.refl w6.heap.size w6).drew)).more (Nat.le_refl _)) (by have := HM.out; have := HX.out; omega)).mono ?_
    rintro e w7 ⟨rfl, hb7⟩
    (try go_wp2_with fail)
    have HB7 := Lib.hid ((Below.refl w6.heap.size w6).drew.trans hb7)
    clear hb7
    refine hK.out _ _ (⟨Boxed.cell ((HB7.out.block _ HD0.out.lt).trans HD0.out), Boxed.cell ((HB7.out.block _ HD1.out.lt).trans HD1.out)⟩) (fun hHeld => ?_)
    clear hK K
    (try simp only [Act.put, List.setIfInBounds_toArray, List.set_cons_zero, List.set_cons_succ, List.getElem_toArray, List.getElem_cons_zero, List.getElem_cons_succ])
    have br7 : Boxed w7 (w.heap.size + 1 + 1) 4 (.bool false) := (HB7.out.block _ HBR6.out.lt).trans HBR6.out
    have hD7 := (HB7.out.block w3.heap.size (Array.getElem?_eq_some_iff.1 HD6.out).1).trans HD6.out
    have z0 := br7.cell
    have z1 := br7.frozen
    have hDr : w3.heap.size ≠ w.heap.size + 1 + 1 := by omega
    have hB7 := HB6.out.trans (HB7.out.mono HB6.out.size)
    obtain ⟨w8, hw8⟩ : ∃ u, Hid (u = w7.setCell ⟨w.heap.size + 1 + 1, 0, none⟩ (.bool true)) := ⟨_, rfl⟩
    have hS8 : w8.cell? ⟨w1.heap.size, 0, none⟩ = some (.slice A' m c') ∧ w8.cell? ⟨w.heap.size + 1, 0, none⟩ = some (.int .u8 (stop : Int)) := by
      rw [hw8.out]
      refine ⟨Boxed.cell ((Below.heap_setCell _ _ _ _ (by simp; omega)).trans ((HB7.out.block _ HD0.out.lt).trans HD0.out)), Boxed.cell ((Below.heap_setCell _ _ _ _ (by simp)).trans ((HB7.out.block _ HD1.out.lt).trans HD1.out))⟩
    refine wpAnyH_ready (rs := [9]) (by kernel_rfl) (by simp) (AllReadyH.cons rfl (fun K hK => ?_) AllReadyH.nil)
    go_simp
    clear z0 z1
    have br8 : Boxed w8 (w.heap.size + 1 + 1) 4 (.bool true) := by rw [hw8.out]; exact br7.set (.bool true)
    have hD8 : w8.heap[w3.heap.size]? = some (.deferred (some [])) := by rw [hw8.out]; exact (Below.heap_setCell _ _ _ _ (by simpa using hDr)).trans hD7
    have hB8 : Below w.heap.size w w8 := by rw [hw8.out]; exact hB7.setCell (p := ⟨w.heap.size + 1 + 1, 0, none⟩) (by simp; omega) _
    rw [← hw8.out]
    refine hK.out _ _ hS8 (fun hHeld => ?_)
    clear hK K
    (try simp only [Act.put, List.setIfInBounds_toArray, List.set_cons_zero, List.set_cons_succ, List.getElem_toArray, List.getElem_cons_zero, List.getElem_cons_succ])
    refine wpAnyH_done (by kernel_rfl) ?_ _
    clear hHeld
    simp only [OnlyN]
    gi_wp2
    refine ⟨by simp, .inl ⟨_, _, rfl, run_takeDeferred hD8, ?_⟩⟩
    have br10 : Boxed (w8.putObj w3.heap.size (.deferred none)) (w.heap.size + 1 + 1) 4 (.bool true) := (World.putObj_heap_other hDr.symm).trans br8
    exact ⟨_, results_cell_bool rfl Try.underlying4 _ _ (w.heap.size + 1 + 1) true rfl br10.cell, rfl, hB8.trans (belowK_b (w := w) (Nat.le_refl _) _ w3.heap.size _ _ (by omega) hD8 rfl rfl)⟩
  case stop =>
    rintro cd told W hpx ⟨rfl, us, x, rfl, hul, hTI⟩ hKD
    obtain ⟨m, hm⟩ : ∃ m, m = min stop (ofN l p l.length).length := ⟨_, rfl⟩
    have HM := Lib.hid hm
    obtain ⟨r, hr⟩ := hpx
    rw [List.map_append, List.append_assoc] at hr
    have hlen := congrArg List.length hr
    simp at hlen
    have hL : us.length = m := by omega
    have ht : us.map Prod.fst = (ofN l p l.length).take m := by rw [← hL, ← hr, List.take_append_of_le_length (by simp), List.take_of_length_le (by simp)]
    clear hr hm hlen hul
    obtain ⟨v, bO, hown0, -⟩ := hTI.row
    have htl : ((ofN l p l.length).take m).length = m := by rw [List.length_take]; have := HM.out; omega
    have hown : OwnsOff W w1.heap.size 3 1 v ((ofN l p l.length).take m).length (icells ((ofN l p l.length).take m)) := by rw [htl, ← ht, ← hL]; exact hown0
    obtain ⟨A', c', rfl, -, -, -, hArow⟩ := nums_row hown
    rw [htl] at bO
    have hcL := hTI.bL.cell
    have HTI := Lib.hid hTI; have HKD := Lib.hid hKD; have HAR := Lib.hid hArow; have HBO := Lib.hid bO
    clear hown hown0 bO hArow hTI hKD ht hL
    gi_wp2_with fail
    refine ⟨trivial, (callsIn_wide.2 (rof_b A l c p W ((HR.out.below HTI.out.below).more HTI.out.below.size) hl60)).mono ?_⟩
    rintro e w6 ⟨v6, rfl, hown6, hb6⟩
    obtain ⟨A6, c6, rfl, h6c, h6m, h6n, h6row⟩ := nums_row hown6
    have HB6 := Lib.hid (HTI.out.below.trans (hb6.mono HTI.out.below.size))
    have HD0 : Hid (Boxed w6 w1.heap.size 37 (.slice A' m c')) := Lib.hid ((hb6.block _ HBO.out.lt).trans HBO.out)
    have HD1 : Hid (Boxed w6 (w.heap.size + 1) 5 (.int .u8 (stop : Int))) := Lib.hid ((hb6.block _ HTI.out.bS.lt).trans HTI.out.bS)
    have HBR6 : Hid (Boxed w6 (w.heap.size + 1 + 1) 4 (.bool false)) := Lib.hid ((hb6.block _ HTI.out.bR.lt).trans HTI.out.bR)
    have HD6 := Lib.hid ((hb6.block w3.heap.size (Array.getElem?_eq_some_iff.1 HKD.out).1).trans HKD.out)
    have HROW6 := Lib.hid (h6row.take m)
    have HARW := Lib.hid ((HAR.out.below hb6).more hb6.size)
    have hmin : ∀ (ts : Array TypeId) (t : TypeId) (w : World), (Builtin.min_ ts t #[.int .i64 (stop : Int), .int .i64 ((ofN l p l.length).length : Int)]).run Try.prog w = .ok (.int .i64 (m : Int)) w := fun ts t w => by
      rw [run_min_int2, show (if ((ofN l p l.length).length : Int) < (stop : Int) then ((ofN l p l.length).length : Int) else (stop : Int)) = (m : Int) by have := HM.out; split <;> omega]
    have hsl := fun w' => upto_row Try.underlying37 (show Try.prog.info? 3 = some _ from rfl) A6 (ofN l p l.length).length c6 m (by have := HM.out; omega) w'
    have hsm := same01_b ((ofN l p l.length).take m) A' A6 c' c6
    rw [htl] at hsm
    have HSM := Lib.hid hsm
    have hcv := IntWalk.i64_in (stop : Int) (by omega)
    clear hown6 hb6 h6row hcL htl hsm
    gi_wp2_with fail
    refine wpIn_wide.2 (onlyN_wp ?_)
    refine wp_region_held_drew (S := fun W' => W'.cell? ⟨w1.heap.size, 0, none⟩ = some (.slice A' m c') ∧ W'.cell? ⟨w.heap.size + 1, 0, none⟩ = some (.int .u8 (stop : Int))) (by kernel_rfl) (⟨HD0.out.cell, HD1.out.cell⟩) (fun hHeld => ?_)
    first
      | (refine wpAnyH_take (i := 0) rfl (by kernel_rfl) (by kernel_rfl) (by kernel_rfl) (fun _ _ _ h => h) (Or.inl ⟨by rfl, by intro wS hSw; have q0 := hSw.1; have q1 := hSw.2; (go_simp <;> with_reducible rfl)⟩) (by assumption) ?_)
      | (refine wpAnyH_take (i := 0) rfl (by kernel_rfl) (by kernel_rfl) (by kernel_rfl) (fun _ _ _ h => h) (Or.inr ⟨by rfl, rfl⟩) (by assumption) ?_)
    (try simp only [Act.put, List.setIfInBounds_toArray, List.set_cons_zero, List.set_cons_succ, List.getElem_toArray, List.getElem_cons_zero, List.getElem_cons_succ])
    first
      | (refine wpAnyH_take (i := 1) rfl (by kernel_rfl) (by kernel_rfl) (by kernel_rfl) (fun _ _ _ h => h) (Or.inl ⟨by rfl, by intro wS hSw; have q0 := hSw.1; have q1 := hSw.2; (go_simp <;> with_reducible rfl)⟩) (by assumption) ?_)
      | (refine wpAnyH_take (i := 1) rfl (by kernel_rfl) (by kernel_rfl) (by kernel_rfl) (fun _ _ _ h => h) (Or.inr ⟨by rfl, rfl⟩) (by assumption) ?_)
    (try simp only [Act.put, List.setIfInBounds_toArray, List.set_cons_zero, List.set_cons_succ, List.getElem_toArray, List.getElem_cons_zero, List.getElem_cons_succ])
    first
      | (refine wpAnyH_take (i := 2) rfl (by kernel_rfl) (by kernel_rfl) (by kernel_rfl) (fun _ _ _ h => h) (Or.inl ⟨by rfl, by intro wS hSw; have q0 := hSw.1; have q1 := hSw.2; (go_simp <;> with_reducible rfl)⟩) (by assumption) ?_)
      | (refine wpAnyH_take (i := 2) rfl (by kernel_rfl) (by kernel_rfl) (by kernel_rfl) (fun _ _ _ h => h) (Or.inr ⟨by rfl, rfl⟩) (by assumption) ?_)
    (try simp only [Act.put, List.setIfInBounds_toArray, List.set_cons_zero, List.set_cons_succ, List.getElem_toArray, List.getElem_cons_zero, List.getElem_cons_succ])
    first
      | (refine wpAnyH_take (i := 3) rfl (by kernel_rfl) (by kernel_rfl) (by kernel_rfl) (fun _ _ _ h => h) (Or.inl ⟨by rfl, by intro wS hSw; have q0 := hSw.1; have q1 := hSw.2; (go_simp <;> with_reducible rfl)⟩) (by assumption) ?_)
      | (refine wpAnyH_take (i := 3) rfl (by kernel_rfl) (by kernel_rfl) (by kernel_rfl) (fun _ _ _ h => h) (Or.inr ⟨by rfl, rfl⟩) (by assumption) ?_)
    (try simp only [Act.put, List.setIfInBounds_toArray, List.set_cons_zero, List.set_cons_succ, List.getElem_toArray, List.getElem_cons_zero, List.getElem_cons_succ])
    first
      | (refine wpAnyH_take (i := 4) rfl (by kernel_rfl) (by kernel_rfl) (by kernel_rfl) (fun _ _ _ h => h) (Or.inl ⟨by rfl, by intro wS hSw; have q0 := hSw.1; have q1 := hSw.2; (go_simp <;> with_reducible rfl)⟩) (by assumption) ?_)
      | (refine wpAnyH_take (i := 4) rfl (by kernel_rfl) (by kernel_rfl) (by kernel_rfl) (fun _ _ _ h => h) (Or.inr ⟨by rfl, rfl⟩) (by assumption) ?_)
    (try simp only [Act.put, List.setIfInBounds_toArray, List.set_cons_zero, List.set_cons_succ, List.getElem_toArray, List.getElem_cons_zero, List.getElem_cons_succ])
    first
      | (refine wpAnyH_take (i := 5) rfl (by kernel_rfl) (by kernel_rfl) (by kernel_rfl) (fun _ _ _ h => h) (Or.inl ⟨by rfl, by intro wS hSw; have q0 := hSw.1; have q1 := hSw.2; (go_simp <;> with_reducible rfl)⟩) (by assumption) ?_)
      | (refine wpAnyH_take (i := 5) rfl (by kernel_rfl) (by kernel_rfl) (by kernel_rfl) (fun _ _ _ h => h) (Or.inr ⟨by rfl, rfl⟩) (by assumption) ?_)
    (try simp only [Act.put, List.setIfInBounds_toArray, List.set_cons_zero, List.set_cons_succ, List.getElem_toArray, List.getElem_cons_zero, List.getElem_cons_succ])
    first
      | (refine wpAnyH_take (i := 6) rfl (by kernel_rfl) (by kernel_rfl) (by kernel_rfl) (fun _ _ _ h => h) (Or.inl ⟨by rfl, by intro wS hSw; have q0 := hSw.1; have q1 := hSw.2; (go_simp <;> with_reducible rfl)⟩) (by assumption) ?_)
      | (refine wpAnyH_take (i := 6) rfl (by kernel_rfl) (by kernel_rfl) (by kernel_rfl) (fun _ _ _ h => h) (Or.inr ⟨by rfl, rfl⟩) (by assumption) ?_)
    (try simp only [Act.put, List.setIfInBounds_toArray, List.set_cons_zero, List.set_cons_succ, List.getElem_toArray, List.getElem_cons_zero, List.getElem_cons_succ])
    first
      | (refine wpAnyH_take (i := 7) rfl (by kernel_rfl) (by kernel_rfl) (by kernel_rfl) (fun _ _ _ h => h) (Or.inl ⟨by rfl, by intro wS hSw; have q0 := hSw.1; have q1 := hSw.2; (go_simp <;> with_reducible rfl)⟩) (by assumption) ?_)
      | (refine wpAnyH_take (i := 7) rfl (by kernel_rfl) (by kernel_rfl) (by kernel_rfl) (fun _ _ _ h => h) (Or.inr ⟨by rfl, rfl⟩) (by assumption) ?_)
    (try simp only [Act.put, List.setIfInBounds_toArray, List.set_cons_zero, List.set_cons_succ, List.getElem_toArray, List.getElem_cons_zero, List.getElem_cons_succ])
    refine wpAnyH_ready (rs := [8]) (by kernel_rfl) (by simp) (AllReadyH.cons rfl (fun K hK => ?_) AllReadyH.nil)
    go_simp
    refine (HSM.out _ ((HARW.out.below ((Below.refl w6.heap.size w6).drew)).more (Nat.le_refl _)) ((HROW6.out.below ((Below.refl w6.heap.size w6).drew)).more (Nat.le_refl _)) (by have := HM.out; have := HX.out; omega)).mono ?_
    rintro e w7 ⟨rfl, hb7⟩
    (try go_wp2_with fail)
    have HB7 := Lib.hid ((Below.refl w6.heap.size w6).drew.trans hb7)
    clear hb7
    refine hK.out _ _ (⟨Boxed.cell ((HB7.out.block _ HD0.out.lt).trans HD0.out), Boxed.cell ((HB7.out.block _ HD1.out.lt).trans HD1.out)⟩) (fun hHeld => ?_)
    clear hK K
    (try simp only [Act.put, List.setIfInBounds_toArray, List.set_cons_zero, List.set_cons_succ, List.getElem_toArray, List.getElem_cons_zero, List.getElem_cons_succ])
    have br7 : Boxed w7 (w.heap.size + 1 + 1) 4 (.bool false) := (HB7.out.block _ HBR6.out.lt).trans HBR6.out
    have hD7 := (HB7.out.block w3.heap.size (Array.getElem?_eq_some_iff.1 HD6.out).1).trans HD6.out
    have z0 := br7.cell
    have z1 := br7.frozen
    have hDr : w3.heap.size ≠ w.heap.size + 1 + 1 := by omega
    have hB7 := HB6.out.trans (HB7.out.mono HB6.out.size)
    obtain ⟨w8, hw8⟩ : ∃ u, Hid (u = w7.setCell ⟨w.heap.size + 1 + 1, 0, none⟩ (.bool true)) := ⟨_, rfl⟩
    have hS8 : w8.cell? ⟨w1.heap.size, 0, none⟩ = some (.slice A' m c') ∧ w8.cell? ⟨w.heap.size + 1, 0, none⟩ = some (.int .u8 (stop : Int)) := by
      rw [hw8.out]
      refine ⟨Boxed.cell ((Below.heap_setCell _ _ _ _ (by simp; omega)).trans ((HB7.out.block _ HD0.out.lt).trans HD0.out)), Boxed.cell ((Below.heap_setCell _ _ _ _ (by simp)).trans ((HB7.out.block _ HD1.out.lt).trans HD1.out))⟩
    refine wpAnyH_ready (rs := [9]) (by kernel_rfl) (by simp) (AllReadyH.cons rfl (fun K hK => ?_) AllReadyH.nil)
    go_simp
    clear z0 z1
    have br8 : Boxed w8 (w.heap.size + 1 + 1) 4 (.bool true) := by rw [hw8.out]; exact br7.set (.bool true)
    have hD8 : w8.heap[w3.heap.size]? = some (.deferred (some [])) := by rw [hw8.out]; exact (Below.heap_setCell _ _ _ _ (by simpa using hDr)).trans hD7
    have hB8 : Below w.heap.size w w8 := by rw [hw8.out]; exact hB7.setCell (p := ⟨w.heap.size + 1 + 1, 0, none⟩) (by simp; omega) _
    rw [← hw8.out]
    refine hK.out _ _ hS8 (fun hHeld => ?_)
    clear hK K
    (try simp only [Act.put, List.setIfInBounds_toArray, List.set_cons_zero, List.set_cons_succ, List.getElem_toArray, List.getElem_cons_zero, List.getElem_cons_succ])
    refine wpAnyH_done (by kernel_rfl) ?_ _
    clear hHeld
    simp only [OnlyN]
    gi_wp2
    refine ⟨by simp, .inl ⟨_, _, rfl, run_takeDeferred hD8, ?_⟩⟩
    have br10 : Boxed (w8.putObj w3.heap.size (.deferred none)) (w.heap.size + 1 + 1) 4 (.bool true) := (World.putObj_heap_other hDr.symm).trans br8
    exact ⟨_, results_cell_bool rfl Try.underlying4 _ _ (w.heap.size + 1 + 1) true rfl br10.cell, rfl, hB8.trans (belowK_b (w := w) (Nat.le_refl _) _ w3.heap.size _ _ (by omega) hD8 rfl rfl)⟩
theorem lof_b (A : Option Addr) (l : List CV) (c : Nat) (p stop : Int) (w : World) (hr : CRow w w.heap.size A l) (hlc : l.length ≤ c) (hst : 0 ≤ stop ∧ stop ≤ 255) (hz : ∀ (i : Nat) (v : CV), l[i]? = some v → CSz 140737488351232 v) : Calls Try.prog 4 #[.slice A l.length c, .int .i64 p, .int .u8 stop] w fun e w' => e = .returned (.bool true) ∧ Below w.heap.size w w' := by
  obtain ⟨s, rfl⟩ := Int.eq_ofNat_of_zero_le hst.1
  exact callsIn_wide.1 (lof_in A l c p s w hr hlc (by omega) hz)
end Go.Proofs.Ytjhfkpimejaboaa
