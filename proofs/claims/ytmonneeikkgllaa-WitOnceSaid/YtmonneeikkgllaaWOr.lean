/- wit.Order, as a contract: the items in their order. No condition but those in the statements. -/
import Derived.Test.YtmonneeikkgllaaWIt
import Derived.BigQuiet
import Derived.IntWalk
import Derived.BigRegion
import Derived.OpenShut
import Derived.Deep.MidRow
import Derived.Lib.Hide
import Derived.Deep.Slices
import Derived.Lib.SmallJoins
import Derived.RangeFuncBox
import Derived.RangeFuncNested
import Derived.RangeFuncBound
import Derived.RangeFuncCalls
import Derived.RangeFuncLeaves
import Derived.Shelf.Abstract
import Derived.Shelf.RegionOpen
import Derived.OwnWalkIn
import Derived.TacticsInMore
import Derived.LoopNIn
import Derived.LoopIn
namespace Go.Proofs.Ytmonneeikkgllaa
open Go.Shelf WtP Go.RowKit Go.Sort Go.Deep Go.ChangeShapes Go.WideShapes Go.Joins
attribute [local go_sem] Oper.semAt_some
set_option linter.unusedVariables false
set_option linter.unusedSimpArgs false


theorem Try.infoI19 : (Try.prog.info? 37).map (fun i => (i.zero, i.size, i.bytes)) = some (some (.agg #[.int .i64 0, .int .i64 0]), 2, 16) := by kernel_rfl
def ic (x : T4) : List Value := [.int .i64 x.kind, .int .i64 x.idx]
def ics (l : List T4) : List Value := (l.map ic).flatten
theorem ics_app (a b : List T4) : ics (a ++ b) = ics a ++ ics b := by simp [ics]
theorem ics_one (x : T4) : ics [x] = ic x := by simp [ics]
theorem ic_ones (x : T4) : ∀ u ∈ ic x, u.oneCell' = true := fun u hu => by
  simp [ic] at hu; rcases hu with rfl | rfl <;> rfl
theorem ics_at : ∀ {l : List T4} {k : Nat} {x : T4}, l[k]? = some x → ∀ j, j < 2 → (ics l)[k * 2 + j]? = (ic x)[j]?
  | [], k, x, h, _, _ => by simp at h
  | y :: l, 0, x, h, j, hj => by
    simp at h; subst h
    rw [show ics (y :: l) = ic y ++ ics l from rfl, Nat.zero_mul, Nat.zero_add, List.getElem?_append_left (by simp [ic]; omega)]
  | y :: l, k + 1, x, h, j, hj => by
    have ih := ics_at (l := l) (k := k) (x := x) (by simpa using h) j hj
    rw [show ics (y :: l) = ic y ++ ics l from rfl, List.getElem?_append_right (by simp [ic]; omega), show (ic y).length = 2 from rfl, show (k + 1) * 2 + j - 2 = k * 2 + j by omega]
    exact ih
/-- A slice's row of items without their moments, at a block below number B. -/
def IRow (w : World) (B : Nat) (A : Option Addr) (l : List T4) : Prop :=
  0 < l.length → ∃ b o, A = some ⟨b, o, none⟩ ∧ b < B ∧ ∀ (i : Nat) (x : T4), l[i]? = some x → w.cell? ⟨b, o + i * 2, none⟩ = some (.int .i64 x.kind) ∧ w.cell? ⟨b, o + i * 2 + 1, none⟩ = some (.int .i64 x.idx)
theorem IRow.below {w w' : World} {B : Nat} {A : Option Addr} {l : List T4} (h : IRow w B A l) (hb : Below B w w') : IRow w' B A l := fun hn => by
  obtain ⟨b, o, hA, hlt, hc⟩ := h hn
  exact ⟨b, o, hA, hlt, fun i x hx => ⟨(hb.cell (p := ⟨b, o + i * 2, none⟩) hlt).trans (hc i x hx).1, (hb.cell (p := ⟨b, o + i * 2 + 1, none⟩) hlt).trans (hc i x hx).2⟩⟩
theorem IRow.more {w : World} {B B' : Nat} {A : Option Addr} {l : List T4} (h : IRow w B A l) (hb : B ≤ B') : IRow w B' A l := fun hn => by
  obtain ⟨b, o, hA, hlt, hc⟩ := h hn
  exact ⟨b, o, hA, by omega, hc⟩
theorem IRow.later {w w' : World} {A : Option Addr} {l : List T4} (h : IRow w w.heap.size A l) (hb : Below w.heap.size w w') : IRow w' w'.heap.size A l := (h.below hb).more hb.size
theorem own_irow {w : World} {B n : Nat} {v : Value} {l : List T4} (h : OwnsOff w B 37 2 v n (ics l)) (hn : n = l.length) : ∃ A c, v = .slice A n c ∧ n ≤ c ∧ c ≤ maxLen ∧ IRow w w.heap.size A l := by
  obtain ⟨A, c, rfl, h1, h2⟩ := h.slice
  refine ⟨A, c, rfl, h1, h2, fun hp => ?_⟩
  obtain ⟨g, off, cap, hv, _, hg, _, _, _, hc⟩ := h.lies (by omega)
  injection hv with hv1 hv2 hv3
  refine ⟨g, off, hv1, hg, fun i x hx => ⟨?_, ?_⟩⟩
  · have := hc (i * 2 + 0) _ (by rw [ics_at hx 0 (by omega)]; rfl)
    exact this
  · have := hc (i * 2 + 1) _ (by rw [ics_at hx 1 (by omega)]; rfl)
    rw [Nat.add_assoc]; exact this
theorem offOwn_put {W : World} {base : Nat} {e : TypeId} {size k : Nat} {v : Value} {xs : List Value} (h : OwnsOff W base e size v k xs) {l : Nat} {o : Obj} (o' : Obj) (hl : W.heap[l]? = some o) (ho : o.isCells = false) : OwnsOff (W.putObj l o') base e size v k xs :=
  h.kept (Only.of_grown (grownBy_putObj' W l o')) (fun g hg e' => by
    obtain ⟨cs, hc⟩ := h.typed g hg
    cases e'
    rw [hc] at hl; cases hl; cases ho)
theorem keepsB_store {bs : List Nat} {W w1 : World} {bo n1 : Nat} {v v' : Value} {tmp : Obj} (hg : (W.alloc tmp).grownBy w1 v.ownBlock) (hv : ∀ g, v.ownBlock = some g → n1 ≤ g) (h1 : ∀ k ∈ bs, k < n1 ∧ k ≠ bo) (hn : n1 ≤ W.heap.size) : KeepsB bs W (w1.setCell ⟨bo, 0, none⟩ v') := by
  refine ⟨?_, fun k hk => ?_⟩
  · have := hg.size; simp at this; simp [World.setCell]; omega
  · obtain ⟨h2, h3⟩ := h1 k hk
    rw [show (w1.setCell ⟨bo, 0, none⟩ v').heap[k]? = w1.heap[k]? from Below.heap_setCell _ _ _ _ h3]
    rw [hg.block k (by simp; omega) (fun e => by have := hv k e.symm; omega)]
    exact Below.heap_alloc _ _ _ (by omega)
/-- A call that hands back the items, in a new row, and turns nothing that was there. -/
def GivesI (w : World) (xs : List T4) (e : Ending) (w' : World) : Prop := ∃ v, e = .returned v ∧ OwnsOff w' w.heap.size 37 2 v xs.length (ics xs) ∧ Below w.heap.size w w'
/-- Between two rounds: what has been gathered, in the box of 'l'; its row lies in a block from n1 on. -/
def TI9 (w : World) (n1 : Nat) (pre : List T4) (W : World) : Prop :=
  (∃ v, Boxed W w.heap.size 27 v ∧ OwnsOff W w.heap.size 37 2 v pre.length (ics pre) ∧ ∀ g, v.ownBlock = some g → n1 ≤ g) ∧ n1 ≤ W.heap.size ∧ Below w.heap.size w W
theorem TI9.turn {w : World} {n₀ n1 : Nat} (hn : w.heap.size ≤ n₀) : OwnFrom n₀ (TI9 w n1) := by
  rintro s W W' row ⟨⟨v, h3, h4, h6⟩, h7, h5⟩ hg hr
  have keep : ∀ (k : Nat) (o : Obj), W.heap[k]? = some o → o.isCells = true → W'.heap[k]? = some o := fun k o hk ho =>
    (hg.block k (Array.getElem?_eq_some_iff.1 hk).1 (fun e => by obtain ⟨_, o', ho', hc⟩ := hr k e.symm; rw [hk] at ho'; cases ho'; rw [ho] at hc; cases hc)).trans hk
  refine ⟨⟨v, keep _ _ h3 rfl, h4.kept (Only.of_grown hg) (fun g hg' e => ?_), h6⟩, Nat.le_trans h7 hg.size, h5.grown hg h5.size (fun k e => by have := (hr k e).1; omega)⟩
  obtain ⟨cs, hc⟩ := h4.typed g hg'
  obtain ⟨_, o', ho', hcc⟩ := hr g e.symm
  rw [hc] at ho'; cases ho'; cases hcc
set_option maxRecDepth 100000 in
set_option maxHeartbeats 4000000 in
theorem order19_in (n : Nat) (hn : 3 ≤ n) (l : List CV) (A : Option Addr) (c : Nat) (b : List BV) (B : Option Addr) (d : Nat) (w : World) (hr : CRow w w.heap.size A l) (hrb : BRow w w.heap.size B b) (hl : l.length ≤ 60) (hlb : b.length ≤ 60) : CallsIn Fence.wide n Try.prog 9 #[.slice A l.length c, .slice B b.length d] w (GivesI w (witS l b)) := by
  have h1 : 1 ≤ n := by omega
  obtain ⟨z0, hz0, hz1, hz2, hz3⟩ := info_parts Try.infoI19
  have HSL := Lib.hid (witS_len l b hl hlb)
  have HCA := Lib.hid (fun (u : World) (h : Below w.heap.size w u) => all19_b l A c b B d u (hr.later h) (hrb.later h) hl hlb)
  obtain ⟨L, hL⟩ : ∃ L, witS l b = L := ⟨_, rfl⟩
  rw [hL] at HSL HCA ⊢
  clear hL hr hrb
  obtain ⟨W0, hW0⟩ : ∃ u, Hid (u = w.alloc (.cells #[.slice none 0 0] 27)) := ⟨_, rfl⟩
  have HB0 : Hid (Below w.heap.size w W0) := Lib.hid (by rw [hW0.out]; exact (Below.refl _ w).alloc (Nat.le_refl _) _)
  have HS0 : Hid (W0.heap.size = w.heap.size + 1) := Lib.hid (by rw [hW0.out]; simp)
  have HO : Hid (Boxed W0 w.heap.size 27 (.slice none 0 0)) := Lib.hid (by rw [hW0.out]; exact Boxed.new w 27 _)
  refine callsIn_of_wp_marks Try.func9 rfl trivial ?_ rfl
  simp only [Try.ntmps9, List.size_toArray, List.length_cons, List.length_nil, Nat.reduceAdd, Nat.reduceSub, Array.replicate_succ, Array.replicate_zero, List.push_toArray, List.append_toArray, List.nil_append, List.cons_append]
  gi_wp2_with (rw [← hW0.out])
  refine ⟨trivial, (callsIn_wide.2 (HCA.out _ HB0.out)).mono ?_⟩
  rintro e w1 ⟨p, A5, c5, rfl, hp, hF, htr, hb1, ha5⟩
  have hpl := (Array.getElem?_eq_some_iff.1 hF).1
  have hbs : ∀ k ∈ [p, blkOf A5 p], k < w1.heap.size ∧ k ≠ w.heap.size := by
    have hs0 := HS0.out
    intro k hk
    simp at hk
    rcases hk with rfl | rfl
    · exact ⟨hpl, by omega⟩
    · cases A5 with
      | none => exact ⟨hpl, by show p ≠ _; omega⟩
      | some a => have := ha5 a rfl; exact ⟨this.2, by show a.block ≠ _; omega⟩
  have HBS := Lib.hid hbs
  have hn0 : w.heap.size + 1 ≤ w1.heap.size := by have := HS0.out; have := hb1.size; omega
  have hBw : Below w.heap.size w w1 := HB0.out.trans (hb1.mono HB0.out.size)
  have bO : Boxed w1 w.heap.size 27 (.slice none 0 0) := (hb1.block w.heap.size (by have := HS0.out; omega)).trans HO.out
  have hI0 : TI9 w w1.heap.size [] w1 := ⟨⟨_, bO, OwnsOff.nil _ _ _ _, fun g hg => by cases hg⟩, Nat.le_refl _, hBw⟩
  clear bO hBw hb1 hbs hp hpl ha5
  gi_wp2
  refine wpIn_rangeFunc_ownH rfl h1 (gf := 25) (lb := #[.pointer (some ⟨p, 0, none⟩)]) rfl trivial (enters_of Try.func25 (by kernel_rfl) rfl)
    (iter19_stops (n - 1) (by omega) p A5 c5 L (by have := HSL.out; omega) w1 hF htr) (fun h k => h.trans k) (fun W lp o o' hle _ _ _ => keepsB_put o' (fun k hk => by have := HBS.out k hk; omega)) (Below.refl _ _) (fun _ => rfl)
    (TI9 w w1.heap.size) (fun _ _ _ => False) (TI9.turn (by omega)) (fun _ _ _ _ _ h _ _ => h) hI0
    (fun x a' W => ∃ Bx, w1.heap.size ≤ Bx ∧ W.heap[Bx]? = some (.cells #[.int .i64 x.kind, .int .i64 x.idx] 37 (0, 0)) ∧ a' = { tmps := #[.slice A l.length c, .slice B b.length d, undef, undef, .slice none 0 0, .pointer (some ⟨w.heap.size, 0, none⟩), undef, .pointer (some ⟨Bx, 0, none⟩), .slice A l.length c, .slice B b.length d, .func (.func 25) #[] #[.pointer (some ⟨p, 0, none⟩)], .int .i64 x.mom, .agg #[.int .i64 x.kind, .int .i64 x.idx], undef, undef, undef, undef, undef], defers := [] }) ?hAx ?assign ?body ?done ?stop
  case hAx =>
    rintro x a' s W W' row ⟨Bx, e1, e2, e3⟩ hg hr
    exact ⟨Bx, e1, (hg.block Bx (Array.getElem?_eq_some_iff.1 e2).1 (fun e => by obtain ⟨_, o', ho', hc⟩ := hr Bx e.symm; rw [e2] at ho'; cases ho'; cases hc)).trans e2, e3⟩
  case assign =>
    rintro lo pre x W K ⟨⟨v, bO, hown, hv⟩, hnW, hB⟩ hK
    gi_wp2
    refine hK _ _ ((KeepsOthers.alloc _ _).from _) (keepsB_below ((Below.refl _ _).alloc (Nat.le_refl _) _) (fun k hk => by have := HBS.out k hk; omega)) ⟨⟨v, bO.alloc _, hown.keptB ((Below.refl _ _).alloc (Nat.le_refl _) _), hv⟩, by simp; omega, hB.alloc hB.size _⟩ ⟨W.heap.size, hnW, heap_alloc_new _ _, rfl⟩
  case body =>
    rintro lp pre x a' W hlo ⟨rr, hrr⟩ ⟨⟨v, bO, hown, hvn⟩, hnW, hB⟩ ⟨Bx, hBx, bX, rfl⟩ hlt2
    obtain ⟨A', c', rfl, hle, hmx⟩ := hown.slice
    have hcO := bO.cell
    have hfO := bO.frozen
    have x0 := cell_at19 bX (i := 0) rfl
    have x1 := cell_at19 bX (i := 1) rfl
    have HV := Lib.hid hvn
    have hps : pre.length ≤ 180 := by have := HSL.out; omega
    have HPS := Lib.hid hps
    clear hvn hps
    gi_wp2_with (gi_at_builtin; refine wpListIn_append_off _ rfl _ _ 27 rfl (w.heap.size) 37 z0 (.agg #[.int .i64 0, .int .i64 0]) 2 16 Try.underlying27 hz0 hz1 hz2 hz3 rfl (by decide) _ _ _ rfl (hown.keptB ((Below.refl _ _).alloc (Nat.le_refl _) _)) ⟨W.heap.size, 0, none⟩ 1 1 (ic x) rfl rfl (news_blk (heap_alloc_new W _)) (ic_ones _) (by have := HPS.out; unfold maxLen; omega) (by have := HPS.out; omega) ?c5 ?_)
    case c5 => have := hB.size; have := bO.lt; simp; omega
    · intro v' w2 hown' hgrow hfr
      have hkt : KeepsB [p, blkOf A5 p] W (w2.setCell ⟨w.heap.size, 0, none⟩ v') := keepsB_store (n1 := w1.heap.size) hgrow HV.out (fun k hk => HBS.out k hk) hnW
      have hvn' : ∀ g, v'.ownBlock = some g → w1.heap.size ≤ g := fun g hg => by
        rcases hfr g hg with h | h
        · exact HV.out g h
        · first | omega | (simp at h; omega)
      obtain ⟨hv1, hv2, hr2, hk2, hb2⟩ := Boxed.appendedOff bO (by decide) hown (by have := bO.lt; omega) (Nat.le_refl _) hown' hgrow
      obtain ⟨a', c', rfl, _⟩ := hown'.slice
      have hc1 := hv1.cell
      have hf1 := hv1.frozen
      have hBB := hB.trans (hb2.mono (by omega))
      have hnW2 := Nat.le_trans hnW hkt.1
      have HV2 := Lib.hid hvn'
      clear hown' hgrow hcO hfO hv1 hb2 hfr hvn' x0 x1
      gi_wp2
      exact ⟨hk2.from _, hkt, ⟨_, hv2, by rw [ics_app, ics_one, List.length_append]; exact hr2, HV2.out⟩, hnW2, hBB⟩
  case done =>
    rintro D ys W hD hys ⟨⟨v, bO, hown, _⟩, _, hB⟩ hK
    obtain ⟨a', c', rfl, _⟩ := hown.slice
    have hc := bO.cell
    have HYS := Lib.hid (show ys = L from hys)
    clear hys
    gi_wp2
    refine ⟨by simp, .inl ⟨_, _, rfl, run_takeDeferred hK, ?_⟩⟩
    exact ⟨_, results_tmp rfl _ _ _, _, rfl, by rw [← HYS.out]; exact offOwn_put hown _ hK rfl, hB.trans (belowK_b (w := w) (Nat.le_refl _) W D _ _ (by omega) hK rfl rfl)⟩
  case stop =>
    rintro D cc ys W hD hpx hf hK
    exact hf.elim
theorem order19_b (l : List CV) (A : Option Addr) (c : Nat) (b : List BV) (B : Option Addr) (d : Nat) (w : World) (hr : CRow w w.heap.size A l) (hrb : BRow w w.heap.size B b) (hl : l.length ≤ 60) (hlb : b.length ≤ 60) : Calls Try.prog 9 #[.slice A l.length c, .slice B b.length d] w (GivesI w (witS l b)) := callsIn_wide.1 (order19_in 5 (by omega) l A c b B d w hr hrb hl hlb)
end Go.Proofs.Ytmonneeikkgllaa
