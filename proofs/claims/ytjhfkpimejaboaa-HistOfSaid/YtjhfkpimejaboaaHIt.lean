/- Of's iterator: what it tells. No condition but those in the statements. -/
import Derived.Test.YtjhfkpimejaboaaHOf
import Derived.Test.YtjhfkpimejaboaaTells
import Derived.BigQuiet
import Derived.IntWalk
import Derived.BigRegion
import Derived.OpenShut
import Derived.Deep.MidRow
import Derived.RangeFuncBox
import Derived.RangeFuncNested
import Derived.RangeFuncBound
import Derived.RangeFuncCalls
import Derived.RangeFuncLeaves
import Derived.Shelf.Abstract
import Derived.Shelf.RegionOpen
import Derived.OwnWalkIn
import Derived.TacticsInMore
import Derived.LoopNIn
import Derived.LoopIn
namespace Go.Proofs.Ytjhfkpimejaboaa
open Go.RowKit Go.Sort Go.Shelf Go.ChangeShapes Go.WideShapes
attribute [local go_sem] Oper.semAt_some
set_option linter.unusedVariables false
set_option linter.unusedSimpArgs false


section
variable {F : Fence} {n : Nat} {ops : Array Oper} {rest : List Oper} {o : Oper} {a : Act} {w : World} {Q : Exit → Act → World → Prop}
/-- A load of a whole call, in a fence. -/
theorem wpListIn_loadC (hgd : o.guard = none) (x : Operand) (ho : o.op = .load 34 x) (b k : Nat) (v : CV) (hx : a.eval x = .pointer (some ⟨b, k, none⟩)) (hc : CAt w b k v)
    (h : wpListIn F n Try.prog ops Q rest (a.put o.dst (.agg (cCells v).toArray)) w) : wpListIn F n Try.prog ops Q (o :: rest) a w := by
  refine wpListIn_plain hgd fun K hK' => ?_
  unfold Oper.wpIn
  refine ⟨?_, ?_⟩
  · simp [Oper.about, ho]
  · rw [Oper.semAt_plain F _ _ (by rw [ho]; intro c hc'; cases hc')]
    have hr := run_loadAt_mid (P := Try.prog) w b k 34 (cCells v) _ hc Try.underlying34 rfl (cCells_info v)
    unfold execOp
    simp only [ho, hx, Sem.run_bind, hr, Result.andThen, Sem.run_pure]
    exact hK' _ _ h
/-- A store of a whole call, in a fence. -/
theorem wpListIn_storeC (hgd : o.guard = none) (x y : Operand) (ho : o.op = .store 34 x y) (b : Nat) (v : CV) (hx : a.eval x = .pointer (some ⟨b, 0, none⟩)) (hy : a.eval y = .agg (cCells v).toArray) (ht : w.there b 0 (cCells v).toArray.size)
    (h : wpListIn F n Try.prog ops Q rest (a.put o.dst undef) (w.setCells b 0 (cCells v).toArray.toList)) : wpListIn F n Try.prog ops Q (o :: rest) a w := by
  refine wpListIn_plain hgd fun K hK' => ?_
  unfold Oper.wpIn
  refine ⟨?_, ?_⟩
  · simp [Oper.about, ho]
  · rw [Oper.semAt_plain F _ _ (by rw [ho]; intro c hc'; cases hc')]
    have hr := run_storeAt_mid (P := Try.prog) w b 0 34 (cCells v).toArray ht (cCells_infoA v) (cCells_one v)
    unfold execOp
    simp only [ho, hx, hy, Sem.run_bind, hr, Result.andThen, Sem.run_pure]
    exact hK' _ _ h
end
/-- The blocks from B0 to n1 stand as they stood. -/
def KeepsR (B0 n1 : Nat) (W W' : World) : Prop := W.heap.size ≤ W'.heap.size ∧ ∀ k, B0 ≤ k → k < n1 → W'.heap[k]? = W.heap[k]?
theorem KeepsR.refl (B0 n1 : Nat) (W : World) : KeepsR B0 n1 W W := ⟨Nat.le_refl _, fun _ _ _ => rfl⟩
theorem KeepsR.trans {B0 n1 : Nat} {A B C : World} (h : KeepsR B0 n1 A B) (k : KeepsR B0 n1 B C) : KeepsR B0 n1 A C := ⟨Nat.le_trans h.1 k.1, fun i h1 h2 => (k.2 i h1 h2).trans (h.2 i h1 h2)⟩
theorem keepsR_below {B0 n1 : Nat} {W W' : World} (hb : Below W.heap.size W W') (hn : n1 ≤ W.heap.size) : KeepsR B0 n1 W W' := ⟨hb.size, fun k _ h2 => hb.block k (by omega)⟩
theorem keepsR_put {B0 n1 : Nat} {W : World} {l : Nat} (o' : Obj) (h : n1 ≤ l) : KeepsR B0 n1 W (W.putObj l o') := ⟨by simp, fun k _ hk => World.putObj_heap_other (by omega)⟩
theorem grown_below {W W' : World} (hb : Below W.heap.size W W') : W.grownBy W' none := ⟨hb.os, hb.tape, hb.output, hb.size, fun k hk _ => hb.block k hk⟩
theorem abides_below {β : Type} {B : Nat} {J : β → World → Prop} (hJ : AbidesFrom B J) {s : β} {W W' : World} (h : J s W) (hb : Below W.heap.size W W') : J s W' :=
  hJ s W W' none h (grown_below hb) (fun r e => by cases e)
theorem LikeX.at_ {l : List CV} {z : Int} {u : CV} (h : LikeX l z u) (A1 : Option Addr) (c1 : Nat) (A2 : Option Addr) (c2 : Nat) : LikeX l z (u.at_ A1 c1 A2 c2) := by
  obtain ⟨j, v, B1, d1, B2, d2, h1, h2, rfl⟩ := h
  exact ⟨j, v, A1, c1, A2, c2, h1, h2, rfl⟩
theorem row_keep {K : IntKind} {w w' : World} {B0 : Nat} {A : Option Addr} {l : List Int} (h : IntRowK K w w.heap.size A l) (hk : ∀ k, B0 ≤ k → k < w.heap.size → w'.heap[k]? = w.heap[k]?) (hs : w.heap.size ≤ w'.heap.size) (hn : 0 < l.length → ∀ a, A = some a → B0 ≤ a.block) : IntRowK K w' w'.heap.size A l := fun hp => by
  obtain ⟨b, o, hA, hlt, hc⟩ := h hp
  have hb := hn hp _ hA
  refine ⟨b, o, hA, Nat.lt_of_lt_of_le hlt hs, fun i hi => ?_⟩
  rw [← hc i hi]
  simp [World.cell?, hk b hb hlt]
/-- What lies at place k of the two rows, in a world that has kept them. -/
theorem it_at {w wr : World} {B0 pb ob : Nat} {A1 A2 : Option Addr} {c1 c2 : Nat} {xs : List Int} {ys : List CV} (h : OfSt w (B0 + 2) pb ob (.slice A1 xs.length c1) (.slice A2 ys.length c2) (.slice A1 xs.length c1) (.slice A2 ys.length c2) xs ys) (hob : B0 ≤ ob)
    (hk : ∀ k, B0 ≤ k → k < w.heap.size → wr.heap[k]? = w.heap[k]?) (hs : w.heap.size ≤ wr.heap.size) {k : Nat} {z : Int} {u : CV} (hz : xs[k]? = some z) (hu : ys[k]? = some u) :
    ∃ g1 o1 g2 o2, A1 = some ⟨g1, o1, none⟩ ∧ A2 = some ⟨g2, o2, none⟩ ∧ wr.cell? ⟨ob, 0, none⟩ = some (.slice A2 ys.length c2) ∧ wr.cell? ⟨g1, o1 + k, none⟩ = some (.int .i64 z) ∧ CAt wr g2 (o2 + k * 20) u ∧ CRows wr wr.heap.size u := by
  have hk1 : k < xs.length := (List.getElem?_eq_some_iff.1 hz).1
  have hk2 : k < ys.length := (List.getElem?_eq_some_iff.1 hu).1
  have hlt := h.lt
  obtain ⟨g1, o1, d1, e1, p1, q1, -, -, -, r1⟩ := h.r1.lies (by omega)
  obtain ⟨g2, o2, d2, e2, p2, q2, -, -, -, r2⟩ := h.r2.lies (by omega)
  injection e1 with e1 _ _
  injection e2 with e2 _ _
  have hmem := List.mem_of_getElem? hu
  refine ⟨g1, o1, g2, o2, e1, e2, cell_blk17 ((hk ob hob (by omega)).trans h.o) rfl, ?_, fun j x hx => ?_, ⟨row_keep (h.rows u hmem).rr hk hs (fun hp a ha => by have := ((h.away u hmem).1 hp a ha).1; omega), (h.rows u hmem).rl, row_keep (h.rows u hmem).ar hk hs (fun hp a ha => by have := ((h.away u hmem).2 hp a ha).1; omega), (h.rows u hmem).al⟩⟩
  · have := r1 k (.int .i64 z) (by simp [icells, hz])
    rw [← this]
    simp [World.cell?, hk g1 (by omega) q1]
  · have hj : j < 20 := by have := (List.getElem?_eq_some_iff.1 hx).1; rw [cCells_len] at this; exact this
    have := r2 (k * 20 + j) x (by rw [ccells_at hu j hj]; exact hx)
    rw [Nat.add_assoc, ← this]
    simp [World.cell?, hk g2 (by omega) q2]
/-- What is told. -/
def encX (x : Int × CV) : Array Value := #[.int .i64 x.1, .agg (cCells x.2).toArray]
def ValX (l : List CV) (x : Int × CV) (U : World) : Prop := CRows U U.heap.size x.2 ∧ LikeX l x.1 x.2
set_option maxRecDepth 100000 in
set_option maxHeartbeats 8000000 in
theorem ofIter (n : Nat) (hn : 1 ≤ n) (l : List CV) (B0 pb ob : Nat) (A1 A2 : Option Addr) (c1 c2 : Nat) (xs : List Int) (ys : List CV) (w : World) (h : OfSt w (B0 + 2) pb ob (.slice A1 xs.length c1) (.slice A2 ys.length c2) (.slice A1 xs.length c1) (.slice A2 ys.length c2) xs ys) (hpb : B0 ≤ pb) (hob : B0 ≤ ob)
    (hlk : Likes l xs ys) (hsz : ∀ u ∈ ys, CSz 140737488351232 u) (hxl : xs.length ≤ 60) :
    Tells Fence.wide n Try.prog 25 #[.pointer (some ⟨pb, 0, none⟩), .pointer (some ⟨ob, 0, none⟩)] encX (ValX l) (KeepsR B0 w.heap.size) (fun us => us.map Prod.fst = xs) (fun us => us.map Prod.fst <+: xs) xs.length w := by
  intro lo J Jx W hW hJ hJx hY h0
  have hs0 : W.cell? ⟨pb, 0, none⟩ = some (.slice A1 xs.length c1) := cell_blk17 ((hW.block pb (by have := h.lt; omega)).trans h.p) rfl
  have H := Lib.hid h; have HLK := Lib.hid hlk; have HSZ := Lib.hid hsz; have HW := Lib.hid hW; have HJ := Lib.hid hJ; have HY := Lib.hid hY; have HPB := Lib.hid hpb; have HOB := Lib.hid hob
  clear h hlk hsz hW hY hpb hob
  refine callsIn_of_wp Try.func25 rfl trivial ?_ rfl
  simp only [Try.ntmps25, List.size_toArray, List.length_cons, List.length_nil, Nat.reduceAdd, Nat.reduceSub, Array.replicate_succ, Array.replicate_zero, List.push_toArray, List.append_toArray, List.nil_append, List.cons_append]
  gi_wp2
  gi_loopw [8] (fun ix wr => ∃ (k : Nat) (us : List (Int × CV)), k ≤ xs.length ∧ ix = .int .i64 k ∧ us.map Prod.fst = xs.take k ∧ J us wr ∧ KeepsR B0 w.heap.size W wr) (fun ix _ => xs.length - (intOf ix).toNat)
  case atStart => exact ⟨0, [], Nat.zero_le _, rfl, by simp, h0, KeepsR.refl _ _ _⟩
  case round =>
    clear hs0
    obtain ⟨k, us, hk, rfl, hus, hJk, hK⟩ := hrel
    by_cases hlt : k < xs.length
    · have hzk : xs[k]? = some xs[k] := List.getElem?_eq_getElem hlt
      have hyl : k < ys.length := by rw [← HLK.out.1]; exact hlt
      have huk : ys[k]? = some ys[k] := List.getElem?_eq_getElem hyl
      generalize hz : xs[k] = z at hzk
      generalize hu : ys[k] = u at huk
      clear hz hu
      have hkk : ∀ q, B0 ≤ q → q < w.heap.size → wr.heap[q]? = w.heap[q]? := fun q h1 h2 => (hK.2 q h1 h2).trans (HW.out.block q h2)
      obtain ⟨g1, o1, g2, o2, rfl, rfl, s1, s2, hc, hrw⟩ := it_at H.out HOB.out hkk (Nat.le_trans HW.out.size hK.1) hzk huk
      have HC := Lib.hid hc
      have HAN := Lib.hid (anew_b u wr hrw (HSZ.out u (List.mem_of_getElem? huk)))
      have HLX := Lib.hid (HLK.out.2 k z u hzk huk)
      have HUS := Lib.hid (show (us.map Prod.fst ++ [z]) = xs.take (k + 1) by rw [hus, List.take_add_one, hzk]; rfl)
      have HLEN := Lib.hid (show us.length < xs.length by have h1 := congrArg List.length hus; simp at h1; omega)
      have HK := Lib.hid hK; have HJK := Lib.hid hJk
      have hk2 : (k : Int) < (ys.length : Int) := by omega
      have hk1 : (k : Int) < (xs.length : Int) := by omega
      clear hc hrw hkk hK hJk hus hzk huk
      gi_wp2_with (with_reducible refine wpListIn_loadC rfl _ rfl _ _ _ (by with_unfolding_all rfl) HC.out ?_)
      refine ⟨trivial, (callsIn_wide.2 HAN.out).mono ?_⟩
      rintro e w5 ⟨B1, d1, B2, d2, rfl, hru, -, hb5⟩
      have hJ5 := abides_below HJ.out HJK.out hb5
      have HK5 := Lib.hid (HK.out.trans (keepsR_below hb5 (Nat.le_trans HW.out.size HK.out.1)))
      obtain ⟨fn, tmps, assign, body, hy, hR⟩ := HY.out us (z, u.at_ B1 d1 B2 d2) w5 ⟨hru, HLX.out.at_ _ _ _ _⟩ hJ5 HLEN.out
      simp only [encX] at hy
      clear hb5 hJ5 hru s1 s2
      gi_wp2
      refine hR.mono ?_
      rintro e W5 (⟨rfl, hJ6, hk6⟩ | ⟨rfl, hJx6⟩)
      · have HK6 := Lib.hid (HK5.out.trans hk6)
        have HJ6 := Lib.hid hJ6
        clear hR hy hk6 hJ6
        gi_wp2
        go_roundw
        case rel => exact ⟨k + 1, us ++ [(z, u.at_ B1 d1 B2 d2)], by omega, by go_num, by rw [List.map_append]; exact HUS.out, HJ6.out, HK6.out⟩
        case measure => simp [intOf]; omega
      · have HJX := Lib.hid hJx6
        clear hR hy hJx6
        gi_wp2
        refine bodyPost_ret (results_none rfl _ _ _) rfl ?_
        exact ⟨⟨_, rfl⟩, .inr ⟨us ++ [(z, u.at_ B1 d1 B2 d2)], by rw [List.map_append]; rw [show us.map Prod.fst ++ List.map Prod.fst [(z, u.at_ B1 d1 B2 d2)] = xs.take (k + 1) from HUS.out]; exact List.take_prefix _ _, HJX.out⟩⟩
    · have HUS := Lib.hid (show us.map Prod.fst = xs by rw [hus]; exact List.take_of_length_le (by omega))
      have HJK := Lib.hid hJk
      clear hus hJk hK
      gi_wp2
      go_end0
      exact ⟨⟨_, rfl⟩, .inl ⟨us, HUS.out, HJK.out⟩⟩
end Go.Proofs.Ytjhfkpimejaboaa
