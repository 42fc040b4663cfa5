/- The iterator of ticks as a contract: what it hands to a loop's rounds. No condition but those in the statements. -/
import Derived.Test.YtfnpdoppdbhlcaaTicks
import Derived.RangeFuncBox
import Derived.RangeFuncNested
import Derived.RangeFuncBound
import Derived.RangeFuncCalls
import Derived.RangeFuncLeaves
import Derived.Shelf.Abstract
import Derived.Shelf.RegionOpen
import Derived.OwnWalkIn
import Derived.TacticsInMore
import Derived.LoopNIn
import Derived.LoopIn
namespace Go.Proofs.Ytfnpdoppdbhlcaa
open Go.RowKit Go.Sort Go.Shelf
set_option linter.unusedVariables false
set_option linter.unusedSimpArgs false
set_option linter.unusedVariables false
attribute [local go_sem] Oper.semAt_some

/-- These blocks stand as they stood. -/
def KeepsB (bs : List Nat) (W W' : World) : Prop := W.heap.size ≤ W'.heap.size ∧ ∀ k ∈ bs, W'.heap[k]? = W.heap[k]?
theorem KeepsB.refl (bs : List Nat) (W : World) : KeepsB bs W W := ⟨Nat.le_refl _, fun _ _ => rfl⟩
theorem KeepsB.trans {bs : List Nat} {A B C : World} (h : KeepsB bs A B) (k : KeepsB bs B C) : KeepsB bs A C := ⟨Nat.le_trans h.1 k.1, fun i hi => (k.2 i hi).trans (h.2 i hi)⟩
theorem keepsB_put {bs : List Nat} {W : World} {l : Nat} (o' : Obj) (h : ∀ k ∈ bs, k ≠ l) : KeepsB bs W (W.putObj l o') := ⟨by simp, fun k hk => World.putObj_heap_other (h k hk)⟩
theorem cell_block {W : World} {b : Nat} {cs : Array Value} {t : TypeId} {m : Nat × Nat} {i : Nat} {v : Value} (h : W.heap[b]? = some (.cells cs t m)) (hv : cs[i]? = some v) : W.cell? ⟨b, i, none⟩ = some v := by
  simp [World.cell?, h, hv]
theorem keepsB_store {bs : List Nat} {W w1 : World} {bo n1 : Nat} {v v' : Value} {tmp : Obj} (hg : (W.alloc tmp).grownBy w1 v.ownBlock) (hv : ∀ g, v.ownBlock = some g → n1 ≤ g) (h1 : ∀ k ∈ bs, k < n1 ∧ k ≠ bo) (hn : n1 ≤ W.heap.size) : KeepsB bs W (w1.setCell ⟨bo, 0, none⟩ v') := by
  refine ⟨by have := hg.size; simp [World.setCell] at this ⊢; omega, fun k hk => ?_⟩
  obtain ⟨h2, h3⟩ := h1 k hk
  rw [Below.heap_setCell _ _ _ _ (by simpa using h3), hg.block k (by simp; omega) (fun e => by have := hv k e.symm; omega)]
  exact Below.heap_alloc W tmp k (by omega)
theorem keepsB_set {bs : List Nat} {W : World} {bo o : Nat} {v' : Value} (h1 : ∀ k ∈ bs, k ≠ bo) : KeepsB bs W (W.setCell ⟨bo, o, none⟩ v') := by
  refine ⟨by simp [World.setCell], fun k hk => Below.heap_setCell _ _ _ _ (by simpa using h1 k hk)⟩
theorem cell_kept {W W' : World} {b o : Nat} (h : W'.heap[b]? = W.heap[b]?) : W'.cell? ⟨b, o, none⟩ = W.cell? ⟨b, o, none⟩ := by simp [World.cell?, h]
/-- What has been found lies so: its box tb, its row's block rb. -/
structure FoundAt (w : World) (tb rb : Nat) (A : Option Addr) (cap : Nat) (xs : List Int) : Prop where
  box : w.heap[tb]? = some (.cells #[.slice A xs.length cap] 32 (0, 0))
  row : 0 < xs.length → ∃ o, A = some ⟨rb, o, none⟩ ∧ ∀ i, i < xs.length → w.cell? ⟨rb, o + i, none⟩ = some (.int .i64 (xs.getD i 0))
  lt : rb < w.heap.size
theorem FoundAt.of {w w' : World} {tb rb : Nat} {A : Option Addr} {cap : Nat} {xs : List Int} (h : FoundAt w tb rb A cap xs) (hs : w.heap.size ≤ w'.heap.size) (h1 : w'.heap[tb]? = w.heap[tb]?) (h2 : w'.heap[rb]? = w.heap[rb]?) : FoundAt w' tb rb A cap xs :=
  ⟨h1.trans h.box, fun hp => by
    obtain ⟨o, hA, hc⟩ := h.row hp
    exact ⟨o, hA, fun i hi => (cell_kept h2).trans (hc i hi)⟩, Nat.lt_of_lt_of_le h.lt hs⟩
theorem FoundAt.below {w w' : World} {tb rb : Nat} {A : Option Addr} {cap : Nat} {xs : List Int} (h : FoundAt w tb rb A cap xs) (hb : Below w.heap.size w w') : FoundAt w' tb rb A cap xs :=
  h.of hb.size (hb.block _ (Array.getElem?_eq_some_iff.1 h.box).1) (hb.block _ h.lt)

theorem GivesTicks.at_ {w w' : World} {xs : List Int} {len : Int} {e : Ending} (h : GivesTicks w xs len e w') : ∃ tb nb rb A cap, e = .returned (.func (.func 29) #[] #[.pointer (some ⟨tb, 0, none⟩), .pointer (some ⟨nb, 0, none⟩)]) ∧ w.heap.size ≤ tb ∧ w.heap.size ≤ nb ∧ w.heap.size ≤ rb ∧ FoundAt w' tb rb A cap xs ∧
    w'.heap[nb]? = some (.cells #[.int .i64 len] 3 (0, 0)) ∧ Below w.heap.size w w' := by
  obtain ⟨tb, nb, a, k, rfl, htb, hnb, hne, hx, hn, hown, hb⟩ := h
  by_cases hp : 0 < xs.length
  · obtain ⟨g, off, cap', hv, hg, hgl, _, _, _, hcell⟩ := hown.lies hp
    cases hv
    refine ⟨tb, nb, g, _, _, rfl, htb, hnb, hg, ⟨hx, fun _ => ⟨off, rfl, fun i hi => hcell i _ ?_⟩, hgl⟩, hn, hb⟩
    simp [icells, List.getD_eq_getElem?_getD, hi]
  · exact ⟨tb, nb, tb, a, k, rfl, htb, hnb, htb, ⟨hx, fun h => absurd h hp, (Array.getElem?_eq_some_iff.1 hx).1⟩, hn, hb⟩
/-- Of a frame that isn't right, of a tick that may not be asked for: none. -/
theorem iter_never (n : Nat) (w : World) : SeqStopsK Fence.wide n Try.prog 28 #[] (fun x : Int => #[.int .i64 x]) (KeepsB []) (fun ys => ys = []) (fun pre => pre <+: []) 0 w := by
  intro lp J Jx W hW hJ hJx hY h0
  refine callsIn_of_wp Try.func28 rfl trivial ?_ rfl
  simp only [Try.ntmps28, List.size_toArray, List.length_cons, List.length_nil, Nat.reduceAdd, Nat.reduceSub, Array.replicate_succ, Array.replicate_zero, List.push_toArray, List.append_toArray, List.nil_append, List.cons_append]
  gi_wp2
  go_end0
  first | exact ⟨⟨_, rfl⟩, .inl h0⟩ | exact ⟨⟨_, rfl⟩, .inl ⟨[], rfl, h0⟩⟩
/-- Of a partition that has no window: none. -/
theorem iter_empty (n tb nb rb : Nat) (A : Option Addr) (cap : Nat) (w : World) (hF : FoundAt w tb rb A cap []) : SeqStopsK Fence.wide n Try.prog 29 #[.pointer (some ⟨tb, 0, none⟩), .pointer (some ⟨nb, 0, none⟩)] (fun x : Int => #[.int .i64 x]) (KeepsB [tb, nb, rb]) (fun ys => ys = []) (fun pre => pre <+: []) 0 w := by
  intro lp J Jx W hW hJ hJx hY h0
  have hFW := hF.below hW
  have hs0 : W.cell? ⟨tb, 0, none⟩ = some (.slice A 0 cap) := cell_block hFW.box rfl
  have H0 := Lib.hid h0
  clear h0 hFW
  refine callsIn_of_wp Try.func29 rfl trivial ?_ rfl
  simp only [Try.ntmps29, List.size_toArray, List.length_cons, List.length_nil, Nat.reduceAdd, Nat.reduceSub, Array.replicate_succ, Array.replicate_zero, List.push_toArray, List.append_toArray, List.nil_append, List.cons_append]
  gi_wp2
  gi_loopw [4] (fun lv wr => lv = .int .i64 0 ∧ wr = W) (fun _ _ => 0)
  case atStart => exact ⟨rfl, rfl⟩
  case round =>
    obtain ⟨rfl, rfl⟩ := hrel
    gi_wp2
    go_end0
    exact ⟨⟨_, rfl⟩, .inl ⟨[], rfl, H0.out⟩⟩
set_option maxRecDepth 100000 in
set_option maxHeartbeats 4000000 in
theorem iter_ever (n : Nat) (hn : 1 ≤ n) (tb nb rb : Nat) (A : Option Addr) (cap : Nat) (xs : List Int) (m : Nat) (hm1 : 1 ≤ m) (hm : m ≤ 64) (hp : 0 < xs.length) (hl : xs.length ≤ 64) (hx : ∀ x ∈ xs, 0 ≤ x ∧ x ≤ 2199023255552) (N : Nat) (hN : N ≤ 100) (w : World)
    (hF : FoundAt w tb rb A cap xs) (hnb : w.heap[nb]? = some (.cells #[.int .i64 (m : Int)] 3 (0, 0))) :
    Ever Fence.wide n Try.prog 29 #[.pointer (some ⟨tb, 0, none⟩), .pointer (some ⟨nb, 0, none⟩)] (fun x : Int => #[.int .i64 x]) (KeepsB [tb, nb, rb]) (fun pre => ∃ k, pre = toldT xs m k) N w := by
  intro lp J Jx W hW hJ hJx hlenJ hY h0
  have hFW := hF.below hW
  have hnW := (hW.block _ (Array.getElem?_eq_some_iff.1 hnb).1).trans hnb
  have HX := Lib.hid hx
  have h00 : J (toldT xs m 0) W := h0
  clear h0 hx hF hnb
  refine callsIn_of_wp Try.func29 rfl trivial ?_ rfl
  simp only [Try.ntmps29, List.size_toArray, List.length_cons, List.length_nil, Nat.reduceAdd, Nat.reduceSub, Array.replicate_succ, Array.replicate_zero, List.push_toArray, List.append_toArray, List.nil_append, List.cons_append]
  gi_wp2
  gi_loopw [4] (fun lv wr => ∃ q : Nat, lv = .int .i64 ((q * m : Nat) : Int) ∧ J (toldT xs m (q * xs.length)) wr ∧ KeepsB [tb, nb, rb] W wr) (fun lv _ => (((N * m : Nat) : Int) + 1 - intOf lv).toNat)
  case atStart => exact ⟨0, by simp, by simpa using h00, KeepsB.refl _ _⟩
  case round =>
    obtain ⟨q, rfl, hJq, hK⟩ := hrel
    have hFr := hFW.of hK.1 (hK.2 tb (by simp)) (hK.2 rb (by simp))
    have hqN := hlenJ _ _ hJq
    rw [toldT_len] at hqN
    have hq1 : q ≤ q * xs.length := Nat.le_mul_of_pos_right q hp
    have hz1 := Nat.mul_le_mul (show q + 1 ≤ N by omega) (Nat.le_refl m)
    have hz2 := Nat.mul_le_mul hN hm
    rw [Nat.succ_mul] at hz1
    have HZ := Lib.hid (show (q + 1) * m = q * m + m from Nat.succ_mul q m)
    have HL := Lib.hid (show (q + 1) * xs.length = q * xs.length + xs.length from Nat.succ_mul q xs.length)
    have HS := Lib.hid (fun r (h : r < xs.length) => (toldT_succ xs m (q * xs.length + r)).trans (by rw [seqT_at h]))
    have HQ := Lib.hid (show ((q : Int) * (m : Int)) = ((q * m : Nat) : Int) from (Int.natCast_mul q m).symm)
    obtain ⟨z, hz⟩ : ∃ z, q * m = z := ⟨_, rfl⟩
    obtain ⟨Z, hZ⟩ : ∃ Z, N * m = Z := ⟨_, rfl⟩
    rw [hz] at hz1 HQ HZ ⊢
    rw [hZ] at hz1 hz2 ⊢
    have hs0 : wr.cell? ⟨tb, 0, none⟩ = some (.slice A xs.length cap) := cell_block hFr.box rfl
    have hgt : (0 : Int) < (xs.length : Int) := by omega
    have HJ := Lib.hid hJq; have HK := Lib.hid hK; have HqN := Lib.hid hqN
    clear hz hZ hJq hK hq1 hqN hFr
    obtain ⟨wo, rfl⟩ : ∃ wo, wo = wr := ⟨_, rfl⟩
    gi_wp2
    gi_loopw [15] (fun ix wv => ∃ r : Nat, r ≤ xs.length ∧ ix = .int .i64 r ∧ J (toldT xs m (q * xs.length + r)) wv ∧ KeepsB [tb, nb, rb] W wv ∧ wo = wo) (fun ix _ => xs.length - (intOf ix).toNat)
    case atStart => exact ⟨0, Nat.zero_le _, rfl, HJ.out, HK.out, by trivial⟩
    case round =>
      obtain ⟨r, hr, rfl, hJr, hKr, -⟩ := hrel
      by_cases hlt : r < xs.length
      · have hFv := hFW.of hKr.1 (hKr.2 tb (by simp)) (hKr.2 rb (by simp))
        obtain ⟨o, rfl, hca⟩ := hFv.row hp
        have hc := hca r hlt
        have hpx := HS.out r hlt
        have hxr := HX.out (xs.getD r 0) (by simp [List.getD_eq_getElem?_getD, hlt])
        rw [HQ.out] at hpx
        obtain ⟨y, hy⟩ : ∃ y, xs.getD r 0 = y := ⟨_, rfl⟩
        rw [hy] at hc hpx hxr
        obtain ⟨hy0, hy1⟩ := hxr
        obtain ⟨fn, tmps, assign, body, hyy, hR⟩ := hY _ (y + (z : Int)) wr hJr
        rw [← hpx] at hR
        have HKr := Lib.hid hKr
        clear hy hca hFv hpx hJr hKr hs0 hlenJ
        gi_wp2
        refine hR.mono ?_
        rintro e W5 (⟨rfl, hJ5, hk5⟩ | ⟨rfl, hJx5⟩)
        · have hK5 := HKr.out.trans hk5
          have HJ5 := Lib.hid hJ5; have HK5 := Lib.hid hK5
          clear hR hyy hc hk5 hJ5 hK5
          gi_wp2
          go_roundw
          case rel => exact ⟨r + 1, by omega, by go_num, HJ5.out, HK5.out, by trivial⟩
          case measure => simp [intOf]; omega
        · have HJX := Lib.hid hJx5
          clear hR hyy hc hJx5
          gi_wp2
          refine bodyPost_ret (results_none rfl _ _ _) rfl ?_
          exact ⟨⟨_, rfl⟩, _, ⟨_, rfl⟩, HJX.out⟩
      · have HJ5 := Lib.hid (show J (toldT xs m ((q + 1) * xs.length)) wr by rw [HL.out]; rw [show r = xs.length by omega] at hJr; exact hJr)
        have hs1 : wr.cell? ⟨nb, 0, none⟩ = some (.int .i64 (m : Int)) := cell_block ((hKr.2 nb (by simp)).trans hnW) rfl
        have HKr := Lib.hid hKr
        clear hJr hKr hs0 hlenJ
        gi_wp2
        go_roundw
        case rel => exact ⟨q + 1, by rw [HZ.out] <;> go_num, HJ5.out, HKr.out⟩
        case measure => simp [intOf]; omega
end Go.Proofs.Ytfnpdoppdbhlcaa
