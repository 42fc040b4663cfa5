/- Texts of the ring, joined, what is used of them. No condition but those in the statements. -/
import Derived.BigQuiet
import Derived.BigRegion
import Derived.Deep.MidRow
import Derived.Deep.RegionHeld3
import Derived.Deep.Upon
import Derived.IntWalk
import Derived.Lib.RowBridge
import Derived.Test.YthcnooimegaloaaDoorQShelfP
import Derived.Test.YthcnooimegaloaaDoorQgn
section
namespace Go.Proofs.YthcnooimegaloaaDoor
open Go.RowKit Go.Sort
set_option linter.unusedVariables false
set_option linter.unusedSimpArgs false
set_option linter.unusedVariables false
set_option linter.unusedSimpArgs false
set_option maxRecDepth 100000
theorem mat_len {w : World} {own : Nat → Tg8} {n0 : Nat} {c : Cfg} {M : Md8} {A : Mx8} (h : MAt w own n0 c M A) : A.sl.length = c.parts.length := by
  have := h.1
  have e := congrArg List.length h.len.1
  rw [List.length_map] at e
  exact e.trans h.len.2
theorem mat_lt {w : World} {own : Nat → Tg8} {n0 : Nat} {c : Cfg} {M : Md8} {A : Mx8} (h : MAt w own n0 c M A) {k : Nat} {t : Tg8} (e : own k = t) (ht : t ≠ .free) : k < w.heap.size := Nat.lt_of_not_le fun hle => ht (e.symm.trans (h.free k hle))
theorem mat_at {w : World} {own : Nat → Tg8} {n0 : Nat} {c : Cfg} {M : Md8} {A : Mx8} (h : MAt w own n0 c M A) {p : Nat} (hp : p < c.parts.length) : ∃ s, A.sl[p]? = some s ∧ st8 M (p : Int) = s.s ∧ M.st[p]? = some s.s := by
  have hl := h.len
  have hlt : p < A.sl.length := by rw [mat_len h]; exact hp
  refine ⟨A.sl[p], List.getElem?_eq_getElem hlt, ?_⟩
  have e : M.st[p]? = some A.sl[p].s := by rw [← hl.1, List.getElem?_map, List.getElem?_eq_getElem hlt]; rfl
  refine ⟨?_, e⟩
  unfold st8
  rw [if_pos (by omega), Int.toNat_natCast, e]; rfl
theorem is_in {w : World} {own : Nat → Tg8} {n0 : Nat} {c : Cfg} {M : Md8} {A : Mx8} (h : MAt w own n0 c M A) (p : Nat) (hp : p < c.parts.length) : Calls Tryd.prog 20 #[.pointer (some ⟨A.b, 0, none⟩), .int .i64 (p : Int)] w fun e w' => e = .returned (.bool true) ∧ w = w' := by
  have c6 : w.cell? ⟨A.b, 6, none⟩ = some (.slice (some ⟨A.sg, A.so, none⟩) c.parts.length A.sk) := blk_at h.head.2 (i := 6) rfl
  have h1 : (0 : Int) ≤ (p : Int) := by omega
  have h2 : (p : Int) < (c.parts.length : Int) := by omega
  clear h
  go_enter Tryd.func20, Tryd.ntmps20
  go_wp2
  go_ret
  exact ⟨by simp [h2], rfl⟩
theorem stands_in {w : World} {own : Nat → Tg8} {n0 : Nat} {c : Cfg} {M : Md8} {A : Mx8} (h : MAt w own n0 c M A) (p : Nat) (hp : p < c.parts.length) : Calls Tryd.prog 13 #[.pointer (some ⟨A.b, 0, none⟩), .int .i64 (p : Int)] w fun e w' => e = .returned (.pointer (some ⟨A.sg, A.so + p * 4, none⟩)) ∧ w = w' := by
  have c6 : w.cell? ⟨A.b, 6, none⟩ = some (.slice (some ⟨A.sg, A.so, none⟩) c.parts.length A.sk) := blk_at h.head.2 (i := 6) rfl
  have HI := Lib.hid (is_in h p hp)
  clear h
  go_enter Tryd.func13, Tryd.ntmps13
  go_wp2_with fail
  refine HI.out.mono ?_
  rintro e w' ⟨rfl, rfl⟩
  clear HI
  go_wp2
  go_ret
  exact ⟨rfl, rfl⟩
end Go.Proofs.YthcnooimegaloaaDoor
end
section
namespace Go.Proofs.YthcnooimegaloaaDoor
open Go.RowKit Go.Sort
set_option linter.unusedVariables false
set_option linter.unusedSimpArgs false
set_option linter.unusedVariables false
set_option linter.unusedSimpArgs false
set_option maxRecDepth 100000
theorem sets_block {b : Nat} {ty : TypeId} {m : Nat × Nat} : ∀ (vs : List Value) (o : Nat) (X : World) (cs : Array Value), X.heap[b]? = some (.cells cs ty m) → ∃ cs', (X.setCells b o vs).heap[b]? = some (.cells cs' ty m) ∧ cs'.size = cs.size ∧ ∀ k, cs'[k]? = if o ≤ k ∧ k < o + vs.length ∧ k < cs.size then vs[k - o]? else cs[k]?
  | [], o, X, cs, h => ⟨cs, h, rfl, fun k => by rw [if_neg (by simp; omega)]⟩
  | v :: r, o, X, cs, h => by
    obtain ⟨cs', h1, h2, h3⟩ := sets_block r (o + 1) (X.setCell ⟨b, o, none⟩ v) (cs.setIfInBounds o v) (blk_put h rfl)
    refine ⟨cs', h1, by rw [h2]; simp, fun k => ?_⟩
    rw [h3 k]
    simp only [Array.size_setIfInBounds, List.length_cons, Array.getElem?_setIfInBounds]
    by_cases e1 : k = o
    · subst e1
      rw [if_neg (by omega)]
      by_cases e2 : k < cs.size
      · rw [if_pos rfl, if_pos e2, if_pos (by omega), Nat.sub_self]; rfl
      · rw [if_pos rfl, if_neg e2, if_neg (by omega), Array.getElem?_eq_none (by omega)]
    · by_cases e3 : o + 1 ≤ k ∧ k < o + 1 + r.length ∧ k < cs.size
      · rw [if_pos e3, if_pos (by omega), show k - o = (k - (o + 1)) + 1 by omega, List.getElem?_cons_succ]
      · rw [if_neg e3, if_neg (by omega), if_neg (by omega)]
theorem own_sets {w : World} {base : Nat} {e : TypeId} {g off n cap : Nat} {xs : List Value} (h : OwnsOff w base e 1 (.slice (some ⟨g, off, none⟩) n cap) n xs) (vs : List Value) (hv : vs.length = n) (n' : Nat) (hn : n' ≤ n) : OwnsOff (w.setCells g off vs) base e 1 (.slice (some ⟨g, off, none⟩) n' cap) n' (vs.take n') := by
  obtain ⟨h1, ⟨h2, _⟩ | ⟨g', off', cap', cur, hv', hb, hg, hnc, hcm, hcs, htk⟩⟩ := h
  · cases h2
  · cases hv'
    obtain ⟨cs', k1, k2, k3⟩ := sets_block vs off w cur hg
    refine ⟨by simp; omega, .inr ⟨g, off, cap, cs', rfl, hb, k1, by omega, hcm, by rw [k2]; exact hcs, ?_⟩⟩
    apply List.ext_getElem?
    intro j
    rw [List.getElem?_take, List.getElem?_take, List.getElem?_drop, Array.getElem?_toList]
    by_cases hj : j < n'
    · rw [if_pos (by omega), if_pos hj, k3, if_pos (by omega), Nat.add_sub_cancel_left]
    · rw [if_neg (by omega), if_neg hj]
theorem erase_at : ∀ {l : List Int} {x : Int} {i : Nat}, l[i]? = some x → (∀ j, j < i → l.getD j 0 ≠ x) → l.erase x = l.take i ++ l.drop (i + 1)
  | [], x, i, h, _ => by simp at h
  | y :: l, x, 0, h, _ => by
    simp at h; subst h
    simp
  | y :: l, x, i + 1, h, hno => by
    have h0 := hno 0 (by omega)
    have ih := erase_at (l := l) (x := x) (i := i) (by simpa using h) (fun j hj => by have := hno (j + 1) (by omega); simpa using this)
    have hne : y ≠ x := by simpa using h0
    rw [List.erase_cons_tail (by simpa using hne), ih]
    rfl
theorem made_not8 {l : List Int} {k : Nat} {v : Int} (hk : l.length ≤ k) (h : ∀ j, j < k → l.getD j 0 ≠ v) : v ∉ l := fun hm => by
  obtain ⟨j, hj, e⟩ := List.getElem_of_mem hm
  exact h j (by omega) (by rw [List.getD_eq_getElem?_getD, List.getElem?_eq_getElem hj]; exact e)
theorem sidx8_b (l : List Int) (A : Option Addr) (m : Nat) (v : Int) (w : World) (hr : IntRowK .i64 w w.heap.size A l) (hl : l.length ≤ 1000000) : Calls Tryd.prog 46 #[.slice A l.length m, .int .i64 v] w fun e w' => (∃ r : Int, e = .returned (.int .i64 r) ∧ ((r = -1 ∧ v ∉ l) ∨ ∃ i : Nat, r = (i : Int) ∧ i < l.length ∧ l[i]? = some v ∧ ∀ j, j < i → l.getD j 0 ≠ v)) ∧ w = w' := by
  go_enter Tryd.func46, Tryd.ntmps46
  go_wp2
  go_loopw [5, 8] (fun _ ix wr => ∃ k : Nat, k ≤ l.length ∧ ix = .int .i64 k ∧ (∀ j, j < k → l.getD j 0 ≠ v) ∧ wr = w) (fun _ ix _ => l.length - (intOf ix).toNat)
  case atStart => exact ⟨0, Nat.zero_le _, rfl, (fun j hj => by omega), rfl⟩
  case round =>
    obtain ⟨k, hk, rfl, hno, rfl⟩ := hrel
    have HN := Lib.hid hno
    clear hno
    by_cases hlt : k < l.length
    · obtain ⟨b, o, rfl, _, hc⟩ := hr.at_ hlt
      have k0 := hc _ (Below.refl _ _)
      obtain ⟨y, hy⟩ : ∃ y, l.getD k 0 = y := ⟨_, rfl⟩
      have HY := Lib.hid hy
      rw [hy] at k0
      clear hy hc
      by_cases he : v = y
      · have hea : (v == y) = true := by simp [he]
        have HX := Lib.hid (show l[k]? = some v from by have := HY.out; rw [List.getD_eq_getElem?_getD, List.getElem?_eq_getElem hlt] at this; rw [List.getElem?_eq_getElem hlt, he]; exact congrArg some this)
        clear he
        go_wp2
        go_ret
        exact ⟨⟨_, rfl, .inr ⟨k, rfl, hlt, HX.out, HN.out⟩⟩, rfl⟩
      · have hea : (v == y) = false := by simp [he]
        have HE := Lib.hid he
        clear he
        go_wp2
        go_roundw
        case rel => exact ⟨k + 1, by omega, by go_num, (fun j hj => by
          by_cases e : j = k
          · subst e; rw [HY.out]; exact fun h => HE.out h.symm
          · exact HN.out j (by omega)), by trivial⟩
        case measure => simp [intOf]; omega
    · have HX := Lib.hid (made_not8 (by omega) HN.out)
      go_wp2
      go_ret
      exact ⟨⟨_, rfl, .inl ⟨rfl, HX.out⟩⟩, rfl⟩
/-- slices.Delete of one, of a list of the call's own. -/
theorem del8_b (n0 : Nat) (v : Value) (l : List Int) (i : Nat) (w : World) (h : OwnsOff w n0 3 1 v l.length (icells l)) (hi : i < l.length) : Calls Tryd.prog 47 #[v, .int .i64 (i : Int), .int .i64 ((i : Int) + 1)] w fun e w' =>
    ∃ a k, v = .slice a l.length k ∧ e = .returned (.slice a (l.length - 1) k) ∧ OwnsOff w' n0 3 1 (.slice a (l.length - 1) k) (l.length - 1) (icells (l.take i ++ l.drop (i + 1))) ∧ Only (fun k => v.ownBlock = some k) w w' := by
  obtain ⟨g, off, cap, rfl, _, hgl, hnc, hcm, hfz, hcell⟩ := h.lies (by omega)
  have hH : Go.Sort.Holds (Value.int .i64) w g off l.toArray := fun j hj => by
    have hj' : j < l.length := by simpa using hj
    refine ⟨?_, hfz _⟩
    rw [hcell j (.int .i64 l[j]) (by simp [icells, hj'])]
    simp [hj']
  have hc := Go.Proofs.Any.slices_Delete_int Tryd.layDel g off cap i (i + 1) l w hH hnc (by unfold maxLen at hcm; exact hcm) (by omega) (by omega)
  refine Calls.mono (show Calls Tryd.prog 47 #[.slice (some ⟨g, off, none⟩) l.length cap, .int .i64 (i : Int), .int .i64 ((i + 1 : Nat) : Int)] w _ from hc) ?_
  rintro e w' ⟨rfl, q, hw⟩
  refine ⟨some ⟨g, off, none⟩, cap, rfl, by rw [show i + 1 - i = 1 by omega], ?_⟩
  have hlen : (l.take i ++ l.drop (i + 1) ++ List.replicate (i + 1 - i) 0).length = l.toArray.size := by simp; omega
  rw [Go.Lib.putRow_eq_setCells (Value.int .i64) w g off l.toArray _ q hH hlen] at hw
  have hO : Only (fun k => k = g) w w' := by
    rw [hw]
    exact Only.sets (S := fun k => k = g) rfl _ _ ⟨rfl, rfl, rfl, Nat.le_refl _, fun _ _ _ => rfl⟩
  have h2 : OwnsOff (w.drewN q) n0 3 1 (.slice (some ⟨g, off, none⟩) l.length cap) l.length (icells l) := h.kept (w' := w.drewN q) (S := fun _ => False) ⟨rfl, rfl, rfl, Nat.le_refl _, fun _ _ _ => rfl⟩ (fun _ _ h => h)
  have h3 := own_sets h2 ((l.take i ++ l.drop (i + 1) ++ List.replicate (i + 1 - i) 0).map (Value.int .i64)) (by rw [List.length_map]; simpa using hlen) (l.length - 1) (by omega)
  rw [← hw] at h3
  refine ⟨?_, hO.mono fun k _ e => by rw [e]; rfl⟩
  have e1 : ((l.take i ++ l.drop (i + 1) ++ List.replicate (i + 1 - i) 0).map (Value.int .i64)).take (l.length - 1) = icells (l.take i ++ l.drop (i + 1)) := by
    unfold icells
    rw [List.map_append]
    exact List.take_left' (by simp; omega)
  rw [e1] at h3
  exact h3
end Go.Proofs.YthcnooimegaloaaDoor
end
