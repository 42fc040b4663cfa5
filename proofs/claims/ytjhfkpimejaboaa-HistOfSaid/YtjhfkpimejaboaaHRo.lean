/- Rows of places and of calls that a call lays itself; the document's Of. No condition but those in the statements. -/
import Derived.Test.YtjhfkpimejaboaaHSm
import Derived.Test.YtjhfkpimejaboaaOffB
import Derived.Test.YtjhfkpimejaboaaTill
import Derived.BigQuiet
import Derived.IntWalk
import Derived.BigRegion
import Derived.OpenShut
import Derived.Deep.MidRow
import Derived.OwnWalk
namespace Go.Proofs.Ytjhfkpimejaboaa
open Go.RowKit Go.Sort Go.ChangeShapes Go.WideShapes
set_option linter.unusedVariables false
set_option linter.unusedSimpArgs false


def icells (xs : List Int) : List Value := xs.map (Value.int .i64)
theorem icells_app (a b : List Int) : icells (a ++ b) = icells a ++ icells b := by simp [icells]
def ccells (ys : List CV) : List Value := (ys.map cCells).flatten
theorem ccells_app (a b : List CV) : ccells (a ++ b) = ccells a ++ ccells b := by simp [ccells]
theorem ccells_one (u : CV) : ccells [u] = cCells u := by simp [ccells]
theorem ccells_at : ∀ {ys : List CV} {k : Nat} {u : CV}, ys[k]? = some u → ∀ j, j < 20 → (ccells ys)[k * 20 + j]? = (cCells u)[j]?
  | [], k, u, h, _, _ => by simp at h
  | y :: ys, 0, u, h, j, hj => by
    simp at h; subst h
    rw [show ccells (y :: ys) = cCells y ++ ccells ys from by simp [ccells], Nat.zero_mul, Nat.zero_add, List.getElem?_append_left (by rw [cCells_len]; exact hj)]
  | y :: ys, k + 1, u, h, j, hj => by
    have ih := ccells_at (ys := ys) (k := k) (u := u) (by simpa using h) j hj
    rw [show ccells (y :: ys) = cCells y ++ ccells ys from by simp [ccells], List.getElem?_append_right (by rw [cCells_len]; omega), cCells_len, show (k + 1) * 20 + j - 20 = k * 20 + j by omega]
    exact ih
theorem Try.infoI17 : (Try.prog.info? 3).map (fun i => (i.zero, i.size, i.bytes)) = some (some (.int .i64 0), 1, 8) := by kernel_rfl
theorem Try.infoC17 : (Try.prog.info? 34).map (fun i => (i.zero, i.size, i.bytes)) = some (some (.agg #[.int .i64 0, .int .i64 0, .int .i64 0, .int .u64 0, .slice none 0 0, .int .i64 0, .slice none 0 0, .bool false, .int .i64 0, .bool false, .int .i64 0, .int .i64 0, .int .i64 0, .int .i64 0, .int .i64 0, .int .i64 0, .int .i64 0, .int .i64 0, .int .i64 0, .int .i64 0]), 20, 192) := by kernel_rfl
/-- A call that hands back a new list of integers, and turns nothing that was there. -/
def GivesNums (w : World) (xs : List Int) (e : Ending) (w' : World) : Prop := ∃ v, e = .returned v ∧ OwnsOff w' w.heap.size 3 1 v xs.length (icells xs) ∧ Below w.heap.size w w'
theorem nums_row {w : World} {B : Nat} {v : Value} {xs : List Int} (h : OwnsOff w B 3 1 v xs.length (icells xs)) : ∃ A c, v = .slice A xs.length c ∧ xs.length ≤ c ∧ c ≤ maxLen ∧ (A = none → xs = []) ∧ IntRowK .i64 w w.heap.size A xs := by
  obtain ⟨A, c, rfl, h1, h2⟩ := h.slice
  refine ⟨A, c, rfl, h1, h2, fun e => ?_, fun hp => ?_⟩
  · rcases Nat.eq_zero_or_pos xs.length with h0 | h0
    · exact List.eq_nil_of_length_eq_zero h0
    · obtain ⟨g, off, cap, hv, _⟩ := h.lies h0
      rw [e] at hv; cases hv
  · obtain ⟨g, off, cap, hv, _, hg, _, _, _, hc⟩ := h.lies hp
    cases hv
    exact ⟨g, off, rfl, hg, fun i hi => hc i _ (by simp [icells, List.getElem?_eq_getElem hi, List.getD_eq_getElem?_getD])⟩
/-- The places of a partition's calls, of the first n. -/
def ofN (l : List CV) (p : Int) : Nat → List Int
  | 0 => []
  | n + 1 => ofN l p n ++ (if isOf l p n = true then [(n : Int)] else [])
theorem ofN_hit {l : List CV} {p : Int} {n : Nat} (h : isOf l p n = true) : ofN l p (n + 1) = ofN l p n ++ [(n : Int)] := by show _ ++ _ = _; rw [if_pos h]
theorem ofN_miss {l : List CV} {p : Int} {n : Nat} (h : isOf l p n = false) : ofN l p (n + 1) = ofN l p n := by show _ ++ _ = _; rw [if_neg (by rw [h]; decide), List.append_nil]
theorem ofN_len (l : List CV) (p : Int) : ∀ n, (ofN l p n).length ≤ n
  | 0 => Nat.le_refl _
  | n + 1 => by
    show (ofN l p n ++ (if isOf l p n = true then [(n : Int)] else [])).length ≤ n + 1
    rw [List.length_append]
    have := ofN_len l p n
    split <;> simp <;> omega
theorem news_new (w : World) (cs : Array Value) (t : TypeId) : ∀ j u, cs.toList[j]? = some u → (w.alloc (.cells cs t)).cell? ((⟨w.heap.size, 0, none⟩ : Addr).add j) = some u := fun j u hu => by
  rw [Addr.add_lit, Nat.zero_add]
  exact cell_blk17 (heap_alloc_new w _) (by simpa using hu)
set_option maxRecDepth 100000 in
set_option maxHeartbeats 4000000 in
theorem rof_b (A : Option Addr) (l : List CV) (c : Nat) (p : Int) (w : World) (hr : CRow w w.heap.size A l) (hl : l.length ≤ 60) : Calls Try.prog 14 #[.slice A l.length c, .int .i64 p] w (GivesNums w (ofN l p l.length)) := by
  have HR := Lib.hid hr
  obtain ⟨i0, hi0, hz0, hz1, hz2⟩ := info_parts Try.infoI17
  clear hr
  go_enter Try.func14, Try.ntmps14
  go_wp2
  go_loopw [5, 6] (fun v ix wr => ∃ i : Nat, i ≤ l.length ∧ ix = .int .i64 i ∧ OwnsOff wr w.heap.size 3 1 v (ofN l p i).length (icells (ofN l p i)) ∧ Below w.heap.size w wr) (fun _ ix _ => l.length - (intOf ix).toNat)
  case atStart => exact ⟨0, Nat.zero_le _, rfl, OwnsOff.nil _ _ _ _, Below.refl _ _⟩
  case round =>
    obtain ⟨i, hi, rfl, hown, hbr⟩ := hrel
    by_cases hlt : i < l.length
    · obtain ⟨b, o, x, rfl, hbl, hx, -, hxc⟩ := HR.out.at_ hlt
      have x_part := (hxc _ hbr).1.e_part
      have hi2 : (i : Int) < (l.length : Int) := by omega
      obtain ⟨xs, hxs⟩ : ∃ xs, ofN l p i = xs := ⟨_, rfl⟩
      have hxl : xs.length ≤ 60 := by rw [← hxs]; have := ofN_len l p i; omega
      have HXL := Lib.hid hxl
      by_cases hp : x.part = p
      · have HN := Lib.hid (show ofN l p (i + 1) = xs ++ [(i : Int)] by rw [ofN_hit (by unfold isOf; rw [hx]; simp [hp]), hxs])
        rw [hxs] at hown
        rw [hp] at x_part
        have hbo := hbr
        clear hxs hp hx hxc hbl hxl hbr
        go_wp2_with (at_builtin; refine wpList_append_off _ rfl _ _ 37 rfl w.heap.size 3 i0 (.int .i64 0) 1 8 Try.underlying37 hi0 hz0 hz1 hz2 rfl (by decide) _ _ _ rfl (hown.keptB ((Below.refl _ _).alloc (Nat.le_refl _) _)) ⟨wr.heap.size, 0, none⟩ 1 1 [.int .i64 (i : Int)] rfl rfl (news_new _ _ _) (by simp [Value.oneCell']) (by have := HXL.out; unfold maxLen; omega) (by have := HXL.out; omega) (by have := hbo.size; simp; omega) ?_)
        intro v' w6 hown' hgrow _
        have hb6 := Lib.hid ((hbo.alloc hbo.size _).grown hgrow (by have := hbo.size; simp; omega) (fun i e => (hown.lt i e).1))
        have H3 : Hid (OwnsOff w6 w.heap.size 3 1 v' (xs ++ [(i : Int)]).length (icells (xs ++ [(i : Int)]))) := Lib.hid (by rw [List.length_append, icells_app]; exact hown')
        clear hown' hgrow hown hbo x_part
        go_wp2
        go_roundw
        case rel => exact ⟨i + 1, by omega, by go_num, by rw [HN.out]; exact H3.out, hb6.out⟩
        case measure => simp [intOf]; omega
      · have HN := Lib.hid (show ofN l p (i + 1) = xs by rw [ofN_miss (by unfold isOf; rw [hx]; simp [hp]), hxs])
        have hpa : (x.part == p) = false := by simp [hp]
        rw [hxs] at hown
        have H3 := Lib.hid hown; have HB := Lib.hid hbr
        clear hxs hp hx hxc hbl hxl hbr hown
        go_wp2
        go_roundw
        case rel => exact ⟨i + 1, by omega, by go_num, by rw [HN.out]; exact H3.out, HB.out⟩
        case measure => simp [intOf]; omega
    · have hil : i = l.length := by omega
      subst hil
      have H3 := Lib.hid hown; have HB := Lib.hid hbr
      clear hown hbr
      go_wp2
      go_ret
      exact ⟨_, rfl, H3.out, HB.out⟩
end Go.Proofs.Ytjhfkpimejaboaa
