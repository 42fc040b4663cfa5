/- A set of bells as two blocks (its struct, its bells), and the functions of package bell as contracts: what each answers, and what it turns. No condition but those in the statements. -/
import Derived.Test.YtjnlcoldhcedpaaPure
import Derived.Test.YtjnlcoldhcedpaaOff
import Derived.Test.YtjnlcoldhcedpaaKitI
import Derived.Test.YtjnlcoldhcedpaaProg
import Derived.IntWalk
import Derived.OneCell
import Derived.Deep.OwnRows
import Derived.Lib.Hide
namespace Go.Proofs.Ytjnlcoldhcedpaa
open Go.RowKit Go.Sort

/-- Bells as cells. -/
def bcells (bs : List Bool) : List Value := bs.map Value.bool
@[simp] theorem bcells_len (bs : List Bool) : (bcells bs).length = bs.length := by simp [bcells]
theorem bcells_at (bs : List Bool) (k : Nat) (h : k < bs.length) : (bcells bs)[k]? = some (.bool (bs.getD k false)) := by simp [bcells, List.getD_eq_getElem?_getD, h]
theorem bcells_set (bs : List Bool) (k : Nat) (x : Bool) : (bcells bs).set k (.bool x) = bcells (bs.set k x) := by simp [bcells, List.map_set]

/-- A block of bells, as a list. -/
def BoolsAt (w : World) (b : Nat) (bs : List Bool) : Prop := w.heap[b]? = some (.cells (bcells bs).toArray 4 (0, 0))
theorem BoolsAt.lt {w : World} {b : Nat} {bs : List Bool} (h : BoolsAt w b bs) : b < w.heap.size := (Array.getElem?_eq_some_iff.1 h).1
theorem BoolsAt.cell {w : World} {b : Nat} {bs : List Bool} (h : BoolsAt w b bs) {k : Nat} (hk : k < bs.length) : w.cell? ⟨b, k, none⟩ = some (.bool (bs.getD k false)) := by
  unfold BoolsAt at h
  simp [World.cell?, h, bcells_at bs k hk]
theorem BoolsAt.frozen {w : World} {b : Nat} {bs : List Bool} (h : BoolsAt w b bs) (k : Nat) : w.frozen? ⟨b, k, none⟩ = false := by
  unfold BoolsAt at h
  simp [World.frozen?, h]
theorem BoolsAt.set {w : World} {b : Nat} {bs : List Bool} (h : BoolsAt w b bs) (k : Nat) (x : Bool) : BoolsAt (w.setCell ⟨b, k, none⟩ (.bool x)) b (bs.set k x) := by
  unfold BoolsAt at h ⊢
  rw [← bcells_set]
  simp [World.setCell, Array.getElem?_modify, h]
theorem BoolsAt.of {w w' : World} {b : Nat} {bs : List Bool} (h : BoolsAt w b bs) (e : w'.heap[b]? = w.heap[b]?) : BoolsAt w' b bs := e.trans h
theorem BoolsAt.below {w w' : World} {b : Nat} {bs : List Bool} (h : BoolsAt w b bs) (hb : Below w.heap.size w w') : BoolsAt w' b bs := h.of (hb.block b h.lt)

/-- A set: its struct lies in block mb, its bells in block rb. -/
structure SetAt (w : World) (mb rb : Nat) (bs : List Bool) : Prop where
  head : w.heap[mb]? = some (.cells #[.slice (some ⟨rb, 0, none⟩) bs.length bs.length] 46 (0, 0))
  row : BoolsAt w rb bs
theorem SetAt.lt {w : World} {mb rb : Nat} {bs : List Bool} (h : SetAt w mb rb bs) : mb < w.heap.size ∧ rb < w.heap.size := ⟨(Array.getElem?_eq_some_iff.1 h.head).1, h.row.lt⟩
theorem SetAt.ne {w : World} {mb rb : Nat} {bs : List Bool} (h : SetAt w mb rb bs) : mb ≠ rb := by
  rintro rfl
  have := h.head.symm.trans h.row
  simp at this
theorem SetAt.cell {w : World} {mb rb : Nat} {bs : List Bool} (h : SetAt w mb rb bs) : w.cell? ⟨mb, 0, none⟩ = some (.slice (some ⟨rb, 0, none⟩) bs.length bs.length) := cell_of_one h.head
theorem SetAt.set {w : World} {mb rb : Nat} {bs : List Bool} (h : SetAt w mb rb bs) (k : Nat) (x : Bool) : SetAt (w.setCell ⟨rb, k, none⟩ (.bool x)) mb rb (bs.set k x) := by
  refine ⟨?_, h.row.set k x⟩
  rw [Below.heap_setCell _ _ _ _ h.ne, List.length_set]
  exact h.head
theorem SetAt.below {w w' : World} {mb rb : Nat} {bs : List Bool} (h : SetAt w mb rb bs) (hb : Below w.heap.size w w') : SetAt w' mb rb bs := ⟨(hb.block mb h.lt.1).trans h.head, h.row.below hb⟩
theorem SetAt.of {w w' : World} {mb rb : Nat} {bs : List Bool} (h : SetAt w mb rb bs) (h1 : w'.heap[mb]? = w.heap[mb]?) (h2 : w'.heap[rb]? = w.heap[rb]?) : SetAt w' mb rb bs := ⟨h1.trans h.head, h.row.of h2⟩
theorem SetAt.kept {w w' : World} {mb rb : Nat} {bs : List Bool} (h : SetAt w mb rb bs) {S : Nat → Prop} (ho : Only S w w') (h1 : ¬ S mb) (h2 : ¬ S rb) : SetAt w' mb rb bs := h.of (ho.block mb h.lt.1 h1) (ho.block rb h.lt.2 h2)

theorem Try.infoB : (Try.prog.info? 4).map (fun i => (i.zero, i.size, i.bytes)) = some (some (.bool false), 1, 1) := by kernel_rfl
theorem Try.infoI : (Try.prog.info? 3).map (fun i => (i.zero, i.size, i.bytes)) = some (some (.int .i64 0), 1, 8) := by kernel_rfl
theorem made_bools (n : Nat) : madeCells #[Value.bool false] n = (bcells (List.replicate n false)).toArray := by
  apply Array.ext
  · simp [size_madeCells, bcells]
  · intro i h1 h2
    simp [madeCells, bcells, Nat.mod_one]

/-- Is there a bell i? -/
theorem known_in (mb rb : Nat) (bs : List Bool) (k : Nat) (w : World) (h : SetAt w mb rb bs) (hk : k < bs.length) :
    Calls Try.prog 18 #[.pointer (some ⟨mb, 0, none⟩), .int .i64 (k : Int)] w fun e w' => e = .returned (.bool true) ∧ w = w' := by
  have c0 := h.cell
  have h0 : (0 : Int) ≤ (k : Int) := by omega
  have h1 : (k : Int) < (bs.length : Int) := by omega
  clear h
  go_enter Try.func18, Try.ntmps18
  go_wp2
  go_ret
  exact ⟨by simp, rfl⟩
theorem known_out (mb rb : Nat) (bs : List Bool) (i : Int) (w : World) (h : SetAt w mb rb bs) (hi : i < 0 ∨ (bs.length : Int) ≤ i) :
    Calls Try.prog 18 #[.pointer (some ⟨mb, 0, none⟩), .int .i64 i] w fun e w' => e = .returned (.bool false) ∧ w = w' := by
  have c0 := h.cell
  clear h
  by_cases hn : i < 0
  · have h0 : ¬ (0 : Int) ≤ i := by omega
    clear hi
    go_enter Try.func18, Try.ntmps18
    go_wp2
    go_ret
    exact ⟨by simp, rfl⟩
  · have h0 : (0 : Int) ≤ i := by omega
    have h1 : ¬ i < (bs.length : Int) := by omega
    clear hi hn
    go_enter Try.func18, Try.ntmps18
    go_wp2
    go_ret
    exact ⟨by simp, rfl⟩

theorem ring_in (mb rb : Nat) (bs : List Bool) (k : Nat) (w : World) (h : SetAt w mb rb bs) (hk : k < bs.length) :
    Calls Try.prog 9 #[.pointer (some ⟨mb, 0, none⟩), .int .i64 (k : Int)] w fun e w' => e = .returned (.int .i64 0) ∧ w' = w.setCell ⟨rb, k, none⟩ (.bool true) := by
  have c0 := h.cell
  have c1 := h.row.cell hk
  have f1 := h.row.frozen k
  go_enter Try.func9, Try.ntmps9
  go_wp2_with (go_at_call 18; refine (known_in mb rb bs k _ h hk).mono ?_; rintro e w' ⟨rfl, rfl⟩)
  go_ret
  exact ⟨rfl, rfl⟩
theorem ring_out (mb rb : Nat) (bs : List Bool) (i : Int) (w : World) (h : SetAt w mb rb bs) (hi : i < 0 ∨ (bs.length : Int) ≤ i) :
    Calls Try.prog 9 #[.pointer (some ⟨mb, 0, none⟩), .int .i64 i] w fun e w' => e = .returned (.int .i64 7) ∧ w = w' := by
  have hh := Lib.hid hi
  clear hi
  go_enter Try.func9, Try.ntmps9
  go_wp2_with (go_at_call 18; refine (known_out mb rb bs i _ h hh.out).mono ?_; rintro e w' ⟨rfl, rfl⟩)
  go_ret
  exact ⟨rfl, rfl⟩
/-- What a ring does: it answers c, the bell is pending if there is one, and no other block has turned. -/
def Rings (w : World) (mb rb : Nat) (bs : List Bool) (i : Int) (e : Ending) (w' : World) : Prop :=
  ∃ c : Int, e = .returned (.int .i64 c) ∧ (c = 0 ∧ 0 ≤ i ∧ i < (bs.length : Int) ∨ c = 7 ∧ (i < 0 ∨ (bs.length : Int) ≤ i)) ∧ SetAt w' mb rb (ringB bs i) ∧ Only (fun k => k = rb) w w'
theorem ring_any (mb rb : Nat) (bs : List Bool) (i : Int) (w : World) (h : SetAt w mb rb bs) :
    Calls Try.prog 9 #[.pointer (some ⟨mb, 0, none⟩), .int .i64 i] w (Rings w mb rb bs i) := by
  by_cases hi : i < 0 ∨ (bs.length : Int) ≤ i
  · refine (ring_out mb rb bs i w h hi).mono ?_
    rintro e w' ⟨rfl, rfl⟩
    exact ⟨7, rfl, .inr ⟨rfl, hi⟩, by rwa [ringB_same bs i hi], Only.refl _ _⟩
  · obtain ⟨k, rfl⟩ := Int.eq_ofNat_of_zero_le (a := i) (by omega)
    refine (ring_in mb rb bs k w h (by omega)).mono ?_
    rintro e w' ⟨rfl, rfl⟩
    exact ⟨0, rfl, .inl ⟨rfl, by omega, by omega⟩, by rw [ringB_nat]; exact h.set k true, Only.setCell w ⟨rb, k, none⟩ _⟩

theorem has_b (mb rb : Nat) (bs : List Bool) (i : Int) (w : World) (h : SetAt w mb rb bs) :
    Calls Try.prog 17 #[.pointer (some ⟨mb, 0, none⟩), .int .i64 i] w fun e w' => e = .returned (.bool (hasB bs i)) ∧ w = w' := by
  by_cases hi : i < 0 ∨ (bs.length : Int) ≤ i
  · have he : hasB bs i = false := by
      rcases hi with h1 | h1
      · exact hasB_neg bs i h1
      · exact hasB_big bs i h1
    rw [he]
    have hh := Lib.hid hi
    clear hi he
    go_enter Try.func17, Try.ntmps17
    go_wp2_with (go_at_call 18; refine (known_out mb rb bs i _ h hh.out).mono ?_; rintro e w' ⟨rfl, rfl⟩)
    go_ret
    exact ⟨by simp, rfl⟩
  · obtain ⟨k, rfl⟩ := Int.eq_ofNat_of_zero_le (a := i) (by omega)
    have hk : k < bs.length := by omega
    have c0 := h.cell
    have c1 := h.row.cell hk
    rw [hasB_nat]
    obtain ⟨x, hx⟩ : ∃ x, bs.getD k false = x := ⟨_, rfl⟩
    rw [hx] at c1 ⊢
    clear hx hi
    go_enter Try.func17, Try.ntmps17
    go_wp2_with (go_at_call 18; refine (known_in mb rb bs k _ h hk).mono ?_; rintro e w' ⟨rfl, rfl⟩)
    go_ret
    exact ⟨by simp, rfl⟩

/-- A new set, nothing pending. -/
def GivesSet (w : World) (bs : List Bool) (e : Ending) (w' : World) : Prop :=
  ∃ mb rb, e = .returned (.tuple #[.pointer (some ⟨mb, 0, none⟩), .int .i64 0]) ∧ w.heap.size ≤ mb ∧ w.heap.size ≤ rb ∧ SetAt w' mb rb bs ∧ Below w.heap.size w w'
theorem new_in (n : Nat) (v : Int) (hv : v = (n : Int)) (w : World) (hn : n ≤ 64) :
    Calls Try.prog 8 #[.int .i64 v] w (GivesSet w (List.replicate n false)) := by
  subst hv
  obtain ⟨i0, hi, hz0, hz1, hz2⟩ := info_parts Try.infoB
  go_enter Try.func8, Try.ntmps8
  go_wp2_with (refine wpList_make_row _ rfl _ _ 28 rfl 4 i0 (.bool false) Try.underlying28 hi hz0 hz1 rfl .i64 .i64 n rfl rfl (by rw [hz2]; omega) (by omega) ?_)
  go_ret2
  have hb1 : Below w.heap.size w (w.alloc (.cells (madeCells #[Value.bool false] n) 4)) := (Below.refl _ _).alloc (Nat.le_refl _) _
  refine ⟨w.heap.size + 1, w.heap.size, rfl, by omega, by omega, ⟨?_, ?_⟩, hb1.alloc (by simp) _⟩
  · have := heap_alloc_new (w.alloc (.cells (madeCells #[Value.bool false] n) 4)) (.cells #[.slice (some ⟨w.heap.size, 0, none⟩) n n] 46)
    simpa using this
  · unfold BoolsAt
    rw [← made_bools, Below.heap_alloc _ _ _ (by simp)]
    exact heap_alloc_new w _
theorem new_out (n : Int) (w : World) (hn : n < 0 ∨ 64 < n) :
    Calls Try.prog 8 #[.int .i64 n] w fun e w' => e = .returned (.tuple #[.pointer none, .int .i64 7]) ∧ w = w' := by
  by_cases h0 : n < 0
  · go_enter Try.func8, Try.ntmps8
    go_wp2
    go_ret2
    exact ⟨rfl, rfl⟩
  · have h1 : 64 < n := by omega
    go_enter Try.func8, Try.ntmps8
    go_wp2
    go_ret2
    exact ⟨rfl, rfl⟩

/-- A row of integers, where other blocks have turned than its own. -/
theorem IntRowK.only {K : IntKind} {w w' : World} {A : Option Addr} {l : List Int} {S : Nat → Prop} (h : IntRowK K w w.heap.size A l) (ho : Only S w w') (hs : ∀ a, A = some a → ¬ S a.block) : IntRowK K w' w.heap.size A l := fun hp => by
  obtain ⟨b, o, rfl, hb, hc⟩ := h hp
  refine ⟨b, o, rfl, hb, fun i hi => ?_⟩
  rw [← hc i hi]
  simp [World.cell?, ho.block b hb (hs _ rfl)]

/-- What a take does: a new list, the bells that are left; only the bells' block has turned. -/
def Takes (w : World) (mb rb : Nat) (bs : List Bool) (l : List Int) (e : Ending) (w' : World) : Prop :=
  ∃ v, e = .returned v ∧ OwnsOff w' w.heap.size 3 1 v (takeB bs l).length ((takeB bs l).map (Value.int .i64)) ∧ SetAt w' mb rb (leftB bs (takeB bs l)) ∧ Only (fun k => k = rb) w w'

set_option maxHeartbeats 1600000 in
theorem take_b (mb rb : Nat) (bs : List Bool) (l : List Int) (A : Option Addr) (c : Nat) (w : World) (h : SetAt w mb rb bs) (hll : l.length ≤ 1000000)
    (hrow : IntRowK .i64 w w.heap.size A l) (hne : ∀ a, A = some a → a.block ≠ rb) :
    Calls Try.prog 13 #[.pointer (some ⟨mb, 0, none⟩), .slice A l.length c] w (Takes w mb rb bs l) := by
  obtain ⟨i0, hi, hz0, hz1, hz2⟩ := info_parts Try.infoI
  have h0 : SetAt w mb rb (leftB bs (takeB bs (l.take 0))) := by simpa [takeB, leftB_nil] using h
  clear h
  go_enter Try.func13, Try.ntmps13
  go_wp2
  go_loopw [5, 10] (fun v ix wr => ∃ k : Nat, k ≤ l.length ∧ ix = .int .i64 k ∧ OwnsOff wr w.heap.size 3 1 v (takeB bs (l.take k)).length ((takeB bs (l.take k)).map (Value.int .i64)) ∧ SetAt wr mb rb (leftB bs (takeB bs (l.take k))) ∧ Only (fun k => k = rb) w wr) (fun _ ix _ => l.length - (intOf ix).toNat)
  case atStart => exact ⟨0, Nat.zero_le _, rfl, OwnsOff.nil _ _ _ _, h0, Only.refl _ _⟩
  case round =>
    clear h0
    obtain ⟨k, hk, rfl, hown, hS, hO⟩ := hrel
    by_cases hlt : k < l.length
    · obtain ⟨b, o, rfl, hbo, hcs⟩ := (hrow.only hO hne).at_ hlt
      have c0 := hcs _ (Below.refl _ _)
      have hnext := take_next l k hlt
      have hol := takeB_len bs (l.take k)
      have hol2 : (l.take k).length ≤ k := by simp; omega
      obtain ⟨x, hx⟩ : ∃ x, l.getD k 0 = x := ⟨_, rfl⟩
      rw [hx] at c0 hnext
      obtain ⟨out, hout⟩ : ∃ out, takeB bs (l.take k) = out := ⟨_, rfl⟩
      rw [hout] at hown hS hol
      have hsn : takeB bs (l.take (k + 1)) = tk bs out x := by rw [hnext, takeB_snoc, hout]
      have HN := Lib.hid hsn
      clear hx hcs hnext hout hsn
      go_wp2_with fail
      refine (has_b mb rb _ x _ hS).mono ?_
      rintro e w' ⟨rfl, rfl⟩
      by_cases hh : hasB (leftB bs out) x = true
      · obtain ⟨j, rfl, hj, _⟩ := hasB_true hh
        have e1 := tk_in hh
        rw [hh]
        have c1 := hS.cell
        have c2 := hS.row.cell hj
        have f2 := hS.row.frozen j
        have hS2 := hS.set j false
        rw [leftB_set] at hS2
        have hO2 := hO.trans (Only.setCell wr ⟨rb, j, none⟩ (.bool false))
        have hown2 : OwnsOff (wr.setCell ⟨rb, j, none⟩ (.bool false)) w.heap.size 3 1 u5 out.length (out.map (Value.int .i64)) := hown.kept (Only.setCell _ _ _) (fun g hg e => by
          obtain ⟨cs, hc⟩ := hown.typed g hg
          obtain rfl : g = rb := e
          have := hc.symm.trans hS.row
          injection this with this; injection this with _ this
          exact absurd this (by decide))
        have hsz : w.heap.size ≤ (wr.setCell ⟨rb, j, none⟩ (.bool false)).heap.size := hO2.size
        obtain ⟨wx, hwx⟩ : ∃ wx, Hid (wx = wr.setCell ⟨rb, j, none⟩ (.bool false)) := ⟨_, rfl⟩
        rw [← hwx.out] at hS2 hO2 hown2 hsz
        rw [leftB_len] at c1
        have hj2 : j < bs.length := by simpa using hj
        have hwn : wx.heap.size ≤ (wx.alloc (.cells #[.int .i64 (j : Int)] 3)).heap.size := by simp
        have HE := Lib.hid e1; have HS := Lib.hid hS2; have HO := Lib.hid hO2
        clear hh e1 hS hO hown hj hS2 hO2
        go_wp2_with (first | (rw [← hwx.out]) | (at_builtin; refine wpList_append_off _ rfl _ _ 29 rfl w.heap.size 3 i0 (.int .i64 0) 1 8 Try.underlying29 hi hz0 hz1 hz2 rfl (by decide) _ _ _ rfl (hown2.keptB ((Below.refl _ _).alloc (Nat.le_refl _) _)) ⟨wx.heap.size, 0, none⟩ 1 1 [.int .i64 (j : Int)] rfl rfl (cell_one_new _ _ _) (by simp [Value.oneCell']) (by unfold maxLen; omega) (by omega) (by simp; omega) ?_))
        intro v' w2 hown' hgrow hfr
        have hon : Only (fun k => some k = u5.ownBlock) wx w2 := ((Only.of_below ((Below.refl _ _).alloc (Nat.le_refl _) _)).trans (Only.of_grown hgrow))
        have hty : ∀ k, u5.ownBlock = some k → ∃ cs, wx.heap[k]? = some (.cells cs 3 (0, 0)) := hown2.typed
        have hS3 : SetAt w2 mb rb (leftB bs (out ++ [(j : Int)])) := HS.out.kept hon (fun e => by
            obtain ⟨cs, hc⟩ := hty mb e.symm
            have := hc.symm.trans HS.out.head
            injection this with this; injection this with _ this
            exact absurd this (by decide)) (fun e => by
            obtain ⟨cs, hc⟩ := hty rb e.symm
            have := hc.symm.trans HS.out.row
            injection this with this; injection this with _ this
            exact absurd this (by decide))
        have hO3 : Only (fun k => k = rb) w w2 := ⟨hon.os.trans HO.out.os, hon.tape.trans HO.out.tape, hon.output.trans HO.out.output, Nat.le_trans HO.out.size hon.size, fun k hk hs => (hon.block k (Nat.lt_of_lt_of_le hk HO.out.size) (fun e => by have := (hown2.lt k e.symm).1; omega)).trans (HO.out.block k hk hs)⟩
        have hown3 : OwnsOff w2 w.heap.size 3 1 v' (out ++ [(j : Int)]).length ((out ++ [(j : Int)]).map (Value.int .i64)) := by simpa using hown'
        have H3 := Lib.hid hS3; have O3 := Lib.hid hO3; have W3 := Lib.hid hown3
        clear hown' hgrow hfr hon hty hS3 hO3 hown3
        go_wp2
        go_roundw
        case rel => exact ⟨k + 1, by omega, by go_num, by rw [HN.out, HE.out]; exact W3.out, by rw [HN.out, HE.out]; exact H3.out, O3.out⟩
        case measure => simp [intOf]; omega
      · have hf : hasB (leftB bs out) x = false := by simpa using hh
        have e1 := tk_out hf
        rw [hf]
        have HE := Lib.hid e1
        clear hh hf e1
        go_wp2
        go_roundw
        case rel => exact ⟨k + 1, by omega, by go_num, by rw [HN.out, HE.out]; exact hown, by rw [HN.out, HE.out]; exact hS, hO⟩
        case measure => simp [intOf]; omega
    · have hkl : l.take k = l := List.take_of_length_le (by omega)
      rw [hkl] at hown hS
      have HW := Lib.hid hown; have HS := Lib.hid hS; have HO := Lib.hid hO
      clear hown hS hO hkl
      go_wp2
      go_ret
      exact ⟨_, rfl, HW.out, HS.out, HO.out⟩
end Go.Proofs.Ytjnlcoldhcedpaa
