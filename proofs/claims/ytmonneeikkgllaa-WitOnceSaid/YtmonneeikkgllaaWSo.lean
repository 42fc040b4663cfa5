/- slices.SortStableFunc at a row of items of the caller's own, by what All hands to it: the row holds the one order. No condition but those in the statements. -/
import Derived.Test.YtmonneeikkgllaaWSb
import Derived.Test.YtmonneeikkgllaaWRw
import Derived.Test.YtmonneeikkgllaaShelfP
import Derived.Shelf.SlSortCmp.KitK
import Derived.Lib.Hide
import Derived.WalkArith
import Derived.Sort.WalkB2
import Derived.Sort.WalkB12
import Derived.Deep.LoopGhost

namespace Go.Proofs.Ytmonneeikkgllaa
open WtP Go.Shelf Go.RowKit Go.Lib Go.Sort StP
set_option linter.unusedVariables false
set_option linter.unusedSimpArgs false


theorem stL19 : StL Try.prog 4 where
  mixed := by kernel_rfl
  fsw := Try.func36
  fro := Try.func35
  fsy := Try.func34
  fst := Try.func29
  fss := Try.func21
  t0 := Try.underlying0
  a0 := fun _ => by kernel_rfl
  z0 := fun _ => by kernel_rfl
  v0 := fun _ => by kernel_rfl
  t1 := Try.underlying3
  a1 := fun _ => by kernel_rfl
  z1 := fun _ => by kernel_rfl
  v1 := fun _ => by kernel_rfl
  t2 := Try.underlying4
  a2 := fun _ => by kernel_rfl
  z2 := fun _ => by kernel_rfl
  v2 := fun _ => by kernel_rfl
  t3 := Try.underlying83
  a3 := fun _ => by kernel_rfl
  z3 := fun _ => by kernel_rfl
  v3 := fun _ => by kernel_rfl
  t4 := Try.underlying61
  a4 := fun _ => by kernel_rfl
  z4 := fun _ => by kernel_rfl
  v4 := fun _ => by kernel_rfl
  t5 := Try.underlying70
  a5 := fun _ => by kernel_rfl
  z5 := fun _ => by kernel_rfl
  v5 := fun _ => by kernel_rfl
  aE := fun _ => by kernel_rfl
  zE := fun _ => by kernel_rfl
theorem cmpLays19 (blk off size : Nat) (w : World) : CmpLays Try.prog 22 #[] tc 4 cf4 blk off size w := fun _ _ _ _ x y => clo19_b x y _
theorem mapBlock_other19 (w : World) (blk k : Nat) (f : Array Value → Array Value) (h : k ≠ blk) : (mapBlock w blk f).heap[k]? = w.heap[k]? := by
  simp only [mapBlock, Array.getElem?_modify]; rw [if_neg (by omega)]
theorem only_sorted19 {g off n : Nat} {w : World} {d : Array T4} {os : Array Obj} : Only (fun k => k = g) w (sortWorldK tc 4 w g off n d os) := by
  refine ⟨rfl, rfl, rfl, ?_, fun k hk hs => ?_⟩
  · simp [sortWorldK, putRowK, putRow, mapBlock, Sort.ahead, grow]
  · unfold sortWorldK
    rw [heap_grow_old _ _ (by simp [putRowK, putRow, mapBlock, Sort.ahead]; omega)]
    exact mapBlock_other19 _ _ _ _ hs
theorem flatK_tcs (r : List T4) (j : Nat) (hj : j < r.length * 4) : (tcs r)[j]? = some ((flatK tc 4 r.toArray)[j]!) := by
  rw [get_flatK _ _ _ _ (by simpa using hj)]
  have hi : j / 4 < r.length := by omega
  have h := tcs_at (l := r) (k := j / 4) (x := r[j / 4]) (List.getElem?_eq_getElem hi) (j % 4) (by omega)
  rw [show j / 4 * 4 + j % 4 = j by omega] at h
  rw [h]
  have e : r.toArray[j / 4]! = r[j / 4] := by simp [hi]
  rw [e, getElem!_pos (tc r[j / 4]) (j % 4) (by rw [tc_len]; omega)]
  exact List.getElem?_eq_getElem _
theorem ins_none19 (c : Nat) (w : World) : Calls Try.prog 33 #[.slice none 0 c, .int .i64 0, .int .i64 0, .func (.func 22) #[] #[]] w fun e w' => e = .returned (.tuple #[]) ∧ w = w' := by
  go_enter Try.func33, Try.ntmps33
  go_wp2
  go_loopg [8] 1 (fun _ s8 wr => s8 = .int .i64 1 ∧ w = wr)
  case atStart => exact ⟨rfl, rfl⟩
  case round =>
    obtain ⟨rfl, rfl⟩ := hrel
    go_wp2
    go_end0
    exact ⟨rfl, rfl⟩
theorem stable_none19 (c : Nat) (w : World) : Calls Try.prog 29 #[.slice none 0 c, .int .i64 0, .func (.func 22) #[] #[]] w fun e w' => e = .returned (.tuple #[]) ∧ w = w' := by
  go_enter Try.func29, Try.ntmps29
  go_wp2
  go_loopg [7, 8] 1 (fun _ s7 s8 wr => s7 = .int .i64 0 ∧ s8 = .int .i64 20 ∧ w = wr)
  case atStart => exact ⟨rfl, rfl, rfl⟩
  case round =>
    obtain ⟨rfl, rfl, rfl⟩ := hrel
    go_wp2_with fail
    refine (ins_none19 c _).mono ?_
    rintro e w2 ⟨rfl, rfl⟩
    go_wp2
    go_loopg [6, 7, 8, 9] 1 (fun _ s6 s7 s8 s9 wr => s6 = .int .i64 20 ∧ w = wr)
    case atStart => exact ⟨rfl, rfl⟩
    case round =>
      obtain ⟨rfl, rfl⟩ := hrel
      go_wp2
      go_end0
      exact ⟨rfl, rfl⟩
/-- The sort has been called at a row that the caller owns, from block 'base' on. -/
def Sorted19 (base : Nat) (r : List T4) (v : Value) (w : World) (e : Ending) (w' : World) : Prop :=
  e = .returned (.tuple #[]) ∧ ∃ A c, v = .slice A r.length c ∧ TRow w' w'.heap.size A (ordS r) ∧ Only (fun k => v.ownBlock = some k) w w'
theorem stable19_b (base : Nat) (r : List T4) (v : Value) (w : World) (hb : base ≤ w.heap.size) (hr : r.length ≤ 1000000) (hpos : Pos r) (hown : OwnsOff w base 64 4 v r.length (tcs r)) :
    Calls Try.prog 29 #[v, .int .i64 r.length, .func (.func 22) #[] #[]] w (Sorted19 base r v w) := by
  obtain ⟨_, ⟨rfl, hn⟩ | ⟨g, off, cap, cur, rfl, hge, hcur, hle, hmax, hsz, htake⟩⟩ := id hown
  · have h0 : r = [] := List.eq_nil_of_length_eq_zero hn
    subst h0
    refine (stable_none19 0 w).mono ?_
    rintro e w' ⟨rfl, rfl⟩
    exact ⟨rfl, none, 0, rfl, fun h => absurd h (by simp [ordS]), Only.refl _ _⟩
  · have hblk : g < w.heap.size := (Array.getElem?_eq_some_iff.1 hcur).1
    have hH : HoldsK tc 4 w g off r.toArray := by
      intro j hj
      simp only [size_flatK, List.size_toArray] at hj
      have h1 := flatK_tcs r j (by omega)
      rw [← htake, List.getElem?_take_of_lt (by omega), List.getElem?_drop] at h1
      refine ⟨?_, ?_⟩
      · simp only [World.cell?, hcur]
        simpa using h1
      · simp [World.frozen?, hcur]
    have R : RowK tc 4 w g off r.toArray := ⟨fun _ => rfl, tc_ones, hH, hblk⟩
    have eg : ∀ args w, (callFunc 22 args).run Try.prog w = .ok (.enter 22 args) w := enters_of Try.func22 (by kernel_rfl) rfl
    have ein : ∀ args w, (callFunc 33 args).run Try.prog w = .ok (.enter 33 args) w := enters_of Try.func33 (by kernel_rfl) rfl
    have hstb : Stb (ltOf cf4) lt4 0 r.toArray.size r.toArray := by
      intro i j _ hij hj hl
      have hj' : j < r.length := by simpa using hj
      have hp := List.pairwise_iff_getElem.1 hpos i j (by omega) hj' hij
      have ei : r.toArray[i]! = r[i] := by simp [show i < r.length by omega]
      have ej : r.toArray[j]! = r[j] := by simp [hj']
      rw [ei, ej] at hl ⊢
      rw [lt4_iff] at hl
      rw [cf4_iff]
      omega
    have hins : ∀ (a b : Nat) (d : Array T4) (w' : World), a ≤ b → b ≤ d.size → r.toArray.size = d.size → SWK tc 4 w g off d w' → Calls Try.prog 33 #[.slice (some ⟨g, off, none⟩) d.size cap, .int .i64 a, .int .i64 b, .func (.func 22) #[] #[]] w' fun e w'' => e = .returned (.tuple #[]) ∧ SWK tc 4 w g off (Sort.insertionSort (ltOf cf4) d a b) w'' := by
      intro a b d w' hab hbd hds hS
      have hs' : (Sort.insertionSort (ltOf cf4) d a b).size = d.size := (insertionSort_holds cf4_swo d a b hab hbd).1.1
      have hrz : r.toArray.size = r.length := by simp
      have hdz : d.size < 4611686018427387904 := by omega
      have hcon := AnyQ.insertionSortCmpFunc Try.layIns 4 (fun _ => by kernel_rfl) (fun _ => by kernel_rfl) tc (fun _ => rfl) tc_ones cf4 22 #[] g off cap a b d w' eg (cmpLays19 g off _ w') (hS.holds hblk hH hds.symm) (hS.lt hblk) hab hbd hdz
      change Calls Try.prog 33 _ _ _ at hcon
      refine hcon.mono ?_
      rintro e w'' ⟨rfl, n, os, rfl⟩
      exact ⟨rfl, hS.on hblk n _ os hs'⟩
    have hcon := stable_b stL19 tc 22 #[] g off cap r.toArray w cf4 eg (cmpLays19 g off _ w) lt4 swo4 cf4_ref ein hins r.toArray w R rfl (SWK.start hH) hstb (by simpa using hr)
    rw [show r.toArray.size = r.length by simp] at hcon
    refine hcon.mono ?_
    rintro e w' ⟨rfl, d', ⟨hperm, hsort⟩, n, os, rfl⟩
    have hz : d'.size = r.length := by simpa using hperm.1
    have hd' : d'.toList = ordS r := by
      refine ordS_one ?_ (List.pairwise_iff_getElem.2 fun i j hi hj hij => ?_)
      · have h2 := hperm.2.2
        simp only [List.extract_toArray] at h2
        have e1 : (d'.extract 0 r.length).toList = d'.toList := by rw [← hz]; simp
        rw [e1] at h2
        simpa using h2
      · have hi' : i < d'.size := by simpa using hi
        have hj' : j < d'.size := by simpa using hj
        have := hsort i j (Nat.zero_le _) hij (by omega)
        rw [getElem!_pos d' i hi', getElem!_pos d' j hj'] at this
        simpa using this
    have hH2 := holdsK_sortWorldK_c (enc := tc) (k := 4) (w := w) (blk := g) (off := off) r.toArray d' n os hH hblk (by simp [hz])
    refine ⟨rfl, some ⟨g, off, none⟩, cap, rfl, fun _ => ⟨g, off, rfl, by have := size_sortWorldK_c tc 4 w g off n d' os; omega, fun i x hx j u hu => ?_⟩, only_sorted19.mono (fun k _ e => by rw [e]; rfl)⟩
    rw [← hd'] at hx
    have hi : i < d'.size := by have := (List.getElem?_eq_some_iff.1 hx).1; simpa using this
    have ex : d'[i]! = x := by
      rw [getElem!_pos d' i hi]
      have := (List.getElem?_eq_some_iff.1 hx).2
      simpa using this
    have hc := HoldsK.cells hH2 (fun _ => rfl) hi j u (by rw [ex]; exact hu)
    rw [Addr.add_lit] at hc
    exact hc
set_option maxHeartbeats 1000000 in
theorem sort19_b (base : Nat) (r : List T4) (v : Value) (w : World) (hb : base ≤ w.heap.size) (hr : r.length ≤ 1000000) (hpos : Pos r) (hown : OwnsOff w base 64 4 v r.length (tcs r)) :
    Calls Try.prog 21 #[v, .func (.func 22) #[] #[]] w (Sorted19 base r v w) := by
  have HC := Lib.hid (stable19_b base r v w hb hr hpos hown)
  obtain ⟨A, c, rfl, h1, h2⟩ := hown.slice
  clear hown hpos
  go_enter Try.func21, Try.ntmps21
  go_wp2_with fail
  refine HC.out.mono ?_
  rintro e w2 ⟨rfl, hrest⟩
  have HR := Lib.hid hrest
  clear hrest
  go_wp2
  go_end0
  exact ⟨rfl, HR.out⟩
end Go.Proofs.Ytmonneeikkgllaa
