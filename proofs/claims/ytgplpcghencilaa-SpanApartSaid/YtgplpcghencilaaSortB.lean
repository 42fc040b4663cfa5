/- What the library's sort does to a row of spans of the caller's own: SortSays. No condition. -/
import Derived.Test.YtgplpcghencilaaSApart
import Derived.Test.YtgplpcghencilaaShelfP
namespace Go.Proofs.Ytgplpcghencilaa
open Go.RowKit Go.Sort Go.Shelf

def enc2 (p : Int × Int) : List Value := [.int .i64 p.1, .int .i64 p.2]
theorem lt_cmp (x y : Int × Int) : ltOf (fun x y : Int × Int => cmpI x.1 y.1) x y = decide (x.1 < y.1) := by
  unfold ltOf cmpI
  by_cases h1 : x.1 < y.1
  · simp [h1]
  · by_cases h2 : y.1 < x.1 <;> simp [h1, h2]
theorem swo_cmp : SWO (ltOf fun x y : Int × Int => cmpI x.1 y.1) where
  irrefl x := by rw [lt_cmp]; simp
  trans x y z h1 h2 := by rw [lt_cmp] at *; simp at *; omega
  ntrans x y z h1 h2 := by rw [lt_cmp] at *; simp at *; omega
theorem cmpLays (blk off size : Nat) (w : World) : CmpLays Try.prog 26 #[] enc2 2 (fun x y => cmpI x.1 y.1) blk off size w :=
  fun _ _ _ _ x y => closure_b x y _
theorem isAggS : ∀ w, (isAgg 23).run Try.prog w = .ok true w := fun _ => by kernel_rfl
theorem sizeOfS : ∀ w, (Go.sizeOf 23).run Try.prog w = .ok 2 w := fun _ => by kernel_rfl

theorem mapBlock_other (w : World) (blk k : Nat) (f : Array Value → Array Value) (h : k ≠ blk) : (mapBlock w blk f).heap[k]? = w.heap[k]? := by
  simp only [mapBlock, Array.getElem?_modify]; rw [if_neg (by omega)]
theorem below_sorted {base g n : Nat} {w : World} {d : Array (Int × Int)} {os : Array Obj} (hg : base ≤ g) (hb : base ≤ w.heap.size) : Below base w (sortWorldK enc2 2 w g 0 n d os) := by
  refine ⟨rfl, rfl, rfl, ?_, fun k hk => ?_⟩
  · simp [sortWorldK, putRowK, putRow, mapBlock, Sort.ahead, grow]
  · unfold sortWorldK
    rw [heap_grow_old _ _ (by simp [putRowK, putRow, mapBlock, Sort.ahead]; omega)]
    exact mapBlock_other _ _ _ _ (by omega)
theorem holds_own {w : World} {g : Nat} {cur : Array Value} {r : List (Int × Int)} (hcur : w.heap[g]? = some (Obj.cells cur 23 (0, 0))) (htake : cur.toList.take (r.length * 2) = flat r) : HoldsK enc2 2 w g 0 r.toArray := by
  intro j hj
  simp only [size_flatK, List.size_toArray] at hj
  have hfl : j < (flat r).length := by rw [flat_len]; exact hj
  have h1 : (flat r)[j]? = cur[j]? := by
    rw [← htake, List.getElem?_take_of_lt hj]; simp
  have h2 : (flat r)[j]? = some ((flatK enc2 2 r.toArray)[j]!) := by
    rw [get_flatK _ _ _ _ (by simpa using hj)]
    obtain ⟨g1, g2⟩ := flat_at r (j / 2) (by omega)
    have hd : r.toArray[j / 2]! = r.getD (j / 2) (0, 0) := by simp [List.getD_eq_getElem?_getD, show j / 2 < r.length by omega]
    rw [hd]
    by_cases hp : j % 2 = 0
    · rw [hp, show j = j / 2 * 2 by omega, g1, show j / 2 * 2 / 2 = j / 2 by omega]; rfl
    · have hp1 : j % 2 = 1 := by omega
      rw [hp1, show j = j / 2 * 2 + 1 by omega, g2, show (j / 2 * 2 + 1) / 2 = j / 2 by omega]; rfl
  rw [h2] at h1
  refine ⟨?_, ?_⟩
  · simp [World.cell?, hcur, ← h1]
  · simp [World.frozen?, hcur]

theorem sort_b : SortSays := by
  intro base r v w hb hr hown
  obtain ⟨_, ⟨rfl, hn⟩ | ⟨g, cap, cur, rfl, hge, hcur, hle, hmax, hsz, htake⟩⟩ := hown
  · have h0 : r = [] := List.eq_nil_of_length_eq_zero hn
    subst h0
    have hcon := AnyF.slices_SortFunc_none { Try.sortS with } none 0 (.func (.func 26) #[] #[]) w
    change Calls Try.prog 25 _ _ _ at hcon
    exact hcon.mono fun e w' ⟨he, hw⟩ => ⟨he, [], none, 0, List.Perm.refl _, (fun i j _ h => by simp at h), rfl, (fun h => by simp at h), by rw [hw]; exact Below.refl _ _⟩
  · have hH := holds_own hcur htake
    have hblk : g < w.heap.size := (Array.getElem?_eq_some_iff.1 hcur).1
    have eg : ∀ args w, (callFunc 26 args).run Try.prog w = .ok (.enter 26 args) w := enters_of Try.func26 (by kernel_rfl) rfl
    have hcon := AnyQ.slices_SortFunc Try.sortS 2 isAggS sizeOfS enc2 (fun _ => rfl) (fun x v hv => by simp [enc2] at hv; rcases hv with rfl | rfl <;> rfl) (fun x y => cmpI x.1 y.1) swo_cmp 26 #[] g 0 cap r.toArray w eg (cmpLays g 0 _ w) hH hblk (by simp; omega)
    change Calls Try.prog 25 _ _ _ at hcon
    refine hcon.mono ?_
    rintro e w' ⟨he, d', n, os, ⟨hs, _, hp⟩, hso, rfl⟩
    have hsz' : d'.size = r.length := by simpa using hs
    refine ⟨he, d'.toList, some ⟨g, 0, none⟩, cap, ?_, ?_, rfl, ?_, below_sorted hge hb⟩
    · have h2 : (List.take r.length d'.toList).Perm r := by simpa using hp
      rwa [List.take_of_length_le (by simp; omega)] at h2
    · intro i j hij hj
      simp only [Array.length_toList] at hj
      have h := hso i j (Nat.zero_le _) hij (by simp; omega)
      rw [lt_cmp] at h
      simp only [decide_eq_false_iff_not] at h
      have e1 : d'.toList.getD i (0, 0) = d'[i]! := by simp [List.getD_eq_getElem?_getD, show i < d'.size by omega]
      have e2 : d'.toList.getD j (0, 0) = d'[j]! := by simp [List.getD_eq_getElem?_getD, hj]
      rw [e1, e2]; omega
    · intro hp0
      have hH2 := holdsK_sortWorldK_c (enc := enc2) (k := 2) (w := w) (blk := g) (off := 0) r.toArray d' n os hH hblk (by simp [hsz'])
      refine ⟨g, 0, rfl, ?_, fun i hi => ?_⟩
      · have := (below_sorted (n := n) (d := d') (os := os) hge hb).size; omega
      · simp only [Array.length_toList] at hi
        have e1 : d'.toList.getD i (0, 0) = d'[i]! := by simp [List.getD_eq_getElem?_getD, hi]
        have h0 := (hH2.cell (i := i) (c := 0) hi (by omega)).1
        have h1 := (hH2.cell (i := i) (c := 1) hi (by omega)).1
        rw [e1]
        exact ⟨by simpa [enc2] using h0, by simpa [enc2] using h1⟩

theorem spanApart_all (l : List (Int × Int)) (A : Option Addr) (c : Nat) (w : World) (hrow : PairRow w w.heap.size A l) :
    Calls Try.prog 5 #[.slice A l.length c] w fun e w' => e = .returned (.bool true) ∧ Below w.heap.size w w' := spanApart_walk sort_b l A c w hrow
end Go.Proofs.Ytgplpcghencilaa
