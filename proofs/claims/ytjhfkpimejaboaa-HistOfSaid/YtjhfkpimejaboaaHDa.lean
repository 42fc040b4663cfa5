/- Calls opened with their sizes. No condition but those in the statements. -/
import Derived.Test.YtjhfkpimejaboaaHCl
import Derived.BigQuiet
import Derived.IntWalk
import Derived.BigRegion
import Derived.OpenShut
import Derived.Deep.MidRow
import Derived.Deep.Slices
import Derived.Lib.SmallJoins
import Derived.SizedLaws
namespace Go.Proofs.Ytjhfkpimejaboaa
open Go.RowKit Go.Sort Go.Deep Go.ChangeShapes Go.WideShapes Go.Joins
set_option linter.unusedVariables false
set_option linter.unusedSimpArgs false


/-- A call's lists are within reach. -/
def CSz (R : Nat) (v : CV) : Prop := v.rd.length * 4 ≤ R ∧ v.ad.length * 4 ≤ R
section
variable {H : Type} {enc : TypeId × Value → H} {w : World}
theorem agg_part {P : Program} {t tj : TypeId} {fs : Array Field} {ds : List (DataW H)} {d : DataW H} (hu : P.underlying t = some (.struct fs)) {j : Nat} (hj : (fs.toList.map (·.type))[j]? = some tj) (hd : ds[j]? = some d) : ∀ m ∈ d.weights P tj, m ∈ (DataW.agg ds).weights P t := fun m hm => by
  simp only [DataW.weights, hu]
  exact DataW.weights_mem_each hj hd m hm
theorem elem_part {P : Program} {e : TypeId} : ∀ {ds : List (DataW H)} {d : DataW H}, d ∈ ds → ∀ m ∈ d.weights P e, m ∈ DataW.weightsAll P e ds
  | x :: r, d, hd, m, hm => by
    simp only [DataW.weightsAll, List.mem_append]
    rcases List.mem_cons.1 hd with rfl | hd
    · exact .inl hm
    · exact .inr (elem_part hd m hm)
theorem ints_weight {n : Nat} {a : Option Addr} {len cap R : Nat} {x : DataW H × List MemPlace} (h : DataW.trod enc Try.prog w 0 (fun _ => true) true n 27 [.slice a len cap] = some x) (hR : ∀ m ∈ x.1.weights Try.prog 27, m ≤ R) : len * 4 ≤ R := by
  have k1 : Try.prog.cellsOf 63 = 1 := by kernel_rfl
  have k2 : Try.prog.bytesOf 63 = 4 := by kernel_rfl
  rcases open_ints Try.underlying27 Try.underlying63 k1 h with ⟨hcs, _⟩ | ⟨a', len', cap', zs, hcs, _, hl, hm, hzl, rfl, _, _⟩
  · simp at hcs
    omega
  · simp at hcs
    obtain ⟨rfl, rfl, rfl⟩ := hcs
    simp at hzl
    have := hR (((lits .u32 (zs.take len)).length + (lits .u32 (zs.drop len)).length) * 4) (by simp [DataW.weights, Try.underlying27, k2]; exact .inl rfl)
    simp [lits] at this
    omega
set_option maxRecDepth 100000 in
theorem open_callD {n : Nat} {cs : List Value} {x : DataW H × List MemPlace} (h : DataW.trod enc Try.prog w 0 (fun _ => true) true n 34 cs = some x) : ∃ v : CV, cs = cCells v ∧ CWf v ∧ CRows w w.heap.size v ∧ ∀ R, (∀ m ∈ x.1.weights Try.prog 34, m ≤ R) → CSz R v := by
  obtain ⟨xs, m, _, hxe, hcl, hxl, hf⟩ := DataW.trod_struct Try.underlying34 h
  obtain ⟨x0, x1, x2, x3, x4, x5, x6, x7, x8, x9, x10, x11, x12, x13, x14, x15, x16, x17, x18, x19, rfl⟩ := list20 (hcl.trans (by kernel_rfl))
  simp only [List.size_toArray, List.length_cons, List.length_nil] at hxl
  have h0 := hf 0 _ rfl
  have h1 := hf 1 _ rfl
  have h2 := hf 2 _ rfl
  have h3 := hf 3 _ rfl
  have h4 := hf 4 _ rfl
  have h5 := hf 5 _ rfl
  have h6 := hf 6 _ rfl
  have h7 := hf 7 _ rfl
  have h8 := hf 8 _ rfl
  have h9 := hf 9 _ rfl
  have h10 := hf 10 _ rfl
  have h11 := hf 11 _ rfl
  have h12 := hf 12 _ rfl
  have h13 := hf 13 _ rfl
  have k0 : Try.prog.cellsOf 3 = 1 := by kernel_rfl
  have k1 : Try.prog.cellsOf 4 = 1 := by kernel_rfl
  have k2 : Try.prog.cellsOf 29 = 4 := by kernel_rfl
  have k3 : Try.prog.cellsOf 32 = 4 := by kernel_rfl
  have k4 : Try.prog.cellsOf 26 = 1 := by kernel_rfl
  have k5 : Try.prog.cellsOf 27 = 1 := by kernel_rfl
  have k6 : Try.prog.cellsOf 30 = 1 := by kernel_rfl
  have k7 : Try.prog.cellsOf 63 = 1 := by kernel_rfl
  rw [List.getElem?_eq_getElem (by omega)] at h0 h1 h2 h3 h4 h5 h6 h7 h8 h9 h10 h11 h12 h13
  simp [k0, k1, k2, k3] at h0 h1 h2 h3 h4 h5 h6 h7 h8 h9 h10 h11 h12 h13
  obtain ⟨n_part, e_part, _, w_part⟩ := DataW.trod_int Try.underlying3 h0
  obtain ⟨n_done, e_done, _⟩ := DataW.trod_bool Try.underlying4 h3
  obtain ⟨n_frm, e_frm, _, w_frm⟩ := DataW.trod_int Try.underlying3 h4
  obtain ⟨n_to, e_to, _, w_to⟩ := DataW.trod_int Try.underlying3 h5
  obtain ⟨n_t0, e_t0, _, w_t0⟩ := DataW.trod_int Try.underlying3 h6
  obtain ⟨n_t1, e_t1, _, w_t1⟩ := DataW.trod_int Try.underlying3 h7
  obtain ⟨n_own0, e_own0, _, w_own0⟩ := DataW.trod_int Try.underlying3 h8
  obtain ⟨n_own1, e_own1, _, w_own1⟩ := DataW.trod_int Try.underlying3 h9
  obtain ⟨n_mark, e_mark, _, w_mark⟩ := DataW.trod_int Try.underlying3 h10
  obtain ⟨n_ring, e_ring, _, w_ring⟩ := DataW.trod_int Try.underlying3 h11
  obtain ⟨n_stamp, e_stamp, _, w_stamp⟩ := DataW.trod_int Try.underlying3 h12
  obtain ⟨n_saw, e_saw, _, w_saw⟩ := DataW.trod_int Try.underlying3 h13
  obtain ⟨ys1, m1, _, hx1, _, hyl1, hg1⟩ := DataW.trod_struct Try.underlying29 h1
  simp only [List.size_toArray, List.length_cons, List.length_nil] at hyl1
  have g10 := hg1 0 _ rfl
  have g11 := hg1 1 _ rfl
  have g12 := hg1 2 _ rfl
  have g13 := hg1 3 _ rfl
  rw [List.getElem?_eq_getElem (by omega)] at g10 g11 g12 g13
  simp [k0, k1, k4, k5, k6] at g10 g11 g12 g13
  obtain ⟨n_op, e_op, _, w_op⟩ := DataW.trod_int Try.underlying3 g10
  obtain ⟨n_port, e_port, _, w_port⟩ := DataW.trod_int Try.underlying3 g11
  obtain ⟨n_addr, e_addr, _, w_addr⟩ := DataW.trod_int Try.underlying26 g12
  obtain ⟨a_rd, q_rd, c_rd, e_rd⟩ := slice_form Try.underlying27 g13
  rw [e_rd] at g13
  obtain ⟨l_rd, rfl, lc_rd, lm_rd, ln_rd, r_rd, _⟩ := ints_argK .u32 Try.underlying27 Try.underlying63 k7 ⟨_, g13⟩
  obtain ⟨ys2, m2, _, hx2, _, hyl2, hg2⟩ := DataW.trod_struct Try.underlying32 h2
  simp only [List.size_toArray, List.length_cons, List.length_nil] at hyl2
  have g20 := hg2 0 _ rfl
  have g21 := hg2 1 _ rfl
  have g22 := hg2 2 _ rfl
  have g23 := hg2 3 _ rfl
  rw [List.getElem?_eq_getElem (by omega)] at g20 g21 g22 g23
  simp [k0, k1, k4, k5, k6] at g20 g21 g22 g23
  obtain ⟨n_code, e_code, _, w_code⟩ := DataW.trod_int Try.underlying30 g20
  obtain ⟨a_ad, q_ad, c_ad, e_ad⟩ := slice_form Try.underlying27 g21
  rw [e_ad] at g21
  obtain ⟨l_ad, rfl, lc_ad, lm_ad, ln_ad, r_ad, _⟩ := ints_argK .u32 Try.underlying27 Try.underlying63 k7 ⟨_, g21⟩
  obtain ⟨n_valid, e_valid, _⟩ := DataW.trod_bool Try.underlying4 g22
  obtain ⟨n_count, e_count, _, w_count⟩ := DataW.trod_int Try.underlying3 g23
  have S1 : ∀ R, (∀ m ∈ x.1.weights Try.prog 34, m ≤ R) → l_rd.length * 4 ≤ R := fun R hR => ints_weight g13 (fun m hm => hR m (by
    rw [hxe]
    refine agg_part Try.underlying34 (j := 1) rfl (by rw [List.getElem?_map, List.getElem?_eq_getElem (by omega)]; rfl) m ?_
    rw [hx1]
    exact agg_part Try.underlying29 (j := 3) rfl (by rw [List.getElem?_map, List.getElem?_eq_getElem (by omega)]; rfl) m hm))
  have S2 : ∀ R, (∀ m ∈ x.1.weights Try.prog 34, m ≤ R) → l_ad.length * 4 ≤ R := fun R hR => ints_weight g21 (fun m hm => hR m (by
    rw [hxe]
    refine agg_part Try.underlying34 (j := 2) rfl (by rw [List.getElem?_map, List.getElem?_eq_getElem (by omega)]; rfl) m ?_
    rw [hx2]
    exact agg_part Try.underlying32 (j := 1) rfl (by rw [List.getElem?_map, List.getElem?_eq_getElem (by omega)]; rfl) m hm))
  simp at e_part e_done e_frm e_to e_t0 e_t1 e_own0 e_own1 e_mark e_ring e_stamp e_saw e_op e_port e_addr e_rd e_code e_ad e_valid e_count
  subst e_part e_done e_frm e_to e_t0 e_t1 e_own0 e_own1 e_mark e_ring e_stamp e_saw e_op e_port e_addr e_rd e_code e_ad e_valid e_count
  refine ⟨⟨n_part, n_op, n_port, n_addr, l_rd, a_rd, c_rd, n_code, l_ad, a_ad, c_ad, n_valid, n_count, n_done, n_frm, n_to, n_t0, n_t1, n_own0, n_own1, n_mark, n_ring, n_stamp, n_saw⟩, by unfold cCells; rfl, ⟨w_part, w_own0, w_own1⟩, ⟨r_rd, ⟨lc_rd, lm_rd, ln_rd⟩, r_ad, ⟨lc_ad, lm_ad, ln_ad⟩⟩, fun R hR => ⟨S1 R hR, S2 R hR⟩⟩
theorem calls_argD {R : Nat} {a : Option Addr} {len cap : Nat} {d : DataW H} {p : List MemPlace} (h : DataW.Trod enc Try.prog w 0 (fun _ => true) true 22 (.slice a len cap) d p) (hR : ∀ m ∈ d.weights Try.prog 22, m ≤ R) :
    ∃ l : List CV, len = l.length ∧ len ≤ cap ∧ cap ≤ maxLen ∧ (a = none → l = []) ∧ CRow w w.heap.size a l ∧ ∀ (i : Nat) (v : CV), l[i]? = some v → CSz R v := by
  obtain ⟨fuel, h⟩ := h
  simp only [Value.cells] at h
  rcases open_slice Try.underlying22 h with ⟨hcs, _⟩ | ⟨a', len', cap', m, n', D, Pl, hcs, _, hl, hm, hmm, hxx, hx⟩
  · simp at hcs
    obtain ⟨rfl, rfl, rfl⟩ := hcs
    exact ⟨[], rfl, Nat.le_refl _, by unfold maxLen; omega, fun _ => rfl, (fun hn => absurd hn (by simp)), fun i v hv => by simp at hv⟩
  · simp at hcs
    obtain ⟨rfl, rfl, rfl⟩ := hcs
    have hlm : len ≤ m := by rw [hmm]; split <;> omega
    have hC : Try.prog.cellsOf 34 = 20 := by kernel_rfl
    have hd : d = .slice ((List.range len).map D) ((List.range (m - len)).map fun j => D (len + j)) := congrArg Prod.fst hxx
    obtain ⟨F, hF⟩ := choose_lt (n := len) (α := CV) (p := fun i v => w.cells? 0 (a'.add (i * 20)) 20 = some (cCells v) ∧ CWf v ∧ CRows w w.heap.size v ∧ CSz R v) (fun i hi => by
      obtain ⟨cs', h1, h2⟩ := hx i (by omega)
      rw [hC] at h1
      obtain ⟨v, rfl, hw, hr, hs⟩ := open_callD h2
      exact ⟨v, h1, hw, hr, hs R (fun q hq => hR q (by
        rw [hd]
        simp only [DataW.weights, Try.underlying22, List.mem_cons, List.mem_append]
        exact .inr (.inl (elem_part (List.mem_map.2 ⟨i, List.mem_range.2 hi, rfl⟩) q hq))))⟩)
    refine ⟨(List.range len).map F, by simp, hl, hm, (fun h => by cases h), fun hq => ?_, fun i v hv => ?_⟩
    · simp at hq
      obtain ⟨b, off, spot⟩ := a'
      obtain ⟨_, hlen0, hc0⟩ := World.cells?_some (hF 0 hq).1
      have hc := hc0 0 (by omega)
      rw [cCells_part] at hc
      have hspot : spot = none := by simpa [Addr.add] using World.cell?_spot hc
      subst hspot
      have hblk : b < w.heap.size := by
        have := World.block_lt_of_cell? w _ hc
        simpa [Addr.add] using this
      refine ⟨b, off, rfl, hblk, fun i v hv => ?_⟩
      have hi : i < len := by have := (List.getElem?_eq_some_iff.1 hv).1; simpa using this
      simp [hi] at hv
      subst hv
      obtain ⟨h1, h2, h3, -⟩ := hF i hi
      obtain ⟨_, hlen1, hc1⟩ := World.cells?_some h1
      refine ⟨fun j x hx => ?_, h3, h2⟩
      have hj : j < 20 := by have := (List.getElem?_eq_some_iff.1 hx).1; rw [cCells_len] at this; exact this
      have := hc1 j hj
      rw [hx, add_add, Addr.add_lit, ← Nat.add_assoc] at this
      exact this
    · have hi : i < len := by have := (List.getElem?_eq_some_iff.1 hv).1; simpa using this
      simp [hi] at hv
      subst hv
      exact (hF i hi).2.2.2
end
end Go.Proofs.Ytjhfkpimejaboaa
