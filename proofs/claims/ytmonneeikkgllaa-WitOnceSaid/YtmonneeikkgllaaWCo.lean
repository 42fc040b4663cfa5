/- slices.Grow of nothing and slices.Concat of two rows of items, as contracts. No condition but those in the statements. -/
import Derived.Test.YtmonneeikkgllaaWPl
import Derived.Test.YtmonneeikkgllaaWSo
import Derived.Test.YtmonneeikkgllaaKitI
import Derived.BigQuiet
import Derived.IntWalk
import Derived.BigRegion
import Derived.OpenShut
import Derived.Deep.MidRow
import Derived.Lib.Hide
import Derived.Deep.Slices
import Derived.Lib.SmallJoins
import Derived.OwnWalk
import Derived.Lib.AppendZeros
namespace Go.Proofs.Ytmonneeikkgllaa
open WtP Go.RowKit Go.Sort Go.Deep Go.ChangeShapes Go.WideShapes Go.Joins
set_option linter.unusedVariables false
set_option linter.unusedSimpArgs false


theorem cell_at19 {W : World} {b : Nat} {cs : Array Value} {t : TypeId} {m : Nat × Nat} {i : Nat} {v : Value} (h : W.heap[b]? = some (.cells cs t m)) (hv : cs[i]? = some v) : W.cell? ⟨b, i, none⟩ = some v := by
  simp [World.cell?, h, hv]
theorem grow19_b (n : Nat) (w : World) (hn : n ≤ 100000) : Calls Try.prog 26 #[.slice none 0 0, .int .i64 (n : Int)] w (GivesT 64 w []) := by
  obtain ⟨i0, hi, hz0, hz1, hz2⟩ := info_parts Try.infoT19
  have g0 : ¬ ((n : Int) < 0) := by omega
  by_cases h0 : n = 0
  · subst h0
    go_enter Try.func26, Try.ntmps26
    go_wp2
    go_ret
    exact ⟨_, rfl, OwnsOff.nil _ _ _ _, Below.refl _ _⟩
  · have hrun := fun (w : World) (ty : TypeId) => Lib.run_append_nil_zeros (P := Try.prog) w 61 3 ty 64 i0 (.agg #[.int .i64 0, .int .i64 0, .int .i64 0, .int .i64 0]) .i64 .i64 Try.underlying61 Try.underlying3 hi hz0 n (by omega) (by omega) (by omega) (by rw [hz2]; omega)
    have hge := grownCap_ge w n 0 64
    have hcm := grownCap_le_maxLen w n 0 64 (by unfold maxLen; omega)
    have hup := fun w' => upto_row (P := Try.prog) Try.underlying61 hi (some ⟨w.heap.size, 0, none⟩) n (grownCap w n 0 64) 0 (by omega) w'
    have g1 : 0 < (n : Int) := by omega
    go_enter Try.func26, Try.ntmps26
    go_wp2_with (first | (at_builtin; refine Lib.wpList_append_run _ rfl _ _ _ _ rfl _ _ rfl rfl _ _ (hrun _ _) ?_) | (refine wpList_upto rfl _ _ _ rfl _ _ _ rfl rfl (hup _) ?_))
    go_ret
    have hb : Below w.heap.size w (w.alloc (.cells (Builtin.zeroCells #[.int .i64 0, .int .i64 0, .int .i64 0, .int .i64 0] n ++ Builtin.zeroCells #[.int .i64 0, .int .i64 0, .int .i64 0, .int .i64 0] (grownCap w n 0 64 - n)) 64)).drew := ((Below.refl _ _).alloc (Nat.le_refl _) _).drew
    refine ⟨_, rfl, ⟨by simp [tcs], .inr ⟨w.heap.size, 0, grownCap w n 0 64, _, rfl, Nat.le_refl _, heap_alloc_new w _, by simp, hcm, ?_, by simp [tcs]⟩⟩, hb⟩
    simp only [Array.size_append, size_zeroCells, List.size_toArray, List.length_cons, List.length_nil]
    omega
theorem trow_news {w : World} {B : Nat} {a : Addr} {l : List T4} (h : TRow w B (some a) l) : ∀ j u, (tcs l)[j]? = some u → w.cell? (a.add j) = some u := fun j u hu => by
  have hj : j < l.length * 4 := by have := (List.getElem?_eq_some_iff.1 hu).1; rw [tcs_len] at this; exact this
  obtain ⟨b, o, hA, hlt, hc⟩ := h (by omega)
  injection hA with hA
  subst hA
  have hi : j / 4 < l.length := by omega
  have h1 := tcs_at (l := l) (k := j / 4) (x := l[j / 4]) (List.getElem?_eq_getElem hi) (j % 4) (by omega)
  rw [show j / 4 * 4 + j % 4 = j by omega, hu] at h1
  have := hc (j / 4) _ (List.getElem?_eq_getElem hi) (j % 4) u h1.symm
  rw [Addr.add_lit]
  rw [show o + j = o + j / 4 * 4 + j % 4 by omega]
  exact this
theorem tcs_ones (l : List T4) : ∀ u ∈ tcs l, u.oneCell' = true := fun u hu => by
  unfold tcs at hu
  rw [List.mem_flatten] at hu
  obtain ⟨cs, hcs, hu⟩ := hu
  obtain ⟨x, _, rfl⟩ := List.mem_map.1 hcs
  exact tc_ones x u hu
section
variable {P : Program} (w : World)
/-- append(s, row...), the row nil too. -/
theorem run_append_row19 (base : Nat) (t ty : TypeId) (i : TypeInfo) (ht : P.underlying t = some (.slice 64)) (hi : P.info? 64 = some i) (hz : i.zero = some (.agg #[.int .i64 0, .int .i64 0, .int .i64 0, .int .i64 0])) (hsize : i.size = 4) (hby : i.bytes = 32)
    (v : Value) (n : Nat) (xs : List Value) (hown : OwnsOff w base 64 4 v n xs) (B : Nat) (A : Option Addr) (c : Nat) (ys : List T4) (hrow : TRow w B A ys) (hnil : A = none → ys = [])
    (h63 : n + ys.length ≤ 1000000) (hbase : base ≤ w.heap.size) :
    ∃ v' w', (Builtin.append_ #[t, t] ty #[v, .slice A ys.length c]).run P w = .ok v' w' ∧ OwnsOff w' base 64 4 v' (n + ys.length) (xs ++ tcs ys) ∧ w.grownBy w' v.ownBlock ∧
      (∀ g, v'.ownBlock = some g → v.ownBlock = some g ∨ w.heap.size ≤ g) := by
  cases A with
  | some a => exact run_append_off (P := P) w base t ty 64 i (.agg #[.int .i64 0, .int .i64 0, .int .i64 0, .int .i64 0]) 4 32 ht hi hz hsize hby rfl (by decide) v n xs hown a ys.length c (tcs ys) (tcs_len ys) (trow_news hrow) (tcs_ones ys) (by unfold maxLen; omega) (by omega) hbase
  | none =>
    obtain rfl := hnil rfl
    refine ⟨v, w, ?_, by simpa [tcs] using hown, ⟨rfl, rfl, rfl, Nat.le_refl _, fun _ _ _ => rfl⟩, fun g h => .inl h⟩
    rcases hown.2 with ⟨rfl, rfl⟩ | ⟨g, off, cap, cur, rfl, hb, hg, hnc, hcm, hcs, htk⟩
    · simp [Builtin.append_, run_underlying ht, sizeOf, typeInfo, hi, Builtin.lenOf, Builtin.firstCells]
    · simp [Builtin.append_, run_underlying ht, sizeOf, typeInfo, hi, Builtin.lenOf, Builtin.firstCells, hnc, storeCells]
theorem wpList_append_row19 {ops : Array Oper} {rest : List Oper} {o : Oper} {a : Act} {Q : Exit → Act → World → Prop} (hgd : o.guard = none) (s x : Operand) (t : TypeId)
    (ho : o.op = .call { callee := .builtin .append, args := #[s, x], argTypes := #[t, t] })
    (base : Nat) (i : TypeInfo) (ht : P.underlying t = some (.slice 64)) (hi : P.info? 64 = some i) (hz : i.zero = some (.agg #[.int .i64 0, .int .i64 0, .int .i64 0, .int .i64 0])) (hsize : i.size = 4) (hby : i.bytes = 32)
    (v : Value) (n : Nat) (xs : List Value) (hs : a.eval s = v) (hown : OwnsOff w base 64 4 v n xs) (B : Nat) (A : Option Addr) (c : Nat) (ys : List T4) (hx : a.eval x = .slice A ys.length c) (hrow : TRow w B A ys) (hnil : A = none → ys = [])
    (h63 : n + ys.length ≤ 1000000) (hbase : base ≤ w.heap.size)
    (h : ∀ v' w', OwnsOff w' base 64 4 v' (n + ys.length) (xs ++ tcs ys) → w.grownBy w' v.ownBlock → (∀ g, v'.ownBlock = some g → v.ownBlock = some g ∨ w.heap.size ≤ g) → wpList P ops Q rest (a.put o.dst v') w') : wpList P ops Q (o :: rest) a w := by
  refine wpList_plain hgd fun K hK' => ?_
  obtain ⟨v', w', hrun, r1, r2, r3⟩ := run_append_row19 (P := P) w base t o.type i ht hi hz hsize hby v n xs hown B A c ys hrow hnil h63 hbase
  unfold Oper.wp
  simp [execOp, ho, resolve, invoke, builtin, hs, hx, hrun, Result.andThen]
  exact hK' _ _ (h v' w' r1 r2 r3)
end
theorem own_nil19 {w : World} {B n : Nat} {A : Option Addr} {c : Nat} {e : TypeId} {l : List T4} (h : OwnsOff w B e 4 (.slice A n c) n (tcs l)) (hn : n = l.length) : A = none → l = [] := fun hA => by
  subst hA
  rcases h.2 with ⟨_, h0⟩ | ⟨g, off, cap, cur, hv, _⟩
  · exact List.eq_nil_of_length_eq_zero (by omega)
  · cases hv
set_option maxRecDepth 100000 in
set_option maxHeartbeats 4000000 in
theorem concat19_b (xs ys : List T4) (A1 A2 : Option Addr) (c1 c2 pb : Nat) (w : World) (hx : xs.length ≤ 1000) (hy : ys.length ≤ 1000) (hp : w.heap[pb]? = some (.cells #[.slice A1 xs.length c1, .slice A2 ys.length c2] 61 (0, 0)))
    (h1 : TRow w w.heap.size A1 xs) (n1 : A1 = none → xs = []) (h2 : TRow w w.heap.size A2 ys) (n2 : A2 = none → ys = []) :
    Calls Try.prog 18 #[.slice (some ⟨pb, 0, none⟩) 2 2] w (GivesT 64 w (xs ++ ys)) := by
  obtain ⟨z0, hz0, hz1, hz2, hz3⟩ := info_parts Try.infoT19
  have hpl := (Array.getElem?_eq_some_iff.1 hp).1
  have p0 := cell_at19 hp (i := 0) rfl
  have p1 := cell_at19 hp (i := 1) rfl
  have HP := Lib.hid hp; have HPL := Lib.hid hpl; have H1 := Lib.hid h1; have H2 := Lib.hid h2; have N1 := Lib.hid n1; have N2 := Lib.hid n2
  clear hp hpl h1 h2 n1 n2
  have g1 : ¬ ((xs.length : Int) < 0) := by omega
  have g2 : ¬ ((xs.length : Int) + (ys.length : Int) < 0) := by omega
  have s0 : (0 : Int) + (xs.length : Int) = (xs.length : Int) := by omega
  have s1 : IntKind.i64.wrap ((xs.length : Int) + (ys.length : Int)) = (xs.length : Int) + (ys.length : Int) := by rw [IntKind.wrap_i64]; omega
  go_enter Try.func18, Try.ntmps18
  go_wp2
  go_loopw [3, 11] (fun sv ix wr => wr = w ∧ ∃ j : Nat, j ≤ 2 ∧ ix = .int .i64 j ∧ sv = .int .i64 ((if j = 0 then 0 else if j = 1 then xs.length else xs.length + ys.length : Nat) : Int)) (fun _ ix _ => 2 - (intOf ix).toNat)
  case atStart => exact ⟨rfl, 0, by omega, rfl, rfl⟩
  case round =>
    obtain ⟨rfl, j, hj, rfl, rfl⟩ := hrel
    have hj3 : j = 0 ∨ j = 1 ∨ j = 2 := by omega
    rcases hj3 with rfl | rfl | rfl
    · simp only [if_true]
      go_wp2
      go_roundw
      case rel => exact ⟨by trivial, 1, by omega, by go_num, by simp⟩
      case measure => simp [intOf]
    · simp only [Nat.one_ne_zero, if_false, if_true]
      go_wp2
      go_roundw
      case rel => exact ⟨by trivial, 2, by omega, by go_num, by simp⟩
      case measure => simp [intOf]
    · simp only [show ¬ (2 : Nat) = 0 by omega, show ¬ (2 : Nat) = 1 by omega, if_false]
      clear s1
      go_wp2_with fail
      refine (grow19_b (xs.length + ys.length) _ (by omega)).mono ?_
      rintro e w1 ⟨v0, rfl, hown, hb⟩
      obtain ⟨wo, rfl⟩ : ∃ wo, wo = wr := ⟨_, rfl⟩
      have HOWN := Lib.hid hown; have HB := Lib.hid hb
      clear hown hb p0 p1
      go_wp2_with fail
      go_loopw [6, 27] (fun v ix wv => ∃ (j : Nat) (zs : List T4), j ≤ 2 ∧ ix = .int .i64 j ∧ OwnsOff wv wo.heap.size 64 4 v zs.length (tcs zs) ∧ Below wo.heap.size wo wv ∧ Hid (zs = if j = 0 then [] else if j = 1 then xs else xs ++ ys)) (fun _ ix _ => 2 - (intOf ix).toNat)
      case atStart => exact ⟨0, [], by omega, rfl, HOWN.out, HB.out, rfl⟩
      case round =>
        obtain ⟨j, zs, hj, rfl, hown, hbr, hz⟩ := hrel
        have q0 := cell_at19 ((hbr.block pb HPL.out).trans HP.out) (i := 0) rfl
        have q1 := cell_at19 ((hbr.block pb HPL.out).trans HP.out) (i := 1) rfl
        have hsz := hbr.size
        have HBR := Lib.hid hbr
        clear hbr
        have hj3 : j = 0 ∨ j = 1 ∨ j = 2 := by omega
        rcases hj3 with rfl | rfl | rfl
        · have hz' : zs = [] := hz.out
          subst hz'
          clear hz
          go_wp2_with (at_builtin; refine wpList_append_row19 _ rfl _ _ 61 rfl wo.heap.size z0 Try.underlying61 hz0 hz1 hz2 hz3 _ _ _ rfl hown _ A1 c1 xs rfl (H1.out.below HBR.out) N1.out (by simp; omega) hsz ?_)
          intro v' w2 hown' hgrow _
          have hb2 := Lib.hid (HBR.out.grown hgrow hsz (fun q hq => (hown.lt q hq).1))
          have W2 : Hid (OwnsOff w2 wo.heap.size 64 4 v' xs.length (tcs xs)) := Lib.hid (by have := hown'; simpa [tcs] using this)
          clear hown' hgrow hown q0 q1
          go_wp2
          go_roundw
          case rel => exact ⟨1, xs, by omega, by go_num, W2.out, hb2.out, rfl⟩
          case measure => simp [intOf]
        · have hz' : zs = xs := hz.out
          subst hz'
          clear hz
          go_wp2_with (at_builtin; refine wpList_append_row19 _ rfl _ _ 61 rfl wo.heap.size z0 Try.underlying61 hz0 hz1 hz2 hz3 _ _ _ rfl hown _ A2 c2 ys rfl (H2.out.below HBR.out) N2.out (by omega) hsz ?_)
          intro v' w2 hown' hgrow _
          have hb2 := Lib.hid (HBR.out.grown hgrow hsz (fun q hq => (hown.lt q hq).1))
          have W2 : Hid (OwnsOff w2 wo.heap.size 64 4 v' (zs ++ ys).length (tcs (zs ++ ys))) := Lib.hid (by rw [List.length_append, tcs_app]; exact hown')
          clear hown' hgrow hown q0 q1
          go_wp2
          go_roundw
          case rel => exact ⟨2, zs ++ ys, by omega, by go_num, W2.out, hb2.out, rfl⟩
          case measure => simp [intOf]
        · have hz' : zs = xs ++ ys := hz.out
          subst hz'
          have HW := Lib.hid hown
          clear hz hown q0 q1
          go_wp2
          go_ret
          exact ⟨_, rfl, HW.out, HBR.out⟩
end Go.Proofs.Ytmonneeikkgllaa
