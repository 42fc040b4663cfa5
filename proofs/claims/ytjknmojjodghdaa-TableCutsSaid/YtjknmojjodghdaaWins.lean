/- The document's count and windows, as contracts. No condition but those in the statements. -/
import Derived.Test.YtjknmojjodghdaaParse
import Derived.Deep.RegionLaw
import Derived.Deep.RegionLawGrows
import Derived.IntWalk
namespace Go.Proofs.Ytjknmojjodghdaa
open Go.RowKit Go.Sort Go.ChangeShapes Go.WideShapes
set_option linter.unusedVariables false
set_option linter.unusedSimpArgs false


theorem step_append_off {P : Program} {ops : Array Oper} {o : Oper} {a : Act} {w : World} {K : Act → World → Prop} {Q : Exit → Act → World → Prop} {E : Prop} (hgd : o.guard = none) (s x : Operand) (t : TypeId)
    (ho : o.op = .call { callee := .builtin .append, args := #[s, x], argTypes := #[t, t] })
    (base : Nat) (e : TypeId) (i : TypeInfo) (z : Value) (size bytes : Nat) (ht : P.underlying t = some (.slice e)) (hi : P.info? e = some i) (hz : i.zero = some z)
    (hsize : i.size = size) (hby : i.bytes = bytes) (hzs : z.cells.size = size) (hsz : 0 < size)
    (v : Value) (n : Nat) (xs : List Value) (hs : a.eval s = v) (hown : OwnsOff w base e size v n xs)
    (ad : Addr) (m c : Nat) (news : List Value) (hx : a.eval x = .slice (some ad) m c) (hl : news.length = m * size) (hnews : ∀ j u, news[j]? = some u → w.cell? (ad.add j) = some u) (h1 : ∀ u ∈ news, u.oneCell' = true)
    (h63 : n + m ≤ maxLen) (hbytes : (n + m) * bytes ≤ 140737488355328) (hbase : base ≤ w.heap.size)
    (h : ∀ v' w', OwnsOff w' base e size v' (n + m) (xs ++ news) → w.grownBy w' v.ownBlock → (∀ g, v'.ownBlock = some g → v.ownBlock = some g ∨ w.heap.size ≤ g) → K (a.put o.dst v') w') :
    if Region.wanted o (yielded ops a.tmps) = true then Oper.wp P o a w K Q else E := by
  have hw : Region.wanted o (yielded ops a.tmps) = true := by simp [Region.wanted, hgd]
  rw [if_pos hw]
  obtain ⟨v', w', hrun, r1, r2, r3⟩ := run_append_off (P := P) w base t o.type e i z size bytes ht hi hz hsize hby hzs hsz v n xs hown ad m c news hl hnews h1 h63 hbytes hbase
  unfold Oper.wp
  simp [execOp, ho, resolve, invoke, builtin, hs, hx, hrun, Result.andThen]
  exact h v' w' r1 r2 r3

/-- The cells to be appended, out of a block that is known whole. -/
theorem news_block {w : World} {B : Nat} {cs : Array Value} {t : TypeId} {fr : Nat × Nat} (hb : w.heap[B]? = some (.cells cs t fr)) : ∀ j u, cs.toList[j]? = some u → w.cell? ((⟨B, 0, none⟩ : Addr).add j) = some u := fun j u hu => by
  rw [Addr.add_lit, Nat.zero_add]
  simp [World.cell?, hb]
  simpa using hu

theorem count_b (p c a b : Nat) (w : World) (hp : p ≤ 64) (hc : c ≤ 64) (ha : a ≤ 64) (hb : b ≤ 64) :
    Calls Try.prog 26 #[.int .i64 (p : Int), .int .i64 (c : Int), .int .i64 (a : Int), .int .i64 (b : Int)] w fun e w' => e = .returned (.int .i64 (6 + 2 * (p : Int) + 7 * (c : Int) + 3 * (a : Int) + 3 * (b : Int))) ∧ w = w' := by
  go_enter Try.func26, Try.ntmps26
  go_wp2
  go_ret
  exact ⟨rfl, rfl⟩
theorem word_on {w : World} {b o : Nat} {xs : List Int} (hb : b < w.heap.size) (h : ∀ i, i < xs.length → w.cell? ⟨b, o + i, none⟩ = some (.int .u32 (xs.getD i 0))) {i : Nat} {x : Int} (hi : i < xs.length) (hx : xs.getD i 0 = x) : ∀ W', Below w.heap.size w W' → W'.cell? ⟨b, o + i, none⟩ = some (.int .u32 x) := fun W' hw => by
  rw [← hx]; exact (hw.cell (p := ⟨b, o + i, none⟩) hb).trans (h i hi)

set_option maxRecDepth 100000 in
set_option maxHeartbeats 4000000 in
theorem wins_b (xs : List Int) (A : Option Addr) (c at_ n : Nat) (w : World) (h1 : xs.length ≤ 2000) (h3 : IntRowK .u32 w w.heap.size A xs) (hw : wfW xs) (hn : n ≤ 64) (hat : at_ + 3 * n ≤ xs.length) :
    Calls Try.prog 27 #[.slice A xs.length c, .int .i64 (at_ : Int), .int .i64 (n : Int)] w fun e w' => ∃ v, e = .returned v ∧ OwnsOff w' w.heap.size 51 3 v (rowsAt xs at_ 3 n).length (rcells [.i64, .i64, .i64] (rowsAt xs at_ 3 n)) ∧ Below w.heap.size w w' := by
  obtain ⟨i0, hi, hz0, hz1, hz2⟩ := info_parts Try.info3
  go_enter Try.func27, Try.ntmps27
  go_wp2
  go_loopw [7, 8] (fun v ix wr => ∃ i : Nat, i ≤ n ∧ ix = .int .i64 i ∧ OwnsOff wr w.heap.size 51 3 v (rowsAt xs at_ 3 i).length (rcells [.i64, .i64, .i64] (rowsAt xs at_ 3 i)) ∧ Below w.heap.size w wr) (fun _ ix _ => n - (intOf ix).toNat)
  case atStart => exact ⟨0, Nat.zero_le _, rfl, OwnsOff.nil _ _ _ _, Below.refl _ _⟩
  case round =>
    obtain ⟨i, hin, rfl, hown, hbr⟩ := hrel
    by_cases hlt : i < n
    · have HS := Lib.hid (rowsAt_succ xs at_ 3 i)
      have HC := Lib.hid (chunk3 xs (at_ + 3 * i))
      obtain ⟨l, hl⟩ : ∃ l, rowsAt xs at_ 3 i = l := ⟨_, rfl⟩
      have hll : l.length ≤ 64 := by rw [← hl, rowsAt_len]; omega
      rw [hl] at hown HS
      obtain ⟨b, o, rfl, hb, hc⟩ := h3 (by omega)
      obtain ⟨k, hk⟩ : ∃ k, at_ + 3 * i = k := ⟨_, rfl⟩
      have hkl : k + 2 < xs.length := by omega
      rw [hk] at HC
      have HK := Lib.hid hk
      have hki : (at_ : Int) + 3 * (i : Int) = (k : Int) := by omega
      clear hl hk
      go_wp2_with fail
      have w0 := wfW_at hw k; have w1 := wfW_at hw (k + 1); have w2' := wfW_at hw (k + 2)
      generalize hx0 : xs.getD (k) 0 = x0 at w0
      have HX0 := Lib.hid hx0
      clear hx0
      generalize hx1 : xs.getD (k + 1) 0 = x1 at w1
      have HX1 := Lib.hid hx1
      clear hx1
      generalize hx2 : xs.getD (k + 2) 0 = x2 at w2'
      have HX2 := Lib.hid hx2
      clear hx2
      have k0 := word_on hb hc (i := k) (by omega) HX0.out
      have k1 := word_on hb hc (i := k + 1) (by omega) HX1.out
      have k2 := word_on hb hc (i := k + 2) (by omega) HX2.out
      obtain ⟨y0, z0⟩ := w0; obtain ⟨y1, z1⟩ := w1; obtain ⟨y2, z2⟩ := w2'
      have v0 := IntWalk.i64_in x0 (by omega); have v1 := IntWalk.i64_in x1 (by omega); have v2 := IntWalk.i64_in x2 (by omega)
      have j0 : (0 : Int) ≤ (k : Int) := by omega
      have j1 : (k : Int) < (xs.length : Int) := by omega
      have i1a : IntKind.i64.wrap ((k : Int) + 1) = (k : Int) + 1 := IntWalk.i64_in _ (by omega)
      have i1b : (0 : Int) ≤ (k : Int) + 1 := by omega
      have i1c : ((k : Int) + 1).toNat = k + 1 := by omega
      have i1d : (k : Int) + 1 < (xs.length : Int) := by omega
      have i2a : IntKind.i64.wrap ((k : Int) + 2) = (k : Int) + 2 := IntWalk.i64_in _ (by omega)
      have i2b : (0 : Int) ≤ (k : Int) + 2 := by omega
      have i2c : ((k : Int) + 2).toNat = k + 2 := by omega
      have i2d : (k : Int) + 2 < (xs.length : Int) := by omega
      clear hc
      refine wp_region_held_drew (S := (fun W' => Below w.heap.size w W')) (by kernel_rfl) (hbr.drew) (fun hHeld => ?_)
      refine wpAnyH_take (i := 0) rfl (by kernel_rfl) (by kernel_rfl) (by kernel_rfl) (fun _ _ _ h => h) (Or.inl ⟨by rfl, by intro w hSw; (have q0 := k0 _ hSw; have q1 := k1 _ hSw; have q2 := k2 _ hSw); (go_simp <;> with_reducible rfl)⟩) (by assumption) ?_
      (try simp only [Act.put, List.setIfInBounds_toArray, List.set_cons_zero, List.set_cons_succ, List.getElem_toArray, List.getElem_cons_zero, List.getElem_cons_succ])
      refine wpAnyH_take (i := 1) rfl (by kernel_rfl) (by kernel_rfl) (by kernel_rfl) (fun _ _ _ h => h) (Or.inl ⟨by rfl, by intro w hSw; (have q0 := k0 _ hSw; have q1 := k1 _ hSw; have q2 := k2 _ hSw); (go_simp <;> with_reducible rfl)⟩) (by assumption) ?_
      (try simp only [Act.put, List.setIfInBounds_toArray, List.set_cons_zero, List.set_cons_succ, List.getElem_toArray, List.getElem_cons_zero, List.getElem_cons_succ])
      refine wpAnyH_take (i := 2) rfl (by kernel_rfl) (by kernel_rfl) (by kernel_rfl) (fun _ _ _ h => h) (Or.inl ⟨by rfl, by intro w hSw; (have q0 := k0 _ hSw; have q1 := k1 _ hSw; have q2 := k2 _ hSw); (go_simp <;> with_reducible rfl)⟩) (by assumption) ?_
      (try simp only [Act.put, List.setIfInBounds_toArray, List.set_cons_zero, List.set_cons_succ, List.getElem_toArray, List.getElem_cons_zero, List.getElem_cons_succ])
      refine wpAnyH_take (i := 3) rfl (by kernel_rfl) (by kernel_rfl) (by kernel_rfl) (fun _ _ _ h => h) (Or.inl ⟨by rfl, by intro w hSw; (have q0 := k0 _ hSw; have q1 := k1 _ hSw; have q2 := k2 _ hSw); (go_simp <;> with_reducible rfl)⟩) (by assumption) ?_
      (try simp only [Act.put, List.setIfInBounds_toArray, List.set_cons_zero, List.set_cons_succ, List.getElem_toArray, List.getElem_cons_zero, List.getElem_cons_succ])
      refine wpAnyH_take (i := 4) rfl (by kernel_rfl) (by kernel_rfl) (by kernel_rfl) (fun _ _ _ h => h) (Or.inl ⟨by rfl, by intro w hSw; (have q0 := k0 _ hSw; have q1 := k1 _ hSw; have q2 := k2 _ hSw); (go_simp <;> with_reducible rfl)⟩) (by assumption) ?_
      (try simp only [Act.put, List.setIfInBounds_toArray, List.set_cons_zero, List.set_cons_succ, List.getElem_toArray, List.getElem_cons_zero, List.getElem_cons_succ])
      refine wpAnyH_take (i := 5) rfl (by kernel_rfl) (by kernel_rfl) (by kernel_rfl) (fun _ _ _ h => h) (Or.inl ⟨by rfl, by intro w hSw; (have q0 := k0 _ hSw; have q1 := k1 _ hSw; have q2 := k2 _ hSw); (go_simp <;> with_reducible rfl)⟩) (by assumption) ?_
      (try simp only [Act.put, List.setIfInBounds_toArray, List.set_cons_zero, List.set_cons_succ, List.getElem_toArray, List.getElem_cons_zero, List.getElem_cons_succ])
      refine wpAnyH_take (i := 6) rfl (by kernel_rfl) (by kernel_rfl) (by kernel_rfl) (fun _ _ _ h => h) (Or.inl ⟨by rfl, by intro w hSw; (have q0 := k0 _ hSw; have q1 := k1 _ hSw; have q2 := k2 _ hSw); (go_simp <;> with_reducible rfl)⟩) (by assumption) ?_
      (try simp only [Act.put, List.setIfInBounds_toArray, List.set_cons_zero, List.set_cons_succ, List.getElem_toArray, List.getElem_cons_zero, List.getElem_cons_succ])
      refine wpAnyH_take (i := 7) rfl (by kernel_rfl) (by kernel_rfl) (by kernel_rfl) (fun _ _ _ h => h) (Or.inl ⟨by rfl, by intro w hSw; (have q0 := k0 _ hSw; have q1 := k1 _ hSw; have q2 := k2 _ hSw); (go_simp <;> with_reducible rfl)⟩) (by assumption) ?_
      (try simp only [Act.put, List.setIfInBounds_toArray, List.set_cons_zero, List.set_cons_succ, List.getElem_toArray, List.getElem_cons_zero, List.getElem_cons_succ])
      refine wpAnyH_take (i := 8) rfl (by kernel_rfl) (by kernel_rfl) (by kernel_rfl) (fun _ _ _ h => h) (Or.inl ⟨by rfl, by intro w hSw; (have q0 := k0 _ hSw; have q1 := k1 _ hSw; have q2 := k2 _ hSw); (go_simp <;> with_reducible rfl)⟩) (by assumption) ?_
      (try simp only [Act.put, List.setIfInBounds_toArray, List.set_cons_zero, List.set_cons_succ, List.getElem_toArray, List.getElem_cons_zero, List.getElem_cons_succ])
      refine wpAnyH_take (i := 9) rfl (by kernel_rfl) (by kernel_rfl) (by kernel_rfl) (fun _ _ _ h => h) (Or.inl ⟨by rfl, by intro w hSw; (have q0 := k0 _ hSw; have q1 := k1 _ hSw; have q2 := k2 _ hSw); (go_simp <;> with_reducible rfl)⟩) (by assumption) ?_
      (try simp only [Act.put, List.setIfInBounds_toArray, List.set_cons_zero, List.set_cons_succ, List.getElem_toArray, List.getElem_cons_zero, List.getElem_cons_succ])
      refine wpAnyH_take (i := 10) rfl (by kernel_rfl) (by kernel_rfl) (by kernel_rfl) (fun _ _ _ h => h) (Or.inl ⟨by rfl, by intro w hSw; (have q0 := k0 _ hSw; have q1 := k1 _ hSw; have q2 := k2 _ hSw); (go_simp <;> with_reducible rfl)⟩) (by assumption) ?_
      (try simp only [Act.put, List.setIfInBounds_toArray, List.set_cons_zero, List.set_cons_succ, List.getElem_toArray, List.getElem_cons_zero, List.getElem_cons_succ])
      refine wpAnyH_take (i := 11) rfl (by kernel_rfl) (by kernel_rfl) (by kernel_rfl) (fun _ _ _ h => h) (Or.inl ⟨by rfl, by intro w hSw; (have q0 := k0 _ hSw; have q1 := k1 _ hSw; have q2 := k2 _ hSw); (go_simp <;> with_reducible rfl)⟩) (by assumption) ?_
      (try simp only [Act.put, List.setIfInBounds_toArray, List.set_cons_zero, List.set_cons_succ, List.getElem_toArray, List.getElem_cons_zero, List.getElem_cons_succ])
      refine wpAnyH_take (i := 12) rfl (by kernel_rfl) (by kernel_rfl) (by kernel_rfl) (fun _ _ _ h => h) (Or.inl ⟨by rfl, by intro w hSw; (have q0 := k0 _ hSw; have q1 := k1 _ hSw; have q2 := k2 _ hSw); (go_simp <;> with_reducible rfl)⟩) (by assumption) ?_
      (try simp only [Act.put, List.setIfInBounds_toArray, List.set_cons_zero, List.set_cons_succ, List.getElem_toArray, List.getElem_cons_zero, List.getElem_cons_succ])
      refine wpAnyH_take (i := 13) rfl (by kernel_rfl) (by kernel_rfl) (by kernel_rfl) (fun _ _ _ h => h) (Or.inl ⟨by rfl, by intro w hSw; (have q0 := k0 _ hSw; have q1 := k1 _ hSw; have q2 := k2 _ hSw); (go_simp <;> with_reducible rfl)⟩) (by assumption) ?_
      (try simp only [Act.put, List.setIfInBounds_toArray, List.set_cons_zero, List.set_cons_succ, List.getElem_toArray, List.getElem_cons_zero, List.getElem_cons_succ])
      refine wpAnyH_take (i := 14) rfl (by kernel_rfl) (by kernel_rfl) (by kernel_rfl) (fun _ _ _ h => h) (Or.inl ⟨by rfl, by intro w hSw; (have q0 := k0 _ hSw; have q1 := k1 _ hSw; have q2 := k2 _ hSw); (go_simp <;> with_reducible rfl)⟩) (by assumption) ?_
      (try simp only [Act.put, List.setIfInBounds_toArray, List.set_cons_zero, List.set_cons_succ, List.getElem_toArray, List.getElem_cons_zero, List.getElem_cons_succ])
      refine wpAnyH_take (i := 15) rfl (by kernel_rfl) (by kernel_rfl) (by kernel_rfl) (fun _ _ _ h => h) (Or.inl ⟨by rfl, by intro w hSw; (have q0 := k0 _ hSw; have q1 := k1 _ hSw; have q2 := k2 _ hSw); (go_simp <;> with_reducible rfl)⟩) (by assumption) ?_
      (try simp only [Act.put, List.setIfInBounds_toArray, List.set_cons_zero, List.set_cons_succ, List.getElem_toArray, List.getElem_cons_zero, List.getElem_cons_succ])
      refine wpAnyH_take (i := 16) rfl (by kernel_rfl) (by kernel_rfl) (by kernel_rfl) (fun _ _ _ h => h) (Or.inl ⟨by rfl, by intro w hSw; (have q0 := k0 _ hSw; have q1 := k1 _ hSw; have q2 := k2 _ hSw); (go_simp <;> with_reducible rfl)⟩) (by assumption) ?_
      (try simp only [Act.put, List.setIfInBounds_toArray, List.set_cons_zero, List.set_cons_succ, List.getElem_toArray, List.getElem_cons_zero, List.getElem_cons_succ])
      refine wpAnyH_take (i := 17) rfl (by kernel_rfl) (by kernel_rfl) (by kernel_rfl) (fun _ _ _ h => h) (Or.inl ⟨by rfl, by intro w hSw; (have q0 := k0 _ hSw; have q1 := k1 _ hSw; have q2 := k2 _ hSw); (go_simp <;> with_reducible rfl)⟩) (by assumption) ?_
      (try simp only [Act.put, List.setIfInBounds_toArray, List.set_cons_zero, List.set_cons_succ, List.getElem_toArray, List.getElem_cons_zero, List.getElem_cons_succ])
      refine wpAnyH_take (i := 18) rfl (by kernel_rfl) (by kernel_rfl) (by kernel_rfl) (fun _ _ _ h => h) (Or.inl ⟨by rfl, by intro w hSw; (have q0 := k0 _ hSw; have q1 := k1 _ hSw; have q2 := k2 _ hSw); (go_simp <;> with_reducible rfl)⟩) (by assumption) ?_
      (try simp only [Act.put, List.setIfInBounds_toArray, List.set_cons_zero, List.set_cons_succ, List.getElem_toArray, List.getElem_cons_zero, List.getElem_cons_succ])
      refine wpAnyH_ready (rs := [19]) (by kernel_rfl) (by simp) (AllReadyH.cons rfl (fun K hK => ?_) AllReadyH.nil)
      go_simp
      refine hK.out _ _ ((hbr.alloc hbr.size _).drew) (fun hHeld => ?_)
      clear hK K
      (try simp only [Act.put, List.setIfInBounds_toArray, List.set_cons_zero, List.set_cons_succ, List.getElem_toArray, List.getElem_cons_zero, List.getElem_cons_succ])
      refine wpAnyH_ready (rs := [20]) (by kernel_rfl) (by simp) (AllReadyH.cons rfl (fun K hK => ?_) AllReadyH.nil)
      refine step_append_off rfl _ _ 26 rfl w.heap.size 51 i0 (.agg #[.int .i64 0, .int .i64 0, .int .i64 0]) 3 24 Try.underlying26 hi hz0 hz1 hz2 rfl (by decide) _ _ _ rfl (hown.keptB ((Below.refl _ _).alloc (Nat.le_refl _) _).drew) _ 1 1 [.int .i64 x0, .int .i64 x1, .int .i64 x2] rfl rfl (fun j u h => news_rw wr _ _ j u h) (by simp [Value.oneCell']) (by unfold maxLen; omega) (by omega) (by have := hbr.size; simp; omega) ?_
      intro v' w2 hown' hgrow _
      have hb2 := (hbr.alloc hbr.size _).drew.grown hgrow (by have := hbr.size; simp; omega) (fun j e => (hown.lt j e).1)
      have hown3 : OwnsOff w2 w.heap.size 51 3 v' (l ++ [[x0, x1, x2]]).length (rcells [.i64, .i64, .i64] (l ++ [[x0, x1, x2]])) := by rw [List.length_append, rcells_app]; exact hown'
      have H2 := Lib.hid hb2; have H3 := Lib.hid hown3
      clear hown' hgrow hown3 hb2 hown hbr
      refine hK.out _ _ (H2.out) (fun hHeld => ?_)
      clear hK K
      (try simp only [Act.put, List.setIfInBounds_toArray, List.set_cons_zero, List.set_cons_succ, List.getElem_toArray, List.getElem_cons_zero, List.getElem_cons_succ])
      refine wpAnyH_take (i := 21) rfl (by kernel_rfl) (by kernel_rfl) (by kernel_rfl) (fun _ _ _ h => h) (Or.inl ⟨by rfl, by intro w hSw; (have q0 := k0 _ hSw; have q1 := k1 _ hSw; have q2 := k2 _ hSw); (go_simp <;> with_reducible rfl)⟩) (by assumption) ?_
      (try simp only [Act.put, List.setIfInBounds_toArray, List.set_cons_zero, List.set_cons_succ, List.getElem_toArray, List.getElem_cons_zero, List.getElem_cons_succ])
      refine wpAnyH_done (by kernel_rfl) ?_ _
      clear i1a i2a i1c i2c v0 v1 v2
      go_wp2
      go_roundw
      case rel => exact ⟨i + 1, by omega, by go_num, by rw [HS.out, HK.out, HC.out, HX0.out, HX1.out, HX2.out]; exact H3.out, H2.out⟩
      case measure => simp [intOf]; omega
    · have him2 : i = n := by omega
      subst him2
      have HW := Lib.hid hown; have HB := Lib.hid hbr
      clear hown hbr
      go_wp2
      go_ret
      exact ⟨_, rfl, HW.out, HB.out⟩
end Go.Proofs.Ytjknmojjodghdaa
