/- Words: a call that hands back words, Same of words, append of words. No condition but those in the statements. -/
import Derived.Test.YtjknmojjodghdaaRaw
namespace Go.Proofs.Ytjknmojjodghdaa
open Go.RowKit Go.Sort
set_option linter.unusedVariables false
set_option linter.unusedSimpArgs false

theorem take_same (xs ys : List Int) (k : Nat) (h1 : k < xs.length) (h2 : k < ys.length) (h : xs.take k = ys.take k) (he : xs.getD k 0 = ys.getD k 0) : xs.take (k + 1) = ys.take (k + 1) := by
  rw [List.take_add_one, List.take_add_one, h, List.getElem?_eq_getElem h1, List.getElem?_eq_getElem h2]
  simp [List.getD_eq_getElem?_getD, h1, h2] at he
  rw [he]
theorem IntRowK.newsAt {w : World} {B : Nat} {ad : Addr} {xs : List Int} (h : IntRowK .u32 w B (some ad) xs) : ∀ j u, (wcells xs)[j]? = some u → w.cell? (ad.add j) = some u := by
  intro j u hj
  have hl : j < xs.length := by have := (List.getElem?_eq_some_iff.1 hj).1; simpa using this
  obtain ⟨b, o', he, _, hc⟩ := h (by omega)
  cases he
  rw [wcells_at xs j hl] at hj
  cases hj
  rw [Addr.add_lit]
  exact hc j hl
/-- A call that hands back a new list of words, and turns nothing that was there. -/
def GivesWords (w : World) (xs : List Int) (e : Ending) (w' : World) : Prop :=
  ∃ v, e = .returned v ∧ OwnsOff w' w.heap.size 43 1 v xs.length (wcells xs) ∧ Below w.heap.size w w'

theorem same_b (xs ys : List Int) (A A' : Option Addr) (c c' : Nat) (w : World) (hx : IntRowK .u32 w w.heap.size A xs) (hy : IntRowK .u32 w w.heap.size A' ys) (hlx : xs.length ≤ 1000000000) :
    Calls Try.prog 16 #[.slice A xs.length c, .slice A' ys.length c'] w fun e w' => e = .returned (.bool (decide (xs = ys))) ∧ Below w.heap.size w w' := by
  by_cases hlen : xs.length = ys.length
  · have hL := Lib.hid hlen
    have hne : ((xs.length : Int) != (ys.length : Int)) = false := by simp [hlen]
    clear hlen
    go_enter Try.func16, Try.ntmps16
    go_wp2
    go_loopw [5] (fun ix wr => ∃ k : Nat, k ≤ xs.length ∧ ix = .int .i64 k ∧ xs.take k = ys.take k ∧ Below w.heap.size w wr) (fun ix _ => xs.length - (intOf ix).toNat)
    case atStart => exact ⟨0, Nat.zero_le _, rfl, rfl, Below.refl _ _⟩
    case round =>
      obtain ⟨k, hk, rfl, htk, hbc⟩ := hrel
      have HT := Lib.hid htk
      clear htk
      by_cases hlt : k < xs.length
      · have hlt2 : k < ys.length := by have := hL.out; omega
        obtain ⟨b, o, rfl, _, k0⟩ := hx.at_ hlt
        obtain ⟨b', o', rfl, _, k1⟩ := hy.at_ hlt2
        have k0 := k0 _ hbc
        have k1 := k1 _ hbc
        obtain ⟨x, hxx⟩ : ∃ x, x = xs.getD k 0 := ⟨_, rfl⟩
        obtain ⟨y, hyy⟩ : ∃ y, y = ys.getD k 0 := ⟨_, rfl⟩
        rw [← hxx] at k0
        rw [← hyy] at k1
        have HX := Lib.hid hxx; have HY := Lib.hid hyy
        have k0 : ∀ p : Regrown, (grow (redrawn wr p.d) p.os).cell? ⟨b, o + k, none⟩ = some (.int .u32 x) := fun p => cell_regrown k0 p.d p.os
        have k1 : ∀ p : Regrown, (grow (redrawn wr p.d) p.os).cell? ⟨b', o' + k, none⟩ = some (.int .u32 y) := fun p => cell_regrown k1 p.d p.os
        have hbr := Below.refl wr.heap.size wr
        clear hxx hyy hx hy
        by_cases he : x = y
        · have he1 : (x != y) = false := by simp [he]
          have HE := Lib.hid he
          clear he
          go_wp2_with ((first | with_reducible refine wpList_on hbr ?_ | with_reducible refine wp_on hbr (by kernel_rfl) (by kernel_rfl) ?_); (repeat (go_big_quiet_step (fail))); with_reducible refine wpQuiet_nil ?_; intro wc hbr)
          go_roundw
          case rel => exact ⟨k + 1, by omega, by go_num, take_same _ _ _ hlt hlt2 HT.out (by rw [← HX.out, ← HY.out, HE.out]), hbc.trans (hbr.mono hbc.size)⟩
          case measure => simp [intOf]; omega
        · have he1 : (x != y) = true := by simp [he]
          have HE := Lib.hid he
          clear he
          go_wp2_with ((first | with_reducible refine wpList_on hbr ?_ | with_reducible refine wp_on hbr (by kernel_rfl) (by kernel_rfl) ?_); (repeat (go_big_quiet_step (fail))); with_reducible refine wpQuiet_nil ?_; intro wc hbr)
          go_ret
          exact ⟨by
            have : xs ≠ ys := fun h => HE.out (by rw [HX.out, HY.out, h])
            simp [this], hbc.trans (hbr.mono hbc.size)⟩
      · have hkk : k = xs.length := by omega
        have HS := Lib.hid (show xs = ys by have h := HT.out; rw [hkk, List.take_length, List.take_of_length_le (by have := hL.out; omega)] at h; exact h)
        clear hkk
        go_wp2
        go_ret
        exact ⟨by simp [HS.out], hbc⟩
  · have hne : ((xs.length : Int) != (ys.length : Int)) = true := by simp; omega
    have HE := Lib.hid hlen
    clear hlen
    go_enter Try.func16, Try.ntmps16
    go_wp2
    go_ret
    exact ⟨by
      have : xs ≠ ys := fun h => HE.out (by rw [h])
      simp [this], Below.refl _ _⟩
theorem same_yes (n n' : Nat) (xs : List Int) (A A' : Option Addr) (c c' : Nat) (w : World) (hn : n = xs.length) (hn' : n' = xs.length) (hx : IntRowK .u32 w w.heap.size A xs) (hy : IntRowK .u32 w w.heap.size A' xs) (hl : n ≤ 1000000) :
    Calls Try.prog 16 #[.slice A n c, .slice A' n' c'] w fun e w' => e = .returned (.bool true) ∧ Below w.heap.size w w' := by
  subst hn hn'
  exact (same_b xs xs A A' c c' w hx hy (by omega)).mono fun e w' ⟨h1, h2⟩ => ⟨by rw [h1]; simp, h2⟩

theorem words_new (w : World) (xs : List Int) (cs : Array Value) (h : cs = (wcells xs).toArray) : IntRowK .u32 (w.alloc (.cells cs 43)) (w.alloc (.cells cs 43)).heap.size (some ⟨w.heap.size, 0, none⟩) xs := fun _ => by
  refine ⟨w.heap.size, 0, rfl, by simp, fun i hi => ?_⟩
  subst h
  refine cell_block (heap_alloc_new w _) ?_
  simp [wcells, List.getD_eq_getElem?_getD, hi]

section
variable {P : Program} (w : World)
theorem run_append_words (base : Nat) (t ty : TypeId) (i : TypeInfo) (ht : P.underlying t = some (.slice 43)) (hi : P.info? 43 = some i) (hz : i.zero = some (.int .u32 0)) (hsize : i.size = 1) (hby : i.bytes = 4)
    (v : Value) (n : Nat) (xs : List Value) (hown : OwnsOff w base 43 1 v n xs) (B : Nat) (A : Option Addr) (c : Nat) (ws : List Int) (hrow : IntRowK .u32 w B A ws) (hnil : A = none → ws = [])
    (h63 : n + ws.length ≤ 1000000) (hbase : base ≤ w.heap.size) :
    ∃ v' w', (Builtin.append_ #[t, t] ty #[v, .slice A ws.length c]).run P w = .ok v' w' ∧ OwnsOff w' base 43 1 v' (n + ws.length) (xs ++ wcells ws) ∧ w.grownBy w' v.ownBlock ∧
      (∀ g, v'.ownBlock = some g → v.ownBlock = some g ∨ w.heap.size ≤ g) := by
  cases A with
  | some a => exact run_append_off (P := P) w base t ty 43 i (.int .u32 0) 1 4 ht hi hz hsize hby rfl (by decide) v n xs hown a ws.length c (wcells ws) (by simp) hrow.newsAt (wcells_one ws) (by unfold maxLen; omega) (by omega) hbase
  | none =>
    obtain rfl := hnil rfl
    refine ⟨v, w, ?_, by simpa [wcells] using hown, ⟨rfl, rfl, rfl, Nat.le_refl _, fun _ _ _ => rfl⟩, fun g h => .inl h⟩
    rcases hown.2 with ⟨rfl, rfl⟩ | ⟨g, off, cap, cur, rfl, hb, hg, hnc, hcm, hcs, htk⟩
    · simp [Builtin.append_, run_underlying ht, sizeOf, typeInfo, hi, Builtin.lenOf, Builtin.firstCells]
    · simp [Builtin.append_, run_underlying ht, sizeOf, typeInfo, hi, Builtin.lenOf, Builtin.firstCells, hnc, storeCells]
theorem wpList_append_words {ops : Array Oper} {rest : List Oper} {o : Oper} {a : Act} {Q : Exit → Act → World → Prop} (hgd : o.guard = none) (s x : Operand) (t : TypeId)
    (ho : o.op = .call { callee := .builtin .append, args := #[s, x], argTypes := #[t, t] })
    (base : Nat) (i : TypeInfo) (ht : P.underlying t = some (.slice 43)) (hi : P.info? 43 = some i) (hz : i.zero = some (.int .u32 0)) (hsize : i.size = 1) (hby : i.bytes = 4)
    (v : Value) (n : Nat) (xs : List Value) (hs : a.eval s = v) (hown : OwnsOff w base 43 1 v n xs) (B : Nat) (A : Option Addr) (m c : Nat) (ws : List Int) (hm : m = ws.length) (hx : a.eval x = .slice A m c) (hrow : IntRowK .u32 w B A ws) (hnil : A = none → ws = [])
    (h63 : n + ws.length ≤ 1000000) (hbase : base ≤ w.heap.size)
    (h : ∀ v' w', OwnsOff w' base 43 1 v' (n + ws.length) (xs ++ wcells ws) → w.grownBy w' v.ownBlock → (∀ g, v'.ownBlock = some g → v.ownBlock = some g ∨ w.heap.size ≤ g) → wpList P ops Q rest (a.put o.dst v') w') : wpList P ops Q (o :: rest) a w := by
  subst hm
  refine wpList_plain hgd fun K hK' => ?_
  obtain ⟨v', w', hrun, r1, r2, r3⟩ := run_append_words (P := P) w base t o.type i ht hi hz hsize hby v n xs hown B A c ws hrow hnil h63 hbase
  unfold Oper.wp
  simp [execOp, ho, resolve, invoke, builtin, hs, hx, hrun, Result.andThen]
  exact hK' _ _ (h v' w' r1 r2 r3)
end
end Go.Proofs.Ytjknmojjodghdaa
