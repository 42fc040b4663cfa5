/- The opening of a configuration; Great, Same, wakes, as contracts. No condition but those in the statements. -/
import Derived.Test.YtogffilanioejaaFirst
import Derived.BigQuiet
import Derived.OpenShut
namespace Go.Proofs.Ytogffilanioejaa
open Go.RowKit Go.Sort Go.ChangeShapes Go.WideShapes
set_option linter.unusedVariables false
set_option linter.unusedSimpArgs false

theorem fields2 : ∃ fs, Try.prog.underlying 40 = some (.struct fs) ∧ fieldsN Try.prog fs [.i64, .i64] := by
  refine ⟨_, Try.underlying40, rfl, fun i f h => ?_⟩
  match i, h with
  | 0, h => cases h; exact ⟨rfl, by kernel_rfl, fun k hk => by cases hk; exact Try.underlying3⟩
  | 1, h => cases h; exact ⟨rfl, by kernel_rfl, fun k hk => by cases hk; exact Try.underlying3⟩
  | i + 2, h => simp at h
theorem fields3 : ∃ fs, Try.prog.underlying 38 = some (.struct fs) ∧ fieldsN Try.prog fs [.i64, .i64, .i64] := by
  refine ⟨_, Try.underlying38, rfl, fun i f h => ?_⟩
  match i, h with
  | 0, h => cases h; exact ⟨rfl, by kernel_rfl, fun k hk => by cases hk; exact Try.underlying3⟩
  | 1, h => cases h; exact ⟨rfl, by kernel_rfl, fun k hk => by cases hk; exact Try.underlying3⟩
  | 2, h => cases h; exact ⟨rfl, by kernel_rfl, fun k hk => by cases hk; exact Try.underlying3⟩
  | i + 3, h => simp at h
theorem fields7 : ∃ fs, Try.prog.underlying 35 = some (.struct fs) ∧ fieldsN Try.prog fs [.i64, .i64, .i64, .i64, .i64, .i64, .u32] := by
  refine ⟨_, Try.underlying35, rfl, fun i f h => ?_⟩
  match i, h with
  | 0, h => cases h; exact ⟨rfl, by kernel_rfl, fun k hk => by cases hk; exact Try.underlying3⟩
  | 1, h => cases h; exact ⟨rfl, by kernel_rfl, fun k hk => by cases hk; exact Try.underlying3⟩
  | 2, h => cases h; exact ⟨rfl, by kernel_rfl, fun k hk => by cases hk; exact Try.underlying3⟩
  | 3, h => cases h; exact ⟨rfl, by kernel_rfl, fun k hk => by cases hk; exact Try.underlying3⟩
  | 4, h => cases h; exact ⟨rfl, by kernel_rfl, fun k hk => by cases hk; exact Try.underlying3⟩
  | 5, h => cases h; exact ⟨rfl, by kernel_rfl, fun k hk => by cases hk; exact Try.underlying3⟩
  | 6, h => cases h; exact ⟨rfl, by kernel_rfl, fun k hk => by cases hk; exact Try.underlying33⟩
  | i + 7, h => simp at h
theorem cfg_open {H : Type} {enc : TypeId × Value → H} {w : World} {r : Reach} {b0 : Nat} {v : Value} {d : DataW H} {p : List MemPlace} (hv : Value.okWide Try.prog w r b0 29 v) (h : DataW.Trod enc Try.prog w 0 (fun _ => true) true 29 v d p) :
    ∃ (c : Cfg) (x : CfgAt), v = .agg (cfgCells c x) ∧ CfgIn w w.heap.size c x ∧ CfgWf c := by
  obtain ⟨f2, u2, k2⟩ := fields2
  obtain ⟨f3, u3, k3⟩ := fields3
  obtain ⟨f7, u7, k7⟩ := fields7
  exact cfg_arg Try.underlying29 (by kernel_rfl) ⟨rfl, by kernel_rfl⟩ ⟨rfl, by kernel_rfl⟩ ⟨rfl, by kernel_rfl⟩ Try.underlying22 u2 k2 (by kernel_rfl) Try.underlying23 u7 k7 (by kernel_rfl) Try.underlying27 (by kernel_rfl) Try.underlying26 ⟨rfl, by kernel_rfl⟩ ⟨rfl, by kernel_rfl⟩ Try.underlying3 Try.underlying24 u3 k3 (by kernel_rfl) hv h
/-- At most so many rows of each kind. -/
def cfgLe (n : Nat) (c : Cfg) : Bool := decide (c.parts.length ≤ n ∧ c.chans.length ≤ n ∧ c.win0.length ≤ n ∧ c.win1.length ≤ n)
theorem cfgLe_yes {n : Nat} {c : Cfg} (h : cfgLe n c = true) : c.parts.length ≤ n ∧ c.chans.length ≤ n ∧ c.win0.length ≤ n ∧ c.win1.length ≤ n := of_decide_eq_true h
theorem cfgLe_few {n : Nat} {c : Cfg} (h : cfgLe n c = true) (hn : n ≤ 1000000) : CfgFew c := by
  obtain ⟨a, b, d, e⟩ := of_decide_eq_true h
  exact ⟨by omega, by omega, by omega, by omega⟩
theorem great_plain (parts chans : List (List Int)) (len0 : Int) (win0 : List (List Int)) (len1 : Int) (win1 : List (List Int)) (pa : Option Addr) (pc : Nat) (ca : Option Addr) (cc : Nat) (aa : Option Addr) (ac : Nat) (ba : Option Addr) (bc : Nat) (w : World) : Calls Try.prog 8 #[.agg #[.slice pa parts.length pc, .slice ca chans.length cc, .int .i64 len0, .slice aa win0.length ac, .int .i64 len1, .slice ba win1.length bc]] w fun e w' => e = .returned (.bool (!cfgLe 100 (⟨parts, chans, len0, win0, len1, win1⟩ : Cfg))) ∧ Below w.heap.size w w' := by
  by_cases g0 : parts.length ≤ 100
  · have f0 : ¬ ((100 : Int) < (parts.length : Int)) := by omega
    have e0 : (parts.length : Int) ≤ 100 := by omega
    by_cases g1 : chans.length ≤ 100
    · have f1 : ¬ ((100 : Int) < (chans.length : Int)) := by omega
      have e1 : (chans.length : Int) ≤ 100 := by omega
      by_cases g2 : win0.length ≤ 100
      · have f2 : ¬ ((100 : Int) < (win0.length : Int)) := by omega
        have e2 : (win0.length : Int) ≤ 100 := by omega
        by_cases g3 : win1.length ≤ 100
        · have f3 : ¬ ((100 : Int) < (win1.length : Int)) := by omega
          have e3 : (win1.length : Int) ≤ 100 := by omega
          have HR := Lib.hid (show cfgLe 100 (⟨parts, chans, len0, win0, len1, win1⟩ : Cfg) = true from decide_eq_true ⟨g0, g1, g2, g3⟩)
          go_enter Try.func8, Try.ntmps8
          go_wp2
          go_ret
          exact ⟨by rw [HR.out]; rfl, (Below.refl _ _).alloc (Nat.le_refl _) _⟩
        · have f3 : ((100 : Int) < (win1.length : Int)) := by omega
          have e3 : ¬ ((win1.length : Int) ≤ 100) := by omega
          have HR := Lib.hid (show cfgLe 100 (⟨parts, chans, len0, win0, len1, win1⟩ : Cfg) = false from decide_eq_false (fun h => g3 h.2.2.2))
          go_enter Try.func8, Try.ntmps8
          go_wp2
          go_ret
          exact ⟨by rw [HR.out]; rfl, (Below.refl _ _).alloc (Nat.le_refl _) _⟩
      · have f2 : ((100 : Int) < (win0.length : Int)) := by omega
        have e2 : ¬ ((win0.length : Int) ≤ 100) := by omega
        have HR := Lib.hid (show cfgLe 100 (⟨parts, chans, len0, win0, len1, win1⟩ : Cfg) = false from decide_eq_false (fun h => g2 h.2.2.1))
        go_enter Try.func8, Try.ntmps8
        go_wp2
        go_ret
        exact ⟨by rw [HR.out]; rfl, (Below.refl _ _).alloc (Nat.le_refl _) _⟩
    · have f1 : ((100 : Int) < (chans.length : Int)) := by omega
      have e1 : ¬ ((chans.length : Int) ≤ 100) := by omega
      have HR := Lib.hid (show cfgLe 100 (⟨parts, chans, len0, win0, len1, win1⟩ : Cfg) = false from decide_eq_false (fun h => g1 h.2.1))
      go_enter Try.func8, Try.ntmps8
      go_wp2
      go_ret
      exact ⟨by rw [HR.out]; rfl, (Below.refl _ _).alloc (Nat.le_refl _) _⟩
  · have f0 : ((100 : Int) < (parts.length : Int)) := by omega
    have e0 : ¬ ((parts.length : Int) ≤ 100) := by omega
    have HR := Lib.hid (show cfgLe 100 (⟨parts, chans, len0, win0, len1, win1⟩ : Cfg) = false from decide_eq_false (fun h => g0 h.1))
    go_enter Try.func8, Try.ntmps8
    go_wp2
    go_ret
    exact ⟨by rw [HR.out]; rfl, (Below.refl _ _).alloc (Nat.le_refl _) _⟩
theorem great_is (c : Cfg) (x : CfgAt) (b : Bool) (w : World) (h : (!cfgLe 100 c) = b) : Calls Try.prog 8 #[.agg (cfgCells c x)] w fun e w' => e = .returned (.bool b) ∧ Below w.heap.size w w' := by
  subst h
  obtain ⟨parts, chans, len0, win0, len1, win1⟩ := c
  obtain ⟨pa, pc, ca, cc, aa, ac, ba, bc⟩ := x
  exact great_plain parts chans len0 win0 len1 win1 pa pc ca cc aa ac ba bc w
theorem OwnsOff.intRowK {w : World} {base : Nat} {e : TypeId} {v : Value} {xs : List Int} (h : OwnsOff w base e 1 v xs.length (xs.map (Value.int .i64))) :
    ∃ A c, v = .slice A xs.length c ∧ xs.length ≤ c ∧ c ≤ maxLen ∧ IntRowK .i64 w w.heap.size A xs ∧ ∀ a, A = some a → v.ownBlock = some a.block := by
  obtain ⟨_, ⟨rfl, hn⟩ | ⟨g, off, cap, cur, rfl, _, hcur, hle, hmax, _, htk⟩⟩ := h
  · exact ⟨none, 0, by rw [hn], by omega, by unfold maxLen; omega, fun hp => by omega, fun _ h => by cases h⟩
  · refine ⟨_, cap, rfl, hle, hmax, fun hp => ⟨g, off, rfl, (Array.getElem?_eq_some_iff.1 hcur).1, fun i hi => ?_⟩, fun a ha => by cases ha; rfl⟩
    have h1 : (xs.map (Value.int .i64))[i]? = some (.int .i64 (xs.getD i 0)) := by simp [List.getD_eq_getElem?_getD, hi]
    rw [← htk, List.getElem?_take] at h1
    split at h1
    · rw [List.getElem?_drop] at h1
      simp [World.cell?, hcur]
      simpa using h1
    · cases h1
theorem GivesNums.row {w w' : World} {xs : List Int} {e : Ending} (h : GivesNums w xs e w') :
    ∃ A c, e = .returned (.slice A xs.length c) ∧ xs.length ≤ c ∧ c ≤ maxLen ∧ IntRowK .i64 w' w'.heap.size A xs ∧ Below w.heap.size w w' := by
  obtain ⟨v, rfl, h1, h2⟩ := h
  obtain ⟨A, c, rfl, a, b, d, _⟩ := OwnsOff.intRowK h1
  exact ⟨A, c, rfl, a, b, d, h2⟩
theorem IntRowK.later {K : IntKind} {w w' : World} {A : Option Addr} {l : List Int} (h : IntRowK K w w.heap.size A l) (hb : Below w.heap.size w w') : IntRowK K w' w'.heap.size A l := (h.below hb).more hb.size
theorem row_new (w : World) (xs : List Int) (cs : Array Value) (h : cs = (xs.map (Value.int .i64)).toArray) : IntRowK .i64 (w.alloc (.cells cs 3)) (w.alloc (.cells cs 3)).heap.size (some ⟨w.heap.size, 0, none⟩) xs := fun _ => by
  refine ⟨w.heap.size, 0, rfl, by simp, fun i hi => ?_⟩
  subst h
  refine cell_block (heap_alloc_new w _) ?_
  simp [List.getD_eq_getElem?_getD, hi]
theorem take_same (xs ys : List Int) (k : Nat) (hx : k < xs.length) (hy : k < ys.length) (h : xs.take k = ys.take k) (he : xs.getD k 0 = ys.getD k 0) : xs.take (k + 1) = ys.take (k + 1) := by
  rw [List.take_succ_eq_append_getElem hx, List.take_succ_eq_append_getElem hy, h]
  simp [List.getD_eq_getElem?_getD, hx, hy] at he
  rw [he]
theorem IntRowK.atR {K : IntKind} {w : World} {B : Nat} {A : Option Addr} {xs : List Int} (h : IntRowK K w B A xs) {k : Nat} (hk : k < xs.length) :
    ∃ b o, A = some ⟨b, o, none⟩ ∧ ∀ p : Regrown, (grow (redrawn w p.d) p.os).cell? ⟨b, o + k, none⟩ = some (.int K (xs.getD k 0)) := by
  obtain ⟨b, o, rfl, hb, hc⟩ := h (by omega)
  exact ⟨b, o, rfl, fun p => cell_regrown (hc k hk) p.d p.os⟩
set_option maxHeartbeats 1600000 in
theorem same_b (xs ys : List Int) (A A' : Option Addr) (c c' : Nat) (w : World) (hx : IntRowK .i64 w w.heap.size A xs) (hy : IntRowK .i64 w w.heap.size A' ys) (hlx : xs.length ≤ 1000000000) :
    Calls Try.prog 12 #[.slice A xs.length c, .slice A' ys.length c'] w fun e w' => e = .returned (.bool (decide (xs = ys))) ∧ Below w.heap.size w w' := by
  by_cases hlen : xs.length = ys.length
  · have hL := Lib.hid hlen
    have hne : ((xs.length : Int) != (ys.length : Int)) = false := by simp [hlen]
    clear hlen
    go_enter Try.func12, Try.ntmps12
    go_wp2
    go_loopw [5] (fun ix wr => ∃ k : Nat, k ≤ xs.length ∧ ix = .int .i64 k ∧ xs.take k = ys.take k ∧ Below w.heap.size w wr) (fun ix _ => xs.length - (intOf ix).toNat)
    case atStart => exact ⟨0, Nat.zero_le _, rfl, rfl, Below.refl _ _⟩
    case round =>
      obtain ⟨k, hk, rfl, htk, hbc⟩ := hrel
      have HT := Lib.hid htk
      clear htk
      by_cases hlt : k < xs.length
      · have hlt2 : k < ys.length := by have := hL.out; omega
        obtain ⟨b, o, rfl, k0⟩ := hx.atR hlt
        obtain ⟨b', o', rfl, k1⟩ := hy.atR hlt2
        obtain ⟨x, hxx⟩ : ∃ x, x = xs.getD k 0 := ⟨_, rfl⟩
        obtain ⟨y, hyy⟩ : ∃ y, y = ys.getD k 0 := ⟨_, rfl⟩
        rw [← hxx] at k0
        rw [← hyy] at k1
        have HX := Lib.hid hxx; have HY := Lib.hid hyy
        clear hxx hyy hx hy
        by_cases he : x = y
        · have he1 : (x != y) = false := by simp [he]
          have HE := Lib.hid he
          clear he
          go_wp2_with ((first | with_reducible refine wpList_on hbc ?_ | with_reducible refine wp_on hbc (by kernel_rfl) (by kernel_rfl) ?_); (repeat (go_big_quiet_step (fail))); with_reducible refine wpQuiet_nil ?_; intro wc hbc)
          go_roundw
          case rel => exact ⟨k + 1, by omega, by go_num, take_same _ _ _ hlt hlt2 HT.out (by rw [← HX.out, ← HY.out, HE.out]), hbc⟩
          case measure => simp [intOf]; omega
        · have he1 : (x != y) = true := by simp [he]
          have HE := Lib.hid he
          clear he
          go_wp2_with ((first | with_reducible refine wpList_on hbc ?_ | with_reducible refine wp_on hbc (by kernel_rfl) (by kernel_rfl) ?_); (repeat (go_big_quiet_step (fail))); with_reducible refine wpQuiet_nil ?_; intro wc hbc)
          go_ret
          exact ⟨by
            have : xs ≠ ys := fun h => HE.out (by rw [HX.out, HY.out, h])
            simp [this], hbc⟩
      · have hkk : k = xs.length := by omega
        have HS := Lib.hid (show xs = ys by have h := HT.out; rw [hkk, List.take_length, List.take_of_length_le (by have := hL.out; omega)] at h; exact h)
        clear hkk
        go_wp2
        go_ret
        exact ⟨by simp [HS.out], hbc⟩
  · have hne : ((xs.length : Int) != (ys.length : Int)) = true := by simp; omega
    have HE := Lib.hid hlen
    clear hlen
    go_enter Try.func12, Try.ntmps12
    go_wp2
    go_ret
    exact ⟨by
      have : xs ≠ ys := fun h => HE.out (by rw [h])
      simp [this], Below.refl _ _⟩
theorem same_yes (n : Nat) (xs : List Int) (A A' : Option Addr) (c c' : Nat) (w : World) (hn : n = xs.length) (hx : IntRowK .i64 w w.heap.size A xs) (hy : IntRowK .i64 w w.heap.size A' xs) (hl : n ≤ 1000000) :
    Calls Try.prog 12 #[.slice A n c, .slice A' n c'] w fun e w' => e = .returned (.bool true) ∧ Below w.heap.size w w' := by
  subst hn
  exact (same_b xs xs A A' c c' w hx hy (by omega)).mono fun e w' ⟨h1, h2⟩ => ⟨by rw [h1]; simp, h2⟩

def noCfg : Cfg := ⟨[], [], 0, [], 0, []⟩
def noAt : CfgAt := ⟨none, 0, none, 0, none, 0, none, 0⟩
theorem noCfg_in (w : World) (B : Nat) : CfgIn w B noCfg noAt := ⟨RowN.nil _ _ _ _, RowN.nil _ _ _ _, RowN.nil _ _ _ _, RowN.nil _ _ _ _, by simp [noCfg, noAt, maxLen], by simp [noCfg, noAt, maxLen], by simp [noCfg, noAt, maxLen], by simp [noCfg, noAt, maxLen]⟩
theorem noCfg_wf : CfgWf noCfg := ⟨(fun _ h => by cases h), (fun _ h => by cases h), (fun _ h => by cases h), (fun _ h => by cases h), rfl, rfl⟩
theorem noCfg_few : CfgFew noCfg := ⟨by simp [noCfg], by simp [noCfg], by simp [noCfg], by simp [noCfg]⟩
set_option maxRecDepth 100000 in
set_option maxHeartbeats 1600000 in
theorem wakes_b (w : World) : Calls Try.prog 7 #[] w fun e w' => e = .returned (.bool true) ∧ Below w.heap.size w w' := by
  have hT := toldAll_b noCfg noAt w (noCfg_in _ _) noCfg_wf noCfg_few
  rw [show allP noCfg 17 = [1, 12] from by decide +kernel] at hT
  have hT := show Calls Try.prog 13 #[.agg #[.slice none 0 0, .slice none 0 0, .int .i64 0, .slice none 0 0, .int .i64 0, .slice none 0 0], .int .i64 99] w (GivesNums w [1, 12]) from hT
  have HT := Lib.hid hT
  clear hT
  go_enter Try.func7, Try.ntmps7
  go_wp2_with fail
  refine HT.out.mono ?_
  intro e w1 hG
  obtain ⟨A1, c1, rfl, _, _, hr1, hb1⟩ := hG.row
  have hb2 : Below w1.heap.size w1 (w1.alloc (.cells #[.int .i64 1, .int .i64 12] 3)) := (Below.refl _ _).alloc (Nat.le_refl _) _
  have hr2 := row_new w1 [1, 12] #[.int .i64 1, .int .i64 12] rfl
  have hr1 := hr1.later hb2
  have HB := Lib.hid (hb1.trans (hb2.mono hb1.size))
  obtain ⟨w2, hw2⟩ : ∃ u, Hid (u = w1.alloc (.cells #[.int .i64 1, .int .i64 12] 3)) := ⟨_, rfl⟩
  rw [← hw2.out] at HB hr1 hr2
  have HS := Lib.hid (same_yes 2 [1, 12] A1 (some ⟨w1.heap.size, 0, none⟩) c1 2 w2 rfl hr1 hr2 (by omega))
  clear hG hb1 hb2 hr1 hr2
  go_wp2_with (rw [← hw2.out])
  refine HS.out.mono ?_
  rintro e w3 ⟨rfl, hb3⟩
  have HF := Lib.hid (HB.out.trans (hb3.mono HB.out.size))
  clear hb3 HS
  go_wp2
  go_ret
  exact ⟨rfl, HF.out⟩
end Go.Proofs.Ytogffilanioejaa
