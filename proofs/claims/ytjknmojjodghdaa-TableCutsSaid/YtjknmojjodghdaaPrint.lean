/- Print, as a contract. No condition but those in the statements. -/
import Derived.Test.YtjknmojjodghdaaTold
import Derived.Test.YtjknmojjodghdaaNums
import Derived.Test.YtjknmojjodghdaaWords
namespace Go.Proofs.Ytjknmojjodghdaa
open Go.RowKit Go.Sort Go.ChangeShapes Go.WideShapes
set_option linter.unusedVariables false
set_option linter.unusedSimpArgs false

theorem OwnsOff.kRow {K : IntKind} {w : World} {base : Nat} {e : TypeId} {v : Value} {xs : List Int} (h : OwnsOff w base e 1 v xs.length (xs.map (Value.int K))) :
    ∃ A c, v = .slice A xs.length c ∧ xs.length ≤ c ∧ c ≤ maxLen ∧ IntRowK K w w.heap.size A xs ∧ (A = none → xs = []) ∧ ∀ a, A = some a → base ≤ a.block := by
  obtain ⟨_, ⟨rfl, hn⟩ | ⟨g, off, cap, cur, rfl, hb, hcur, hle, hmax, _, htk⟩⟩ := h
  · exact ⟨none, 0, by rw [hn], by omega, by unfold maxLen; omega, fun hp => by omega, fun _ => List.eq_nil_of_length_eq_zero hn, fun _ h => by cases h⟩
  · refine ⟨_, cap, rfl, hle, hmax, fun hp => ⟨g, off, rfl, (Array.getElem?_eq_some_iff.1 hcur).1, fun i hi => ?_⟩, (fun h => by cases h), fun a ha => by cases ha; exact hb⟩
    have h1 : (xs.map (Value.int K))[i]? = some (.int K (xs.getD i 0)) := by simp [List.getD_eq_getElem?_getD, hi]
    rw [← htk, List.getElem?_take] at h1
    split at h1
    · rw [List.getElem?_drop] at h1
      simp [World.cell?, hcur]
      simpa using h1
    · cases h1
theorem all_flat (l : List (List Int)) : l.flatten.all fitB = rowsFit l := by
  induction l with
  | nil => rfl
  | cons x l ih => rw [List.flatten_cons, List.all_append, ih]; simp [rowsFit]
theorem nums_fit {c : Cfg} (h : cfgLe 64 c = true) : (numsN c).all fitB = toldB c := by
  obtain ⟨h0, h1, h2, h3⟩ := cfgLe_yes h
  have f : ∀ n : Nat, n ≤ 64 → fitB (n : Int) = true := fun n hn => fitB_yes.2 ⟨by omega, by omega⟩
  unfold numsN
  rw [List.all_append, List.all_append, List.all_append, List.all_append, all_flat, all_flat, all_flat, all_flat]
  simp only [headN, List.all_cons, List.all_nil, f _ h0, f _ h1, f _ h2, f _ h3, toldB, h, Bool.true_and, Bool.and_true]
  generalize rowsFit c.parts = a
  generalize rowsFit c.chans = b
  generalize rowsFit c.win0 = d
  generalize rowsFit c.win1 = e
  generalize fitB c.len0 = p
  generalize fitB c.len1 = q
  cases a <;> cases b <;> cases d <;> cases e <;> cases p <;> cases q <;> rfl
theorem flat_int {ks : List IntKind} (hk : ∀ k ∈ ks, k = .i64 ∨ k = .u32) {l : List (List Int)} (h : wfR ks l) : ∀ n ∈ l.flatten, -9223372036854775808 ≤ n ∧ n ≤ 9223372036854775807 := by
  intro n hn
  obtain ⟨x, hx, hnx⟩ := List.mem_flatten.1 hn
  obtain ⟨hl, hw⟩ := h x hx
  obtain ⟨j, hj, rfl⟩ := List.getElem_of_mem hnx
  have hjk : j < ks.length := by omega
  have := hw j ks[j] x[j] (List.getElem?_eq_getElem hjk) (List.getElem?_eq_getElem hj)
  rcases hk _ (List.getElem_mem hjk) with e | e
  · rw [e] at this; exact bounds_i64 this
  · rw [e] at this; have := bounds_u32 this; omega
theorem nums_int {c : Cfg} (h : CfgWf c) (hl : cfgLe 64 c = true) : ∀ n ∈ numsN c, -9223372036854775808 ≤ n ∧ n ≤ 9223372036854775807 := by
  obtain ⟨h0, h1, h2, h3⟩ := cfgLe_yes hl
  intro n hn
  simp only [numsN, List.mem_append] at hn
  rcases hn with (((hn | hn) | hn) | hn) | hn
  · simp only [headN, List.mem_cons, List.not_mem_nil, or_false] at hn
    have := bounds_i64 h.w0
    have := bounds_i64 h.w1
    rcases hn with rfl | rfl | rfl | rfl | rfl | rfl <;> omega
  · exact flat_int (by simp) h.wp n hn
  · exact flat_int (by simp) h.wc n hn
  · exact flat_int (by simp) h.wa n hn
  · exact flat_int (by simp) h.wb n hn
theorem nums_len {c : Cfg} (h : CfgWf c) (hl : cfgLe 64 c = true) : (numsN c).length ≤ 1000 ∧ (numsN c).length = 6 + 2 * c.parts.length + 7 * c.chans.length + 3 * c.win0.length + 3 * c.win1.length := by
  obtain ⟨h0, h1, h2, h3⟩ := cfgLe_yes hl
  have e : (numsN c).length = 6 + 2 * c.parts.length + 7 * c.chans.length + 3 * c.win0.length + 3 * c.win1.length := by
    simp only [numsN, List.length_append, flat_len h.wp, flat_len h.wc, flat_len h.wa, flat_len h.wb, headN, List.length_cons, List.length_nil]; omega
  exact ⟨by rw [e]; omega, e⟩
/-- What it prints. -/
def printN (c : Cfg) : List Int := if toldB c = true then numsN c else []
theorem few_is (b : Bool) (parts chans : List (List Int)) (len0 : Int) (win0 : List (List Int)) (len1 : Int) (win1 : List (List Int)) (pa : Option Addr) (pc : Nat) (ca : Option Addr) (cc : Nat) (aa : Option Addr) (ac : Nat) (ba : Option Addr) (bc : Nat) (w : World) (h : cfgLe 64 (⟨parts, chans, len0, win0, len1, win1⟩ : Cfg) = b) : Calls Try.prog 32 #[.agg #[.slice pa parts.length pc, .slice ca chans.length cc, .int .i64 len0, .slice aa win0.length ac, .int .i64 len1, .slice ba win1.length bc]] w fun e w' => e = .returned (.bool b) ∧ Below w.heap.size w w' := by
  subst h; exact few_plain parts chans len0 win0 len1 win1 pa pc ca cc aa ac ba bc w

set_option maxRecDepth 100000 in
set_option maxHeartbeats 4000000 in
theorem print_plain (parts chans : List (List Int)) (len0 : Int) (win0 : List (List Int)) (len1 : Int) (win1 : List (List Int)) (pa : Option Addr) (pc : Nat) (ca : Option Addr) (cc : Nat) (aa : Option Addr) (ac : Nat) (ba : Option Addr) (bc : Nat) (w : World) (hxp : RowN [.i64, .i64] w w.heap.size pa parts) (hxc : RowN [.i64, .i64, .i64, .i64, .i64, .i64, .u32] w w.heap.size ca chans) (hx0 : RowN [.i64, .i64, .i64] w w.heap.size aa win0) (hx1 : RowN [.i64, .i64, .i64] w w.heap.size ba win1) (hxpw : wfR [.i64, .i64] parts) (hxcw : wfR [.i64, .i64, .i64, .i64, .i64, .i64, .u32] chans) (hx0w : wfR [.i64, .i64, .i64] win0) (hx1w : wfR [.i64, .i64, .i64] win1) (hxpl : parts.length ≤ 1000000) (hxcl : chans.length ≤ 1000000) (hx0l : win0.length ≤ 1000000) (hx1l : win1.length ≤ 1000000) (hw : CfgWf (⟨parts, chans, len0, win0, len1, win1⟩ : Cfg)) :
    Calls Try.prog 14 #[.agg #[.slice pa parts.length pc, .slice ca chans.length cc, .int .i64 len0, .slice aa win0.length ac, .int .i64 len1, .slice ba win1.length bc]] w (GivesWords w (printN (⟨parts, chans, len0, win0, len1, win1⟩ : Cfg))) := by
  obtain ⟨W, HW, hB, -, bx⟩ := one_cbox w ⟨parts, chans, len0, win0, len1, win1⟩ ⟨pa, pc, ca, cc, aa, ac, ba, bc⟩ 31
  have HB := Lib.hid hB
  have hxp := hxp.later hB; have hxc := hxc.later hB; have hx0 := hx0.later hB; have hx1 := hx1.later hB
  clear hB
  cases hf : cfgLe 64 (⟨parts, chans, len0, win0, len1, win1⟩ : Cfg) with
  | false =>
    have HR := Lib.hid (show printN (⟨parts, chans, len0, win0, len1, win1⟩ : Cfg) = [] by rw [printN, toldB_great hf]; rfl)
    have HF := Lib.hid hf
    clear hf
    go_enter Try.func14, Try.ntmps14
    go_wp2_with fail
    refine (few_is false parts chans len0 win0 len1 win1 pa pc ca cc aa ac ba bc _ HF.out).mono ?_
    rintro e w1 ⟨rfl, hb⟩
    rw [← HW.out] at hb
    go_wp2
    go_ret
    refine ⟨_, rfl, ?_, HB.out.trans (hb.mono HB.out.size)⟩
    rw [HR.out]; exact OwnsOff.nil _ _ _ _
  | true =>
    obtain ⟨g0, g1, g2, g3⟩ := cfgLe_yes hf
    obtain ⟨hl, -⟩ := nums_len hw hf
    have hI := Lib.hid (nums_int hw hf)
    have HT := Lib.hid (nums_fit hf)
    have HF := Lib.hid hf
    obtain ⟨j0, hj, hy0, hy1, hy2⟩ := info_parts Try.infoW
    clear hf
    go_enter Try.func14, Try.ntmps14
    go_wp2_with fail
    refine (few_is true parts chans len0 win0 len1 win1 pa pc ca cc aa ac ba bc _ HF.out).mono ?_
    rintro e w1 ⟨rfl, hb⟩
    rw [← HW.out] at hb
    obtain ⟨c0, c1, c2, c3, c4, c5⟩ := bx _ hb
    have hn := nums_plain parts chans len0 win0 len1 win1 pa pc ca cc aa ac ba bc w1 (hxp.later hb) (hxc.later hb) (hx0.later hb) (hx1.later hb) hxpw hxcw hx0w hx1w hxpl hxcl hx0l hx1l g0 g1 g2 g3
    have HN := Lib.hid hn
    clear hn
    go_wp2_with fail
    refine HN.out.mono ?_
    rintro e w2 ⟨v, rfl, hown, hb2⟩
    obtain ⟨An, cn, rfl, hcn, hmn, hrow, hnil, -⟩ := OwnsOff.kRow hown
    have HB2 := Lib.hid (HB.out.trans ((hb.trans (hb2.mono hb.size)).mono HB.out.size))
    obtain ⟨xs, hxs⟩ : ∃ xs, numsN (⟨parts, chans, len0, win0, len1, win1⟩ : Cfg) = xs := ⟨_, rfl⟩
    rw [hxs] at hl hrow
    have HXS := Lib.hid hxs
    rw [hxs]
    clear hxs hown hb hb2 hcn hnil c0 c1 c2 c3 c4 c5 HN
    go_wp2
    go_loopw [3, 12] (fun v ix wr => ∃ k : Nat, k ≤ xs.length ∧ ix = .int .i64 k ∧ (xs.take k).all fitB = true ∧ OwnsOff wr w2.heap.size 43 1 v (xs.take k).length (wcells (xs.take k)) ∧ Below w2.heap.size w2 wr) (fun _ ix _ => xs.length - (intOf ix).toNat)
    case atStart => exact ⟨0, Nat.zero_le _, rfl, rfl, OwnsOff.nil _ _ _ _, Below.refl _ _⟩
    case round =>
      obtain ⟨k, hk, rfl, hall, hown, hbc⟩ := hrel
      have HA := Lib.hid hall
      clear hall
      by_cases hlt : k < xs.length
      · obtain ⟨b, o, rfl, hbo, k0⟩ := hrow.at_ hlt
        have k1 := k0 _ hbc
        clear k0
        obtain ⟨n, hn⟩ : ∃ n, xs.getD k 0 = n := ⟨_, rfl⟩
        have hget : xs[k]? = some n := by rw [← hn]; simp [List.getD_eq_getElem?_getD, hlt]
        rw [hn] at k1
        obtain ⟨n1, n2⟩ := hI.out n (by rw [HXS.out]; exact List.mem_of_getElem? hget)
        have HN := Lib.hid (show xs.take (k + 1) = xs.take k ++ [n] by rw [List.take_add_one, hget]; rfl)
        obtain ⟨ys, hys⟩ : ∃ ys, xs.take k = ys := ⟨_, rfl⟩
        have hyl : ys.length ≤ 1000 := by rw [← hys, List.length_take]; omega
        rw [hys] at HN HA hown
        have HG := Lib.hid hget
        clear hn hget hys
        by_cases hfit : fitB n = true
        · obtain ⟨f1, f2⟩ := fitB_yes.1 hfit
          have HFI := Lib.hid hfit
          clear hfit
          have hsz := hbc.size
          go_wp2_with fail
          refine (fit_is n true _ n1 n2 HFI.out).mono ?_
          rintro e w5 ⟨rfl, rfl⟩
          go_wp2_with (at_builtin; refine wpList_append_off _ rfl _ _ 22 rfl w2.heap.size 43 j0 (.int .u32 0) 1 4 Try.underlying22 hj hy0 hy1 hy2 rfl (by decide) _ _ _ rfl (hown.keptB ((Below.refl _ _).alloc (Nat.le_refl _) _)) ⟨wr.heap.size, 0, none⟩ 1 1 [.int .u32 n] rfl rfl (news_new _ _ _) (by simp [Value.oneCell']) (by unfold maxLen; omega) (by omega) (by simp; omega) ?_)
          intro v' w6 hown' hgrow _
          have hb6 := Lib.hid ((hbc.alloc hbc.size _).grown hgrow (by simp; omega) (fun i e => (hown.lt i e).1))
          have hown3 : OwnsOff w6 w2.heap.size 43 1 v' (ys ++ [n]).length (wcells (ys ++ [n])) := by rw [List.length_append, wcells_app]; exact hown'
          have H3 := Lib.hid hown3
          clear hown' hgrow hown hown3
          go_wp2
          go_roundw
          case rel => exact ⟨k + 1, by omega, by go_num, by rw [HN.out, List.all_append, HA.out]; simp [HFI.out], by rw [HN.out]; exact H3.out, hb6.out⟩
          case measure => simp [intOf]; omega
        · have hfit : fitB n = false := by simpa using hfit
          have HR := Lib.hid (show printN (⟨parts, chans, len0, win0, len1, win1⟩ : Cfg) = [] by
            have h : xs.all fitB = false := by rw [List.all_eq_false]; exact ⟨n, List.mem_of_getElem? HG.out, by simp [hfit]⟩
            rw [printN, ← HT.out, HXS.out, h]; rfl)
          have HFI := Lib.hid hfit
          clear hfit
          go_wp2_with fail
          refine (fit_is n false _ n1 n2 HFI.out).mono ?_
          rintro e w5 ⟨rfl, rfl⟩
          go_wp2
          go_ret
          refine ⟨_, rfl, ?_, HB2.out.trans (hbc.mono HB2.out.size)⟩
          rw [HR.out]; exact OwnsOff.nil _ _ _ _
      · have hke : xs.take k = xs := List.take_of_length_le (by omega)
        rw [hke] at hown
        have HR := Lib.hid (show printN (⟨parts, chans, len0, win0, len1, win1⟩ : Cfg) = xs by
          have h := HA.out
          rw [hke] at h
          rw [printN, ← HT.out, HXS.out, h]; rfl)
        have H3 := Lib.hid hown
        clear hown hke
        go_wp2
        go_ret
        refine ⟨_, rfl, ?_, HB2.out.trans (hbc.mono HB2.out.size)⟩
        rw [HR.out]; exact H3.out.mono HB2.out.size
theorem print_b (c : Cfg) (x : CfgAt) (w : World) (hx : CfgIn w w.heap.size c x) (wx : CfgWf c) (lx : CfgFew c) : Calls Try.prog 14 #[.agg (cfgCells c x)] w (GivesWords w (printN c)) := by
  obtain ⟨parts, chans, len0, win0, len1, win1⟩ := c
  obtain ⟨pa, pc, ca, cc, aa, ac, ba, bc⟩ := x
  exact print_plain parts chans len0 win0 len1 win1 pa pc ca cc aa ac ba bc w hx.rp hx.rc hx.ra hx.rb wx.wp wx.wc wx.wa wx.wb lx.1 lx.2.1 lx.2.2.1 lx.2.2.2 wx
end Go.Proofs.Ytjknmojjodghdaa
