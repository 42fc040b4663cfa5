/- The document's Told, as a contract. No condition but those in the statements. -/
import Derived.Test.YtjknmojjodghdaaGreat
import Derived.OpenShut
namespace Go.Proofs.Ytjknmojjodghdaa
open Go.RowKit Go.Sort Go.ChangeShapes Go.WideShapes
set_option linter.unusedVariables false
set_option linter.unusedSimpArgs false

/-- All numbers of the rows are words. -/
def rowsFit (l : List (List Int)) : Bool := l.all (fun x => x.all fitB)
theorem rowsFit_next {l : List (List Int)} {k : Nat} {x : List Int} (h : l[k]? = some x) : rowsFit (l.take (k + 1)) = (rowsFit (l.take k) && x.all fitB) := by
  rw [List.take_add_one, h]; simp [rowsFit]
theorem rowsFit_not {l : List (List Int)} {k : Nat} {x : List Int} (h : l[k]? = some x) (hx : x.all fitB = false) : rowsFit l = false := by
  unfold rowsFit
  rw [List.all_eq_false]
  exact ⟨x, List.mem_of_getElem? h, by simp [hx]⟩
/-- It is told by words. -/
def toldB (c : Cfg) : Bool := cfgLe 64 c && rowsFit c.parts && rowsFit c.chans && (fitB c.len0 && rowsFit c.win0) && (fitB c.len1 && rowsFit c.win1)
theorem toldB_parts {c : Cfg} {k : Nat} {x : List Int} (h : c.parts[k]? = some x) (hx : x.all fitB = false) : toldB c = false := by simp [toldB, rowsFit_not h hx]
theorem toldB_chans {c : Cfg} {k : Nat} {x : List Int} (h : c.chans[k]? = some x) (hx : x.all fitB = false) : toldB c = false := by simp [toldB, rowsFit_not h hx]
theorem toldB_win0 {c : Cfg} {k : Nat} {x : List Int} (h : c.win0[k]? = some x) (hx : x.all fitB = false) : toldB c = false := by simp [toldB, rowsFit_not h hx]
theorem toldB_win1 {c : Cfg} {k : Nat} {x : List Int} (h : c.win1[k]? = some x) (hx : x.all fitB = false) : toldB c = false := by simp [toldB, rowsFit_not h hx]
theorem toldB_len0 {c : Cfg} (h : fitB c.len0 = false) : toldB c = false := by simp [toldB, h]
theorem toldB_len1 {c : Cfg} (h : fitB c.len1 = false) : toldB c = false := by simp [toldB, h]
theorem toldB_great {c : Cfg} (h : cfgLe 64 c = false) : toldB c = false := by simp [toldB, h]
def FitUpto (len0 : Int) (win0 : List (List Int)) (len1 : Int) (win1 : List (List Int)) (j : Int) : Prop := (0 < j → fitB len0 = true ∧ rowsFit win0 = true) ∧ (1 < j → fitB len1 = true ∧ rowsFit win1 = true)

set_option maxRecDepth 100000 in
set_option maxHeartbeats 8000000 in
theorem told_plain (parts chans : List (List Int)) (len0 : Int) (win0 : List (List Int)) (len1 : Int) (win1 : List (List Int)) (pa : Option Addr) (pc : Nat) (ca : Option Addr) (cc : Nat) (aa : Option Addr) (ac : Nat) (ba : Option Addr) (bc : Nat) (w : World) (hxp : RowN [.i64, .i64] w w.heap.size pa parts) (hxc : RowN [.i64, .i64, .i64, .i64, .i64, .i64, .u32] w w.heap.size ca chans) (hx0 : RowN [.i64, .i64, .i64] w w.heap.size aa win0) (hx1 : RowN [.i64, .i64, .i64] w w.heap.size ba win1) (hxpw : wfR [.i64, .i64] parts) (hxcw : wfR [.i64, .i64, .i64, .i64, .i64, .i64, .u32] chans) (hx0w : wfR [.i64, .i64, .i64] win0) (hx1w : wfR [.i64, .i64, .i64] win1) (hxpl : parts.length ≤ 1000000) (hxcl : chans.length ≤ 1000000) (hx0l : win0.length ≤ 1000000) (hx1l : win1.length ≤ 1000000) :
    Calls Try.prog 15 #[.agg #[.slice pa parts.length pc, .slice ca chans.length cc, .int .i64 len0, .slice aa win0.length ac, .int .i64 len1, .slice ba win1.length bc]] w fun e w' => e = .returned (.bool (toldB (⟨parts, chans, len0, win0, len1, win1⟩ : Cfg))) ∧ Below w.heap.size w w' := by
  obtain ⟨W, HW, hB, _, bx⟩ := one_cbox w ⟨parts, chans, len0, win0, len1, win1⟩ ⟨pa, pc, ca, cc, aa, ac, ba, bc⟩ 31
  have HB := Lib.hid hB
  have hxp := hxp.later hB; have hxc := hxc.later hB; have hx0 := hx0.later hB; have hx1 := hx1.later hB
  clear hB
  by_cases g0 : parts.length ≤ 64
  · have f0 : ¬ ((64 : Int) < (parts.length : Int)) := by omega
    have e0 : (parts.length : Int) ≤ 64 := by omega
    by_cases g1 : chans.length ≤ 64
    · have f1 : ¬ ((64 : Int) < (chans.length : Int)) := by omega
      have e1 : (chans.length : Int) ≤ 64 := by omega
      by_cases g2 : win0.length ≤ 64
      · have f2 : ¬ ((64 : Int) < (win0.length : Int)) := by omega
        have e2 : (win0.length : Int) ≤ 64 := by omega
        by_cases g3 : win1.length ≤ 64
        · have f3 : ¬ ((64 : Int) < (win1.length : Int)) := by omega
          have e3 : (win1.length : Int) ≤ 64 := by omega
          have HG := Lib.hid (show cfgLe 64 (⟨parts, chans, len0, win0, len1, win1⟩ : Cfg) = true from decide_eq_true ⟨g0, g1, g2, g3⟩)
          go_enter Try.func15, Try.ntmps15
          go_wp2
          go_loopw [3] (fun ix wr => ∃ k : Nat, k ≤ parts.length ∧ ix = .int .i64 k ∧ rowsFit (parts.take k) = true ∧ Below W.heap.size W wr) (fun ix _ => parts.length - (intOf ix).toNat)
          case atStart => exact ⟨0, Nat.zero_le _, by first | rfl | go_num, rfl, (by rw [← HW.out]; exact Below.refl _ _)⟩
          case round =>
            obtain ⟨k, hk, rfl, htk, hbc⟩ := hrel
            have HT := Lib.hid htk
            obtain ⟨c0, c1, c2, c3, c4, c5⟩ := bx _ hbc
            clear htk
            by_cases hlt : k < parts.length
            · obtain ⟨b, o, x0, x1, e0, _, e1, ⟨hw0, hw1⟩, k0⟩ := hxp.at2 hxpw hlt
              subst e0
              have k0 := k0 _ hbc
              obtain ⟨p0, p1⟩ := k0
              have E1 := Lib.hid e1
              clear e1
              by_cases h0 : fitB x0 = true
              · by_cases h1 : fitB x1 = true
                · 
                  have HX := Lib.hid (show [x0, x1].all fitB = true by simp [h0, h1])
                  go_wp2_with (go_at_call 35; ((with_reducible refine (word_is _ _ _ (by assumption)).mono ?_); rintro e w5 ⟨rfl, rfl⟩))
                  go_roundw
                  case rel => exact ⟨k + 1, by omega, by go_num, by rw [rowsFit_next E1.out, HT.out, HX.out]; rfl, hbc⟩
                  case measure => simp [intOf]; omega
                · have h1 : fitB x1 = false := by simpa using h1
                  have HX := Lib.hid (toldB_parts (c := (⟨parts, chans, len0, win0, len1, win1⟩ : Cfg)) E1.out (show [x0, x1].all fitB = false by simp [h0, h1]))
                  go_wp2_with (go_at_call 35; ((with_reducible refine (word_is _ _ _ (by assumption)).mono ?_); rintro e w5 ⟨rfl, rfl⟩))
                  go_ret
                  exact ⟨by rw [HX.out]; rfl, HB.out.trans (hbc.mono HB.out.size)⟩
              · have h0 : fitB x0 = false := by simpa using h0
                have HX := Lib.hid (toldB_parts (c := (⟨parts, chans, len0, win0, len1, win1⟩ : Cfg)) E1.out (show [x0, x1].all fitB = false by simp [h0]))
                go_wp2_with (go_at_call 35; ((with_reducible refine (word_is _ _ _ (by assumption)).mono ?_); rintro e w5 ⟨rfl, rfl⟩))
                go_ret
                exact ⟨by rw [HX.out]; rfl, HB.out.trans (hbc.mono HB.out.size)⟩
            · have HS_parts := Lib.hid (show rowsFit parts = true by have h := HT.out; rw [List.take_of_length_le (by omega)] at h; exact h)
              clear HT
              go_wp2
              go_loopw [4] (fun ix wr => ∃ k : Nat, k ≤ chans.length ∧ ix = .int .i64 k ∧ rowsFit (chans.take k) = true ∧ Below W.heap.size W wr) (fun ix _ => chans.length - (intOf ix).toNat)
              case atStart => exact ⟨0, Nat.zero_le _, by first | rfl | go_num, rfl, hbc⟩
              case round =>
                obtain ⟨k, hk, rfl, htk, hbc⟩ := hrel
                have HT := Lib.hid htk
                obtain ⟨c0, c1, c2, c3, c4, c5⟩ := bx _ hbc
                clear htk
                by_cases hlt : k < chans.length
                · obtain ⟨b, o, x0, x1, x2, x3, x4, x5, x6, e0, _, e1, ⟨hw0, hw1, hw2, hw3, hw4, hw5, hw6⟩, k0⟩ := hxc.at7 hxcw hlt
                  subst e0
                  have k0 := k0 _ hbc
                  obtain ⟨p0, k0⟩ := k0
                  obtain ⟨p1, k0⟩ := k0
                  obtain ⟨p2, k0⟩ := k0
                  obtain ⟨p3, k0⟩ := k0
                  obtain ⟨p4, k0⟩ := k0
                  obtain ⟨p5, p6⟩ := k0
                  have E1 := Lib.hid e1
                  clear e1
                  by_cases h0 : fitB x0 = true
                  · by_cases h1 : fitB x1 = true
                    · by_cases h2 : fitB x2 = true
                      · by_cases h3 : fitB x3 = true
                        · by_cases h4 : fitB x4 = true
                          · by_cases h5 : fitB x5 = true
                            · 
                              have h6 : fitB x6 = true := fitB_yes.2 (bounds_u32 hw6)
                              have HX := Lib.hid (show [x0, x1, x2, x3, x4, x5, x6].all fitB = true by simp [h0, h1, h2, h3, h4, h5, h6])
                              go_wp2_with (go_at_call 35; ((with_reducible refine (word_is _ _ _ (by assumption)).mono ?_); rintro e w5 ⟨rfl, rfl⟩))
                              go_roundw
                              case rel => exact ⟨k + 1, by omega, by go_num, by rw [rowsFit_next E1.out, HT.out, HX.out]; rfl, (hbc.alloc hbc.size _)⟩
                              case measure => simp [intOf]; omega
                            · have h5 : fitB x5 = false := by simpa using h5
                              have HX := Lib.hid (toldB_chans (c := (⟨parts, chans, len0, win0, len1, win1⟩ : Cfg)) E1.out (show [x0, x1, x2, x3, x4, x5, x6].all fitB = false by simp [h0, h1, h2, h3, h4, h5]))
                              go_wp2_with (go_at_call 35; ((with_reducible refine (word_is _ _ _ (by assumption)).mono ?_); rintro e w5 ⟨rfl, rfl⟩))
                              go_ret
                              exact ⟨by rw [HX.out]; rfl, HB.out.trans ((hbc.alloc hbc.size _).mono HB.out.size)⟩
                          · have h4 : fitB x4 = false := by simpa using h4
                            have HX := Lib.hid (toldB_chans (c := (⟨parts, chans, len0, win0, len1, win1⟩ : Cfg)) E1.out (show [x0, x1, x2, x3, x4, x5, x6].all fitB = false by simp [h0, h1, h2, h3, h4]))
                            go_wp2_with (go_at_call 35; ((with_reducible refine (word_is _ _ _ (by assumption)).mono ?_); rintro e w5 ⟨rfl, rfl⟩))
                            go_ret
                            exact ⟨by rw [HX.out]; rfl, HB.out.trans ((hbc.alloc hbc.size _).mono HB.out.size)⟩
                        · have h3 : fitB x3 = false := by simpa using h3
                          have HX := Lib.hid (toldB_chans (c := (⟨parts, chans, len0, win0, len1, win1⟩ : Cfg)) E1.out (show [x0, x1, x2, x3, x4, x5, x6].all fitB = false by simp [h0, h1, h2, h3]))
                          go_wp2_with (go_at_call 35; ((with_reducible refine (word_is _ _ _ (by assumption)).mono ?_); rintro e w5 ⟨rfl, rfl⟩))
                          go_ret
                          exact ⟨by rw [HX.out]; rfl, HB.out.trans ((hbc.alloc hbc.size _).mono HB.out.size)⟩
                      · have h2 : fitB x2 = false := by simpa using h2
                        have HX := Lib.hid (toldB_chans (c := (⟨parts, chans, len0, win0, len1, win1⟩ : Cfg)) E1.out (show [x0, x1, x2, x3, x4, x5, x6].all fitB = false by simp [h0, h1, h2]))
                        go_wp2_with (go_at_call 35; ((with_reducible refine (word_is _ _ _ (by assumption)).mono ?_); rintro e w5 ⟨rfl, rfl⟩))
                        go_ret
                        exact ⟨by rw [HX.out]; rfl, HB.out.trans ((hbc.alloc hbc.size _).mono HB.out.size)⟩
                    · have h1 : fitB x1 = false := by simpa using h1
                      have HX := Lib.hid (toldB_chans (c := (⟨parts, chans, len0, win0, len1, win1⟩ : Cfg)) E1.out (show [x0, x1, x2, x3, x4, x5, x6].all fitB = false by simp [h0, h1]))
                      go_wp2_with (go_at_call 35; ((with_reducible refine (word_is _ _ _ (by assumption)).mono ?_); rintro e w5 ⟨rfl, rfl⟩))
                      go_ret
                      exact ⟨by rw [HX.out]; rfl, HB.out.trans ((hbc.alloc hbc.size _).mono HB.out.size)⟩
                  · have h0 : fitB x0 = false := by simpa using h0
                    have HX := Lib.hid (toldB_chans (c := (⟨parts, chans, len0, win0, len1, win1⟩ : Cfg)) E1.out (show [x0, x1, x2, x3, x4, x5, x6].all fitB = false by simp [h0]))
                    go_wp2_with (go_at_call 35; ((with_reducible refine (word_is _ _ _ (by assumption)).mono ?_); rintro e w5 ⟨rfl, rfl⟩))
                    go_ret
                    exact ⟨by rw [HX.out]; rfl, HB.out.trans ((hbc.alloc hbc.size _).mono HB.out.size)⟩
                · have HS_chans := Lib.hid (show rowsFit chans = true by have h := HT.out; rw [List.take_of_length_le (by omega)] at h; exact h)
                  clear HT
                  go_wp2
                  go_loopw [6] (fun ix wr => ∃ j : Int, 0 ≤ j ∧ j ≤ 2 ∧ ix = .int .i64 j ∧ FitUpto len0 win0 len1 win1 j ∧ Below W.heap.size W wr) (fun ix _ => (2 - intOf ix).toNat)
                  case atStart => exact ⟨0, by omega, by omega, rfl, ⟨fun h => by omega, fun h => by omega⟩, hbc⟩
                  case round =>
                    obtain ⟨j, hj0, hj2, rfl, hu, hbc⟩ := hrel
                    have HU := Lib.hid hu
                    obtain ⟨c0, c1, c2, c3, c4, c5⟩ := bx _ hbc
                    clear hu
                    rcases (show j = 0 ∨ j = 1 ∨ j = 2 by omega) with hj | hj | hj
                    · subst hj
                      by_cases hl : fitB len0 = true
                      · have HL := Lib.hid hl
                        go_wp2_with (go_at_call 35; ((with_reducible refine (word_is _ _ _ (by assumption)).mono ?_); rintro e w5 ⟨rfl, rfl⟩))
                        clear hl
                        go_loopw [7] (fun ix wr => ∃ k : Nat, k ≤ win0.length ∧ ix = .int .i64 k ∧ rowsFit (win0.take k) = true ∧ Below W.heap.size W wr) (fun ix _ => win0.length - (intOf ix).toNat)
                        case atStart => exact ⟨0, Nat.zero_le _, by first | rfl | go_num, rfl, hbc⟩
                        case round =>
                          obtain ⟨k, hk, rfl, htk, hbc⟩ := hrel
                          have HT := Lib.hid htk
                          obtain ⟨c0, c1, c2, c3, c4, c5⟩ := bx _ hbc
                          clear htk
                          by_cases hlt : k < win0.length
                          · obtain ⟨b, o, x0, x1, x2, e0, _, e1, ⟨hw0, hw1, hw2⟩, k0⟩ := hx0.at3 hx0w hlt
                            subst e0
                            have k0 := k0 _ hbc
                            obtain ⟨p0, k0⟩ := k0
                            obtain ⟨p1, p2⟩ := k0
                            have E1 := Lib.hid e1
                            clear e1
                            by_cases h0 : fitB x0 = true
                            · by_cases h1 : fitB x1 = true
                              · by_cases h2 : fitB x2 = true
                                · 
                                  have HX := Lib.hid (show [x0, x1, x2].all fitB = true by simp [h0, h1, h2])
                                  go_wp2_with (go_at_call 35; ((with_reducible refine (word_is _ _ _ (by assumption)).mono ?_); rintro e w5 ⟨rfl, rfl⟩))
                                  go_roundw
                                  case rel => exact ⟨k + 1, by omega, by go_num, by rw [rowsFit_next E1.out, HT.out, HX.out]; rfl, (hbc.alloc hbc.size _)⟩
                                  case measure => simp [intOf]; omega
                                · have h2 : fitB x2 = false := by simpa using h2
                                  have HX := Lib.hid (toldB_win0 (c := (⟨parts, chans, len0, win0, len1, win1⟩ : Cfg)) E1.out (show [x0, x1, x2].all fitB = false by simp [h0, h1, h2]))
                                  go_wp2_with (go_at_call 35; ((with_reducible refine (word_is _ _ _ (by assumption)).mono ?_); rintro e w5 ⟨rfl, rfl⟩))
                                  go_ret
                                  exact ⟨by rw [HX.out]; rfl, HB.out.trans ((hbc.alloc hbc.size _).mono HB.out.size)⟩
                              · have h1 : fitB x1 = false := by simpa using h1
                                have HX := Lib.hid (toldB_win0 (c := (⟨parts, chans, len0, win0, len1, win1⟩ : Cfg)) E1.out (show [x0, x1, x2].all fitB = false by simp [h0, h1]))
                                go_wp2_with (go_at_call 35; ((with_reducible refine (word_is _ _ _ (by assumption)).mono ?_); rintro e w5 ⟨rfl, rfl⟩))
                                go_ret
                                exact ⟨by rw [HX.out]; rfl, HB.out.trans ((hbc.alloc hbc.size _).mono HB.out.size)⟩
                            · have h0 : fitB x0 = false := by simpa using h0
                              have HX := Lib.hid (toldB_win0 (c := (⟨parts, chans, len0, win0, len1, win1⟩ : Cfg)) E1.out (show [x0, x1, x2].all fitB = false by simp [h0]))
                              go_wp2_with (go_at_call 35; ((with_reducible refine (word_is _ _ _ (by assumption)).mono ?_); rintro e w5 ⟨rfl, rfl⟩))
                              go_ret
                              exact ⟨by rw [HX.out]; rfl, HB.out.trans ((hbc.alloc hbc.size _).mono HB.out.size)⟩
                          · have HS_win0 := Lib.hid (show rowsFit win0 = true by have h := HT.out; rw [List.take_of_length_le (by omega)] at h; exact h)
                            clear HT
                            go_wp2
                            go_roundw
                            case rel => exact ⟨1, by omega, by omega, rfl, ⟨fun _ => ⟨HL.out, HS_win0.out⟩, fun h => by omega⟩, hbc⟩
                            case measure => simp [intOf]
                      · have hl : fitB len0 = false := by simpa using hl
                        have HX := Lib.hid (toldB_len0 (c := (⟨parts, chans, len0, win0, len1, win1⟩ : Cfg)) hl)
                        go_wp2_with (go_at_call 35; ((with_reducible refine (word_is _ _ _ (by assumption)).mono ?_); rintro e w5 ⟨rfl, rfl⟩))
                        go_ret
                        exact ⟨by rw [HX.out]; rfl, HB.out.trans (hbc.mono HB.out.size)⟩
                    · subst hj
                      by_cases hl : fitB len1 = true
                      · have HL := Lib.hid hl
                        go_wp2_with (go_at_call 35; ((with_reducible refine (word_is _ _ _ (by assumption)).mono ?_); rintro e w5 ⟨rfl, rfl⟩))
                        clear hl
                        go_loopw [7] (fun ix wr => ∃ k : Nat, k ≤ win1.length ∧ ix = .int .i64 k ∧ rowsFit (win1.take k) = true ∧ Below W.heap.size W wr) (fun ix _ => win1.length - (intOf ix).toNat)
                        case atStart => exact ⟨0, Nat.zero_le _, by first | rfl | go_num, rfl, hbc⟩
                        case round =>
                          obtain ⟨k, hk, rfl, htk, hbc⟩ := hrel
                          have HT := Lib.hid htk
                          obtain ⟨c0, c1, c2, c3, c4, c5⟩ := bx _ hbc
                          clear htk
                          by_cases hlt : k < win1.length
                          · obtain ⟨b, o, x0, x1, x2, e0, _, e1, ⟨hw0, hw1, hw2⟩, k0⟩ := hx1.at3 hx1w hlt
                            subst e0
                            have k0 := k0 _ hbc
                            obtain ⟨p0, k0⟩ := k0
                            obtain ⟨p1, p2⟩ := k0
                            have E1 := Lib.hid e1
                            clear e1
                            by_cases h0 : fitB x0 = true
                            · by_cases h1 : fitB x1 = true
                              · by_cases h2 : fitB x2 = true
                                · 
                                  have HX := Lib.hid (show [x0, x1, x2].all fitB = true by simp [h0, h1, h2])
                                  go_wp2_with (go_at_call 35; ((with_reducible refine (word_is _ _ _ (by assumption)).mono ?_); rintro e w5 ⟨rfl, rfl⟩))
                                  go_roundw
                                  case rel => exact ⟨k + 1, by omega, by go_num, by rw [rowsFit_next E1.out, HT.out, HX.out]; rfl, (hbc.alloc hbc.size _)⟩
                                  case measure => simp [intOf]; omega
                                · have h2 : fitB x2 = false := by simpa using h2
                                  have HX := Lib.hid (toldB_win1 (c := (⟨parts, chans, len0, win0, len1, win1⟩ : Cfg)) E1.out (show [x0, x1, x2].all fitB = false by simp [h0, h1, h2]))
                                  go_wp2_with (go_at_call 35; ((with_reducible refine (word_is _ _ _ (by assumption)).mono ?_); rintro e w5 ⟨rfl, rfl⟩))
                                  go_ret
                                  exact ⟨by rw [HX.out]; rfl, HB.out.trans ((hbc.alloc hbc.size _).mono HB.out.size)⟩
                              · have h1 : fitB x1 = false := by simpa using h1
                                have HX := Lib.hid (toldB_win1 (c := (⟨parts, chans, len0, win0, len1, win1⟩ : Cfg)) E1.out (show [x0, x1, x2].all fitB = false by simp [h0, h1]))
                                go_wp2_with (go_at_call 35; ((with_reducible refine (word_is _ _ _ (by assumption)).mono ?_); rintro e w5 ⟨rfl, rfl⟩))
                                go_ret
                                exact ⟨by rw [HX.out]; rfl, HB.out.trans ((hbc.alloc hbc.size _).mono HB.out.size)⟩
                            · have h0 : fitB x0 = false := by simpa using h0
                              have HX := Lib.hid (toldB_win1 (c := (⟨parts, chans, len0, win0, len1, win1⟩ : Cfg)) E1.out (show [x0, x1, x2].all fitB = false by simp [h0]))
                              go_wp2_with (go_at_call 35; ((with_reducible refine (word_is _ _ _ (by assumption)).mono ?_); rintro e w5 ⟨rfl, rfl⟩))
                              go_ret
                              exact ⟨by rw [HX.out]; rfl, HB.out.trans ((hbc.alloc hbc.size _).mono HB.out.size)⟩
                          · have HS_win1 := Lib.hid (show rowsFit win1 = true by have h := HT.out; rw [List.take_of_length_le (by omega)] at h; exact h)
                            clear HT
                            go_wp2
                            go_roundw
                            case rel => exact ⟨2, by omega, by omega, rfl, ⟨fun _ => HU.out.1 (by omega), fun _ => ⟨HL.out, HS_win1.out⟩⟩, hbc⟩
                            case measure => simp [intOf]
                      · have hl : fitB len1 = false := by simpa using hl
                        have HX := Lib.hid (toldB_len1 (c := (⟨parts, chans, len0, win0, len1, win1⟩ : Cfg)) hl)
                        go_wp2_with (go_at_call 35; ((with_reducible refine (word_is _ _ _ (by assumption)).mono ?_); rintro e w5 ⟨rfl, rfl⟩))
                        go_ret
                        exact ⟨by rw [HX.out]; rfl, HB.out.trans (hbc.mono HB.out.size)⟩
                    · subst hj
                      have HF := Lib.hid (show toldB (⟨parts, chans, len0, win0, len1, win1⟩ : Cfg) = true by
                        obtain ⟨h1, h2⟩ := HU.out.1 (by omega)
                        obtain ⟨h3, h4⟩ := HU.out.2 (by omega)
                        simp [toldB, HG.out, HS_parts.out, HS_chans.out, h1, h2, h3, h4])
                      go_wp2
                      go_ret
                      exact ⟨by rw [HF.out]; rfl, HB.out.trans (hbc.mono HB.out.size)⟩
        · have f3 : ((64 : Int) < (win1.length : Int)) := by omega
          have e3 : ¬ ((win1.length : Int) ≤ 64) := by omega
          have HR := Lib.hid (toldB_great (show cfgLe 64 (⟨parts, chans, len0, win0, len1, win1⟩ : Cfg) = false from decide_eq_false (fun h => g3 h.2.2.2)))
          go_enter Try.func15, Try.ntmps15
          go_wp2
          go_ret
          exact ⟨by rw [HR.out]; rfl, (Below.refl _ _).alloc (Nat.le_refl _) _⟩
      · have f2 : ((64 : Int) < (win0.length : Int)) := by omega
        have e2 : ¬ ((win0.length : Int) ≤ 64) := by omega
        have HR := Lib.hid (toldB_great (show cfgLe 64 (⟨parts, chans, len0, win0, len1, win1⟩ : Cfg) = false from decide_eq_false (fun h => g2 h.2.2.1)))
        go_enter Try.func15, Try.ntmps15
        go_wp2
        go_ret
        exact ⟨by rw [HR.out]; rfl, (Below.refl _ _).alloc (Nat.le_refl _) _⟩
    · have f1 : ((64 : Int) < (chans.length : Int)) := by omega
      have e1 : ¬ ((chans.length : Int) ≤ 64) := by omega
      have HR := Lib.hid (toldB_great (show cfgLe 64 (⟨parts, chans, len0, win0, len1, win1⟩ : Cfg) = false from decide_eq_false (fun h => g1 h.2.1)))
      go_enter Try.func15, Try.ntmps15
      go_wp2
      go_ret
      exact ⟨by rw [HR.out]; rfl, (Below.refl _ _).alloc (Nat.le_refl _) _⟩
  · have f0 : ((64 : Int) < (parts.length : Int)) := by omega
    have e0 : ¬ ((parts.length : Int) ≤ 64) := by omega
    have HR := Lib.hid (toldB_great (show cfgLe 64 (⟨parts, chans, len0, win0, len1, win1⟩ : Cfg) = false from decide_eq_false (fun h => g0 h.1)))
    go_enter Try.func15, Try.ntmps15
    go_wp2
    go_ret
    exact ⟨by rw [HR.out]; rfl, (Below.refl _ _).alloc (Nat.le_refl _) _⟩
theorem told_b (c : Cfg) (x : CfgAt) (w : World) (hx : CfgIn w w.heap.size c x) (wx : CfgWf c) (lx : CfgFew c) : Calls Try.prog 15 #[.agg (cfgCells c x)] w fun e w' => e = .returned (.bool (toldB c)) ∧ Below w.heap.size w w' := by
  obtain ⟨parts, chans, len0, win0, len1, win1⟩ := c
  obtain ⟨pa, pc, ca, cc, aa, ac, ba, bc⟩ := x
  exact told_plain parts chans len0 win0 len1 win1 pa pc ca cc aa ac ba bc w hx.rp hx.rc hx.ra hx.rb wx.wp wx.wc wx.wa wx.wb lx.1 lx.2.1 lx.2.2.1 lx.2.2.2
end Go.Proofs.Ytjknmojjodghdaa
