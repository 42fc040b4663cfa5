/- The program's Same, as a contract. No condition but those in the statements. -/
import Derived.Test.YtjknmojjodghdaaRSame
import Derived.ChangeKeysEq
namespace Go.Proofs.Ytjknmojjodghdaa
open Go.RowKit Go.Sort
set_option linter.unusedVariables false
set_option linter.unusedSimpArgs false

section
variable {P : Program} {o : Oper} {a : Act} {C : World → Prop} {K : Act → Prop}
theorem quiet_eqlN (T ty : TypeId) (x y : Operand) (h : o.op = .binOp .eql T x y ty) (xs ys : Array Value) (hx : a.eval x = .agg xs) (hy : a.eval y = .agg ys) (b : Bool) (hE : ∀ w, (Op.equalIn 10000 T (.agg xs) (.agg ys)).run P w = .ok b w)
    (hG : P.eqGuardType P.depth T = false) (hk : K (a.put o.dst (.bool b))) : o.quiet P a C K := by
  refine ⟨_, fun w _ => ?_, hk⟩
  unfold Oper.quietAt
  simp [execOp, h, hx, hy, run_eqGuard_agg w .eql T x y xs ys hG, run_eql_struct w T xs ys, hE, Oper.quietUpon, Result.andThen]
theorem quiet_eqlT (T ty : TypeId) (x y : Operand) (h : o.op = .binOp .eql T x y ty) (xs ys : Array Value) (hx : a.eval x = .agg xs) (hy : a.eval y = .agg ys) (hE : ∀ w, (Op.equalIn 10000 T (.agg xs) (.agg ys)).run P w = .ok true w)
    (hG : P.eqGuardType P.depth T = false) (hk : K (a.put o.dst (.bool true))) : o.quiet P a C K := quiet_eqlN T ty x y h xs ys hx hy true hE hG hk
theorem quiet_eqlF (T ty : TypeId) (x y : Operand) (h : o.op = .binOp .eql T x y ty) (xs ys : Array Value) (hx : a.eval x = .agg xs) (hy : a.eval y = .agg ys) (hE : ∀ w, (Op.equalIn 10000 T (.agg xs) (.agg ys)).run P w = .ok false w)
    (hG : P.eqGuardType P.depth T = false) (hk : K (a.put o.dst (.bool false))) : o.quiet P a C K := quiet_eqlN T ty x y h xs ys hx hy false hE hG hk
end
theorem Try.infoI : (Try.prog.info? 3).map (fun i => (i.zero, i.size, i.bytes)) = some (some (.int .i64 0), 1, 8) := by kernel_rfl
theorem eqA_d (d : Nat) (x0 x1 y0 y1 : Int) (w : World) : (Op.equalIn (d + 1 + 1) 64 (.agg #[.int .i64 x0, .int .i64 x1]) (.agg #[.int .i64 y0, .int .i64 y1])).run Try.prog w = .ok (x0 == y0 && x1 == y1) w := by
  obtain ⟨i, hi, _, hs, _⟩ := info_parts Try.infoI
  have hu : Try.prog.underlying 3 = some (.int .i64) := Try.underlying3
  have hc : Try.prog.cellsOf 3 = 1 := by kernel_rfl
  rw [run_equalIn_array w (d + 1) _ _ Try.underlying64 hi, hc]
  simp [Op.eqItems, go_sem, hu, List.range, List.range.loop]
  repeat' split
  all_goals simp_all
theorem eqA (x0 x1 y0 y1 : Int) (b : Bool) (h : decide (x0 = y0 ∧ x1 = y1) = b) : ∀ w : World, (Op.equalIn 10000 64 (.agg #[.int .i64 x0, .int .i64 x1]) (.agg #[.int .i64 y0, .int .i64 y1])).run Try.prog w = .ok b w := by
  intro w
  rw [show (10000 : Nat) = 9998 + 1 + 1 from rfl, eqA_d, ← h]
  congr 1
  rw [Bool.eq_iff_iff]
  simp

/-- Few rows. -/
def CfgFew (c : Cfg) : Prop := c.parts.length ≤ 1000000 ∧ c.chans.length ≤ 1000000 ∧ c.win0.length ≤ 1000000 ∧ c.win1.length ≤ 1000000

theorem lengths_b (parts chans : List (List Int)) (len0 : Int) (win0 : List (List Int)) (len1 : Int) (win1 : List (List Int)) (pa : Option Addr) (pc : Nat) (ca : Option Addr) (cc : Nat) (aa : Option Addr) (ac : Nat) (ba : Option Addr) (bc : Nat) (w : World) : Calls Try.prog 28 #[.agg #[.slice pa parts.length pc, .slice ca chans.length cc, .int .i64 len0, .slice aa win0.length ac, .int .i64 len1, .slice ba win1.length bc]] w fun e w' => e = .returned (.agg #[.int .i64 len0, .int .i64 len1]) ∧ Below w.heap.size w w' := by
  go_enter Try.func28, Try.ntmps28
  go_wp2
  exact bodyPost_ret (v := .agg #[.int .i64 len0, .int .i64 len1]) (by simp [results, Try.results28, go_sem]) rfl ⟨rfl, ((Below.refl _ _).alloc (Nat.le_refl _) _).alloc (by simp) _⟩

theorem rowN_on {ks : List IntKind} {w : World} {A : Option Addr} {l : List (List Int)} (h : RowN ks w w.heap.size A l) (d : Nat) (os : Array Obj) : RowN ks (grow (redrawn w d) os) (grow (redrawn w d) os).heap.size A l := h.later (below_regrown w d os)
set_option maxRecDepth 100000 in
set_option maxHeartbeats 8000000 in
theorem same_plain (parts chans : List (List Int)) (len0 : Int) (win0 : List (List Int)) (len1 : Int) (win1 : List (List Int)) (pa : Option Addr) (pc : Nat) (ca : Option Addr) (cc : Nat) (aa : Option Addr) (ac : Nat) (ba : Option Addr) (bc : Nat) (parts' chans' : List (List Int)) (len0' : Int) (win0' : List (List Int)) (len1' : Int) (win1' : List (List Int)) (pa' : Option Addr) (pc' : Nat) (ca' : Option Addr) (cc' : Nat) (aa' : Option Addr) (ac' : Nat) (ba' : Option Addr) (bc' : Nat) (w : World) (hxp : RowN [.i64, .i64] w w.heap.size pa parts) (hxc : RowN [.i64, .i64, .i64, .i64, .i64, .i64, .u32] w w.heap.size ca chans) (hx0 : RowN [.i64, .i64, .i64] w w.heap.size aa win0) (hx1 : RowN [.i64, .i64, .i64] w w.heap.size ba win1) (hxpw : wfR [.i64, .i64] parts) (hxcw : wfR [.i64, .i64, .i64, .i64, .i64, .i64, .u32] chans) (hx0w : wfR [.i64, .i64, .i64] win0) (hx1w : wfR [.i64, .i64, .i64] win1) (hxpl : parts.length ≤ 1000000) (hxcl : chans.length ≤ 1000000) (hx0l : win0.length ≤ 1000000) (hx1l : win1.length ≤ 1000000) (hyp : RowN [.i64, .i64] w w.heap.size pa' parts') (hyc : RowN [.i64, .i64, .i64, .i64, .i64, .i64, .u32] w w.heap.size ca' chans') (hy0 : RowN [.i64, .i64, .i64] w w.heap.size aa' win0') (hy1 : RowN [.i64, .i64, .i64] w w.heap.size ba' win1') (hypw : wfR [.i64, .i64] parts') (hycw : wfR [.i64, .i64, .i64, .i64, .i64, .i64, .u32] chans') (hy0w : wfR [.i64, .i64, .i64] win0') (hy1w : wfR [.i64, .i64, .i64] win1') (hypl : parts'.length ≤ 1000000) (hycl : chans'.length ≤ 1000000) (hy0l : win0'.length ≤ 1000000) (hy1l : win1'.length ≤ 1000000) :
    Calls Try.prog 12 #[.agg #[.slice pa parts.length pc, .slice ca chans.length cc, .int .i64 len0, .slice aa win0.length ac, .int .i64 len1, .slice ba win1.length bc], .agg #[.slice pa' parts'.length pc', .slice ca' chans'.length cc', .int .i64 len0', .slice aa' win0'.length ac', .int .i64 len1', .slice ba' win1'.length bc']] w fun e w' => e = .returned (.bool (decide ((⟨parts, chans, len0, win0, len1, win1⟩ : Cfg) = ⟨parts', chans', len0', win0', len1', win1'⟩))) ∧ Below w.heap.size w w' := by
  obtain ⟨W, HW, hB, _, bx, by_⟩ := two_cboxes w ⟨parts, chans, len0, win0, len1, win1⟩ ⟨parts', chans', len0', win0', len1', win1'⟩ ⟨pa, pc, ca, cc, aa, ac, ba, bc⟩ ⟨pa', pc', ca', cc', aa', ac', ba', bc'⟩ 31
  have c0 : ∀ p : Regrown, (grow (redrawn W p.d) p.os).cell? ⟨w.heap.size, 0, none⟩ = some (.slice pa parts.length pc) := fun p => (bx _ (below_regrown W p.d p.os)).1
  have c1 : ∀ p : Regrown, (grow (redrawn W p.d) p.os).cell? ⟨w.heap.size, 1, none⟩ = some (.slice ca chans.length cc) := fun p => (bx _ (below_regrown W p.d p.os)).2.1
  have c2 : ∀ p : Regrown, (grow (redrawn W p.d) p.os).cell? ⟨w.heap.size, 2, none⟩ = some (.int .i64 len0) := fun p => (bx _ (below_regrown W p.d p.os)).2.2.1
  have c3 : ∀ p : Regrown, (grow (redrawn W p.d) p.os).cell? ⟨w.heap.size, 3, none⟩ = some (.slice aa win0.length ac) := fun p => (bx _ (below_regrown W p.d p.os)).2.2.2.1
  have c4 : ∀ p : Regrown, (grow (redrawn W p.d) p.os).cell? ⟨w.heap.size, 4, none⟩ = some (.int .i64 len1) := fun p => (bx _ (below_regrown W p.d p.os)).2.2.2.2.1
  have c5 : ∀ p : Regrown, (grow (redrawn W p.d) p.os).cell? ⟨w.heap.size, 5, none⟩ = some (.slice ba win1.length bc) := fun p => (bx _ (below_regrown W p.d p.os)).2.2.2.2.2
  have d0 : ∀ p : Regrown, (grow (redrawn W p.d) p.os).cell? ⟨w.heap.size + 1, 0, none⟩ = some (.slice pa' parts'.length pc') := fun p => (by_ _ (below_regrown W p.d p.os)).1
  have d1 : ∀ p : Regrown, (grow (redrawn W p.d) p.os).cell? ⟨w.heap.size + 1, 1, none⟩ = some (.slice ca' chans'.length cc') := fun p => (by_ _ (below_regrown W p.d p.os)).2.1
  have d2 : ∀ p : Regrown, (grow (redrawn W p.d) p.os).cell? ⟨w.heap.size + 1, 2, none⟩ = some (.int .i64 len0') := fun p => (by_ _ (below_regrown W p.d p.os)).2.2.1
  have d3 : ∀ p : Regrown, (grow (redrawn W p.d) p.os).cell? ⟨w.heap.size + 1, 3, none⟩ = some (.slice aa' win0'.length ac') := fun p => (by_ _ (below_regrown W p.d p.os)).2.2.2.1
  have d4 : ∀ p : Regrown, (grow (redrawn W p.d) p.os).cell? ⟨w.heap.size + 1, 4, none⟩ = some (.int .i64 len1') := fun p => (by_ _ (below_regrown W p.d p.os)).2.2.2.2.1
  have d5 : ∀ p : Regrown, (grow (redrawn W p.d) p.os).cell? ⟨w.heap.size + 1, 5, none⟩ = some (.slice ba' win1'.length bc') := fun p => (by_ _ (below_regrown W p.d p.os)).2.2.2.2.2
  have HB := Lib.hid hB
  have hxp := hxp.later hB
  have hxc := hxc.later hB
  have hx0 := hx0.later hB
  have hx1 := hx1.later hB
  have hyp := hyp.later hB
  have hyc := hyc.later hB
  have hy0 := hy0.later hB
  have hy1 := hy1.later hB
  have hbc := Below.refl W.heap.size W
  clear hB bx by_
  by_cases hl : len0 = len0' ∧ len1 = len1'
  · have HQ := Lib.hid (eqA len0 len1 len0' len1' true (decide_eq_true hl))
    have HL := Lib.hid hl
    clear hl
    by_cases hp : parts = parts'
    · have HX_parts := Lib.hid (decide_eq_true hp)
      have HE_parts := Lib.hid hp
      clear hp
      by_cases hc : chans = chans'
      · have HX_chans := Lib.hid (decide_eq_true hc)
        have HE_chans := Lib.hid hc
        clear hc
        by_cases h0 : win0 = win0'
        · have HX_win0 := Lib.hid (decide_eq_true h0)
          have HE_win0 := Lib.hid h0
          clear h0
          by_cases h1 : win1 = win1'
          · have HX_win1 := Lib.hid (decide_eq_true h1)
            have HE_win1 := Lib.hid h1
            clear h1
            have HR := Lib.hid (decide_eq_true (show (⟨parts, chans, len0, win0, len1, win1⟩ : Cfg) = ⟨parts', chans', len0', win0', len1', win1'⟩ by rw [HE_parts.out, HE_chans.out, HE_win0.out, HE_win1.out, HL.out.1, HL.out.2]))
            go_enter Try.func12, Try.ntmps12
            go_wp2_with ((try rw [← HW.out]); (first | with_reducible refine wpList_on hbc ?_ | with_reducible refine wp_on hbc (by kernel_rfl) (by kernel_rfl) ?_); (repeat (first | (go_big_quiet_want; (first | refine quiet_eqlT 64 _ _ _ rfl _ _ rfl rfl HQ.out (by kernel_rfl) ?_ | refine quiet_eqlF 64 _ _ _ rfl _ _ rfl rfl HQ.out (by kernel_rfl) ?_); go_big_quiet_on; (try simp only [Act.put, List.setIfInBounds_toArray, List.set_cons_zero, List.set_cons_succ])) | go_big_quiet_step (first | (go_at_call 28; first | with_reducible exact Calls.regrown_of (lengths_b parts chans len0 win0 len1 win1 pa pc ca cc aa ac ba bc _) | with_reducible exact Calls.regrown_of (lengths_b parts' chans' len0' win0' len1' win1' pa' pc' ca' cc' aa' ac' ba' bc' _)) | with_reducible exact regrown_is HX_parts.out (equal2_b parts parts' _ _ _ _ _ (rowN_on hxp _ _) (rowN_on hyp _ _) hxpw hypw hxpl) | with_reducible exact regrown_is HX_chans.out (equal7_b chans chans' _ _ _ _ _ (rowN_on hxc _ _) (rowN_on hyc _ _) hxcw hycw hxcl) | with_reducible exact regrown_is HX_win0.out (equal3_b win0 win0' _ _ _ _ _ (rowN_on hx0 _ _) (rowN_on hy0 _ _) hx0w hy0w hx0l) | with_reducible exact regrown_is HX_win1.out (equal3_b win1 win1' _ _ _ _ _ (rowN_on hx1 _ _) (rowN_on hy1 _ _) hx1w hy1w hx1l)))); with_reducible refine wpQuiet_nil ?_; intro wc hbc)
            go_ret
            exact ⟨by rw [HR.out]; rfl, HB.out.trans (hbc.mono HB.out.size)⟩
          · have HX_win1 := Lib.hid (decide_eq_false h1)
            have HR := Lib.hid (ne_win1 h1 (parts := parts) (parts' := parts') (chans := chans) (chans' := chans') (win0 := win0) (win0' := win0') (len0 := len0) (len0' := len0') (len1 := len1) (len1' := len1'))
            clear h1
            go_enter Try.func12, Try.ntmps12
            go_wp2_with ((try rw [← HW.out]); (first | with_reducible refine wpList_on hbc ?_ | with_reducible refine wp_on hbc (by kernel_rfl) (by kernel_rfl) ?_); (repeat (first | (go_big_quiet_want; (first | refine quiet_eqlT 64 _ _ _ rfl _ _ rfl rfl HQ.out (by kernel_rfl) ?_ | refine quiet_eqlF 64 _ _ _ rfl _ _ rfl rfl HQ.out (by kernel_rfl) ?_); go_big_quiet_on; (try simp only [Act.put, List.setIfInBounds_toArray, List.set_cons_zero, List.set_cons_succ])) | go_big_quiet_step (first | (go_at_call 28; first | with_reducible exact Calls.regrown_of (lengths_b parts chans len0 win0 len1 win1 pa pc ca cc aa ac ba bc _) | with_reducible exact Calls.regrown_of (lengths_b parts' chans' len0' win0' len1' win1' pa' pc' ca' cc' aa' ac' ba' bc' _)) | with_reducible exact regrown_is HX_parts.out (equal2_b parts parts' _ _ _ _ _ (rowN_on hxp _ _) (rowN_on hyp _ _) hxpw hypw hxpl) | with_reducible exact regrown_is HX_chans.out (equal7_b chans chans' _ _ _ _ _ (rowN_on hxc _ _) (rowN_on hyc _ _) hxcw hycw hxcl) | with_reducible exact regrown_is HX_win0.out (equal3_b win0 win0' _ _ _ _ _ (rowN_on hx0 _ _) (rowN_on hy0 _ _) hx0w hy0w hx0l) | with_reducible exact regrown_is HX_win1.out (equal3_b win1 win1' _ _ _ _ _ (rowN_on hx1 _ _) (rowN_on hy1 _ _) hx1w hy1w hx1l)))); with_reducible refine wpQuiet_nil ?_; intro wc hbc)
            go_ret
            exact ⟨by rw [HR.out]; rfl, HB.out.trans (hbc.mono HB.out.size)⟩
        · have HX_win0 := Lib.hid (decide_eq_false h0)
          have HR := Lib.hid (ne_win0 h0 (parts := parts) (parts' := parts') (chans := chans) (chans' := chans') (win1 := win1) (win1' := win1') (len0 := len0) (len0' := len0') (len1 := len1) (len1' := len1'))
          clear h0
          go_enter Try.func12, Try.ntmps12
          go_wp2_with ((try rw [← HW.out]); (first | with_reducible refine wpList_on hbc ?_ | with_reducible refine wp_on hbc (by kernel_rfl) (by kernel_rfl) ?_); (repeat (first | (go_big_quiet_want; (first | refine quiet_eqlT 64 _ _ _ rfl _ _ rfl rfl HQ.out (by kernel_rfl) ?_ | refine quiet_eqlF 64 _ _ _ rfl _ _ rfl rfl HQ.out (by kernel_rfl) ?_); go_big_quiet_on; (try simp only [Act.put, List.setIfInBounds_toArray, List.set_cons_zero, List.set_cons_succ])) | go_big_quiet_step (first | (go_at_call 28; first | with_reducible exact Calls.regrown_of (lengths_b parts chans len0 win0 len1 win1 pa pc ca cc aa ac ba bc _) | with_reducible exact Calls.regrown_of (lengths_b parts' chans' len0' win0' len1' win1' pa' pc' ca' cc' aa' ac' ba' bc' _)) | with_reducible exact regrown_is HX_parts.out (equal2_b parts parts' _ _ _ _ _ (rowN_on hxp _ _) (rowN_on hyp _ _) hxpw hypw hxpl) | with_reducible exact regrown_is HX_chans.out (equal7_b chans chans' _ _ _ _ _ (rowN_on hxc _ _) (rowN_on hyc _ _) hxcw hycw hxcl) | with_reducible exact regrown_is HX_win0.out (equal3_b win0 win0' _ _ _ _ _ (rowN_on hx0 _ _) (rowN_on hy0 _ _) hx0w hy0w hx0l) | with_reducible exact regrown_is HX_win1.out (equal3_b win1 win1' _ _ _ _ _ (rowN_on hx1 _ _) (rowN_on hy1 _ _) hx1w hy1w hx1l)))); with_reducible refine wpQuiet_nil ?_; intro wc hbc)
          go_ret
          exact ⟨by rw [HR.out]; rfl, HB.out.trans (hbc.mono HB.out.size)⟩
      · have HX_chans := Lib.hid (decide_eq_false hc)
        have HR := Lib.hid (ne_chans hc (parts := parts) (parts' := parts') (win0 := win0) (win0' := win0') (win1 := win1) (win1' := win1') (len0 := len0) (len0' := len0') (len1 := len1) (len1' := len1'))
        clear hc
        go_enter Try.func12, Try.ntmps12
        go_wp2_with ((try rw [← HW.out]); (first | with_reducible refine wpList_on hbc ?_ | with_reducible refine wp_on hbc (by kernel_rfl) (by kernel_rfl) ?_); (repeat (first | (go_big_quiet_want; (first | refine quiet_eqlT 64 _ _ _ rfl _ _ rfl rfl HQ.out (by kernel_rfl) ?_ | refine quiet_eqlF 64 _ _ _ rfl _ _ rfl rfl HQ.out (by kernel_rfl) ?_); go_big_quiet_on; (try simp only [Act.put, List.setIfInBounds_toArray, List.set_cons_zero, List.set_cons_succ])) | go_big_quiet_step (first | (go_at_call 28; first | with_reducible exact Calls.regrown_of (lengths_b parts chans len0 win0 len1 win1 pa pc ca cc aa ac ba bc _) | with_reducible exact Calls.regrown_of (lengths_b parts' chans' len0' win0' len1' win1' pa' pc' ca' cc' aa' ac' ba' bc' _)) | with_reducible exact regrown_is HX_parts.out (equal2_b parts parts' _ _ _ _ _ (rowN_on hxp _ _) (rowN_on hyp _ _) hxpw hypw hxpl) | with_reducible exact regrown_is HX_chans.out (equal7_b chans chans' _ _ _ _ _ (rowN_on hxc _ _) (rowN_on hyc _ _) hxcw hycw hxcl) | with_reducible exact regrown_is HX_win0.out (equal3_b win0 win0' _ _ _ _ _ (rowN_on hx0 _ _) (rowN_on hy0 _ _) hx0w hy0w hx0l) | with_reducible exact regrown_is HX_win1.out (equal3_b win1 win1' _ _ _ _ _ (rowN_on hx1 _ _) (rowN_on hy1 _ _) hx1w hy1w hx1l)))); with_reducible refine wpQuiet_nil ?_; intro wc hbc)
        go_ret
        exact ⟨by rw [HR.out]; rfl, HB.out.trans (hbc.mono HB.out.size)⟩
    · have HX_parts := Lib.hid (decide_eq_false hp)
      have HR := Lib.hid (ne_parts hp (chans := chans) (chans' := chans') (win0 := win0) (win0' := win0') (win1 := win1) (win1' := win1') (len0 := len0) (len0' := len0') (len1 := len1) (len1' := len1'))
      clear hp
      go_enter Try.func12, Try.ntmps12
      go_wp2_with ((try rw [← HW.out]); (first | with_reducible refine wpList_on hbc ?_ | with_reducible refine wp_on hbc (by kernel_rfl) (by kernel_rfl) ?_); (repeat (first | (go_big_quiet_want; (first | refine quiet_eqlT 64 _ _ _ rfl _ _ rfl rfl HQ.out (by kernel_rfl) ?_ | refine quiet_eqlF 64 _ _ _ rfl _ _ rfl rfl HQ.out (by kernel_rfl) ?_); go_big_quiet_on; (try simp only [Act.put, List.setIfInBounds_toArray, List.set_cons_zero, List.set_cons_succ])) | go_big_quiet_step (first | (go_at_call 28; first | with_reducible exact Calls.regrown_of (lengths_b parts chans len0 win0 len1 win1 pa pc ca cc aa ac ba bc _) | with_reducible exact Calls.regrown_of (lengths_b parts' chans' len0' win0' len1' win1' pa' pc' ca' cc' aa' ac' ba' bc' _)) | with_reducible exact regrown_is HX_parts.out (equal2_b parts parts' _ _ _ _ _ (rowN_on hxp _ _) (rowN_on hyp _ _) hxpw hypw hxpl) | with_reducible exact regrown_is HX_chans.out (equal7_b chans chans' _ _ _ _ _ (rowN_on hxc _ _) (rowN_on hyc _ _) hxcw hycw hxcl) | with_reducible exact regrown_is HX_win0.out (equal3_b win0 win0' _ _ _ _ _ (rowN_on hx0 _ _) (rowN_on hy0 _ _) hx0w hy0w hx0l) | with_reducible exact regrown_is HX_win1.out (equal3_b win1 win1' _ _ _ _ _ (rowN_on hx1 _ _) (rowN_on hy1 _ _) hx1w hy1w hx1l)))); with_reducible refine wpQuiet_nil ?_; intro wc hbc)
      go_ret
      exact ⟨by rw [HR.out]; rfl, HB.out.trans (hbc.mono HB.out.size)⟩
  · have HQ := Lib.hid (eqA len0 len1 len0' len1' false (decide_eq_false hl))
    have HR := Lib.hid (decide_eq_false (show ¬ ((⟨parts, chans, len0, win0, len1, win1⟩ : Cfg) = ⟨parts', chans', len0', win0', len1', win1'⟩) from fun e => hl ⟨by injection e, by injection e⟩))
    clear hl
    go_enter Try.func12, Try.ntmps12
    go_wp2_with ((try rw [← HW.out]); (first | with_reducible refine wpList_on hbc ?_ | with_reducible refine wp_on hbc (by kernel_rfl) (by kernel_rfl) ?_); (repeat (first | (go_big_quiet_want; (first | refine quiet_eqlT 64 _ _ _ rfl _ _ rfl rfl HQ.out (by kernel_rfl) ?_ | refine quiet_eqlF 64 _ _ _ rfl _ _ rfl rfl HQ.out (by kernel_rfl) ?_); go_big_quiet_on; (try simp only [Act.put, List.setIfInBounds_toArray, List.set_cons_zero, List.set_cons_succ])) | go_big_quiet_step (first | (go_at_call 28; first | with_reducible exact Calls.regrown_of (lengths_b parts chans len0 win0 len1 win1 pa pc ca cc aa ac ba bc _) | with_reducible exact Calls.regrown_of (lengths_b parts' chans' len0' win0' len1' win1' pa' pc' ca' cc' aa' ac' ba' bc' _)) | with_reducible exact regrown_is HX_parts.out (equal2_b parts parts' _ _ _ _ _ (rowN_on hxp _ _) (rowN_on hyp _ _) hxpw hypw hxpl) | with_reducible exact regrown_is HX_chans.out (equal7_b chans chans' _ _ _ _ _ (rowN_on hxc _ _) (rowN_on hyc _ _) hxcw hycw hxcl) | with_reducible exact regrown_is HX_win0.out (equal3_b win0 win0' _ _ _ _ _ (rowN_on hx0 _ _) (rowN_on hy0 _ _) hx0w hy0w hx0l) | with_reducible exact regrown_is HX_win1.out (equal3_b win1 win1' _ _ _ _ _ (rowN_on hx1 _ _) (rowN_on hy1 _ _) hx1w hy1w hx1l)))); with_reducible refine wpQuiet_nil ?_; intro wc hbc)
    go_ret
    exact ⟨by rw [HR.out]; rfl, HB.out.trans (hbc.mono HB.out.size)⟩

/-- Both Sames, at configurations told by their rows. -/
theorem rsame_b (c d : Cfg) (x y : CfgAt) (w : World) (hx : CfgIn w w.heap.size c x) (hy : CfgIn w w.heap.size d y) (wx : CfgWf c) (wy : CfgWf d) (lx : CfgFew c) (ly : CfgFew d) :
    Calls Try.prog 11 #[.agg (cfgCells c x), .agg (cfgCells d y)] w fun e w' => e = .returned (.bool (decide (c = d))) ∧ Below w.heap.size w w' := by
  obtain ⟨parts, chans, len0, win0, len1, win1⟩ := c
  obtain ⟨parts', chans', len0', win0', len1', win1'⟩ := d
  obtain ⟨pa, pc, ca, cc, aa, ac, ba, bc⟩ := x
  obtain ⟨pa', pc', ca', cc', aa', ac', ba', bc'⟩ := y
  exact rsame_plain parts chans len0 win0 len1 win1 pa pc ca cc aa ac ba bc parts' chans' len0' win0' len1' win1' pa' pc' ca' cc' aa' ac' ba' bc' w hx.rp hx.rc hx.ra hx.rb wx.wp wx.wc wx.wa wx.wb lx.1 lx.2.1 lx.2.2.1 lx.2.2.2 hy.rp hy.rc hy.ra hy.rb wy.wp wy.wc wy.wa wy.wb ly.1 ly.2.1 ly.2.2.1 ly.2.2.2
theorem csame_b (c d : Cfg) (x y : CfgAt) (w : World) (hx : CfgIn w w.heap.size c x) (hy : CfgIn w w.heap.size d y) (wx : CfgWf c) (wy : CfgWf d) (lx : CfgFew c) (ly : CfgFew d) :
    Calls Try.prog 12 #[.agg (cfgCells c x), .agg (cfgCells d y)] w fun e w' => e = .returned (.bool (decide (c = d))) ∧ Below w.heap.size w w' := by
  obtain ⟨parts, chans, len0, win0, len1, win1⟩ := c
  obtain ⟨parts', chans', len0', win0', len1', win1'⟩ := d
  obtain ⟨pa, pc, ca, cc, aa, ac, ba, bc⟩ := x
  obtain ⟨pa', pc', ca', cc', aa', ac', ba', bc'⟩ := y
  exact same_plain parts chans len0 win0 len1 win1 pa pc ca cc aa ac ba bc parts' chans' len0' win0' len1' win1' pa' pc' ca' cc' aa' ac' ba' bc' w hx.rp hx.rc hx.ra hx.rb wx.wp wx.wc wx.wa wx.wb lx.1 lx.2.1 lx.2.2.1 lx.2.2.2 hy.rp hy.rc hy.ra hy.rb wy.wp wy.wc wy.wa wy.wb ly.1 ly.2.1 ly.2.2.1 ly.2.2.2
end Go.Proofs.Ytjknmojjodghdaa
