/- wit's rankOf, ofCalls and ofBellings, as contracts. No condition but those in the statements. -/
import Derived.Test.YtmonneeikkgllaaHPl
import Derived.Test.YtmonneeikkgllaaWBv
import Derived.BigQuiet
import Derived.IntWalk
import Derived.BigRegion
import Derived.OpenShut
import Derived.Deep.MidRow
import Derived.Lib.Hide
import Derived.Deep.Slices
import Derived.Lib.SmallJoins
import Derived.OwnWalk
namespace Go.Proofs.Ytmonneeikkgllaa
open WtP Go.RowKit Go.Sort Go.Deep Go.ChangeShapes Go.WideShapes Go.Joins
set_option linter.unusedVariables false
set_option linter.unusedSimpArgs false


theorem Try.infoT19 : (Try.prog.info? 64).map (fun i => (i.zero, i.size, i.bytes)) = some (some (.agg #[.int .i64 0, .int .i64 0, .int .i64 0, .int .i64 0]), 4, 32) := by kernel_rfl
/-- Where the effects of calls are, their Rings; when deliveries were. -/
def spL (l : List CV) (i : Nat) : Int × Bool × Bool := match l[i]? with | some x => spotN l x | none => (0, false, false)
def rgL (l : List CV) (i : Nat) : Int := match l[i]? with | some x => x.ring | none => -1
def btL (b : List BV) (i : Nat) : Int := match b[i]? with | some y => y.mom | none => 0
theorem spL_at {l : List CV} {i : Nat} {x : CV} (h : l[i]? = some x) : spL l i = spotN l x := by unfold spL; rw [h]
theorem rgL_at {l : List CV} {i : Nat} {x : CV} (h : l[i]? = some x) : rgL l i = x.ring := by unfold rgL; rw [h]
theorem btL_at {b : List BV} {i : Nat} {y : BV} (h : b[i]? = some y) : btL b i = y.mom := by unfold btL; rw [h]
theorem news_blk {w : World} {B : Nat} {cs : List Value} {t : TypeId} {fr : Nat × Nat} (hb : w.heap[B]? = some (.cells cs.toArray t fr)) : ∀ j u, cs[j]? = some u → w.cell? ((⟨B, 0, none⟩ : Addr).add j) = some u := fun j u hu => by
  rw [Addr.add_lit, Nat.zero_add]
  simp [World.cell?, hb, hu]
theorem tcell_ones (x : T4) : ∀ u ∈ tc x, u.oneCell' = true := tc_ones x
theorem cat_only {V V' : World} {b o : Nat} {v : CV} {S : Nat → Prop} (h : CAt V b o v) (ho : Only S V V') (hs : ¬ S b) : CAt V' b o v := fun j x hx => by
  rw [← h j x hx]
  simp [World.cell?, ho.block b h.lt hs]
/-- A call that hands back a new row of items, and turns nothing that was there. -/
def GivesT (te : TypeId) (w : World) (xs : List T4) (e : Ending) (w' : World) : Prop := ∃ v, e = .returned v ∧ OwnsOff w' w.heap.size te 4 v xs.length (tcs xs) ∧ Below w.heap.size w w'
theorem rank_b (p : Bool) (w : World) : Calls Try.prog 28 #[.bool p] w fun e w' => e = .returned (.int .i64 (rk p)) ∧ w = w' := by
  cases p with
  | true =>
    go_enter Try.func28, Try.ntmps28
    go_wp2
    go_ret
    exact ⟨rfl, rfl⟩
  | false =>
    go_enter Try.func28, Try.ntmps28
    go_wp2
    go_ret
    exact ⟨rfl, rfl⟩
set_option maxRecDepth 100000 in
set_option maxHeartbeats 4000000 in
theorem ofBells_b (B : Option Addr) (b : List BV) (d : Nat) (w : World) (hr : BRow w w.heap.size B b) (hl : b.length ≤ 60) : Calls Try.prog 20 #[.slice B b.length d] w (GivesT 64 w (upN (dels (btL b)) b.length)) := by
  have HR := Lib.hid hr
  obtain ⟨z0, hz0, hz1, hz2, hz3⟩ := info_parts Try.infoT19
  clear hr
  go_enter Try.func20, Try.ntmps20
  go_wp2
  go_loopw [3, 8] (fun v ix wr => ∃ i : Nat, i ≤ b.length ∧ ix = .int .i64 i ∧ OwnsOff wr w.heap.size 64 4 v (upN (dels (btL b)) i).length (tcs (upN (dels (btL b)) i)) ∧ Below w.heap.size w wr) (fun _ ix _ => b.length - (intOf ix).toNat)
  case atStart => exact ⟨0, Nat.zero_le _, rfl, OwnsOff.nil _ _ _ _, Below.refl _ _⟩
  case round =>
    obtain ⟨i, hi, rfl, hown, hbr⟩ := hrel
    by_cases hlt : i < b.length
    · obtain ⟨bb, o, y, rfl, hbl, hy, hyc⟩ := HR.out.at_ hlt
      have hi2 : (i : Int) < (b.length : Int) := by omega
      obtain ⟨xs, hxs⟩ : ∃ xs, upN (dels (btL b)) i = xs := ⟨_, rfl⟩
      have HXL := Lib.hid (show xs.length ≤ 60 by rw [← hxs]; have := len_upN (f := dels (btL b)) (c := 1) (fun i => Nat.le_refl _) i; omega)
      have HN := Lib.hid (show upN (dels (btL b)) (i + 1) = xs ++ [⟨y.mom, 2, 3, i⟩] by rw [upN_next, hxs]; unfold dels; rw [btL_at hy])
      rw [hxs] at hown
      have HYR := Lib.hid (hyc _ hbr)
      obtain ⟨X1, X2, HX1, HX2, hth, hxb, hxs2, hxv⟩ := varB wr y
      have HTH := Lib.hid hth
      have y_mom := hxv.b_mom
      have hbo := hbr.trans (hxb.mono hbr.size)
      have hown2 := hown.keptB hxb
      have HLT := Lib.hid hlt
      clear hxs hy hyc hbl hbr hth hxb hxs2 hxv hown hlt
      go_wp2_with (first | (rw [← HX1.out]) | (with_reducible refine wpList_store_mid (by kernel_rfl) _ _ _ rfl wr.heap.size 0 (bCells y).toArray (by kernel_rfl) (by kernel_rfl) HTH.out (bCells_infoA y) (bCells_one y) ?_) | (rw [← HX2.out]) | (with_reducible refine wpList_loadB (by kernel_rfl) _ rfl _ _ y (by kernel_rfl) HYR.out ?_) | (at_builtin; refine wpList_append_off _ rfl _ _ 61 rfl (w.heap.size) 64 z0 (.agg #[.int .i64 0, .int .i64 0, .int .i64 0, .int .i64 0]) 4 32 Try.underlying61 hz0 hz1 hz2 hz3 rfl (by decide) _ _ _ rfl (hown2.keptB ((Below.refl _ _).alloc (Nat.le_refl _) _)) ⟨X2.heap.size, 0, none⟩ 1 1 (tc ⟨y.mom, 2, 3, i⟩) rfl rfl (news_blk (heap_alloc_new X2 _)) (tcell_ones _) (by have := HXL.out; unfold maxLen; omega) (by have := HXL.out; omega) (by have := hbo.size; simp; omega) ?_))
      intro v' w6 hown' hgrow _
      have hb6 := Lib.hid ((hbo.alloc hbo.size _).grown hgrow (by have := hbo.size; simp; omega) (fun i e => (hown2.lt i e).1))
      have H3 : Hid (OwnsOff w6 w.heap.size 64 4 v' (xs ++ [(⟨y.mom, 2, 3, i⟩ : T4)]).length (tcs (xs ++ [⟨y.mom, 2, 3, i⟩]))) := Lib.hid (by rw [List.length_append, tcs_app, tcs_one]; exact hown')
      clear hown' hgrow hown2 hbo y_mom
      go_wp2
      go_roundw
      case rel => exact ⟨i + 1, by have := HLT.out; omega, by go_num, by rw [HN.out]; exact H3.out, hb6.out⟩
      case measure => have := HLT.out; simp [intOf]; omega
    · have hil : i = b.length := by omega
      subst hil
      have H3 := Lib.hid hown; have HB := Lib.hid hbr
      clear hown hbr
      go_wp2
      go_ret
      exact ⟨_, rfl, H3.out, HB.out⟩
set_option maxRecDepth 100000 in
set_option maxHeartbeats 8000000 in
theorem ofCalls_b (A : Option Addr) (l : List CV) (c : Nat) (w : World) (hr : CRow w w.heap.size A l) (hl : l.length ≤ 60) : Calls Try.prog 19 #[.slice A l.length c] w (GivesT 64 w (upN (both (spL l) (rgL l)) l.length)) := by
  have HR := Lib.hid hr
  obtain ⟨z0, hz0, hz1, hz2, hz3⟩ := info_parts Try.infoT19
  clear hr
  go_enter Try.func19, Try.ntmps19
  go_wp2
  go_loopw [3, 11] (fun v ix wr => ∃ i : Nat, i ≤ l.length ∧ ix = .int .i64 i ∧ OwnsOff wr w.heap.size 64 4 v (upN (both (spL l) (rgL l)) i).length (tcs (upN (both (spL l) (rgL l)) i)) ∧ Below w.heap.size w wr) (fun _ ix _ => l.length - (intOf ix).toNat)
  case atStart => exact ⟨0, Nat.zero_le _, rfl, OwnsOff.nil _ _ _ _, Below.refl _ _⟩
  case round =>
    obtain ⟨i, hi, rfl, hown, hbr⟩ := hrel
    by_cases hlt : i < l.length
    · obtain ⟨bb, o, x, rfl, hbl, hx, -, hxc⟩ := HR.out.at_ hlt
      have hi2 : (i : Int) < (l.length : Int) := by omega
      obtain ⟨xs, hxs⟩ : ∃ xs, upN (both (spL l) (rgL l)) i = xs := ⟨_, rfl⟩
      have HXL := Lib.hid (show xs.length ≤ 120 by
        rw [← hxs]
        have := len_upN (f := both (spL l) (rgL l)) (c := 2) (fun i => by unfold both effs rngs; rw [List.length_append]; split <;> split <;> simp) i
        omega)
      obtain ⟨a, p, q, ha⟩ : ∃ a p q, spotN l x = (a, p, q) := ⟨_, _, _, rfl⟩
      have HN := Lib.hid (show upN (both (spL l) (rgL l)) (i + 1) = xs ++ ((if q = true then [⟨a, rk p, 1, i⟩] else []) ++ (if 0 ≤ x.ring then [⟨x.ring, 1, 2, i⟩] else [])) by
        rw [upN_next, hxs]; unfold both effs rngs; rw [spL_at hx, rgL_at hx, ha])
      rw [hxs] at hown
      have HXR := Lib.hid (hxc _ hbr).1
      obtain ⟨X1, X2, HX1, HX2, hth, hxb1, hxb2, hxs, hxv⟩ := var17 wr x #[.int .i64 0, .int .i64 0, .int .i64 0, .int .u64 0, .slice none 0 0, .int .i64 0, .slice none 0 0, .bool false, .int .i64 0, .bool false, .int .i64 0, .int .i64 0, .int .i64 0, .int .i64 0, .int .i64 0, .int .i64 0, .int .i64 0, .int .i64 0, .int .i64 0, .int .i64 0] rfl
      have HXB := Lib.hid hxb2; have HXV := Lib.hid hxv; have HTH := Lib.hid hth
      clear hxb1 hxb2 hxs hxv hth
      have HBX := Lib.hid (hbr.trans (HXB.out.mono hbr.size))
      have HOX := Lib.hid (hown.keptB HXB.out)
      have HVR := Lib.hid (fun j (e : _ = some j) => (hown.lt j e).2)
      have HLT := Lib.hid hlt
      have HX := Lib.hid hx
      have HA := Lib.hid ha
      clear hxs hx hxc hbl hbr hown hlt ha
      go_wp2_with (first | (rw [← HX1.out]) | (with_reducible refine wpList_store_mid (by kernel_rfl) _ _ _ rfl wr.heap.size 0 (cCells x).toArray (by kernel_rfl) (by kernel_rfl) HTH.out (cCells_infoA x) (cCells_one x) ?_) | (rw [← HX2.out]) | (with_reducible refine wpList_loadC (by with_unfolding_all rfl) _ rfl _ _ _ (by with_unfolding_all rfl) HXR.out ?_))
      refine (place_b _ l c i x a p q _ (HR.out.later HBX.out) HX.out HA.out).mono ?_
      rintro e w3 ⟨rfl, hb3⟩
      have HXV3 : Hid (CAt w3 wr.heap.size 0 x) := Lib.hid (HXV.out.later hb3 HXV.out.lt)
      have HB3 := Lib.hid (HBX.out.trans (hb3.mono HBX.out.size))
      have HO3 := Lib.hid (HOX.out.keptB hb3)
      clear hb3
      cases q with
      | true =>
        go_wp2_with fail
        refine (rank_b p _).mono ?_
        rintro e w4 ⟨rfl, rfl⟩
        have hown3 := HO3.out
        have hbo := HB3.out
        go_wp2_with (at_builtin; refine wpList_append_off _ rfl _ _ 61 rfl (w.heap.size) 64 z0 (.agg #[.int .i64 0, .int .i64 0, .int .i64 0, .int .i64 0]) 4 32 Try.underlying61 hz0 hz1 hz2 hz3 rfl (by decide) _ _ _ rfl (hown3.keptB ((Below.refl _ _).alloc (Nat.le_refl _) _)) ⟨w3.heap.size, 0, none⟩ 1 1 (tc ⟨a, rk p, 1, i⟩) rfl rfl (news_blk (heap_alloc_new w3 _)) (tcell_ones _) (by have := HXL.out; unfold maxLen; omega) (by have := HXL.out; omega) (by have := hbo.size; simp; omega) ?_)
        intro v' w6 hown' hgrow _
        have HB6 := Lib.hid ((hbo.alloc hbo.size _).grown hgrow (by have := hbo.size; simp; omega) (fun i e => (hown3.lt i e).1))
        have H6 : Hid (OwnsOff w6 w.heap.size 64 4 v' (xs ++ [(⟨a, rk p, 1, i⟩ : T4)]).length (tcs (xs ++ [⟨a, rk p, 1, i⟩]))) := Lib.hid (by rw [List.length_append, tcs_app, tcs_one]; exact hown')
        have HXV6 : Hid (CAt w6 wr.heap.size 0 x) := Lib.hid (cat_only (HXV3.out.later ((Below.refl _ _).alloc (Nat.le_refl _) _) HXV3.out.lt) (Only.of_grown hgrow) (fun e => by have := HVR.out _ e.symm; omega))
        have hx6 := HXV6.out.b_ring
        clear hown' hgrow hown3 hbo
        by_cases hg : 0 ≤ x.ring
        · have HG := Lib.hid hg
          have howng := H6.out
          have hbg := HB6.out
          go_wp2_with (at_builtin; refine wpList_append_off _ rfl _ _ 61 rfl (w.heap.size) 64 z0 (.agg #[.int .i64 0, .int .i64 0, .int .i64 0, .int .i64 0]) 4 32 Try.underlying61 hz0 hz1 hz2 hz3 rfl (by decide) _ _ _ rfl (howng.keptB ((Below.refl _ _).alloc (Nat.le_refl _) _)) ⟨w6.heap.size, 0, none⟩ 1 1 (tc ⟨x.ring, 1, 2, i⟩) rfl rfl (news_blk (heap_alloc_new w6 _)) (tcell_ones _) (by have := (show (xs ++ [(⟨a, rk p, 1, i⟩ : T4)]).length ≤ 121 by have := HXL.out; simp; omega); unfold maxLen; omega) (by have := (show (xs ++ [(⟨a, rk p, 1, i⟩ : T4)]).length ≤ 121 by have := HXL.out; simp; omega); omega) (by have := hbg.size; simp; omega) ?_)
          intro v2 w8 hown8 hgr8 _
          have HB8 := Lib.hid ((hbg.alloc hbg.size _).grown hgr8 (by have := hbg.size; simp; omega) (fun i e => (howng.lt i e).1))
          have H8 : Hid (OwnsOff w8 w.heap.size 64 4 v2 ((xs ++ [(⟨a, rk p, 1, i⟩ : T4)]) ++ [(⟨x.ring, 1, 2, i⟩ : T4)]).length (tcs ((xs ++ [(⟨a, rk p, 1, i⟩ : T4)]) ++ [⟨x.ring, 1, 2, i⟩]))) := Lib.hid (by rw [show ((xs ++ [(⟨a, rk p, 1, i⟩ : T4)]) ++ [(⟨x.ring, 1, 2, i⟩ : T4)]).length = xs.length + 1 + 1 by simp, tcs_app _ [_], tcs_one]; exact hown8)
          have HN2 := Lib.hid (show upN (both (spL l) (rgL l)) (i + 1) = (xs ++ [(⟨a, rk p, 1, i⟩ : T4)]) ++ [⟨x.ring, 1, 2, i⟩] by rw [HN.out, if_pos HG.out]; simp)
          clear hown8 hgr8 howng hbg hx6
          go_wp2
          go_roundw
          case rel => exact ⟨i + 1, by have := HLT.out; omega, by go_num, by rw [HN2.out]; exact H8.out, HB8.out⟩
          case measure => have := HLT.out; simp [intOf]; omega
        · have hgd : decide (0 ≤ x.ring) = false := decide_eq_false hg
          have HN2 := Lib.hid (show upN (both (spL l) (rgL l)) (i + 1) = xs ++ [(⟨a, rk p, 1, i⟩ : T4)] by rw [HN.out, if_neg hg]; simp)
          go_wp2
          go_roundw
          case rel => exact ⟨i + 1, by have := HLT.out; omega, by go_num, by rw [HN2.out]; exact H6.out, HB6.out⟩
          case measure => have := HLT.out; simp [intOf]; omega
      | false =>
        have hx6 := HXV3.out.b_ring
        by_cases hg : 0 ≤ x.ring
        · have HG := Lib.hid hg
          have howng := HO3.out
          have hbg := HB3.out
          go_wp2_with (at_builtin; refine wpList_append_off _ rfl _ _ 61 rfl (w.heap.size) 64 z0 (.agg #[.int .i64 0, .int .i64 0, .int .i64 0, .int .i64 0]) 4 32 Try.underlying61 hz0 hz1 hz2 hz3 rfl (by decide) _ _ _ rfl (howng.keptB ((Below.refl _ _).alloc (Nat.le_refl _) _)) ⟨w3.heap.size, 0, none⟩ 1 1 (tc ⟨x.ring, 1, 2, i⟩) rfl rfl (news_blk (heap_alloc_new w3 _)) (tcell_ones _) (by have := (show (xs).length ≤ 121 by have := HXL.out; simp; omega); unfold maxLen; omega) (by have := (show (xs).length ≤ 121 by have := HXL.out; simp; omega); omega) (by have := hbg.size; simp; omega) ?_)
          intro v2 w8 hown8 hgr8 _
          have HB8 := Lib.hid ((hbg.alloc hbg.size _).grown hgr8 (by have := hbg.size; simp; omega) (fun i e => (howng.lt i e).1))
          have H8 : Hid (OwnsOff w8 w.heap.size 64 4 v2 ((xs) ++ [(⟨x.ring, 1, 2, i⟩ : T4)]).length (tcs ((xs) ++ [⟨x.ring, 1, 2, i⟩]))) := Lib.hid (by rw [show ((xs) ++ [(⟨x.ring, 1, 2, i⟩ : T4)]).length = xs.length + 1 by simp, tcs_app _ [_], tcs_one]; exact hown8)
          have HN2 := Lib.hid (show upN (both (spL l) (rgL l)) (i + 1) = (xs) ++ [⟨x.ring, 1, 2, i⟩] by rw [HN.out, if_pos HG.out]; simp)
          clear hown8 hgr8 howng hbg hx6
          go_wp2
          go_roundw
          case rel => exact ⟨i + 1, by have := HLT.out; omega, by go_num, by rw [HN2.out]; exact H8.out, HB8.out⟩
          case measure => have := HLT.out; simp [intOf]; omega
        · have hgd : decide (0 ≤ x.ring) = false := decide_eq_false hg
          have HN2 := Lib.hid (show upN (both (spL l) (rgL l)) (i + 1) = xs by rw [HN.out, if_neg hg]; simp)
          go_wp2
          go_roundw
          case rel => exact ⟨i + 1, by have := HLT.out; omega, by go_num, by rw [HN2.out]; exact HO3.out, HB3.out⟩
          case measure => have := HLT.out; simp [intOf]; omega
    · have hil : i = l.length := by omega
      subst hil
      have H3 := Lib.hid hown; have HB := Lib.hid hbr
      clear hown hbr
      go_wp2
      go_ret
      exact ⟨_, rfl, H3.out, HB.out⟩
end Go.Proofs.Ytmonneeikkgllaa
