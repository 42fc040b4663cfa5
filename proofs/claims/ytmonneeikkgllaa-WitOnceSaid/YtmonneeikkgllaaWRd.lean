/- The document's Order, as a contract. No condition but those in the statements. -/
import Derived.Test.YtmonneeikkgllaaWRt
import Derived.BigQuiet
import Derived.IntWalk
import Derived.BigRegion
import Derived.OpenShut
import Derived.Deep.MidRow
import Derived.Lib.Hide
import Derived.Deep.Slices
import Derived.Lib.SmallJoins
import Derived.OwnWalk
import Derived.Deep.RegionHeld3
import Derived.Laws.StructEq
namespace Go.Proofs.Ytmonneeikkgllaa
open WtP Go.RowKit Go.Sort Go.Deep Go.ChangeShapes Go.WideShapes Go.Joins
set_option linter.unusedVariables false
set_option linter.unusedSimpArgs false


theorem Try.infoS19 : (Try.prog.info? 39).map (fun i => (i.zero, i.size, i.bytes)) = some (some (.agg #[.int .i64 0, .int .i64 0, .int .i64 0, .int .i64 0]), 4, 32) := by kernel_rfl
set_option maxRecDepth 100000 in
set_option maxHeartbeats 16000000 in
theorem rorder_b (l : List CV) (A : Option Addr) (c : Nat) (b : List BV) (B : Option Addr) (d : Nat) (w : World) (hr : CRow w w.heap.size A l) (hrb : BRow w w.heap.size B b) (hl : l.length ≤ 60) (hlb : b.length ≤ 60) (hso : soundB l = true) : Calls Try.prog 11 #[.slice A l.length c, .slice B b.length d] w (GivesT 39 w (witS l b)) := by
  have HR := Lib.hid hr; have HRB := Lib.hid hrb; have HSO := Lib.hid hso
  obtain ⟨z0, hz0, hz1, hz2, hz3⟩ := info_parts Try.infoS19
  clear hr hrb hso
  go_enter Try.func11, Try.ntmps11
  go_wp2
  go_loopw [5, 6] (fun v ix wr => ∃ i : Nat, i ≤ l.length ∧ ix = .int .i64 i ∧ OwnsOff wr w.heap.size 39 4 v (upN (effs (spL l)) i).length (tcs (upN (effs (spL l)) i)) ∧ Below w.heap.size w wr) (fun _ ix _ => l.length - (intOf ix).toNat)
  case atStart => exact ⟨0, Nat.zero_le _, rfl, OwnsOff.nil _ _ _ _, Below.refl _ _⟩
  case round =>
    obtain ⟨i, hi, rfl, hown, hbr⟩ := hrel
    by_cases hlt : i < l.length
    · have hi2 : (i : Int) < (l.length : Int) := by omega
      obtain ⟨x, hx⟩ : ∃ x, l[i]? = some x := ⟨_, List.getElem?_eq_getElem hlt⟩
      obtain ⟨-, -, -, hsw, -⟩ := ok_parts hx (sound_up HSO.out i hlt)
      obtain ⟨a, p, q, ha⟩ : ∃ a p q, spotN l x = (a, p, q) := ⟨_, _, _, rfl⟩
      obtain ⟨xs, hxs⟩ : ∃ xs, upN (effs (spL l)) i = xs := ⟨_, rfl⟩
      have HXL := Lib.hid (show xs.length ≤ 240 by
        rw [← hxs]
        have := len_upN (f := effs (spL l)) (c := 1) (fun i => by unfold effs; split <;> simp) i
        omega)
      have HN := Lib.hid (show upN (effs (spL l)) (i + 1) = xs ++ (if q = true then [⟨a, rk p, 1, i⟩] else []) by rw [upN_next, hxs]; unfold effs; rw [spL_at hx, ha])
      rw [hxs] at hown
      have HX := Lib.hid hx; have HSW := Lib.hid hsw; have HA := Lib.hid ha; have HOW := Lib.hid hown; have HBR := Lib.hid hbr; have HLT := Lib.hid hlt
      clear hx hsw ha hxs hown hbr hlt
      go_wp2_with fail
      refine (rplace_b A l c i x a p q _ (HR.out.later HBR.out) HX.out HSW.out HA.out).mono ?_
      rintro e w3 ⟨rfl, hb3⟩
      obtain ⟨X, HXW⟩ : ∃ u, Hid (u = w3.alloc (.cells #[.int .i64 a, .bool p, .bool q] 53)) := ⟨_, rfl⟩
      have hbX : Below w3.heap.size w3 X := by rw [HXW.out]; exact (Below.refl _ _).alloc (Nat.le_refl _) _
      have hXb : X.heap[w3.heap.size]? = some (.cells #[.int .i64 a, .bool p, .bool q] 53 (0, 0)) := by rw [HXW.out]; exact heap_alloc_new _ _
      have q0 := cell_at19 hXb (i := 0) rfl
      have q1 := cell_at19 hXb (i := 1) rfl
      have q2 := cell_at19 hXb (i := 2) rfl
      have hb3X := hb3.trans (hbX.mono hb3.size)
      have HBX := Lib.hid (HBR.out.trans (hb3X.mono HBR.out.size))
      have HOX := Lib.hid (HOW.out.keptB hb3X)
      clear hb3 hbX hXb hb3X
      cases q with
      | true =>
        cases p with
        | true =>
          have howng := HOX.out
          have hbg := HBX.out
          go_wp2_with (first | (rw [← HXW.out]) | (at_builtin; refine wpList_append_off _ rfl _ _ 30 rfl (w.heap.size) 39 z0 (.agg #[.int .i64 0, .int .i64 0, .int .i64 0, .int .i64 0]) 4 32 Try.underlying30 hz0 hz1 hz2 hz3 rfl (by decide) _ _ _ rfl (howng.keptB ((Below.refl _ _).alloc (Nat.le_refl _) _)) ⟨X.heap.size, 0, none⟩ 1 1 (tc ⟨a, 3, 1, i⟩) rfl rfl (news_blk (heap_alloc_new X _)) (tcell_ones _) (by have := HXL.out; unfold maxLen; omega) (by have := HXL.out; omega) (by have := hbg.size; simp; omega) ?_))
          intro v2 w8 hown8 hgr8 _
          have HB8 := Lib.hid ((hbg.alloc hbg.size _).grown hgr8 (by have := hbg.size; simp; omega) (fun i e => (howng.lt i e).1))
          have H8 : Hid (OwnsOff w8 (w.heap.size) 39 4 v2 (xs ++ [(⟨a, 3, 1, i⟩ : T4)]).length (tcs (xs ++ [⟨a, 3, 1, i⟩]))) := Lib.hid (by rw [List.length_append, tcs_app, tcs_one]; exact hown8)
          have HN2 := Lib.hid (show upN (effs (spL l)) (i + 1) = xs ++ [⟨a, 3, 1, i⟩] by rw [HN.out]; rfl)
          clear hown8 hgr8 howng hbg
          go_wp2
          go_roundw
          case rel => exact ⟨i + 1, by have := HLT.out; omega, by go_num, by rw [HN2.out]; exact H8.out, HB8.out⟩
          case measure => have := HLT.out; simp [intOf]; omega
        | false =>
          have howng := HOX.out
          have hbg := HBX.out
          go_wp2_with (first | (rw [← HXW.out]) | (at_builtin; refine wpList_append_off _ rfl _ _ 30 rfl (w.heap.size) 39 z0 (.agg #[.int .i64 0, .int .i64 0, .int .i64 0, .int .i64 0]) 4 32 Try.underlying30 hz0 hz1 hz2 hz3 rfl (by decide) _ _ _ rfl (howng.keptB ((Below.refl _ _).alloc (Nat.le_refl _) _)) ⟨X.heap.size, 0, none⟩ 1 1 (tc ⟨a, 0, 1, i⟩) rfl rfl (news_blk (heap_alloc_new X _)) (tcell_ones _) (by have := HXL.out; unfold maxLen; omega) (by have := HXL.out; omega) (by have := hbg.size; simp; omega) ?_))
          intro v2 w8 hown8 hgr8 _
          have HB8 := Lib.hid ((hbg.alloc hbg.size _).grown hgr8 (by have := hbg.size; simp; omega) (fun i e => (howng.lt i e).1))
          have H8 : Hid (OwnsOff w8 (w.heap.size) 39 4 v2 (xs ++ [(⟨a, 0, 1, i⟩ : T4)]).length (tcs (xs ++ [⟨a, 0, 1, i⟩]))) := Lib.hid (by rw [List.length_append, tcs_app, tcs_one]; exact hown8)
          have HN2 := Lib.hid (show upN (effs (spL l)) (i + 1) = xs ++ [⟨a, 0, 1, i⟩] by rw [HN.out]; rfl)
          clear hown8 hgr8 howng hbg
          go_wp2
          go_roundw
          case rel => exact ⟨i + 1, by have := HLT.out; omega, by go_num, by rw [HN2.out]; exact H8.out, HB8.out⟩
          case measure => have := HLT.out; simp [intOf]; omega
      | false =>
        have HN2 := Lib.hid (show upN (effs (spL l)) (i + 1) = xs by rw [HN.out]; simp)
        go_wp2_with (rw [← HXW.out])
        go_wp2
        go_roundw
        case rel => exact ⟨i + 1, by have := HLT.out; omega, by go_num, by rw [HN2.out]; exact HOX.out, HBX.out⟩
        case measure => have := HLT.out; simp [intOf]; omega
    · have hil : i = l.length := by omega
      subst hil
      have HO1 := Lib.hid hown; have HB1 := Lib.hid hbr
      clear hown hbr hlt hi
      go_wp2
      go_loopw [5, 8] (fun v ix wr => ∃ i : Nat, i ≤ l.length ∧ ix = .int .i64 i ∧ OwnsOff wr w.heap.size 39 4 v (upN (effs (spL l)) l.length ++ upN (rngs (rgL l)) i).length (tcs (upN (effs (spL l)) l.length ++ upN (rngs (rgL l)) i)) ∧ Below w.heap.size w wr) (fun _ ix _ => l.length - (intOf ix).toNat)
      case atStart => exact ⟨0, Nat.zero_le _, rfl, by rw [show upN (rngs (rgL l)) 0 = [] from rfl, List.append_nil]; exact HO1.out, HB1.out⟩
      case round =>
        clear HO1 HB1
        obtain ⟨i, hi, rfl, hown, hbr⟩ := hrel
        by_cases hlt : i < l.length
        · have hi2 : (i : Int) < (l.length : Int) := by omega
          obtain ⟨bb, oo, x, hA, hbl, hx, -, hxc⟩ := HR.out.at_ hlt
          have x_ring := (hxc _ hbr).1.ring
          obtain ⟨xs, hxs⟩ : ∃ xs, upN (effs (spL l)) l.length ++ upN (rngs (rgL l)) i = xs := ⟨_, rfl⟩
          have HXL := Lib.hid (show xs.length ≤ 240 by
            rw [← hxs, List.length_append]
            have h1 := len_upN (f := effs (spL l)) (c := 1) (fun i => by unfold effs; split <;> simp) l.length
            have h2 := len_upN (f := rngs (rgL l)) (c := 1) (fun i => by unfold rngs; split <;> simp) i
            omega)
          have HN := Lib.hid (show upN (effs (spL l)) l.length ++ upN (rngs (rgL l)) (i + 1) = xs ++ (if 0 ≤ x.ring then [⟨x.ring, 1, 2, i⟩] else []) by rw [upN_next, ← List.append_assoc, hxs]; unfold rngs; rw [rgL_at hx])
          rw [hxs] at hown
          subst hA
          have HOW := Lib.hid hown; have HBR := Lib.hid hbr; have HLT := Lib.hid hlt
          clear hx hxs hown hbr hlt hxc hbl
          by_cases hg : 0 ≤ x.ring
          · have HN2 := Lib.hid (show upN (effs (spL l)) l.length ++ upN (rngs (rgL l)) (i + 1) = xs ++ [⟨x.ring, 1, 2, i⟩] by rw [HN.out, if_pos hg])
            have howng := HOW.out
            have hbg := HBR.out
            go_wp2_with ((at_builtin; refine wpList_append_off _ rfl _ _ 30 rfl (w.heap.size) 39 z0 (.agg #[.int .i64 0, .int .i64 0, .int .i64 0, .int .i64 0]) 4 32 Try.underlying30 hz0 hz1 hz2 hz3 rfl (by decide) _ _ _ rfl (howng.keptB ((Below.refl _ _).alloc (Nat.le_refl _) _)) ⟨wr.heap.size, 0, none⟩ 1 1 (tc ⟨x.ring, 1, 2, i⟩) rfl rfl (news_blk (heap_alloc_new wr _)) (tcell_ones _) (by have := HXL.out; unfold maxLen; omega) (by have := HXL.out; omega) (by have := hbg.size; simp; omega) ?_))
            intro v2 w8 hown8 hgr8 _
            have HB8 := Lib.hid ((hbg.alloc hbg.size _).grown hgr8 (by have := hbg.size; simp; omega) (fun i e => (howng.lt i e).1))
            have H8 : Hid (OwnsOff w8 (w.heap.size) 39 4 v2 (xs ++ [(⟨x.ring, 1, 2, i⟩ : T4)]).length (tcs (xs ++ [⟨x.ring, 1, 2, i⟩]))) := Lib.hid (by rw [List.length_append, tcs_app, tcs_one]; exact hown8)
            skip
            clear hown8 hgr8 howng hbg
            go_wp2
            go_roundw
            case rel => exact ⟨i + 1, by have := HLT.out; omega, by go_num, by rw [HN2.out]; exact H8.out, HB8.out⟩
            case measure => have := HLT.out; simp [intOf]; omega
          · have hgd : decide (0 ≤ x.ring) = false := decide_eq_false hg
            have HN2 := Lib.hid (show upN (effs (spL l)) l.length ++ upN (rngs (rgL l)) (i + 1) = xs by rw [HN.out, if_neg hg, List.append_nil])
            go_wp2
            go_roundw
            case rel => exact ⟨i + 1, by have := HLT.out; omega, by go_num, by rw [HN2.out]; exact HOW.out, HBR.out⟩
            case measure => have := HLT.out; simp [intOf]; omega
        · have hil : i = l.length := by omega
          subst hil
          have HO2 := Lib.hid hown; have HB2 := Lib.hid hbr
          clear hown hbr hlt hi
          go_wp2
          go_loopw [5, 9] (fun v ix wr => ∃ i : Nat, i ≤ b.length ∧ ix = .int .i64 i ∧ OwnsOff wr w.heap.size 39 4 v (upN (effs (spL l)) l.length ++ upN (rngs (rgL l)) l.length ++ upN (dels (btL b)) i).length (tcs (upN (effs (spL l)) l.length ++ upN (rngs (rgL l)) l.length ++ upN (dels (btL b)) i)) ∧ Below w.heap.size w wr) (fun _ ix _ => b.length - (intOf ix).toNat)
          case atStart => exact ⟨0, Nat.zero_le _, rfl, by rw [show upN (dels (btL b)) 0 = [] from rfl, List.append_nil]; exact HO2.out, HB2.out⟩
          case round =>
            clear HO2 HB2
            obtain ⟨i, hi, rfl, hown, hbr⟩ := hrel
            by_cases hlt : i < b.length
            · have hi2 : (i : Int) < (b.length : Int) := by omega
              obtain ⟨bb, oo, y, hA, hbl, hy, hyc⟩ := HRB.out.at_ hlt
              have y_mom := (hyc _ hbr).mom
              obtain ⟨xs, hxs⟩ : ∃ xs, upN (effs (spL l)) l.length ++ upN (rngs (rgL l)) l.length ++ upN (dels (btL b)) i = xs := ⟨_, rfl⟩
              have HXL := Lib.hid (show xs.length ≤ 240 by
                rw [← hxs, List.length_append, List.length_append]
                have h1 := len_upN (f := effs (spL l)) (c := 1) (fun i => by unfold effs; split <;> simp) l.length
                have h2 := len_upN (f := rngs (rgL l)) (c := 1) (fun i => by unfold rngs; split <;> simp) l.length
                have h3 := len_upN (f := dels (btL b)) (c := 1) (fun i => Nat.le_refl _) i
                omega)
              have HN2 := Lib.hid (show upN (effs (spL l)) l.length ++ upN (rngs (rgL l)) l.length ++ upN (dels (btL b)) (i + 1) = xs ++ [⟨y.mom, 2, 3, i⟩] by rw [upN_next, ← List.append_assoc, hxs]; unfold dels; rw [btL_at hy])
              rw [hxs] at hown
              subst hA
              have HOW := Lib.hid hown; have HBR := Lib.hid hbr; have HLT := Lib.hid hlt
              clear hy hxs hown hbr hlt hyc hbl
              have howng := HOW.out
              have hbg := HBR.out
              go_wp2_with ((at_builtin; refine wpList_append_off _ rfl _ _ 30 rfl (w.heap.size) 39 z0 (.agg #[.int .i64 0, .int .i64 0, .int .i64 0, .int .i64 0]) 4 32 Try.underlying30 hz0 hz1 hz2 hz3 rfl (by decide) _ _ _ rfl (howng.keptB ((Below.refl _ _).alloc (Nat.le_refl _) _)) ⟨wr.heap.size, 0, none⟩ 1 1 (tc ⟨y.mom, 2, 3, i⟩) rfl rfl (news_blk (heap_alloc_new wr _)) (tcell_ones _) (by have := HXL.out; unfold maxLen; omega) (by have := HXL.out; omega) (by have := hbg.size; simp; omega) ?_))
              intro v2 w8 hown8 hgr8 _
              have HB8 := Lib.hid ((hbg.alloc hbg.size _).grown hgr8 (by have := hbg.size; simp; omega) (fun i e => (howng.lt i e).1))
              have H8 : Hid (OwnsOff w8 (w.heap.size) 39 4 v2 (xs ++ [(⟨y.mom, 2, 3, i⟩ : T4)]).length (tcs (xs ++ [⟨y.mom, 2, 3, i⟩]))) := Lib.hid (by rw [List.length_append, tcs_app, tcs_one]; exact hown8)
              skip
              clear hown8 hgr8 howng hbg
              go_wp2
              go_roundw
              case rel => exact ⟨i + 1, by have := HLT.out; omega, by go_num, by rw [HN2.out]; exact H8.out, HB8.out⟩
              case measure => have := HLT.out; simp [intOf]; omega
            · have hil : i = b.length := by omega
              subst hil
              have HE := Lib.hid (show upN (effs (spL l)) l.length ++ upN (rngs (rgL l)) l.length ++ upN (dels (btL b)) b.length = allD (spL l) (rgL l) (btL b) l.length b.length from rfl)
              rw [HE.out] at hown
              obtain ⟨L, hL⟩ : ∃ L, allD (spL l) (rgL l) (btL b) l.length b.length = L := ⟨_, rfl⟩
              have HPOS := Lib.hid (show Pos L by rw [← hL]; exact pos_allD _ _)
              have HONE := Lib.hid (show ∀ x ∈ L, ∀ y ∈ L, x.kind = y.kind → x.idx = y.idx → x = y by rw [← hL]; exact fun x hx y hy => one_all hx hy)
              have HWS := Lib.hid (show ordS L = witS l b by rw [← hL]; exact ordS_same (perm_all _ _))
              have HLL := Lib.hid (show L.length ≤ 240 by
                rw [← hL, (perm_all (sp := spL l) (rg := rgL l) (bt := btL b) l.length b.length).length_eq]
                have := len_allP (sp := spL l) (rg := rgL l) (bt := btL b) l.length b.length
                omega)
              rw [hL] at hown
              obtain ⟨AL, cL, rfl, -, -, htl⟩ := own_trow hown rfl
              have HTL := Lib.hid htl; have HB3 := Lib.hid hbr
              clear hown hbr hlt hi hL htl HE
              obtain ⟨wp, rfl⟩ : ∃ wp, wp = wr := ⟨_, rfl⟩
              have hLb := HLL.out
              go_wp2
              go_loopw [10] (fun v wr => ∃ o : List T4, Got L o ∧ OwnsOff wr wp.heap.size 39 4 v o.length (tcs o) ∧ Below wp.heap.size wp wr) (fun v _ => L.length - (match v with | .slice _ n _ => n | _ => 0))
              case atStart => exact ⟨[], Got.nil L, OwnsOff.nil _ _ _ _, Below.refl _ _⟩
              case round =>
                obtain ⟨o, hgot, hown, hbr⟩ := hrel
                have HG := Lib.hid hgot; have HO := Lib.hid hown; have HBR := Lib.hid hbr
                obtain ⟨Ao, co, rfl, hco1, hco2, hto⟩ := own_trow hown rfl
                have HTO := Lib.hid hto
                have hol : o.length ≤ L.length := hgot.le
                clear hgot hown hbr hto hco1 hco2
                by_cases hlt : o.length < L.length
                · have hlt2 : (o.length : Int) < (L.length : Int) := by omega
                  have HLT := Lib.hid hlt
                  obtain ⟨wo, rfl⟩ : ∃ wo, wo = wr := ⟨_, rfl⟩
                  clear hlt hol
                  go_wp2
                  go_loopw [11, 12] (fun sb si wr => ∃ (k : Nat) (bz : Int), k ≤ L.length ∧ sb = .int .i64 bz ∧ si = .int .i64 k ∧ Hid (Best L o k bz) ∧ Below wo.heap.size wo wr) (fun _ si _ => L.length - (intOf si).toNat)
                  case atStart => exact ⟨0, -1, Nat.zero_le _, rfl, rfl, Best.zero _ _, Below.refl _ _⟩
                  case round =>
                    obtain ⟨k, bz, hk, rfl, rfl, HBE, hbw⟩ := hrel
                    have HBW := Lib.hid hbw
                    have HTLW := Lib.hid (HTL.out.below (HBR.out.trans (hbw.mono HBR.out.size)))
                    have HTOW := Lib.hid (HTO.out.later hbw)
                    clear hbw
                    by_cases hkl : k < L.length
                    · have hkl2 : (k : Int) < (L.length : Int) := by omega
                      obtain ⟨bb, oo, y, rfl, hbl, hy, hyc⟩ := HTLW.out.at_ hkl
                      obtain ⟨y0, y1, y2, y3⟩ := tc_cells (hyc _ (Below.refl _ _))
                      have HY := Lib.hid hy
                      have HYC := Lib.hid (fun V (h : Below wr.heap.size wr V) => tc_cells (hyc V (h.mono (by have := HBW.out.size; have := HBR.out.size; omega))))
                      have HKL := Lib.hid hkl
                      clear hy hyc hbl hkl
                      cases htk : isTaken o y with
                      | true =>
                        have HK1 := Lib.hid (HBE.out.pass HY.out htk)
                        have HTK := Lib.hid htk
                        clear htk
                        go_wp2_with fail
                        refine (taken_b o Ao co y true _ HTOW.out (by have := HLT.out; have := HLL.out; omega) HTK.out).mono ?_
                        rintro e w4 ⟨rfl, hb4⟩
                        have HB4 := Lib.hid (HBW.out.trans (hb4.mono HBW.out.size))
                        clear hb4 y0 y1 y2 y3
                        go_wp2
                        go_roundw
                        case rel => exact ⟨k + 1, bz, by have := HKL.out; omega, rfl, by go_num, HK1, HB4.out⟩
                        case measure => have := HKL.out; simp [intOf]; omega
                      | false =>
                        have HTK := Lib.hid htk
                        clear htk
                        go_wp2_with fail
                        refine (taken_b o Ao co y false _ HTOW.out (by have := HLT.out; have := HLL.out; omega) HTK.out).mono ?_
                        rintro e w4 ⟨rfl, hb4⟩
                        have HB4 := Lib.hid (HBW.out.trans (hb4.mono HBW.out.size))
                        have HYC4 := Lib.hid (fun V (h : Below w4.heap.size w4 V) => HYC.out V (hb4.trans (h.mono hb4.size)))
                        have HBT := Lib.hid hb4
                        clear hb4 y0 y1 y2 y3
                        by_cases hb0 : bz < 0
                        · have hb0d : decide (bz < 0) = true := decide_eq_true hb0
                          have HK1 := Lib.hid (HBE.out.first hb0 HY.out HTK.out)
                          go_wp2_with fail
                          refine wp_region_held_drew (S := fun V => Below w4.heap.size w4 V) (by kernel_rfl) ((Below.refl _ _).drew) (fun hHeld => ?_)
                          first
                            | (refine wpAnyH_take (i := 0) rfl (by kernel_rfl) (by kernel_rfl) (by kernel_rfl) (fun _ _ _ h => h) (Or.inl ⟨by rfl, by intro w hSw; obtain ⟨y0, y1, -, -⟩ := HYC4.out _ hSw; (go_simp <;> with_reducible rfl)⟩) (by assumption) ?_)
                            | (refine wpAnyH_take (i := 0) rfl (by kernel_rfl) (by kernel_rfl) (by kernel_rfl) (fun _ _ _ h => h) (Or.inr ⟨by rfl, rfl⟩) (by assumption) ?_)
                          (try simp only [Act.put, List.setIfInBounds_toArray, List.set_cons_zero, List.set_cons_succ, List.getElem_toArray, List.getElem_cons_zero, List.getElem_cons_succ])
                          first
                            | (refine wpAnyH_take (i := 1) rfl (by kernel_rfl) (by kernel_rfl) (by kernel_rfl) (fun _ _ _ h => h) (Or.inl ⟨by rfl, by intro w hSw; obtain ⟨y0, y1, -, -⟩ := HYC4.out _ hSw; (go_simp <;> with_reducible rfl)⟩) (by assumption) ?_)
                            | (refine wpAnyH_take (i := 1) rfl (by kernel_rfl) (by kernel_rfl) (by kernel_rfl) (fun _ _ _ h => h) (Or.inr ⟨by rfl, rfl⟩) (by assumption) ?_)
                          (try simp only [Act.put, List.setIfInBounds_toArray, List.set_cons_zero, List.set_cons_succ, List.getElem_toArray, List.getElem_cons_zero, List.getElem_cons_succ])
                          first
                            | (refine wpAnyH_take (i := 2) rfl (by kernel_rfl) (by kernel_rfl) (by kernel_rfl) (fun _ _ _ h => h) (Or.inl ⟨by rfl, by intro w hSw; obtain ⟨y0, y1, -, -⟩ := HYC4.out _ hSw; (go_simp <;> with_reducible rfl)⟩) (by assumption) ?_)
                            | (refine wpAnyH_take (i := 2) rfl (by kernel_rfl) (by kernel_rfl) (by kernel_rfl) (fun _ _ _ h => h) (Or.inr ⟨by rfl, rfl⟩) (by assumption) ?_)
                          (try simp only [Act.put, List.setIfInBounds_toArray, List.set_cons_zero, List.set_cons_succ, List.getElem_toArray, List.getElem_cons_zero, List.getElem_cons_succ])
                          first
                            | (refine wpAnyH_take (i := 3) rfl (by kernel_rfl) (by kernel_rfl) (by kernel_rfl) (fun _ _ _ h => h) (Or.inl ⟨by rfl, by intro w hSw; obtain ⟨y0, y1, -, -⟩ := HYC4.out _ hSw; (go_simp <;> with_reducible rfl)⟩) (by assumption) ?_)
                            | (refine wpAnyH_take (i := 3) rfl (by kernel_rfl) (by kernel_rfl) (by kernel_rfl) (fun _ _ _ h => h) (Or.inr ⟨by rfl, rfl⟩) (by assumption) ?_)
                          (try simp only [Act.put, List.setIfInBounds_toArray, List.set_cons_zero, List.set_cons_succ, List.getElem_toArray, List.getElem_cons_zero, List.getElem_cons_succ])
                          first
                            | (refine wpAnyH_take (i := 4) rfl (by kernel_rfl) (by kernel_rfl) (by kernel_rfl) (fun _ _ _ h => h) (Or.inl ⟨by rfl, by intro w hSw; obtain ⟨y0, y1, -, -⟩ := HYC4.out _ hSw; (go_simp <;> with_reducible rfl)⟩) (by assumption) ?_)
                            | (refine wpAnyH_take (i := 4) rfl (by kernel_rfl) (by kernel_rfl) (by kernel_rfl) (fun _ _ _ h => h) (Or.inr ⟨by rfl, rfl⟩) (by assumption) ?_)
                          (try simp only [Act.put, List.setIfInBounds_toArray, List.set_cons_zero, List.set_cons_succ, List.getElem_toArray, List.getElem_cons_zero, List.getElem_cons_succ])
                          first
                            | (refine wpAnyH_take (i := 5) rfl (by kernel_rfl) (by kernel_rfl) (by kernel_rfl) (fun _ _ _ h => h) (Or.inl ⟨by rfl, by intro w hSw; obtain ⟨y0, y1, -, -⟩ := HYC4.out _ hSw; (go_simp <;> with_reducible rfl)⟩) (by assumption) ?_)
                            | (refine wpAnyH_take (i := 5) rfl (by kernel_rfl) (by kernel_rfl) (by kernel_rfl) (fun _ _ _ h => h) (Or.inr ⟨by rfl, rfl⟩) (by assumption) ?_)
                          (try simp only [Act.put, List.setIfInBounds_toArray, List.set_cons_zero, List.set_cons_succ, List.getElem_toArray, List.getElem_cons_zero, List.getElem_cons_succ])
                          first
                            | (refine wpAnyH_take (i := 6) rfl (by kernel_rfl) (by kernel_rfl) (by kernel_rfl) (fun _ _ _ h => h) (Or.inl ⟨by rfl, by intro w hSw; obtain ⟨y0, y1, -, -⟩ := HYC4.out _ hSw; (go_simp <;> with_reducible rfl)⟩) (by assumption) ?_)
                            | (refine wpAnyH_take (i := 6) rfl (by kernel_rfl) (by kernel_rfl) (by kernel_rfl) (fun _ _ _ h => h) (Or.inr ⟨by rfl, rfl⟩) (by assumption) ?_)
                          (try simp only [Act.put, List.setIfInBounds_toArray, List.set_cons_zero, List.set_cons_succ, List.getElem_toArray, List.getElem_cons_zero, List.getElem_cons_succ])
                          first
                            | (refine wpAnyH_take (i := 7) rfl (by kernel_rfl) (by kernel_rfl) (by kernel_rfl) (fun _ _ _ h => h) (Or.inl ⟨by rfl, by intro w hSw; obtain ⟨y0, y1, -, -⟩ := HYC4.out _ hSw; (go_simp <;> with_reducible rfl)⟩) (by assumption) ?_)
                            | (refine wpAnyH_take (i := 7) rfl (by kernel_rfl) (by kernel_rfl) (by kernel_rfl) (fun _ _ _ h => h) (Or.inr ⟨by rfl, rfl⟩) (by assumption) ?_)
                          (try simp only [Act.put, List.setIfInBounds_toArray, List.set_cons_zero, List.set_cons_succ, List.getElem_toArray, List.getElem_cons_zero, List.getElem_cons_succ])
                          first
                            | (refine wpAnyH_take (i := 8) rfl (by kernel_rfl) (by kernel_rfl) (by kernel_rfl) (fun _ _ _ h => h) (Or.inl ⟨by rfl, by intro w hSw; obtain ⟨y0, y1, -, -⟩ := HYC4.out _ hSw; (go_simp <;> with_reducible rfl)⟩) (by assumption) ?_)
                            | (refine wpAnyH_take (i := 8) rfl (by kernel_rfl) (by kernel_rfl) (by kernel_rfl) (fun _ _ _ h => h) (Or.inr ⟨by rfl, rfl⟩) (by assumption) ?_)
                          (try simp only [Act.put, List.setIfInBounds_toArray, List.set_cons_zero, List.set_cons_succ, List.getElem_toArray, List.getElem_cons_zero, List.getElem_cons_succ])
                          first
                            | (refine wpAnyH_take (i := 9) rfl (by kernel_rfl) (by kernel_rfl) (by kernel_rfl) (fun _ _ _ h => h) (Or.inl ⟨by rfl, by intro w hSw; obtain ⟨y0, y1, -, -⟩ := HYC4.out _ hSw; (go_simp <;> with_reducible rfl)⟩) (by assumption) ?_)
                            | (refine wpAnyH_take (i := 9) rfl (by kernel_rfl) (by kernel_rfl) (by kernel_rfl) (fun _ _ _ h => h) (Or.inr ⟨by rfl, rfl⟩) (by assumption) ?_)
                          (try simp only [Act.put, List.setIfInBounds_toArray, List.set_cons_zero, List.set_cons_succ, List.getElem_toArray, List.getElem_cons_zero, List.getElem_cons_succ])
                          first
                            | (refine wpAnyH_take (i := 10) rfl (by kernel_rfl) (by kernel_rfl) (by kernel_rfl) (fun _ _ _ h => h) (Or.inl ⟨by rfl, by intro w hSw; obtain ⟨y0, y1, -, -⟩ := HYC4.out _ hSw; (go_simp <;> with_reducible rfl)⟩) (by assumption) ?_)
                            | (refine wpAnyH_take (i := 10) rfl (by kernel_rfl) (by kernel_rfl) (by kernel_rfl) (fun _ _ _ h => h) (Or.inr ⟨by rfl, rfl⟩) (by assumption) ?_)
                          (try simp only [Act.put, List.setIfInBounds_toArray, List.set_cons_zero, List.set_cons_succ, List.getElem_toArray, List.getElem_cons_zero, List.getElem_cons_succ])
                          first
                            | (refine wpAnyH_take (i := 11) rfl (by kernel_rfl) (by kernel_rfl) (by kernel_rfl) (fun _ _ _ h => h) (Or.inl ⟨by rfl, by intro w hSw; obtain ⟨y0, y1, -, -⟩ := HYC4.out _ hSw; (go_simp <;> with_reducible rfl)⟩) (by assumption) ?_)
                            | (refine wpAnyH_take (i := 11) rfl (by kernel_rfl) (by kernel_rfl) (by kernel_rfl) (fun _ _ _ h => h) (Or.inr ⟨by rfl, rfl⟩) (by assumption) ?_)
                          (try simp only [Act.put, List.setIfInBounds_toArray, List.set_cons_zero, List.set_cons_succ, List.getElem_toArray, List.getElem_cons_zero, List.getElem_cons_succ])
                          first
                            | (refine wpAnyH_take (i := 12) rfl (by kernel_rfl) (by kernel_rfl) (by kernel_rfl) (fun _ _ _ h => h) (Or.inl ⟨by rfl, by intro w hSw; obtain ⟨y0, y1, -, -⟩ := HYC4.out _ hSw; (go_simp <;> with_reducible rfl)⟩) (by assumption) ?_)
                            | (refine wpAnyH_take (i := 12) rfl (by kernel_rfl) (by kernel_rfl) (by kernel_rfl) (fun _ _ _ h => h) (Or.inr ⟨by rfl, rfl⟩) (by assumption) ?_)
                          (try simp only [Act.put, List.setIfInBounds_toArray, List.set_cons_zero, List.set_cons_succ, List.getElem_toArray, List.getElem_cons_zero, List.getElem_cons_succ])
                          first
                            | (refine wpAnyH_take (i := 13) rfl (by kernel_rfl) (by kernel_rfl) (by kernel_rfl) (fun _ _ _ h => h) (Or.inl ⟨by rfl, by intro w hSw; obtain ⟨y0, y1, -, -⟩ := HYC4.out _ hSw; (go_simp <;> with_reducible rfl)⟩) (by assumption) ?_)
                            | (refine wpAnyH_take (i := 13) rfl (by kernel_rfl) (by kernel_rfl) (by kernel_rfl) (fun _ _ _ h => h) (Or.inr ⟨by rfl, rfl⟩) (by assumption) ?_)
                          (try simp only [Act.put, List.setIfInBounds_toArray, List.set_cons_zero, List.set_cons_succ, List.getElem_toArray, List.getElem_cons_zero, List.getElem_cons_succ])
                          first
                            | (refine wpAnyH_take (i := 14) rfl (by kernel_rfl) (by kernel_rfl) (by kernel_rfl) (fun _ _ _ h => h) (Or.inl ⟨by rfl, by intro w hSw; obtain ⟨y0, y1, -, -⟩ := HYC4.out _ hSw; (go_simp <;> with_reducible rfl)⟩) (by assumption) ?_)
                            | (refine wpAnyH_take (i := 14) rfl (by kernel_rfl) (by kernel_rfl) (by kernel_rfl) (fun _ _ _ h => h) (Or.inr ⟨by rfl, rfl⟩) (by assumption) ?_)
                          (try simp only [Act.put, List.setIfInBounds_toArray, List.set_cons_zero, List.set_cons_succ, List.getElem_toArray, List.getElem_cons_zero, List.getElem_cons_succ])
                          first
                            | (refine wpAnyH_take (i := 15) rfl (by kernel_rfl) (by kernel_rfl) (by kernel_rfl) (fun _ _ _ h => h) (Or.inl ⟨by rfl, by intro w hSw; obtain ⟨y0, y1, -, -⟩ := HYC4.out _ hSw; (go_simp <;> with_reducible rfl)⟩) (by assumption) ?_)
                            | (refine wpAnyH_take (i := 15) rfl (by kernel_rfl) (by kernel_rfl) (by kernel_rfl) (fun _ _ _ h => h) (Or.inr ⟨by rfl, rfl⟩) (by assumption) ?_)
                          (try simp only [Act.put, List.setIfInBounds_toArray, List.set_cons_zero, List.set_cons_succ, List.getElem_toArray, List.getElem_cons_zero, List.getElem_cons_succ])
                          first
                            | (refine wpAnyH_take (i := 16) rfl (by kernel_rfl) (by kernel_rfl) (by kernel_rfl) (fun _ _ _ h => h) (Or.inl ⟨by rfl, by intro w hSw; obtain ⟨y0, y1, -, -⟩ := HYC4.out _ hSw; (go_simp <;> with_reducible rfl)⟩) (by assumption) ?_)
                            | (refine wpAnyH_take (i := 16) rfl (by kernel_rfl) (by kernel_rfl) (by kernel_rfl) (fun _ _ _ h => h) (Or.inr ⟨by rfl, rfl⟩) (by assumption) ?_)
                          (try simp only [Act.put, List.setIfInBounds_toArray, List.set_cons_zero, List.set_cons_succ, List.getElem_toArray, List.getElem_cons_zero, List.getElem_cons_succ])
                          first
                            | (refine wpAnyH_take (i := 17) rfl (by kernel_rfl) (by kernel_rfl) (by kernel_rfl) (fun _ _ _ h => h) (Or.inl ⟨by rfl, by intro w hSw; obtain ⟨y0, y1, -, -⟩ := HYC4.out _ hSw; (go_simp <;> with_reducible rfl)⟩) (by assumption) ?_)
                            | (refine wpAnyH_take (i := 17) rfl (by kernel_rfl) (by kernel_rfl) (by kernel_rfl) (fun _ _ _ h => h) (Or.inr ⟨by rfl, rfl⟩) (by assumption) ?_)
                          (try simp only [Act.put, List.setIfInBounds_toArray, List.set_cons_zero, List.set_cons_succ, List.getElem_toArray, List.getElem_cons_zero, List.getElem_cons_succ])
                          first
                            | (refine wpAnyH_take (i := 18) rfl (by kernel_rfl) (by kernel_rfl) (by kernel_rfl) (fun _ _ _ h => h) (Or.inl ⟨by rfl, by intro w hSw; obtain ⟨y0, y1, -, -⟩ := HYC4.out _ hSw; (go_simp <;> with_reducible rfl)⟩) (by assumption) ?_)
                            | (refine wpAnyH_take (i := 18) rfl (by kernel_rfl) (by kernel_rfl) (by kernel_rfl) (fun _ _ _ h => h) (Or.inr ⟨by rfl, rfl⟩) (by assumption) ?_)
                          (try simp only [Act.put, List.setIfInBounds_toArray, List.set_cons_zero, List.set_cons_succ, List.getElem_toArray, List.getElem_cons_zero, List.getElem_cons_succ])
                          first
                            | (refine wpAnyH_take (i := 19) rfl (by kernel_rfl) (by kernel_rfl) (by kernel_rfl) (fun _ _ _ h => h) (Or.inl ⟨by rfl, by intro w hSw; obtain ⟨y0, y1, -, -⟩ := HYC4.out _ hSw; (go_simp <;> with_reducible rfl)⟩) (by assumption) ?_)
                            | (refine wpAnyH_take (i := 19) rfl (by kernel_rfl) (by kernel_rfl) (by kernel_rfl) (fun _ _ _ h => h) (Or.inr ⟨by rfl, rfl⟩) (by assumption) ?_)
                          (try simp only [Act.put, List.setIfInBounds_toArray, List.set_cons_zero, List.set_cons_succ, List.getElem_toArray, List.getElem_cons_zero, List.getElem_cons_succ])
                          first
                            | (refine wpAnyH_take (i := 20) rfl (by kernel_rfl) (by kernel_rfl) (by kernel_rfl) (fun _ _ _ h => h) (Or.inl ⟨by rfl, by intro w hSw; obtain ⟨y0, y1, -, -⟩ := HYC4.out _ hSw; (go_simp <;> with_reducible rfl)⟩) (by assumption) ?_)
                            | (refine wpAnyH_take (i := 20) rfl (by kernel_rfl) (by kernel_rfl) (by kernel_rfl) (fun _ _ _ h => h) (Or.inr ⟨by rfl, rfl⟩) (by assumption) ?_)
                          (try simp only [Act.put, List.setIfInBounds_toArray, List.set_cons_zero, List.set_cons_succ, List.getElem_toArray, List.getElem_cons_zero, List.getElem_cons_succ])
                          first
                            | (refine wpAnyH_take (i := 21) rfl (by kernel_rfl) (by kernel_rfl) (by kernel_rfl) (fun _ _ _ h => h) (Or.inl ⟨by rfl, by intro w hSw; obtain ⟨y0, y1, -, -⟩ := HYC4.out _ hSw; (go_simp <;> with_reducible rfl)⟩) (by assumption) ?_)
                            | (refine wpAnyH_take (i := 21) rfl (by kernel_rfl) (by kernel_rfl) (by kernel_rfl) (fun _ _ _ h => h) (Or.inr ⟨by rfl, rfl⟩) (by assumption) ?_)
                          (try simp only [Act.put, List.setIfInBounds_toArray, List.set_cons_zero, List.set_cons_succ, List.getElem_toArray, List.getElem_cons_zero, List.getElem_cons_succ])
                          first
                            | (refine wpAnyH_take (i := 22) rfl (by kernel_rfl) (by kernel_rfl) (by kernel_rfl) (fun _ _ _ h => h) (Or.inl ⟨by rfl, by intro w hSw; obtain ⟨y0, y1, -, -⟩ := HYC4.out _ hSw; (go_simp <;> with_reducible rfl)⟩) (by assumption) ?_)
                            | (refine wpAnyH_take (i := 22) rfl (by kernel_rfl) (by kernel_rfl) (by kernel_rfl) (fun _ _ _ h => h) (Or.inr ⟨by rfl, rfl⟩) (by assumption) ?_)
                          (try simp only [Act.put, List.setIfInBounds_toArray, List.set_cons_zero, List.set_cons_succ, List.getElem_toArray, List.getElem_cons_zero, List.getElem_cons_succ])
                          first
                            | (refine wpAnyH_take (i := 23) rfl (by kernel_rfl) (by kernel_rfl) (by kernel_rfl) (fun _ _ _ h => h) (Or.inl ⟨by rfl, by intro w hSw; obtain ⟨y0, y1, -, -⟩ := HYC4.out _ hSw; (go_simp <;> with_reducible rfl)⟩) (by assumption) ?_)
                            | (refine wpAnyH_take (i := 23) rfl (by kernel_rfl) (by kernel_rfl) (by kernel_rfl) (fun _ _ _ h => h) (Or.inr ⟨by rfl, rfl⟩) (by assumption) ?_)
                          (try simp only [Act.put, List.setIfInBounds_toArray, List.set_cons_zero, List.set_cons_succ, List.getElem_toArray, List.getElem_cons_zero, List.getElem_cons_succ])
                          first
                            | (refine wpAnyH_take (i := 24) rfl (by kernel_rfl) (by kernel_rfl) (by kernel_rfl) (fun _ _ _ h => h) (Or.inl ⟨by rfl, by intro w hSw; obtain ⟨y0, y1, -, -⟩ := HYC4.out _ hSw; (go_simp <;> with_reducible rfl)⟩) (by assumption) ?_)
                            | (refine wpAnyH_take (i := 24) rfl (by kernel_rfl) (by kernel_rfl) (by kernel_rfl) (fun _ _ _ h => h) (Or.inr ⟨by rfl, rfl⟩) (by assumption) ?_)
                          (try simp only [Act.put, List.setIfInBounds_toArray, List.set_cons_zero, List.set_cons_succ, List.getElem_toArray, List.getElem_cons_zero, List.getElem_cons_succ])
                          first
                            | (refine wpAnyH_take (i := 25) rfl (by kernel_rfl) (by kernel_rfl) (by kernel_rfl) (fun _ _ _ h => h) (Or.inl ⟨by rfl, by intro w hSw; obtain ⟨y0, y1, -, -⟩ := HYC4.out _ hSw; (go_simp <;> with_reducible rfl)⟩) (by assumption) ?_)
                            | (refine wpAnyH_take (i := 25) rfl (by kernel_rfl) (by kernel_rfl) (by kernel_rfl) (fun _ _ _ h => h) (Or.inr ⟨by rfl, rfl⟩) (by assumption) ?_)
                          (try simp only [Act.put, List.setIfInBounds_toArray, List.set_cons_zero, List.set_cons_succ, List.getElem_toArray, List.getElem_cons_zero, List.getElem_cons_succ])
                          first
                            | (refine wpAnyH_take (i := 26) rfl (by kernel_rfl) (by kernel_rfl) (by kernel_rfl) (fun _ _ _ h => h) (Or.inl ⟨by rfl, by intro w hSw; obtain ⟨y0, y1, -, -⟩ := HYC4.out _ hSw; (go_simp <;> with_reducible rfl)⟩) (by assumption) ?_)
                            | (refine wpAnyH_take (i := 26) rfl (by kernel_rfl) (by kernel_rfl) (by kernel_rfl) (fun _ _ _ h => h) (Or.inr ⟨by rfl, rfl⟩) (by assumption) ?_)
                          (try simp only [Act.put, List.setIfInBounds_toArray, List.set_cons_zero, List.set_cons_succ, List.getElem_toArray, List.getElem_cons_zero, List.getElem_cons_succ])
                          first
                            | (refine wpAnyH_take (i := 27) rfl (by kernel_rfl) (by kernel_rfl) (by kernel_rfl) (fun _ _ _ h => h) (Or.inl ⟨by rfl, by intro w hSw; obtain ⟨y0, y1, -, -⟩ := HYC4.out _ hSw; (go_simp <;> with_reducible rfl)⟩) (by assumption) ?_)
                            | (refine wpAnyH_take (i := 27) rfl (by kernel_rfl) (by kernel_rfl) (by kernel_rfl) (fun _ _ _ h => h) (Or.inr ⟨by rfl, rfl⟩) (by assumption) ?_)
                          (try simp only [Act.put, List.setIfInBounds_toArray, List.set_cons_zero, List.set_cons_succ, List.getElem_toArray, List.getElem_cons_zero, List.getElem_cons_succ])
                          first
                            | (refine wpAnyH_take (i := 28) rfl (by kernel_rfl) (by kernel_rfl) (by kernel_rfl) (fun _ _ _ h => h) (Or.inl ⟨by rfl, by intro w hSw; obtain ⟨y0, y1, -, -⟩ := HYC4.out _ hSw; (go_simp <;> with_reducible rfl)⟩) (by assumption) ?_)
                            | (refine wpAnyH_take (i := 28) rfl (by kernel_rfl) (by kernel_rfl) (by kernel_rfl) (fun _ _ _ h => h) (Or.inr ⟨by rfl, rfl⟩) (by assumption) ?_)
                          (try simp only [Act.put, List.setIfInBounds_toArray, List.set_cons_zero, List.set_cons_succ, List.getElem_toArray, List.getElem_cons_zero, List.getElem_cons_succ])
                          first
                            | (refine wpAnyH_take (i := 29) rfl (by kernel_rfl) (by kernel_rfl) (by kernel_rfl) (fun _ _ _ h => h) (Or.inl ⟨by rfl, by intro w hSw; obtain ⟨y0, y1, -, -⟩ := HYC4.out _ hSw; (go_simp <;> with_reducible rfl)⟩) (by assumption) ?_)
                            | (refine wpAnyH_take (i := 29) rfl (by kernel_rfl) (by kernel_rfl) (by kernel_rfl) (fun _ _ _ h => h) (Or.inr ⟨by rfl, rfl⟩) (by assumption) ?_)
                          (try simp only [Act.put, List.setIfInBounds_toArray, List.set_cons_zero, List.set_cons_succ, List.getElem_toArray, List.getElem_cons_zero, List.getElem_cons_succ])
                          first
                            | (refine wpAnyH_take (i := 30) rfl (by kernel_rfl) (by kernel_rfl) (by kernel_rfl) (fun _ _ _ h => h) (Or.inl ⟨by rfl, by intro w hSw; obtain ⟨y0, y1, -, -⟩ := HYC4.out _ hSw; (go_simp <;> with_reducible rfl)⟩) (by assumption) ?_)
                            | (refine wpAnyH_take (i := 30) rfl (by kernel_rfl) (by kernel_rfl) (by kernel_rfl) (fun _ _ _ h => h) (Or.inr ⟨by rfl, rfl⟩) (by assumption) ?_)
                          (try simp only [Act.put, List.setIfInBounds_toArray, List.set_cons_zero, List.set_cons_succ, List.getElem_toArray, List.getElem_cons_zero, List.getElem_cons_succ])
                          first
                            | (refine wpAnyH_take (i := 31) rfl (by kernel_rfl) (by kernel_rfl) (by kernel_rfl) (fun _ _ _ h => h) (Or.inl ⟨by rfl, by intro w hSw; obtain ⟨y0, y1, -, -⟩ := HYC4.out _ hSw; (go_simp <;> with_reducible rfl)⟩) (by assumption) ?_)
                            | (refine wpAnyH_take (i := 31) rfl (by kernel_rfl) (by kernel_rfl) (by kernel_rfl) (fun _ _ _ h => h) (Or.inr ⟨by rfl, rfl⟩) (by assumption) ?_)
                          (try simp only [Act.put, List.setIfInBounds_toArray, List.set_cons_zero, List.set_cons_succ, List.getElem_toArray, List.getElem_cons_zero, List.getElem_cons_succ])
                          first
                            | (refine wpAnyH_take (i := 32) rfl (by kernel_rfl) (by kernel_rfl) (by kernel_rfl) (fun _ _ _ h => h) (Or.inl ⟨by rfl, by intro w hSw; obtain ⟨y0, y1, -, -⟩ := HYC4.out _ hSw; (go_simp <;> with_reducible rfl)⟩) (by assumption) ?_)
                            | (refine wpAnyH_take (i := 32) rfl (by kernel_rfl) (by kernel_rfl) (by kernel_rfl) (fun _ _ _ h => h) (Or.inr ⟨by rfl, rfl⟩) (by assumption) ?_)
                          (try simp only [Act.put, List.setIfInBounds_toArray, List.set_cons_zero, List.set_cons_succ, List.getElem_toArray, List.getElem_cons_zero, List.getElem_cons_succ])
                          first
                            | (refine wpAnyH_take (i := 33) rfl (by kernel_rfl) (by kernel_rfl) (by kernel_rfl) (fun _ _ _ h => h) (Or.inl ⟨by rfl, by intro w hSw; obtain ⟨y0, y1, -, -⟩ := HYC4.out _ hSw; (go_simp <;> with_reducible rfl)⟩) (by assumption) ?_)
                            | (refine wpAnyH_take (i := 33) rfl (by kernel_rfl) (by kernel_rfl) (by kernel_rfl) (fun _ _ _ h => h) (Or.inr ⟨by rfl, rfl⟩) (by assumption) ?_)
                          (try simp only [Act.put, List.setIfInBounds_toArray, List.set_cons_zero, List.set_cons_succ, List.getElem_toArray, List.getElem_cons_zero, List.getElem_cons_succ])
                          first
                            | (refine wpAnyH_take (i := 34) rfl (by kernel_rfl) (by kernel_rfl) (by kernel_rfl) (fun _ _ _ h => h) (Or.inl ⟨by rfl, by intro w hSw; obtain ⟨y0, y1, -, -⟩ := HYC4.out _ hSw; (go_simp <;> with_reducible rfl)⟩) (by assumption) ?_)
                            | (refine wpAnyH_take (i := 34) rfl (by kernel_rfl) (by kernel_rfl) (by kernel_rfl) (fun _ _ _ h => h) (Or.inr ⟨by rfl, rfl⟩) (by assumption) ?_)
                          (try simp only [Act.put, List.setIfInBounds_toArray, List.set_cons_zero, List.set_cons_succ, List.getElem_toArray, List.getElem_cons_zero, List.getElem_cons_succ])
                          first
                            | (refine wpAnyH_take (i := 35) rfl (by kernel_rfl) (by kernel_rfl) (by kernel_rfl) (fun _ _ _ h => h) (Or.inl ⟨by rfl, by intro w hSw; obtain ⟨y0, y1, -, -⟩ := HYC4.out _ hSw; (go_simp <;> with_reducible rfl)⟩) (by assumption) ?_)
                            | (refine wpAnyH_take (i := 35) rfl (by kernel_rfl) (by kernel_rfl) (by kernel_rfl) (fun _ _ _ h => h) (Or.inr ⟨by rfl, rfl⟩) (by assumption) ?_)
                          (try simp only [Act.put, List.setIfInBounds_toArray, List.set_cons_zero, List.set_cons_succ, List.getElem_toArray, List.getElem_cons_zero, List.getElem_cons_succ])
                          first
                            | (refine wpAnyH_take (i := 36) rfl (by kernel_rfl) (by kernel_rfl) (by kernel_rfl) (fun _ _ _ h => h) (Or.inl ⟨by rfl, by intro w hSw; obtain ⟨y0, y1, -, -⟩ := HYC4.out _ hSw; (go_simp <;> with_reducible rfl)⟩) (by assumption) ?_)
                            | (refine wpAnyH_take (i := 36) rfl (by kernel_rfl) (by kernel_rfl) (by kernel_rfl) (fun _ _ _ h => h) (Or.inr ⟨by rfl, rfl⟩) (by assumption) ?_)
                          (try simp only [Act.put, List.setIfInBounds_toArray, List.set_cons_zero, List.set_cons_succ, List.getElem_toArray, List.getElem_cons_zero, List.getElem_cons_succ])
                          first
                            | (refine wpAnyH_take (i := 37) rfl (by kernel_rfl) (by kernel_rfl) (by kernel_rfl) (fun _ _ _ h => h) (Or.inl ⟨by rfl, by intro w hSw; obtain ⟨y0, y1, -, -⟩ := HYC4.out _ hSw; (go_simp <;> with_reducible rfl)⟩) (by assumption) ?_)
                            | (refine wpAnyH_take (i := 37) rfl (by kernel_rfl) (by kernel_rfl) (by kernel_rfl) (fun _ _ _ h => h) (Or.inr ⟨by rfl, rfl⟩) (by assumption) ?_)
                          (try simp only [Act.put, List.setIfInBounds_toArray, List.set_cons_zero, List.set_cons_succ, List.getElem_toArray, List.getElem_cons_zero, List.getElem_cons_succ])
                          first
                            | (refine wpAnyH_take (i := 38) rfl (by kernel_rfl) (by kernel_rfl) (by kernel_rfl) (fun _ _ _ h => h) (Or.inl ⟨by rfl, by intro w hSw; obtain ⟨y0, y1, -, -⟩ := HYC4.out _ hSw; (go_simp <;> with_reducible rfl)⟩) (by assumption) ?_)
                            | (refine wpAnyH_take (i := 38) rfl (by kernel_rfl) (by kernel_rfl) (by kernel_rfl) (fun _ _ _ h => h) (Or.inr ⟨by rfl, rfl⟩) (by assumption) ?_)
                          (try simp only [Act.put, List.setIfInBounds_toArray, List.set_cons_zero, List.set_cons_succ, List.getElem_toArray, List.getElem_cons_zero, List.getElem_cons_succ])
                          first
                            | (refine wpAnyH_take (i := 39) rfl (by kernel_rfl) (by kernel_rfl) (by kernel_rfl) (fun _ _ _ h => h) (Or.inl ⟨by rfl, by intro w hSw; obtain ⟨y0, y1, -, -⟩ := HYC4.out _ hSw; (go_simp <;> with_reducible rfl)⟩) (by assumption) ?_)
                            | (refine wpAnyH_take (i := 39) rfl (by kernel_rfl) (by kernel_rfl) (by kernel_rfl) (fun _ _ _ h => h) (Or.inr ⟨by rfl, rfl⟩) (by assumption) ?_)
                          (try simp only [Act.put, List.setIfInBounds_toArray, List.set_cons_zero, List.set_cons_succ, List.getElem_toArray, List.getElem_cons_zero, List.getElem_cons_succ])
                          first
                            | (refine wpAnyH_take (i := 40) rfl (by kernel_rfl) (by kernel_rfl) (by kernel_rfl) (fun _ _ _ h => h) (Or.inl ⟨by rfl, by intro w hSw; obtain ⟨y0, y1, -, -⟩ := HYC4.out _ hSw; (go_simp <;> with_reducible rfl)⟩) (by assumption) ?_)
                            | (refine wpAnyH_take (i := 40) rfl (by kernel_rfl) (by kernel_rfl) (by kernel_rfl) (fun _ _ _ h => h) (Or.inr ⟨by rfl, rfl⟩) (by assumption) ?_)
                          (try simp only [Act.put, List.setIfInBounds_toArray, List.set_cons_zero, List.set_cons_succ, List.getElem_toArray, List.getElem_cons_zero, List.getElem_cons_succ])
                          refine wpAnyH_done (by kernel_rfl) ?_ _
                          clear hHeld
                          go_wp2
                          go_roundw
                          case rel => exact ⟨k + 1, (k : Int), by have := HKL.out; omega, rfl, by go_num, HK1, HB4.out.drew⟩
                          case measure => have := HKL.out; simp [intOf]; omega
                        · have hb0d : decide (bz < 0) = false := decide_eq_false hb0
                          obtain ⟨j, hj⟩ := Int.eq_ofNat_of_zero_le (show 0 ≤ bz by omega)
                          obtain ⟨x, hj1, hx, -, -⟩ := HBE.out.some (by omega)
                          subst hj
                          rw [Int.toNat_natCast] at hj1 hx
                          have hjl : j < L.length := by have := HKL.out; omega
                          obtain ⟨b9, o9, x9, hA9, -, hx9, hxc9⟩ := HTL.out.at_ hjl
                          injection hA9 with hA9
                          injection hA9 with hA91 hA92
                          subst hA91 hA92
                          rw [hx] at hx9
                          injection hx9 with hx9
                          subst hx9
                          have HXC := Lib.hid (fun V (h : Below w4.heap.size w4 V) => tc_cells (hxc9 V ((HBR.out.trans (HB4.out.mono HBR.out.size)).trans (h.mono (HBR.out.trans (HB4.out.mono HBR.out.size)).size))))
                          have HX := Lib.hid hx
                          have hj0 : (0 : Int) ≤ (j : Int) := by omega
                          have hjz : (j : Int) < (L.length : Int) := by omega
                          have hb0n : ¬ (j : Int) < 0 := by omega
                          clear hx hxc9 hj1 hjl hb0
                          by_cases h1 : y.mom < x.mom
                          · have h1d : decide (y.mom < x.mom) = true := decide_eq_true h1
                            have HK1 := Lib.hid (HBE.out.turn HX.out HY.out HTK.out (by unfold beats; simp [h1]))
                            go_wp2_with fail
                            refine wp_region_held_drew (S := fun V => Below w4.heap.size w4 V) (by kernel_rfl) ((Below.refl _ _).drew) (fun hHeld => ?_)
                            first
                              | (refine wpAnyH_take (i := 0) rfl (by kernel_rfl) (by kernel_rfl) (by kernel_rfl) (fun _ _ _ h => h) (Or.inl ⟨by rfl, by intro w hSw; obtain ⟨y0, y1, -, -⟩ := HYC4.out _ hSw; obtain ⟨x0, x1, -, -⟩ := HXC.out _ hSw; (go_simp <;> with_reducible rfl)⟩) (by assumption) ?_)
                              | (refine wpAnyH_take (i := 0) rfl (by kernel_rfl) (by kernel_rfl) (by kernel_rfl) (fun _ _ _ h => h) (Or.inr ⟨by rfl, rfl⟩) (by assumption) ?_)
                            (try simp only [Act.put, List.setIfInBounds_toArray, List.set_cons_zero, List.set_cons_succ, List.getElem_toArray, List.getElem_cons_zero, List.getElem_cons_succ])
                            first
                              | (refine wpAnyH_take (i := 1) rfl (by kernel_rfl) (by kernel_rfl) (by kernel_rfl) (fun _ _ _ h => h) (Or.inl ⟨by rfl, by intro w hSw; obtain ⟨y0, y1, -, -⟩ := HYC4.out _ hSw; obtain ⟨x0, x1, -, -⟩ := HXC.out _ hSw; (go_simp <;> with_reducible rfl)⟩) (by assumption) ?_)
                              | (refine wpAnyH_take (i := 1) rfl (by kernel_rfl) (by kernel_rfl) (by kernel_rfl) (fun _ _ _ h => h) (Or.inr ⟨by rfl, rfl⟩) (by assumption) ?_)
                            (try simp only [Act.put, List.setIfInBounds_toArray, List.set_cons_zero, List.set_cons_succ, List.getElem_toArray, List.getElem_cons_zero, List.getElem_cons_succ])
                            first
                              | (refine wpAnyH_take (i := 2) rfl (by kernel_rfl) (by kernel_rfl) (by kernel_rfl) (fun _ _ _ h => h) (Or.inl ⟨by rfl, by intro w hSw; obtain ⟨y0, y1, -, -⟩ := HYC4.out _ hSw; obtain ⟨x0, x1, -, -⟩ := HXC.out _ hSw; (go_simp <;> with_reducible rfl)⟩) (by assumption) ?_)
                              | (refine wpAnyH_take (i := 2) rfl (by kernel_rfl) (by kernel_rfl) (by kernel_rfl) (fun _ _ _ h => h) (Or.inr ⟨by rfl, rfl⟩) (by assumption) ?_)
                            (try simp only [Act.put, List.setIfInBounds_toArray, List.set_cons_zero, List.set_cons_succ, List.getElem_toArray, List.getElem_cons_zero, List.getElem_cons_succ])
                            first
                              | (refine wpAnyH_take (i := 3) rfl (by kernel_rfl) (by kernel_rfl) (by kernel_rfl) (fun _ _ _ h => h) (Or.inl ⟨by rfl, by intro w hSw; obtain ⟨y0, y1, -, -⟩ := HYC4.out _ hSw; obtain ⟨x0, x1, -, -⟩ := HXC.out _ hSw; (go_simp <;> with_reducible rfl)⟩) (by assumption) ?_)
                              | (refine wpAnyH_take (i := 3) rfl (by kernel_rfl) (by kernel_rfl) (by kernel_rfl) (fun _ _ _ h => h) (Or.inr ⟨by rfl, rfl⟩) (by assumption) ?_)
                            (try simp only [Act.put, List.setIfInBounds_toArray, List.set_cons_zero, List.set_cons_succ, List.getElem_toArray, List.getElem_cons_zero, List.getElem_cons_succ])
                            first
                              | (refine wpAnyH_take (i := 4) rfl (by kernel_rfl) (by kernel_rfl) (by kernel_rfl) (fun _ _ _ h => h) (Or.inl ⟨by rfl, by intro w hSw; obtain ⟨y0, y1, -, -⟩ := HYC4.out _ hSw; obtain ⟨x0, x1, -, -⟩ := HXC.out _ hSw; (go_simp <;> with_reducible rfl)⟩) (by assumption) ?_)
                              | (refine wpAnyH_take (i := 4) rfl (by kernel_rfl) (by kernel_rfl) (by kernel_rfl) (fun _ _ _ h => h) (Or.inr ⟨by rfl, rfl⟩) (by assumption) ?_)
                            (try simp only [Act.put, List.setIfInBounds_toArray, List.set_cons_zero, List.set_cons_succ, List.getElem_toArray, List.getElem_cons_zero, List.getElem_cons_succ])
                            first
                              | (refine wpAnyH_take (i := 5) rfl (by kernel_rfl) (by kernel_rfl) (by kernel_rfl) (fun _ _ _ h => h) (Or.inl ⟨by rfl, by intro w hSw; obtain ⟨y0, y1, -, -⟩ := HYC4.out _ hSw; obtain ⟨x0, x1, -, -⟩ := HXC.out _ hSw; (go_simp <;> with_reducible rfl)⟩) (by assumption) ?_)
                              | (refine wpAnyH_take (i := 5) rfl (by kernel_rfl) (by kernel_rfl) (by kernel_rfl) (fun _ _ _ h => h) (Or.inr ⟨by rfl, rfl⟩) (by assumption) ?_)
                            (try simp only [Act.put, List.setIfInBounds_toArray, List.set_cons_zero, List.set_cons_succ, List.getElem_toArray, List.getElem_cons_zero, List.getElem_cons_succ])
                            first
                              | (refine wpAnyH_take (i := 6) rfl (by kernel_rfl) (by kernel_rfl) (by kernel_rfl) (fun _ _ _ h => h) (Or.inl ⟨by rfl, by intro w hSw; obtain ⟨y0, y1, -, -⟩ := HYC4.out _ hSw; obtain ⟨x0, x1, -, -⟩ := HXC.out _ hSw; (go_simp <;> with_reducible rfl)⟩) (by assumption) ?_)
                              | (refine wpAnyH_take (i := 6) rfl (by kernel_rfl) (by kernel_rfl) (by kernel_rfl) (fun _ _ _ h => h) (Or.inr ⟨by rfl, rfl⟩) (by assumption) ?_)
                            (try simp only [Act.put, List.setIfInBounds_toArray, List.set_cons_zero, List.set_cons_succ, List.getElem_toArray, List.getElem_cons_zero, List.getElem_cons_succ])
                            first
                              | (refine wpAnyH_take (i := 7) rfl (by kernel_rfl) (by kernel_rfl) (by kernel_rfl) (fun _ _ _ h => h) (Or.inl ⟨by rfl, by intro w hSw; obtain ⟨y0, y1, -, -⟩ := HYC4.out _ hSw; obtain ⟨x0, x1, -, -⟩ := HXC.out _ hSw; (go_simp <;> with_reducible rfl)⟩) (by assumption) ?_)
                              | (refine wpAnyH_take (i := 7) rfl (by kernel_rfl) (by kernel_rfl) (by kernel_rfl) (fun _ _ _ h => h) (Or.inr ⟨by rfl, rfl⟩) (by assumption) ?_)
                            (try simp only [Act.put, List.setIfInBounds_toArray, List.set_cons_zero, List.set_cons_succ, List.getElem_toArray, List.getElem_cons_zero, List.getElem_cons_succ])
                            first
                              | (refine wpAnyH_take (i := 8) rfl (by kernel_rfl) (by kernel_rfl) (by kernel_rfl) (fun _ _ _ h => h) (Or.inl ⟨by rfl, by intro w hSw; obtain ⟨y0, y1, -, -⟩ := HYC4.out _ hSw; obtain ⟨x0, x1, -, -⟩ := HXC.out _ hSw; (go_simp <;> with_reducible rfl)⟩) (by assumption) ?_)
                              | (refine wpAnyH_take (i := 8) rfl (by kernel_rfl) (by kernel_rfl) (by kernel_rfl) (fun _ _ _ h => h) (Or.inr ⟨by rfl, rfl⟩) (by assumption) ?_)
                            (try simp only [Act.put, List.setIfInBounds_toArray, List.set_cons_zero, List.set_cons_succ, List.getElem_toArray, List.getElem_cons_zero, List.getElem_cons_succ])
                            first
                              | (refine wpAnyH_take (i := 9) rfl (by kernel_rfl) (by kernel_rfl) (by kernel_rfl) (fun _ _ _ h => h) (Or.inl ⟨by rfl, by intro w hSw; obtain ⟨y0, y1, -, -⟩ := HYC4.out _ hSw; obtain ⟨x0, x1, -, -⟩ := HXC.out _ hSw; (go_simp <;> with_reducible rfl)⟩) (by assumption) ?_)
                              | (refine wpAnyH_take (i := 9) rfl (by kernel_rfl) (by kernel_rfl) (by kernel_rfl) (fun _ _ _ h => h) (Or.inr ⟨by rfl, rfl⟩) (by assumption) ?_)
                            (try simp only [Act.put, List.setIfInBounds_toArray, List.set_cons_zero, List.set_cons_succ, List.getElem_toArray, List.getElem_cons_zero, List.getElem_cons_succ])
                            first
                              | (refine wpAnyH_take (i := 10) rfl (by kernel_rfl) (by kernel_rfl) (by kernel_rfl) (fun _ _ _ h => h) (Or.inl ⟨by rfl, by intro w hSw; obtain ⟨y0, y1, -, -⟩ := HYC4.out _ hSw; obtain ⟨x0, x1, -, -⟩ := HXC.out _ hSw; (go_simp <;> with_reducible rfl)⟩) (by assumption) ?_)
                              | (refine wpAnyH_take (i := 10) rfl (by kernel_rfl) (by kernel_rfl) (by kernel_rfl) (fun _ _ _ h => h) (Or.inr ⟨by rfl, rfl⟩) (by assumption) ?_)
                            (try simp only [Act.put, List.setIfInBounds_toArray, List.set_cons_zero, List.set_cons_succ, List.getElem_toArray, List.getElem_cons_zero, List.getElem_cons_succ])
                            first
                              | (refine wpAnyH_take (i := 11) rfl (by kernel_rfl) (by kernel_rfl) (by kernel_rfl) (fun _ _ _ h => h) (Or.inl ⟨by rfl, by intro w hSw; obtain ⟨y0, y1, -, -⟩ := HYC4.out _ hSw; obtain ⟨x0, x1, -, -⟩ := HXC.out _ hSw; (go_simp <;> with_reducible rfl)⟩) (by assumption) ?_)
                              | (refine wpAnyH_take (i := 11) rfl (by kernel_rfl) (by kernel_rfl) (by kernel_rfl) (fun _ _ _ h => h) (Or.inr ⟨by rfl, rfl⟩) (by assumption) ?_)
                            (try simp only [Act.put, List.setIfInBounds_toArray, List.set_cons_zero, List.set_cons_succ, List.getElem_toArray, List.getElem_cons_zero, List.getElem_cons_succ])
                            first
                              | (refine wpAnyH_take (i := 12) rfl (by kernel_rfl) (by kernel_rfl) (by kernel_rfl) (fun _ _ _ h => h) (Or.inl ⟨by rfl, by intro w hSw; obtain ⟨y0, y1, -, -⟩ := HYC4.out _ hSw; obtain ⟨x0, x1, -, -⟩ := HXC.out _ hSw; (go_simp <;> with_reducible rfl)⟩) (by assumption) ?_)
                              | (refine wpAnyH_take (i := 12) rfl (by kernel_rfl) (by kernel_rfl) (by kernel_rfl) (fun _ _ _ h => h) (Or.inr ⟨by rfl, rfl⟩) (by assumption) ?_)
                            (try simp only [Act.put, List.setIfInBounds_toArray, List.set_cons_zero, List.set_cons_succ, List.getElem_toArray, List.getElem_cons_zero, List.getElem_cons_succ])
                            first
                              | (refine wpAnyH_take (i := 13) rfl (by kernel_rfl) (by kernel_rfl) (by kernel_rfl) (fun _ _ _ h => h) (Or.inl ⟨by rfl, by intro w hSw; obtain ⟨y0, y1, -, -⟩ := HYC4.out _ hSw; obtain ⟨x0, x1, -, -⟩ := HXC.out _ hSw; (go_simp <;> with_reducible rfl)⟩) (by assumption) ?_)
                              | (refine wpAnyH_take (i := 13) rfl (by kernel_rfl) (by kernel_rfl) (by kernel_rfl) (fun _ _ _ h => h) (Or.inr ⟨by rfl, rfl⟩) (by assumption) ?_)
                            (try simp only [Act.put, List.setIfInBounds_toArray, List.set_cons_zero, List.set_cons_succ, List.getElem_toArray, List.getElem_cons_zero, List.getElem_cons_succ])
                            first
                              | (refine wpAnyH_take (i := 14) rfl (by kernel_rfl) (by kernel_rfl) (by kernel_rfl) (fun _ _ _ h => h) (Or.inl ⟨by rfl, by intro w hSw; obtain ⟨y0, y1, -, -⟩ := HYC4.out _ hSw; obtain ⟨x0, x1, -, -⟩ := HXC.out _ hSw; (go_simp <;> with_reducible rfl)⟩) (by assumption) ?_)
                              | (refine wpAnyH_take (i := 14) rfl (by kernel_rfl) (by kernel_rfl) (by kernel_rfl) (fun _ _ _ h => h) (Or.inr ⟨by rfl, rfl⟩) (by assumption) ?_)
                            (try simp only [Act.put, List.setIfInBounds_toArray, List.set_cons_zero, List.set_cons_succ, List.getElem_toArray, List.getElem_cons_zero, List.getElem_cons_succ])
                            first
                              | (refine wpAnyH_take (i := 15) rfl (by kernel_rfl) (by kernel_rfl) (by kernel_rfl) (fun _ _ _ h => h) (Or.inl ⟨by rfl, by intro w hSw; obtain ⟨y0, y1, -, -⟩ := HYC4.out _ hSw; obtain ⟨x0, x1, -, -⟩ := HXC.out _ hSw; (go_simp <;> with_reducible rfl)⟩) (by assumption) ?_)
                              | (refine wpAnyH_take (i := 15) rfl (by kernel_rfl) (by kernel_rfl) (by kernel_rfl) (fun _ _ _ h => h) (Or.inr ⟨by rfl, rfl⟩) (by assumption) ?_)
                            (try simp only [Act.put, List.setIfInBounds_toArray, List.set_cons_zero, List.set_cons_succ, List.getElem_toArray, List.getElem_cons_zero, List.getElem_cons_succ])
                            first
                              | (refine wpAnyH_take (i := 16) rfl (by kernel_rfl) (by kernel_rfl) (by kernel_rfl) (fun _ _ _ h => h) (Or.inl ⟨by rfl, by intro w hSw; obtain ⟨y0, y1, -, -⟩ := HYC4.out _ hSw; obtain ⟨x0, x1, -, -⟩ := HXC.out _ hSw; (go_simp <;> with_reducible rfl)⟩) (by assumption) ?_)
                              | (refine wpAnyH_take (i := 16) rfl (by kernel_rfl) (by kernel_rfl) (by kernel_rfl) (fun _ _ _ h => h) (Or.inr ⟨by rfl, rfl⟩) (by assumption) ?_)
                            (try simp only [Act.put, List.setIfInBounds_toArray, List.set_cons_zero, List.set_cons_succ, List.getElem_toArray, List.getElem_cons_zero, List.getElem_cons_succ])
                            first
                              | (refine wpAnyH_take (i := 17) rfl (by kernel_rfl) (by kernel_rfl) (by kernel_rfl) (fun _ _ _ h => h) (Or.inl ⟨by rfl, by intro w hSw; obtain ⟨y0, y1, -, -⟩ := HYC4.out _ hSw; obtain ⟨x0, x1, -, -⟩ := HXC.out _ hSw; (go_simp <;> with_reducible rfl)⟩) (by assumption) ?_)
                              | (refine wpAnyH_take (i := 17) rfl (by kernel_rfl) (by kernel_rfl) (by kernel_rfl) (fun _ _ _ h => h) (Or.inr ⟨by rfl, rfl⟩) (by assumption) ?_)
                            (try simp only [Act.put, List.setIfInBounds_toArray, List.set_cons_zero, List.set_cons_succ, List.getElem_toArray, List.getElem_cons_zero, List.getElem_cons_succ])
                            first
                              | (refine wpAnyH_take (i := 18) rfl (by kernel_rfl) (by kernel_rfl) (by kernel_rfl) (fun _ _ _ h => h) (Or.inl ⟨by rfl, by intro w hSw; obtain ⟨y0, y1, -, -⟩ := HYC4.out _ hSw; obtain ⟨x0, x1, -, -⟩ := HXC.out _ hSw; (go_simp <;> with_reducible rfl)⟩) (by assumption) ?_)
                              | (refine wpAnyH_take (i := 18) rfl (by kernel_rfl) (by kernel_rfl) (by kernel_rfl) (fun _ _ _ h => h) (Or.inr ⟨by rfl, rfl⟩) (by assumption) ?_)
                            (try simp only [Act.put, List.setIfInBounds_toArray, List.set_cons_zero, List.set_cons_succ, List.getElem_toArray, List.getElem_cons_zero, List.getElem_cons_succ])
                            first
                              | (refine wpAnyH_take (i := 19) rfl (by kernel_rfl) (by kernel_rfl) (by kernel_rfl) (fun _ _ _ h => h) (Or.inl ⟨by rfl, by intro w hSw; obtain ⟨y0, y1, -, -⟩ := HYC4.out _ hSw; obtain ⟨x0, x1, -, -⟩ := HXC.out _ hSw; (go_simp <;> with_reducible rfl)⟩) (by assumption) ?_)
                              | (refine wpAnyH_take (i := 19) rfl (by kernel_rfl) (by kernel_rfl) (by kernel_rfl) (fun _ _ _ h => h) (Or.inr ⟨by rfl, rfl⟩) (by assumption) ?_)
                            (try simp only [Act.put, List.setIfInBounds_toArray, List.set_cons_zero, List.set_cons_succ, List.getElem_toArray, List.getElem_cons_zero, List.getElem_cons_succ])
                            first
                              | (refine wpAnyH_take (i := 20) rfl (by kernel_rfl) (by kernel_rfl) (by kernel_rfl) (fun _ _ _ h => h) (Or.inl ⟨by rfl, by intro w hSw; obtain ⟨y0, y1, -, -⟩ := HYC4.out _ hSw; obtain ⟨x0, x1, -, -⟩ := HXC.out _ hSw; (go_simp <;> with_reducible rfl)⟩) (by assumption) ?_)
                              | (refine wpAnyH_take (i := 20) rfl (by kernel_rfl) (by kernel_rfl) (by kernel_rfl) (fun _ _ _ h => h) (Or.inr ⟨by rfl, rfl⟩) (by assumption) ?_)
                            (try simp only [Act.put, List.setIfInBounds_toArray, List.set_cons_zero, List.set_cons_succ, List.getElem_toArray, List.getElem_cons_zero, List.getElem_cons_succ])
                            first
                              | (refine wpAnyH_take (i := 21) rfl (by kernel_rfl) (by kernel_rfl) (by kernel_rfl) (fun _ _ _ h => h) (Or.inl ⟨by rfl, by intro w hSw; obtain ⟨y0, y1, -, -⟩ := HYC4.out _ hSw; obtain ⟨x0, x1, -, -⟩ := HXC.out _ hSw; (go_simp <;> with_reducible rfl)⟩) (by assumption) ?_)
                              | (refine wpAnyH_take (i := 21) rfl (by kernel_rfl) (by kernel_rfl) (by kernel_rfl) (fun _ _ _ h => h) (Or.inr ⟨by rfl, rfl⟩) (by assumption) ?_)
                            (try simp only [Act.put, List.setIfInBounds_toArray, List.set_cons_zero, List.set_cons_succ, List.getElem_toArray, List.getElem_cons_zero, List.getElem_cons_succ])
                            first
                              | (refine wpAnyH_take (i := 22) rfl (by kernel_rfl) (by kernel_rfl) (by kernel_rfl) (fun _ _ _ h => h) (Or.inl ⟨by rfl, by intro w hSw; obtain ⟨y0, y1, -, -⟩ := HYC4.out _ hSw; obtain ⟨x0, x1, -, -⟩ := HXC.out _ hSw; (go_simp <;> with_reducible rfl)⟩) (by assumption) ?_)
                              | (refine wpAnyH_take (i := 22) rfl (by kernel_rfl) (by kernel_rfl) (by kernel_rfl) (fun _ _ _ h => h) (Or.inr ⟨by rfl, rfl⟩) (by assumption) ?_)
                            (try simp only [Act.put, List.setIfInBounds_toArray, List.set_cons_zero, List.set_cons_succ, List.getElem_toArray, List.getElem_cons_zero, List.getElem_cons_succ])
                            first
                              | (refine wpAnyH_take (i := 23) rfl (by kernel_rfl) (by kernel_rfl) (by kernel_rfl) (fun _ _ _ h => h) (Or.inl ⟨by rfl, by intro w hSw; obtain ⟨y0, y1, -, -⟩ := HYC4.out _ hSw; obtain ⟨x0, x1, -, -⟩ := HXC.out _ hSw; (go_simp <;> with_reducible rfl)⟩) (by assumption) ?_)
                              | (refine wpAnyH_take (i := 23) rfl (by kernel_rfl) (by kernel_rfl) (by kernel_rfl) (fun _ _ _ h => h) (Or.inr ⟨by rfl, rfl⟩) (by assumption) ?_)
                            (try simp only [Act.put, List.setIfInBounds_toArray, List.set_cons_zero, List.set_cons_succ, List.getElem_toArray, List.getElem_cons_zero, List.getElem_cons_succ])
                            first
                              | (refine wpAnyH_take (i := 24) rfl (by kernel_rfl) (by kernel_rfl) (by kernel_rfl) (fun _ _ _ h => h) (Or.inl ⟨by rfl, by intro w hSw; obtain ⟨y0, y1, -, -⟩ := HYC4.out _ hSw; obtain ⟨x0, x1, -, -⟩ := HXC.out _ hSw; (go_simp <;> with_reducible rfl)⟩) (by assumption) ?_)
                              | (refine wpAnyH_take (i := 24) rfl (by kernel_rfl) (by kernel_rfl) (by kernel_rfl) (fun _ _ _ h => h) (Or.inr ⟨by rfl, rfl⟩) (by assumption) ?_)
                            (try simp only [Act.put, List.setIfInBounds_toArray, List.set_cons_zero, List.set_cons_succ, List.getElem_toArray, List.getElem_cons_zero, List.getElem_cons_succ])
                            first
                              | (refine wpAnyH_take (i := 25) rfl (by kernel_rfl) (by kernel_rfl) (by kernel_rfl) (fun _ _ _ h => h) (Or.inl ⟨by rfl, by intro w hSw; obtain ⟨y0, y1, -, -⟩ := HYC4.out _ hSw; obtain ⟨x0, x1, -, -⟩ := HXC.out _ hSw; (go_simp <;> with_reducible rfl)⟩) (by assumption) ?_)
                              | (refine wpAnyH_take (i := 25) rfl (by kernel_rfl) (by kernel_rfl) (by kernel_rfl) (fun _ _ _ h => h) (Or.inr ⟨by rfl, rfl⟩) (by assumption) ?_)
                            (try simp only [Act.put, List.setIfInBounds_toArray, List.set_cons_zero, List.set_cons_succ, List.getElem_toArray, List.getElem_cons_zero, List.getElem_cons_succ])
                            first
                              | (refine wpAnyH_take (i := 26) rfl (by kernel_rfl) (by kernel_rfl) (by kernel_rfl) (fun _ _ _ h => h) (Or.inl ⟨by rfl, by intro w hSw; obtain ⟨y0, y1, -, -⟩ := HYC4.out _ hSw; obtain ⟨x0, x1, -, -⟩ := HXC.out _ hSw; (go_simp <;> with_reducible rfl)⟩) (by assumption) ?_)
                              | (refine wpAnyH_take (i := 26) rfl (by kernel_rfl) (by kernel_rfl) (by kernel_rfl) (fun _ _ _ h => h) (Or.inr ⟨by rfl, rfl⟩) (by assumption) ?_)
                            (try simp only [Act.put, List.setIfInBounds_toArray, List.set_cons_zero, List.set_cons_succ, List.getElem_toArray, List.getElem_cons_zero, List.getElem_cons_succ])
                            first
                              | (refine wpAnyH_take (i := 27) rfl (by kernel_rfl) (by kernel_rfl) (by kernel_rfl) (fun _ _ _ h => h) (Or.inl ⟨by rfl, by intro w hSw; obtain ⟨y0, y1, -, -⟩ := HYC4.out _ hSw; obtain ⟨x0, x1, -, -⟩ := HXC.out _ hSw; (go_simp <;> with_reducible rfl)⟩) (by assumption) ?_)
                              | (refine wpAnyH_take (i := 27) rfl (by kernel_rfl) (by kernel_rfl) (by kernel_rfl) (fun _ _ _ h => h) (Or.inr ⟨by rfl, rfl⟩) (by assumption) ?_)
                            (try simp only [Act.put, List.setIfInBounds_toArray, List.set_cons_zero, List.set_cons_succ, List.getElem_toArray, List.getElem_cons_zero, List.getElem_cons_succ])
                            first
                              | (refine wpAnyH_take (i := 28) rfl (by kernel_rfl) (by kernel_rfl) (by kernel_rfl) (fun _ _ _ h => h) (Or.inl ⟨by rfl, by intro w hSw; obtain ⟨y0, y1, -, -⟩ := HYC4.out _ hSw; obtain ⟨x0, x1, -, -⟩ := HXC.out _ hSw; (go_simp <;> with_reducible rfl)⟩) (by assumption) ?_)
                              | (refine wpAnyH_take (i := 28) rfl (by kernel_rfl) (by kernel_rfl) (by kernel_rfl) (fun _ _ _ h => h) (Or.inr ⟨by rfl, rfl⟩) (by assumption) ?_)
                            (try simp only [Act.put, List.setIfInBounds_toArray, List.set_cons_zero, List.set_cons_succ, List.getElem_toArray, List.getElem_cons_zero, List.getElem_cons_succ])
                            first
                              | (refine wpAnyH_take (i := 29) rfl (by kernel_rfl) (by kernel_rfl) (by kernel_rfl) (fun _ _ _ h => h) (Or.inl ⟨by rfl, by intro w hSw; obtain ⟨y0, y1, -, -⟩ := HYC4.out _ hSw; obtain ⟨x0, x1, -, -⟩ := HXC.out _ hSw; (go_simp <;> with_reducible rfl)⟩) (by assumption) ?_)
                              | (refine wpAnyH_take (i := 29) rfl (by kernel_rfl) (by kernel_rfl) (by kernel_rfl) (fun _ _ _ h => h) (Or.inr ⟨by rfl, rfl⟩) (by assumption) ?_)
                            (try simp only [Act.put, List.setIfInBounds_toArray, List.set_cons_zero, List.set_cons_succ, List.getElem_toArray, List.getElem_cons_zero, List.getElem_cons_succ])
                            first
                              | (refine wpAnyH_take (i := 30) rfl (by kernel_rfl) (by kernel_rfl) (by kernel_rfl) (fun _ _ _ h => h) (Or.inl ⟨by rfl, by intro w hSw; obtain ⟨y0, y1, -, -⟩ := HYC4.out _ hSw; obtain ⟨x0, x1, -, -⟩ := HXC.out _ hSw; (go_simp <;> with_reducible rfl)⟩) (by assumption) ?_)
                              | (refine wpAnyH_take (i := 30) rfl (by kernel_rfl) (by kernel_rfl) (by kernel_rfl) (fun _ _ _ h => h) (Or.inr ⟨by rfl, rfl⟩) (by assumption) ?_)
                            (try simp only [Act.put, List.setIfInBounds_toArray, List.set_cons_zero, List.set_cons_succ, List.getElem_toArray, List.getElem_cons_zero, List.getElem_cons_succ])
                            first
                              | (refine wpAnyH_take (i := 31) rfl (by kernel_rfl) (by kernel_rfl) (by kernel_rfl) (fun _ _ _ h => h) (Or.inl ⟨by rfl, by intro w hSw; obtain ⟨y0, y1, -, -⟩ := HYC4.out _ hSw; obtain ⟨x0, x1, -, -⟩ := HXC.out _ hSw; (go_simp <;> with_reducible rfl)⟩) (by assumption) ?_)
                              | (refine wpAnyH_take (i := 31) rfl (by kernel_rfl) (by kernel_rfl) (by kernel_rfl) (fun _ _ _ h => h) (Or.inr ⟨by rfl, rfl⟩) (by assumption) ?_)
                            (try simp only [Act.put, List.setIfInBounds_toArray, List.set_cons_zero, List.set_cons_succ, List.getElem_toArray, List.getElem_cons_zero, List.getElem_cons_succ])
                            first
                              | (refine wpAnyH_take (i := 32) rfl (by kernel_rfl) (by kernel_rfl) (by kernel_rfl) (fun _ _ _ h => h) (Or.inl ⟨by rfl, by intro w hSw; obtain ⟨y0, y1, -, -⟩ := HYC4.out _ hSw; obtain ⟨x0, x1, -, -⟩ := HXC.out _ hSw; (go_simp <;> with_reducible rfl)⟩) (by assumption) ?_)
                              | (refine wpAnyH_take (i := 32) rfl (by kernel_rfl) (by kernel_rfl) (by kernel_rfl) (fun _ _ _ h => h) (Or.inr ⟨by rfl, rfl⟩) (by assumption) ?_)
                            (try simp only [Act.put, List.setIfInBounds_toArray, List.set_cons_zero, List.set_cons_succ, List.getElem_toArray, List.getElem_cons_zero, List.getElem_cons_succ])
                            first
                              | (refine wpAnyH_take (i := 33) rfl (by kernel_rfl) (by kernel_rfl) (by kernel_rfl) (fun _ _ _ h => h) (Or.inl ⟨by rfl, by intro w hSw; obtain ⟨y0, y1, -, -⟩ := HYC4.out _ hSw; obtain ⟨x0, x1, -, -⟩ := HXC.out _ hSw; (go_simp <;> with_reducible rfl)⟩) (by assumption) ?_)
                              | (refine wpAnyH_take (i := 33) rfl (by kernel_rfl) (by kernel_rfl) (by kernel_rfl) (fun _ _ _ h => h) (Or.inr ⟨by rfl, rfl⟩) (by assumption) ?_)
                            (try simp only [Act.put, List.setIfInBounds_toArray, List.set_cons_zero, List.set_cons_succ, List.getElem_toArray, List.getElem_cons_zero, List.getElem_cons_succ])
                            first
                              | (refine wpAnyH_take (i := 34) rfl (by kernel_rfl) (by kernel_rfl) (by kernel_rfl) (fun _ _ _ h => h) (Or.inl ⟨by rfl, by intro w hSw; obtain ⟨y0, y1, -, -⟩ := HYC4.out _ hSw; obtain ⟨x0, x1, -, -⟩ := HXC.out _ hSw; (go_simp <;> with_reducible rfl)⟩) (by assumption) ?_)
                              | (refine wpAnyH_take (i := 34) rfl (by kernel_rfl) (by kernel_rfl) (by kernel_rfl) (fun _ _ _ h => h) (Or.inr ⟨by rfl, rfl⟩) (by assumption) ?_)
                            (try simp only [Act.put, List.setIfInBounds_toArray, List.set_cons_zero, List.set_cons_succ, List.getElem_toArray, List.getElem_cons_zero, List.getElem_cons_succ])
                            first
                              | (refine wpAnyH_take (i := 35) rfl (by kernel_rfl) (by kernel_rfl) (by kernel_rfl) (fun _ _ _ h => h) (Or.inl ⟨by rfl, by intro w hSw; obtain ⟨y0, y1, -, -⟩ := HYC4.out _ hSw; obtain ⟨x0, x1, -, -⟩ := HXC.out _ hSw; (go_simp <;> with_reducible rfl)⟩) (by assumption) ?_)
                              | (refine wpAnyH_take (i := 35) rfl (by kernel_rfl) (by kernel_rfl) (by kernel_rfl) (fun _ _ _ h => h) (Or.inr ⟨by rfl, rfl⟩) (by assumption) ?_)
                            (try simp only [Act.put, List.setIfInBounds_toArray, List.set_cons_zero, List.set_cons_succ, List.getElem_toArray, List.getElem_cons_zero, List.getElem_cons_succ])
                            first
                              | (refine wpAnyH_take (i := 36) rfl (by kernel_rfl) (by kernel_rfl) (by kernel_rfl) (fun _ _ _ h => h) (Or.inl ⟨by rfl, by intro w hSw; obtain ⟨y0, y1, -, -⟩ := HYC4.out _ hSw; obtain ⟨x0, x1, -, -⟩ := HXC.out _ hSw; (go_simp <;> with_reducible rfl)⟩) (by assumption) ?_)
                              | (refine wpAnyH_take (i := 36) rfl (by kernel_rfl) (by kernel_rfl) (by kernel_rfl) (fun _ _ _ h => h) (Or.inr ⟨by rfl, rfl⟩) (by assumption) ?_)
                            (try simp only [Act.put, List.setIfInBounds_toArray, List.set_cons_zero, List.set_cons_succ, List.getElem_toArray, List.getElem_cons_zero, List.getElem_cons_succ])
                            first
                              | (refine wpAnyH_take (i := 37) rfl (by kernel_rfl) (by kernel_rfl) (by kernel_rfl) (fun _ _ _ h => h) (Or.inl ⟨by rfl, by intro w hSw; obtain ⟨y0, y1, -, -⟩ := HYC4.out _ hSw; obtain ⟨x0, x1, -, -⟩ := HXC.out _ hSw; (go_simp <;> with_reducible rfl)⟩) (by assumption) ?_)
                              | (refine wpAnyH_take (i := 37) rfl (by kernel_rfl) (by kernel_rfl) (by kernel_rfl) (fun _ _ _ h => h) (Or.inr ⟨by rfl, rfl⟩) (by assumption) ?_)
                            (try simp only [Act.put, List.setIfInBounds_toArray, List.set_cons_zero, List.set_cons_succ, List.getElem_toArray, List.getElem_cons_zero, List.getElem_cons_succ])
                            first
                              | (refine wpAnyH_take (i := 38) rfl (by kernel_rfl) (by kernel_rfl) (by kernel_rfl) (fun _ _ _ h => h) (Or.inl ⟨by rfl, by intro w hSw; obtain ⟨y0, y1, -, -⟩ := HYC4.out _ hSw; obtain ⟨x0, x1, -, -⟩ := HXC.out _ hSw; (go_simp <;> with_reducible rfl)⟩) (by assumption) ?_)
                              | (refine wpAnyH_take (i := 38) rfl (by kernel_rfl) (by kernel_rfl) (by kernel_rfl) (fun _ _ _ h => h) (Or.inr ⟨by rfl, rfl⟩) (by assumption) ?_)
                            (try simp only [Act.put, List.setIfInBounds_toArray, List.set_cons_zero, List.set_cons_succ, List.getElem_toArray, List.getElem_cons_zero, List.getElem_cons_succ])
                            first
                              | (refine wpAnyH_take (i := 39) rfl (by kernel_rfl) (by kernel_rfl) (by kernel_rfl) (fun _ _ _ h => h) (Or.inl ⟨by rfl, by intro w hSw; obtain ⟨y0, y1, -, -⟩ := HYC4.out _ hSw; obtain ⟨x0, x1, -, -⟩ := HXC.out _ hSw; (go_simp <;> with_reducible rfl)⟩) (by assumption) ?_)
                              | (refine wpAnyH_take (i := 39) rfl (by kernel_rfl) (by kernel_rfl) (by kernel_rfl) (fun _ _ _ h => h) (Or.inr ⟨by rfl, rfl⟩) (by assumption) ?_)
                            (try simp only [Act.put, List.setIfInBounds_toArray, List.set_cons_zero, List.set_cons_succ, List.getElem_toArray, List.getElem_cons_zero, List.getElem_cons_succ])
                            first
                              | (refine wpAnyH_take (i := 40) rfl (by kernel_rfl) (by kernel_rfl) (by kernel_rfl) (fun _ _ _ h => h) (Or.inl ⟨by rfl, by intro w hSw; obtain ⟨y0, y1, -, -⟩ := HYC4.out _ hSw; obtain ⟨x0, x1, -, -⟩ := HXC.out _ hSw; (go_simp <;> with_reducible rfl)⟩) (by assumption) ?_)
                              | (refine wpAnyH_take (i := 40) rfl (by kernel_rfl) (by kernel_rfl) (by kernel_rfl) (fun _ _ _ h => h) (Or.inr ⟨by rfl, rfl⟩) (by assumption) ?_)
                            (try simp only [Act.put, List.setIfInBounds_toArray, List.set_cons_zero, List.set_cons_succ, List.getElem_toArray, List.getElem_cons_zero, List.getElem_cons_succ])
                            refine wpAnyH_done (by kernel_rfl) ?_ _
                            clear hHeld
                            go_wp2
                            go_roundw
                            case rel => exact ⟨k + 1, (k : Int), by have := HKL.out; omega, rfl, by go_num, HK1, HB4.out.drew⟩
                            case measure => have := HKL.out; simp [intOf]; omega
                          · have h1d : decide (y.mom < x.mom) = false := decide_eq_false h1
                            by_cases h2 : y.mom = x.mom
                            · have h2d : (y.mom == x.mom) = true := by simp [h2]
                              by_cases h3 : y.rank < x.rank
                              · have h3d : decide (y.rank < x.rank) = true := decide_eq_true h3
                                have HK1 := Lib.hid (HBE.out.turn HX.out HY.out HTK.out (by unfold beats; simp [h2, h3]))
                                go_wp2_with fail
                                refine wp_region_held_drew (S := fun V => Below w4.heap.size w4 V) (by kernel_rfl) ((Below.refl _ _).drew) (fun hHeld => ?_)
                                first
                                  | (refine wpAnyH_take (i := 0) rfl (by kernel_rfl) (by kernel_rfl) (by kernel_rfl) (fun _ _ _ h => h) (Or.inl ⟨by rfl, by intro w hSw; obtain ⟨y0, y1, -, -⟩ := HYC4.out _ hSw; obtain ⟨x0, x1, -, -⟩ := HXC.out _ hSw; (go_simp <;> with_reducible rfl)⟩) (by assumption) ?_)
                                  | (refine wpAnyH_take (i := 0) rfl (by kernel_rfl) (by kernel_rfl) (by kernel_rfl) (fun _ _ _ h => h) (Or.inr ⟨by rfl, rfl⟩) (by assumption) ?_)
                                (try simp only [Act.put, List.setIfInBounds_toArray, List.set_cons_zero, List.set_cons_succ, List.getElem_toArray, List.getElem_cons_zero, List.getElem_cons_succ])
                                first
                                  | (refine wpAnyH_take (i := 1) rfl (by kernel_rfl) (by kernel_rfl) (by kernel_rfl) (fun _ _ _ h => h) (Or.inl ⟨by rfl, by intro w hSw; obtain ⟨y0, y1, -, -⟩ := HYC4.out _ hSw; obtain ⟨x0, x1, -, -⟩ := HXC.out _ hSw; (go_simp <;> with_reducible rfl)⟩) (by assumption) ?_)
                                  | (refine wpAnyH_take (i := 1) rfl (by kernel_rfl) (by kernel_rfl) (by kernel_rfl) (fun _ _ _ h => h) (Or.inr ⟨by rfl, rfl⟩) (by assumption) ?_)
                                (try simp only [Act.put, List.setIfInBounds_toArray, List.set_cons_zero, List.set_cons_succ, List.getElem_toArray, List.getElem_cons_zero, List.getElem_cons_succ])
                                first
                                  | (refine wpAnyH_take (i := 2) rfl (by kernel_rfl) (by kernel_rfl) (by kernel_rfl) (fun _ _ _ h => h) (Or.inl ⟨by rfl, by intro w hSw; obtain ⟨y0, y1, -, -⟩ := HYC4.out _ hSw; obtain ⟨x0, x1, -, -⟩ := HXC.out _ hSw; (go_simp <;> with_reducible rfl)⟩) (by assumption) ?_)
                                  | (refine wpAnyH_take (i := 2) rfl (by kernel_rfl) (by kernel_rfl) (by kernel_rfl) (fun _ _ _ h => h) (Or.inr ⟨by rfl, rfl⟩) (by assumption) ?_)
                                (try simp only [Act.put, List.setIfInBounds_toArray, List.set_cons_zero, List.set_cons_succ, List.getElem_toArray, List.getElem_cons_zero, List.getElem_cons_succ])
                                first
                                  | (refine wpAnyH_take (i := 3) rfl (by kernel_rfl) (by kernel_rfl) (by kernel_rfl) (fun _ _ _ h => h) (Or.inl ⟨by rfl, by intro w hSw; obtain ⟨y0, y1, -, -⟩ := HYC4.out _ hSw; obtain ⟨x0, x1, -, -⟩ := HXC.out _ hSw; (go_simp <;> with_reducible rfl)⟩) (by assumption) ?_)
                                  | (refine wpAnyH_take (i := 3) rfl (by kernel_rfl) (by kernel_rfl) (by kernel_rfl) (fun _ _ _ h => h) (Or.inr ⟨by rfl, rfl⟩) (by assumption) ?_)
                                (try simp only [Act.put, List.setIfInBounds_toArray, List.set_cons_zero, List.set_cons_succ, List.getElem_toArray, List.getElem_cons_zero, List.getElem_cons_succ])
                                first
                                  | (refine wpAnyH_take (i := 4) rfl (by kernel_rfl) (by kernel_rfl) (by kernel_rfl) (fun _ _ _ h => h) (Or.inl ⟨by rfl, by intro w hSw; obtain ⟨y0, y1, -, -⟩ := HYC4.out _ hSw; obtain ⟨x0, x1, -, -⟩ := HXC.out _ hSw; (go_simp <;> with_reducible rfl)⟩) (by assumption) ?_)
                                  | (refine wpAnyH_take (i := 4) rfl (by kernel_rfl) (by kernel_rfl) (by kernel_rfl) (fun _ _ _ h => h) (Or.inr ⟨by rfl, rfl⟩) (by assumption) ?_)
                                (try simp only [Act.put, List.setIfInBounds_toArray, List.set_cons_zero, List.set_cons_succ, List.getElem_toArray, List.getElem_cons_zero, List.getElem_cons_succ])
                                first
                                  | (refine wpAnyH_take (i := 5) rfl (by kernel_rfl) (by kernel_rfl) (by kernel_rfl) (fun _ _ _ h => h) (Or.inl ⟨by rfl, by intro w hSw; obtain ⟨y0, y1, -, -⟩ := HYC4.out _ hSw; obtain ⟨x0, x1, -, -⟩ := HXC.out _ hSw; (go_simp <;> with_reducible rfl)⟩) (by assumption) ?_)
                                  | (refine wpAnyH_take (i := 5) rfl (by kernel_rfl) (by kernel_rfl) (by kernel_rfl) (fun _ _ _ h => h) (Or.inr ⟨by rfl, rfl⟩) (by assumption) ?_)
                                (try simp only [Act.put, List.setIfInBounds_toArray, List.set_cons_zero, List.set_cons_succ, List.getElem_toArray, List.getElem_cons_zero, List.getElem_cons_succ])
                                first
                                  | (refine wpAnyH_take (i := 6) rfl (by kernel_rfl) (by kernel_rfl) (by kernel_rfl) (fun _ _ _ h => h) (Or.inl ⟨by rfl, by intro w hSw; obtain ⟨y0, y1, -, -⟩ := HYC4.out _ hSw; obtain ⟨x0, x1, -, -⟩ := HXC.out _ hSw; (go_simp <;> with_reducible rfl)⟩) (by assumption) ?_)
                                  | (refine wpAnyH_take (i := 6) rfl (by kernel_rfl) (by kernel_rfl) (by kernel_rfl) (fun _ _ _ h => h) (Or.inr ⟨by rfl, rfl⟩) (by assumption) ?_)
                                (try simp only [Act.put, List.setIfInBounds_toArray, List.set_cons_zero, List.set_cons_succ, List.getElem_toArray, List.getElem_cons_zero, List.getElem_cons_succ])
                                first
                                  | (refine wpAnyH_take (i := 7) rfl (by kernel_rfl) (by kernel_rfl) (by kernel_rfl) (fun _ _ _ h => h) (Or.inl ⟨by rfl, by intro w hSw; obtain ⟨y0, y1, -, -⟩ := HYC4.out _ hSw; obtain ⟨x0, x1, -, -⟩ := HXC.out _ hSw; (go_simp <;> with_reducible rfl)⟩) (by assumption) ?_)
                                  | (refine wpAnyH_take (i := 7) rfl (by kernel_rfl) (by kernel_rfl) (by kernel_rfl) (fun _ _ _ h => h) (Or.inr ⟨by rfl, rfl⟩) (by assumption) ?_)
                                (try simp only [Act.put, List.setIfInBounds_toArray, List.set_cons_zero, List.set_cons_succ, List.getElem_toArray, List.getElem_cons_zero, List.getElem_cons_succ])
                                first
                                  | (refine wpAnyH_take (i := 8) rfl (by kernel_rfl) (by kernel_rfl) (by kernel_rfl) (fun _ _ _ h => h) (Or.inl ⟨by rfl, by intro w hSw; obtain ⟨y0, y1, -, -⟩ := HYC4.out _ hSw; obtain ⟨x0, x1, -, -⟩ := HXC.out _ hSw; (go_simp <;> with_reducible rfl)⟩) (by assumption) ?_)
                                  | (refine wpAnyH_take (i := 8) rfl (by kernel_rfl) (by kernel_rfl) (by kernel_rfl) (fun _ _ _ h => h) (Or.inr ⟨by rfl, rfl⟩) (by assumption) ?_)
                                (try simp only [Act.put, List.setIfInBounds_toArray, List.set_cons_zero, List.set_cons_succ, List.getElem_toArray, List.getElem_cons_zero, List.getElem_cons_succ])
                                first
                                  | (refine wpAnyH_take (i := 9) rfl (by kernel_rfl) (by kernel_rfl) (by kernel_rfl) (fun _ _ _ h => h) (Or.inl ⟨by rfl, by intro w hSw; obtain ⟨y0, y1, -, -⟩ := HYC4.out _ hSw; obtain ⟨x0, x1, -, -⟩ := HXC.out _ hSw; (go_simp <;> with_reducible rfl)⟩) (by assumption) ?_)
                                  | (refine wpAnyH_take (i := 9) rfl (by kernel_rfl) (by kernel_rfl) (by kernel_rfl) (fun _ _ _ h => h) (Or.inr ⟨by rfl, rfl⟩) (by assumption) ?_)
                                (try simp only [Act.put, List.setIfInBounds_toArray, List.set_cons_zero, List.set_cons_succ, List.getElem_toArray, List.getElem_cons_zero, List.getElem_cons_succ])
                                first
                                  | (refine wpAnyH_take (i := 10) rfl (by kernel_rfl) (by kernel_rfl) (by kernel_rfl) (fun _ _ _ h => h) (Or.inl ⟨by rfl, by intro w hSw; obtain ⟨y0, y1, -, -⟩ := HYC4.out _ hSw; obtain ⟨x0, x1, -, -⟩ := HXC.out _ hSw; (go_simp <;> with_reducible rfl)⟩) (by assumption) ?_)
                                  | (refine wpAnyH_take (i := 10) rfl (by kernel_rfl) (by kernel_rfl) (by kernel_rfl) (fun _ _ _ h => h) (Or.inr ⟨by rfl, rfl⟩) (by assumption) ?_)
                                (try simp only [Act.put, List.setIfInBounds_toArray, List.set_cons_zero, List.set_cons_succ, List.getElem_toArray, List.getElem_cons_zero, List.getElem_cons_succ])
                                first
                                  | (refine wpAnyH_take (i := 11) rfl (by kernel_rfl) (by kernel_rfl) (by kernel_rfl) (fun _ _ _ h => h) (Or.inl ⟨by rfl, by intro w hSw; obtain ⟨y0, y1, -, -⟩ := HYC4.out _ hSw; obtain ⟨x0, x1, -, -⟩ := HXC.out _ hSw; (go_simp <;> with_reducible rfl)⟩) (by assumption) ?_)
                                  | (refine wpAnyH_take (i := 11) rfl (by kernel_rfl) (by kernel_rfl) (by kernel_rfl) (fun _ _ _ h => h) (Or.inr ⟨by rfl, rfl⟩) (by assumption) ?_)
                                (try simp only [Act.put, List.setIfInBounds_toArray, List.set_cons_zero, List.set_cons_succ, List.getElem_toArray, List.getElem_cons_zero, List.getElem_cons_succ])
                                first
                                  | (refine wpAnyH_take (i := 12) rfl (by kernel_rfl) (by kernel_rfl) (by kernel_rfl) (fun _ _ _ h => h) (Or.inl ⟨by rfl, by intro w hSw; obtain ⟨y0, y1, -, -⟩ := HYC4.out _ hSw; obtain ⟨x0, x1, -, -⟩ := HXC.out _ hSw; (go_simp <;> with_reducible rfl)⟩) (by assumption) ?_)
                                  | (refine wpAnyH_take (i := 12) rfl (by kernel_rfl) (by kernel_rfl) (by kernel_rfl) (fun _ _ _ h => h) (Or.inr ⟨by rfl, rfl⟩) (by assumption) ?_)
                                (try simp only [Act.put, List.setIfInBounds_toArray, List.set_cons_zero, List.set_cons_succ, List.getElem_toArray, List.getElem_cons_zero, List.getElem_cons_succ])
                                first
                                  | (refine wpAnyH_take (i := 13) rfl (by kernel_rfl) (by kernel_rfl) (by kernel_rfl) (fun _ _ _ h => h) (Or.inl ⟨by rfl, by intro w hSw; obtain ⟨y0, y1, -, -⟩ := HYC4.out _ hSw; obtain ⟨x0, x1, -, -⟩ := HXC.out _ hSw; (go_simp <;> with_reducible rfl)⟩) (by assumption) ?_)
                                  | (refine wpAnyH_take (i := 13) rfl (by kernel_rfl) (by kernel_rfl) (by kernel_rfl) (fun _ _ _ h => h) (Or.inr ⟨by rfl, rfl⟩) (by assumption) ?_)
                                (try simp only [Act.put, List.setIfInBounds_toArray, List.set_cons_zero, List.set_cons_succ, List.getElem_toArray, List.getElem_cons_zero, List.getElem_cons_succ])
                                first
                                  | (refine wpAnyH_take (i := 14) rfl (by kernel_rfl) (by kernel_rfl) (by kernel_rfl) (fun _ _ _ h => h) (Or.inl ⟨by rfl, by intro w hSw; obtain ⟨y0, y1, -, -⟩ := HYC4.out _ hSw; obtain ⟨x0, x1, -, -⟩ := HXC.out _ hSw; (go_simp <;> with_reducible rfl)⟩) (by assumption) ?_)
                                  | (refine wpAnyH_take (i := 14) rfl (by kernel_rfl) (by kernel_rfl) (by kernel_rfl) (fun _ _ _ h => h) (Or.inr ⟨by rfl, rfl⟩) (by assumption) ?_)
                                (try simp only [Act.put, List.setIfInBounds_toArray, List.set_cons_zero, List.set_cons_succ, List.getElem_toArray, List.getElem_cons_zero, List.getElem_cons_succ])
                                first
                                  | (refine wpAnyH_take (i := 15) rfl (by kernel_rfl) (by kernel_rfl) (by kernel_rfl) (fun _ _ _ h => h) (Or.inl ⟨by rfl, by intro w hSw; obtain ⟨y0, y1, -, -⟩ := HYC4.out _ hSw; obtain ⟨x0, x1, -, -⟩ := HXC.out _ hSw; (go_simp <;> with_reducible rfl)⟩) (by assumption) ?_)
                                  | (refine wpAnyH_take (i := 15) rfl (by kernel_rfl) (by kernel_rfl) (by kernel_rfl) (fun _ _ _ h => h) (Or.inr ⟨by rfl, rfl⟩) (by assumption) ?_)
                                (try simp only [Act.put, List.setIfInBounds_toArray, List.set_cons_zero, List.set_cons_succ, List.getElem_toArray, List.getElem_cons_zero, List.getElem_cons_succ])
                                first
                                  | (refine wpAnyH_take (i := 16) rfl (by kernel_rfl) (by kernel_rfl) (by kernel_rfl) (fun _ _ _ h => h) (Or.inl ⟨by rfl, by intro w hSw; obtain ⟨y0, y1, -, -⟩ := HYC4.out _ hSw; obtain ⟨x0, x1, -, -⟩ := HXC.out _ hSw; (go_simp <;> with_reducible rfl)⟩) (by assumption) ?_)
                                  | (refine wpAnyH_take (i := 16) rfl (by kernel_rfl) (by kernel_rfl) (by kernel_rfl) (fun _ _ _ h => h) (Or.inr ⟨by rfl, rfl⟩) (by assumption) ?_)
                                (try simp only [Act.put, List.setIfInBounds_toArray, List.set_cons_zero, List.set_cons_succ, List.getElem_toArray, List.getElem_cons_zero, List.getElem_cons_succ])
                                first
                                  | (refine wpAnyH_take (i := 17) rfl (by kernel_rfl) (by kernel_rfl) (by kernel_rfl) (fun _ _ _ h => h) (Or.inl ⟨by rfl, by intro w hSw; obtain ⟨y0, y1, -, -⟩ := HYC4.out _ hSw; obtain ⟨x0, x1, -, -⟩ := HXC.out _ hSw; (go_simp <;> with_reducible rfl)⟩) (by assumption) ?_)
                                  | (refine wpAnyH_take (i := 17) rfl (by kernel_rfl) (by kernel_rfl) (by kernel_rfl) (fun _ _ _ h => h) (Or.inr ⟨by rfl, rfl⟩) (by assumption) ?_)
                                (try simp only [Act.put, List.setIfInBounds_toArray, List.set_cons_zero, List.set_cons_succ, List.getElem_toArray, List.getElem_cons_zero, List.getElem_cons_succ])
                                first
                                  | (refine wpAnyH_take (i := 18) rfl (by kernel_rfl) (by kernel_rfl) (by kernel_rfl) (fun _ _ _ h => h) (Or.inl ⟨by rfl, by intro w hSw; obtain ⟨y0, y1, -, -⟩ := HYC4.out _ hSw; obtain ⟨x0, x1, -, -⟩ := HXC.out _ hSw; (go_simp <;> with_reducible rfl)⟩) (by assumption) ?_)
                                  | (refine wpAnyH_take (i := 18) rfl (by kernel_rfl) (by kernel_rfl) (by kernel_rfl) (fun _ _ _ h => h) (Or.inr ⟨by rfl, rfl⟩) (by assumption) ?_)
                                (try simp only [Act.put, List.setIfInBounds_toArray, List.set_cons_zero, List.set_cons_succ, List.getElem_toArray, List.getElem_cons_zero, List.getElem_cons_succ])
                                first
                                  | (refine wpAnyH_take (i := 19) rfl (by kernel_rfl) (by kernel_rfl) (by kernel_rfl) (fun _ _ _ h => h) (Or.inl ⟨by rfl, by intro w hSw; obtain ⟨y0, y1, -, -⟩ := HYC4.out _ hSw; obtain ⟨x0, x1, -, -⟩ := HXC.out _ hSw; (go_simp <;> with_reducible rfl)⟩) (by assumption) ?_)
                                  | (refine wpAnyH_take (i := 19) rfl (by kernel_rfl) (by kernel_rfl) (by kernel_rfl) (fun _ _ _ h => h) (Or.inr ⟨by rfl, rfl⟩) (by assumption) ?_)
                                (try simp only [Act.put, List.setIfInBounds_toArray, List.set_cons_zero, List.set_cons_succ, List.getElem_toArray, List.getElem_cons_zero, List.getElem_cons_succ])
                                first
                                  | (refine wpAnyH_take (i := 20) rfl (by kernel_rfl) (by kernel_rfl) (by kernel_rfl) (fun _ _ _ h => h) (Or.inl ⟨by rfl, by intro w hSw; obtain ⟨y0, y1, -, -⟩ := HYC4.out _ hSw; obtain ⟨x0, x1, -, -⟩ := HXC.out _ hSw; (go_simp <;> with_reducible rfl)⟩) (by assumption) ?_)
                                  | (refine wpAnyH_take (i := 20) rfl (by kernel_rfl) (by kernel_rfl) (by kernel_rfl) (fun _ _ _ h => h) (Or.inr ⟨by rfl, rfl⟩) (by assumption) ?_)
                                (try simp only [Act.put, List.setIfInBounds_toArray, List.set_cons_zero, List.set_cons_succ, List.getElem_toArray, List.getElem_cons_zero, List.getElem_cons_succ])
                                first
                                  | (refine wpAnyH_take (i := 21) rfl (by kernel_rfl) (by kernel_rfl) (by kernel_rfl) (fun _ _ _ h => h) (Or.inl ⟨by rfl, by intro w hSw; obtain ⟨y0, y1, -, -⟩ := HYC4.out _ hSw; obtain ⟨x0, x1, -, -⟩ := HXC.out _ hSw; (go_simp <;> with_reducible rfl)⟩) (by assumption) ?_)
                                  | (refine wpAnyH_take (i := 21) rfl (by kernel_rfl) (by kernel_rfl) (by kernel_rfl) (fun _ _ _ h => h) (Or.inr ⟨by rfl, rfl⟩) (by assumption) ?_)
                                (try simp only [Act.put, List.setIfInBounds_toArray, List.set_cons_zero, List.set_cons_succ, List.getElem_toArray, List.getElem_cons_zero, List.getElem_cons_succ])
                                first
                                  | (refine wpAnyH_take (i := 22) rfl (by kernel_rfl) (by kernel_rfl) (by kernel_rfl) (fun _ _ _ h => h) (Or.inl ⟨by rfl, by intro w hSw; obtain ⟨y0, y1, -, -⟩ := HYC4.out _ hSw; obtain ⟨x0, x1, -, -⟩ := HXC.out _ hSw; (go_simp <;> with_reducible rfl)⟩) (by assumption) ?_)
                                  | (refine wpAnyH_take (i := 22) rfl (by kernel_rfl) (by kernel_rfl) (by kernel_rfl) (fun _ _ _ h => h) (Or.inr ⟨by rfl, rfl⟩) (by assumption) ?_)
                                (try simp only [Act.put, List.setIfInBounds_toArray, List.set_cons_zero, List.set_cons_succ, List.getElem_toArray, List.getElem_cons_zero, List.getElem_cons_succ])
                                first
                                  | (refine wpAnyH_take (i := 23) rfl (by kernel_rfl) (by kernel_rfl) (by kernel_rfl) (fun _ _ _ h => h) (Or.inl ⟨by rfl, by intro w hSw; obtain ⟨y0, y1, -, -⟩ := HYC4.out _ hSw; obtain ⟨x0, x1, -, -⟩ := HXC.out _ hSw; (go_simp <;> with_reducible rfl)⟩) (by assumption) ?_)
                                  | (refine wpAnyH_take (i := 23) rfl (by kernel_rfl) (by kernel_rfl) (by kernel_rfl) (fun _ _ _ h => h) (Or.inr ⟨by rfl, rfl⟩) (by assumption) ?_)
                                (try simp only [Act.put, List.setIfInBounds_toArray, List.set_cons_zero, List.set_cons_succ, List.getElem_toArray, List.getElem_cons_zero, List.getElem_cons_succ])
                                first
                                  | (refine wpAnyH_take (i := 24) rfl (by kernel_rfl) (by kernel_rfl) (by kernel_rfl) (fun _ _ _ h => h) (Or.inl ⟨by rfl, by intro w hSw; obtain ⟨y0, y1, -, -⟩ := HYC4.out _ hSw; obtain ⟨x0, x1, -, -⟩ := HXC.out _ hSw; (go_simp <;> with_reducible rfl)⟩) (by assumption) ?_)
                                  | (refine wpAnyH_take (i := 24) rfl (by kernel_rfl) (by kernel_rfl) (by kernel_rfl) (fun _ _ _ h => h) (Or.inr ⟨by rfl, rfl⟩) (by assumption) ?_)
                                (try simp only [Act.put, List.setIfInBounds_toArray, List.set_cons_zero, List.set_cons_succ, List.getElem_toArray, List.getElem_cons_zero, List.getElem_cons_succ])
                                first
                                  | (refine wpAnyH_take (i := 25) rfl (by kernel_rfl) (by kernel_rfl) (by kernel_rfl) (fun _ _ _ h => h) (Or.inl ⟨by rfl, by intro w hSw; obtain ⟨y0, y1, -, -⟩ := HYC4.out _ hSw; obtain ⟨x0, x1, -, -⟩ := HXC.out _ hSw; (go_simp <;> with_reducible rfl)⟩) (by assumption) ?_)
                                  | (refine wpAnyH_take (i := 25) rfl (by kernel_rfl) (by kernel_rfl) (by kernel_rfl) (fun _ _ _ h => h) (Or.inr ⟨by rfl, rfl⟩) (by assumption) ?_)
                                (try simp only [Act.put, List.setIfInBounds_toArray, List.set_cons_zero, List.set_cons_succ, List.getElem_toArray, List.getElem_cons_zero, List.getElem_cons_succ])
                                first
                                  | (refine wpAnyH_take (i := 26) rfl (by kernel_rfl) (by kernel_rfl) (by kernel_rfl) (fun _ _ _ h => h) (Or.inl ⟨by rfl, by intro w hSw; obtain ⟨y0, y1, -, -⟩ := HYC4.out _ hSw; obtain ⟨x0, x1, -, -⟩ := HXC.out _ hSw; (go_simp <;> with_reducible rfl)⟩) (by assumption) ?_)
                                  | (refine wpAnyH_take (i := 26) rfl (by kernel_rfl) (by kernel_rfl) (by kernel_rfl) (fun _ _ _ h => h) (Or.inr ⟨by rfl, rfl⟩) (by assumption) ?_)
                                (try simp only [Act.put, List.setIfInBounds_toArray, List.set_cons_zero, List.set_cons_succ, List.getElem_toArray, List.getElem_cons_zero, List.getElem_cons_succ])
                                first
                                  | (refine wpAnyH_take (i := 27) rfl (by kernel_rfl) (by kernel_rfl) (by kernel_rfl) (fun _ _ _ h => h) (Or.inl ⟨by rfl, by intro w hSw; obtain ⟨y0, y1, -, -⟩ := HYC4.out _ hSw; obtain ⟨x0, x1, -, -⟩ := HXC.out _ hSw; (go_simp <;> with_reducible rfl)⟩) (by assumption) ?_)
                                  | (refine wpAnyH_take (i := 27) rfl (by kernel_rfl) (by kernel_rfl) (by kernel_rfl) (fun _ _ _ h => h) (Or.inr ⟨by rfl, rfl⟩) (by assumption) ?_)
                                (try simp only [Act.put, List.setIfInBounds_toArray, List.set_cons_zero, List.set_cons_succ, List.getElem_toArray, List.getElem_cons_zero, List.getElem_cons_succ])
                                first
                                  | (refine wpAnyH_take (i := 28) rfl (by kernel_rfl) (by kernel_rfl) (by kernel_rfl) (fun _ _ _ h => h) (Or.inl ⟨by rfl, by intro w hSw; obtain ⟨y0, y1, -, -⟩ := HYC4.out _ hSw; obtain ⟨x0, x1, -, -⟩ := HXC.out _ hSw; (go_simp <;> with_reducible rfl)⟩) (by assumption) ?_)
                                  | (refine wpAnyH_take (i := 28) rfl (by kernel_rfl) (by kernel_rfl) (by kernel_rfl) (fun _ _ _ h => h) (Or.inr ⟨by rfl, rfl⟩) (by assumption) ?_)
                                (try simp only [Act.put, List.setIfInBounds_toArray, List.set_cons_zero, List.set_cons_succ, List.getElem_toArray, List.getElem_cons_zero, List.getElem_cons_succ])
                                first
                                  | (refine wpAnyH_take (i := 29) rfl (by kernel_rfl) (by kernel_rfl) (by kernel_rfl) (fun _ _ _ h => h) (Or.inl ⟨by rfl, by intro w hSw; obtain ⟨y0, y1, -, -⟩ := HYC4.out _ hSw; obtain ⟨x0, x1, -, -⟩ := HXC.out _ hSw; (go_simp <;> with_reducible rfl)⟩) (by assumption) ?_)
                                  | (refine wpAnyH_take (i := 29) rfl (by kernel_rfl) (by kernel_rfl) (by kernel_rfl) (fun _ _ _ h => h) (Or.inr ⟨by rfl, rfl⟩) (by assumption) ?_)
                                (try simp only [Act.put, List.setIfInBounds_toArray, List.set_cons_zero, List.set_cons_succ, List.getElem_toArray, List.getElem_cons_zero, List.getElem_cons_succ])
                                first
                                  | (refine wpAnyH_take (i := 30) rfl (by kernel_rfl) (by kernel_rfl) (by kernel_rfl) (fun _ _ _ h => h) (Or.inl ⟨by rfl, by intro w hSw; obtain ⟨y0, y1, -, -⟩ := HYC4.out _ hSw; obtain ⟨x0, x1, -, -⟩ := HXC.out _ hSw; (go_simp <;> with_reducible rfl)⟩) (by assumption) ?_)
                                  | (refine wpAnyH_take (i := 30) rfl (by kernel_rfl) (by kernel_rfl) (by kernel_rfl) (fun _ _ _ h => h) (Or.inr ⟨by rfl, rfl⟩) (by assumption) ?_)
                                (try simp only [Act.put, List.setIfInBounds_toArray, List.set_cons_zero, List.set_cons_succ, List.getElem_toArray, List.getElem_cons_zero, List.getElem_cons_succ])
                                first
                                  | (refine wpAnyH_take (i := 31) rfl (by kernel_rfl) (by kernel_rfl) (by kernel_rfl) (fun _ _ _ h => h) (Or.inl ⟨by rfl, by intro w hSw; obtain ⟨y0, y1, -, -⟩ := HYC4.out _ hSw; obtain ⟨x0, x1, -, -⟩ := HXC.out _ hSw; (go_simp <;> with_reducible rfl)⟩) (by assumption) ?_)
                                  | (refine wpAnyH_take (i := 31) rfl (by kernel_rfl) (by kernel_rfl) (by kernel_rfl) (fun _ _ _ h => h) (Or.inr ⟨by rfl, rfl⟩) (by assumption) ?_)
                                (try simp only [Act.put, List.setIfInBounds_toArray, List.set_cons_zero, List.set_cons_succ, List.getElem_toArray, List.getElem_cons_zero, List.getElem_cons_succ])
                                first
                                  | (refine wpAnyH_take (i := 32) rfl (by kernel_rfl) (by kernel_rfl) (by kernel_rfl) (fun _ _ _ h => h) (Or.inl ⟨by rfl, by intro w hSw; obtain ⟨y0, y1, -, -⟩ := HYC4.out _ hSw; obtain ⟨x0, x1, -, -⟩ := HXC.out _ hSw; (go_simp <;> with_reducible rfl)⟩) (by assumption) ?_)
                                  | (refine wpAnyH_take (i := 32) rfl (by kernel_rfl) (by kernel_rfl) (by kernel_rfl) (fun _ _ _ h => h) (Or.inr ⟨by rfl, rfl⟩) (by assumption) ?_)
                                (try simp only [Act.put, List.setIfInBounds_toArray, List.set_cons_zero, List.set_cons_succ, List.getElem_toArray, List.getElem_cons_zero, List.getElem_cons_succ])
                                first
                                  | (refine wpAnyH_take (i := 33) rfl (by kernel_rfl) (by kernel_rfl) (by kernel_rfl) (fun _ _ _ h => h) (Or.inl ⟨by rfl, by intro w hSw; obtain ⟨y0, y1, -, -⟩ := HYC4.out _ hSw; obtain ⟨x0, x1, -, -⟩ := HXC.out _ hSw; (go_simp <;> with_reducible rfl)⟩) (by assumption) ?_)
                                  | (refine wpAnyH_take (i := 33) rfl (by kernel_rfl) (by kernel_rfl) (by kernel_rfl) (fun _ _ _ h => h) (Or.inr ⟨by rfl, rfl⟩) (by assumption) ?_)
                                (try simp only [Act.put, List.setIfInBounds_toArray, List.set_cons_zero, List.set_cons_succ, List.getElem_toArray, List.getElem_cons_zero, List.getElem_cons_succ])
                                first
                                  | (refine wpAnyH_take (i := 34) rfl (by kernel_rfl) (by kernel_rfl) (by kernel_rfl) (fun _ _ _ h => h) (Or.inl ⟨by rfl, by intro w hSw; obtain ⟨y0, y1, -, -⟩ := HYC4.out _ hSw; obtain ⟨x0, x1, -, -⟩ := HXC.out _ hSw; (go_simp <;> with_reducible rfl)⟩) (by assumption) ?_)
                                  | (refine wpAnyH_take (i := 34) rfl (by kernel_rfl) (by kernel_rfl) (by kernel_rfl) (fun _ _ _ h => h) (Or.inr ⟨by rfl, rfl⟩) (by assumption) ?_)
                                (try simp only [Act.put, List.setIfInBounds_toArray, List.set_cons_zero, List.set_cons_succ, List.getElem_toArray, List.getElem_cons_zero, List.getElem_cons_succ])
                                first
                                  | (refine wpAnyH_take (i := 35) rfl (by kernel_rfl) (by kernel_rfl) (by kernel_rfl) (fun _ _ _ h => h) (Or.inl ⟨by rfl, by intro w hSw; obtain ⟨y0, y1, -, -⟩ := HYC4.out _ hSw; obtain ⟨x0, x1, -, -⟩ := HXC.out _ hSw; (go_simp <;> with_reducible rfl)⟩) (by assumption) ?_)
                                  | (refine wpAnyH_take (i := 35) rfl (by kernel_rfl) (by kernel_rfl) (by kernel_rfl) (fun _ _ _ h => h) (Or.inr ⟨by rfl, rfl⟩) (by assumption) ?_)
                                (try simp only [Act.put, List.setIfInBounds_toArray, List.set_cons_zero, List.set_cons_succ, List.getElem_toArray, List.getElem_cons_zero, List.getElem_cons_succ])
                                first
                                  | (refine wpAnyH_take (i := 36) rfl (by kernel_rfl) (by kernel_rfl) (by kernel_rfl) (fun _ _ _ h => h) (Or.inl ⟨by rfl, by intro w hSw; obtain ⟨y0, y1, -, -⟩ := HYC4.out _ hSw; obtain ⟨x0, x1, -, -⟩ := HXC.out _ hSw; (go_simp <;> with_reducible rfl)⟩) (by assumption) ?_)
                                  | (refine wpAnyH_take (i := 36) rfl (by kernel_rfl) (by kernel_rfl) (by kernel_rfl) (fun _ _ _ h => h) (Or.inr ⟨by rfl, rfl⟩) (by assumption) ?_)
                                (try simp only [Act.put, List.setIfInBounds_toArray, List.set_cons_zero, List.set_cons_succ, List.getElem_toArray, List.getElem_cons_zero, List.getElem_cons_succ])
                                first
                                  | (refine wpAnyH_take (i := 37) rfl (by kernel_rfl) (by kernel_rfl) (by kernel_rfl) (fun _ _ _ h => h) (Or.inl ⟨by rfl, by intro w hSw; obtain ⟨y0, y1, -, -⟩ := HYC4.out _ hSw; obtain ⟨x0, x1, -, -⟩ := HXC.out _ hSw; (go_simp <;> with_reducible rfl)⟩) (by assumption) ?_)
                                  | (refine wpAnyH_take (i := 37) rfl (by kernel_rfl) (by kernel_rfl) (by kernel_rfl) (fun _ _ _ h => h) (Or.inr ⟨by rfl, rfl⟩) (by assumption) ?_)
                                (try simp only [Act.put, List.setIfInBounds_toArray, List.set_cons_zero, List.set_cons_succ, List.getElem_toArray, List.getElem_cons_zero, List.getElem_cons_succ])
                                first
                                  | (refine wpAnyH_take (i := 38) rfl (by kernel_rfl) (by kernel_rfl) (by kernel_rfl) (fun _ _ _ h => h) (Or.inl ⟨by rfl, by intro w hSw; obtain ⟨y0, y1, -, -⟩ := HYC4.out _ hSw; obtain ⟨x0, x1, -, -⟩ := HXC.out _ hSw; (go_simp <;> with_reducible rfl)⟩) (by assumption) ?_)
                                  | (refine wpAnyH_take (i := 38) rfl (by kernel_rfl) (by kernel_rfl) (by kernel_rfl) (fun _ _ _ h => h) (Or.inr ⟨by rfl, rfl⟩) (by assumption) ?_)
                                (try simp only [Act.put, List.setIfInBounds_toArray, List.set_cons_zero, List.set_cons_succ, List.getElem_toArray, List.getElem_cons_zero, List.getElem_cons_succ])
                                first
                                  | (refine wpAnyH_take (i := 39) rfl (by kernel_rfl) (by kernel_rfl) (by kernel_rfl) (fun _ _ _ h => h) (Or.inl ⟨by rfl, by intro w hSw; obtain ⟨y0, y1, -, -⟩ := HYC4.out _ hSw; obtain ⟨x0, x1, -, -⟩ := HXC.out _ hSw; (go_simp <;> with_reducible rfl)⟩) (by assumption) ?_)
                                  | (refine wpAnyH_take (i := 39) rfl (by kernel_rfl) (by kernel_rfl) (by kernel_rfl) (fun _ _ _ h => h) (Or.inr ⟨by rfl, rfl⟩) (by assumption) ?_)
                                (try simp only [Act.put, List.setIfInBounds_toArray, List.set_cons_zero, List.set_cons_succ, List.getElem_toArray, List.getElem_cons_zero, List.getElem_cons_succ])
                                first
                                  | (refine wpAnyH_take (i := 40) rfl (by kernel_rfl) (by kernel_rfl) (by kernel_rfl) (fun _ _ _ h => h) (Or.inl ⟨by rfl, by intro w hSw; obtain ⟨y0, y1, -, -⟩ := HYC4.out _ hSw; obtain ⟨x0, x1, -, -⟩ := HXC.out _ hSw; (go_simp <;> with_reducible rfl)⟩) (by assumption) ?_)
                                  | (refine wpAnyH_take (i := 40) rfl (by kernel_rfl) (by kernel_rfl) (by kernel_rfl) (fun _ _ _ h => h) (Or.inr ⟨by rfl, rfl⟩) (by assumption) ?_)
                                (try simp only [Act.put, List.setIfInBounds_toArray, List.set_cons_zero, List.set_cons_succ, List.getElem_toArray, List.getElem_cons_zero, List.getElem_cons_succ])
                                refine wpAnyH_done (by kernel_rfl) ?_ _
                                clear hHeld
                                go_wp2
                                go_roundw
                                case rel => exact ⟨k + 1, (k : Int), by have := HKL.out; omega, rfl, by go_num, HK1, HB4.out.drew⟩
                                case measure => have := HKL.out; simp [intOf]; omega
                              · have h3d : decide (y.rank < x.rank) = false := decide_eq_false h3
                                have HK1 := Lib.hid (HBE.out.stay HPOS.out HX.out HY.out (by unfold beats; simp [h1, h3]))
                                go_wp2_with fail
                                refine wp_region_held_drew (S := fun V => Below w4.heap.size w4 V) (by kernel_rfl) ((Below.refl _ _).drew) (fun hHeld => ?_)
                                first
                                  | (refine wpAnyH_take (i := 0) rfl (by kernel_rfl) (by kernel_rfl) (by kernel_rfl) (fun _ _ _ h => h) (Or.inl ⟨by rfl, by intro w hSw; obtain ⟨y0, y1, -, -⟩ := HYC4.out _ hSw; obtain ⟨x0, x1, -, -⟩ := HXC.out _ hSw; (go_simp <;> with_reducible rfl)⟩) (by assumption) ?_)
                                  | (refine wpAnyH_take (i := 0) rfl (by kernel_rfl) (by kernel_rfl) (by kernel_rfl) (fun _ _ _ h => h) (Or.inr ⟨by rfl, rfl⟩) (by assumption) ?_)
                                (try simp only [Act.put, List.setIfInBounds_toArray, List.set_cons_zero, List.set_cons_succ, List.getElem_toArray, List.getElem_cons_zero, List.getElem_cons_succ])
                                first
                                  | (refine wpAnyH_take (i := 1) rfl (by kernel_rfl) (by kernel_rfl) (by kernel_rfl) (fun _ _ _ h => h) (Or.inl ⟨by rfl, by intro w hSw; obtain ⟨y0, y1, -, -⟩ := HYC4.out _ hSw; obtain ⟨x0, x1, -, -⟩ := HXC.out _ hSw; (go_simp <;> with_reducible rfl)⟩) (by assumption) ?_)
                                  | (refine wpAnyH_take (i := 1) rfl (by kernel_rfl) (by kernel_rfl) (by kernel_rfl) (fun _ _ _ h => h) (Or.inr ⟨by rfl, rfl⟩) (by assumption) ?_)
                                (try simp only [Act.put, List.setIfInBounds_toArray, List.set_cons_zero, List.set_cons_succ, List.getElem_toArray, List.getElem_cons_zero, List.getElem_cons_succ])
                                first
                                  | (refine wpAnyH_take (i := 2) rfl (by kernel_rfl) (by kernel_rfl) (by kernel_rfl) (fun _ _ _ h => h) (Or.inl ⟨by rfl, by intro w hSw; obtain ⟨y0, y1, -, -⟩ := HYC4.out _ hSw; obtain ⟨x0, x1, -, -⟩ := HXC.out _ hSw; (go_simp <;> with_reducible rfl)⟩) (by assumption) ?_)
                                  | (refine wpAnyH_take (i := 2) rfl (by kernel_rfl) (by kernel_rfl) (by kernel_rfl) (fun _ _ _ h => h) (Or.inr ⟨by rfl, rfl⟩) (by assumption) ?_)
                                (try simp only [Act.put, List.setIfInBounds_toArray, List.set_cons_zero, List.set_cons_succ, List.getElem_toArray, List.getElem_cons_zero, List.getElem_cons_succ])
                                first
                                  | (refine wpAnyH_take (i := 3) rfl (by kernel_rfl) (by kernel_rfl) (by kernel_rfl) (fun _ _ _ h => h) (Or.inl ⟨by rfl, by intro w hSw; obtain ⟨y0, y1, -, -⟩ := HYC4.out _ hSw; obtain ⟨x0, x1, -, -⟩ := HXC.out _ hSw; (go_simp <;> with_reducible rfl)⟩) (by assumption) ?_)
                                  | (refine wpAnyH_take (i := 3) rfl (by kernel_rfl) (by kernel_rfl) (by kernel_rfl) (fun _ _ _ h => h) (Or.inr ⟨by rfl, rfl⟩) (by assumption) ?_)
                                (try simp only [Act.put, List.setIfInBounds_toArray, List.set_cons_zero, List.set_cons_succ, List.getElem_toArray, List.getElem_cons_zero, List.getElem_cons_succ])
                                first
                                  | (refine wpAnyH_take (i := 4) rfl (by kernel_rfl) (by kernel_rfl) (by kernel_rfl) (fun _ _ _ h => h) (Or.inl ⟨by rfl, by intro w hSw; obtain ⟨y0, y1, -, -⟩ := HYC4.out _ hSw; obtain ⟨x0, x1, -, -⟩ := HXC.out _ hSw; (go_simp <;> with_reducible rfl)⟩) (by assumption) ?_)
                                  | (refine wpAnyH_take (i := 4) rfl (by kernel_rfl) (by kernel_rfl) (by kernel_rfl) (fun _ _ _ h => h) (Or.inr ⟨by rfl, rfl⟩) (by assumption) ?_)
                                (try simp only [Act.put, List.setIfInBounds_toArray, List.set_cons_zero, List.set_cons_succ, List.getElem_toArray, List.getElem_cons_zero, List.getElem_cons_succ])
                                first
                                  | (refine wpAnyH_take (i := 5) rfl (by kernel_rfl) (by kernel_rfl) (by kernel_rfl) (fun _ _ _ h => h) (Or.inl ⟨by rfl, by intro w hSw; obtain ⟨y0, y1, -, -⟩ := HYC4.out _ hSw; obtain ⟨x0, x1, -, -⟩ := HXC.out _ hSw; (go_simp <;> with_reducible rfl)⟩) (by assumption) ?_)
                                  | (refine wpAnyH_take (i := 5) rfl (by kernel_rfl) (by kernel_rfl) (by kernel_rfl) (fun _ _ _ h => h) (Or.inr ⟨by rfl, rfl⟩) (by assumption) ?_)
                                (try simp only [Act.put, List.setIfInBounds_toArray, List.set_cons_zero, List.set_cons_succ, List.getElem_toArray, List.getElem_cons_zero, List.getElem_cons_succ])
                                first
                                  | (refine wpAnyH_take (i := 6) rfl (by kernel_rfl) (by kernel_rfl) (by kernel_rfl) (fun _ _ _ h => h) (Or.inl ⟨by rfl, by intro w hSw; obtain ⟨y0, y1, -, -⟩ := HYC4.out _ hSw; obtain ⟨x0, x1, -, -⟩ := HXC.out _ hSw; (go_simp <;> with_reducible rfl)⟩) (by assumption) ?_)
                                  | (refine wpAnyH_take (i := 6) rfl (by kernel_rfl) (by kernel_rfl) (by kernel_rfl) (fun _ _ _ h => h) (Or.inr ⟨by rfl, rfl⟩) (by assumption) ?_)
                                (try simp only [Act.put, List.setIfInBounds_toArray, List.set_cons_zero, List.set_cons_succ, List.getElem_toArray, List.getElem_cons_zero, List.getElem_cons_succ])
                                first
                                  | (refine wpAnyH_take (i := 7) rfl (by kernel_rfl) (by kernel_rfl) (by kernel_rfl) (fun _ _ _ h => h) (Or.inl ⟨by rfl, by intro w hSw; obtain ⟨y0, y1, -, -⟩ := HYC4.out _ hSw; obtain ⟨x0, x1, -, -⟩ := HXC.out _ hSw; (go_simp <;> with_reducible rfl)⟩) (by assumption) ?_)
                                  | (refine wpAnyH_take (i := 7) rfl (by kernel_rfl) (by kernel_rfl) (by kernel_rfl) (fun _ _ _ h => h) (Or.inr ⟨by rfl, rfl⟩) (by assumption) ?_)
                                (try simp only [Act.put, List.setIfInBounds_toArray, List.set_cons_zero, List.set_cons_succ, List.getElem_toArray, List.getElem_cons_zero, List.getElem_cons_succ])
                                first
                                  | (refine wpAnyH_take (i := 8) rfl (by kernel_rfl) (by kernel_rfl) (by kernel_rfl) (fun _ _ _ h => h) (Or.inl ⟨by rfl, by intro w hSw; obtain ⟨y0, y1, -, -⟩ := HYC4.out _ hSw; obtain ⟨x0, x1, -, -⟩ := HXC.out _ hSw; (go_simp <;> with_reducible rfl)⟩) (by assumption) ?_)
                                  | (refine wpAnyH_take (i := 8) rfl (by kernel_rfl) (by kernel_rfl) (by kernel_rfl) (fun _ _ _ h => h) (Or.inr ⟨by rfl, rfl⟩) (by assumption) ?_)
                                (try simp only [Act.put, List.setIfInBounds_toArray, List.set_cons_zero, List.set_cons_succ, List.getElem_toArray, List.getElem_cons_zero, List.getElem_cons_succ])
                                first
                                  | (refine wpAnyH_take (i := 9) rfl (by kernel_rfl) (by kernel_rfl) (by kernel_rfl) (fun _ _ _ h => h) (Or.inl ⟨by rfl, by intro w hSw; obtain ⟨y0, y1, -, -⟩ := HYC4.out _ hSw; obtain ⟨x0, x1, -, -⟩ := HXC.out _ hSw; (go_simp <;> with_reducible rfl)⟩) (by assumption) ?_)
                                  | (refine wpAnyH_take (i := 9) rfl (by kernel_rfl) (by kernel_rfl) (by kernel_rfl) (fun _ _ _ h => h) (Or.inr ⟨by rfl, rfl⟩) (by assumption) ?_)
                                (try simp only [Act.put, List.setIfInBounds_toArray, List.set_cons_zero, List.set_cons_succ, List.getElem_toArray, List.getElem_cons_zero, List.getElem_cons_succ])
                                first
                                  | (refine wpAnyH_take (i := 10) rfl (by kernel_rfl) (by kernel_rfl) (by kernel_rfl) (fun _ _ _ h => h) (Or.inl ⟨by rfl, by intro w hSw; obtain ⟨y0, y1, -, -⟩ := HYC4.out _ hSw; obtain ⟨x0, x1, -, -⟩ := HXC.out _ hSw; (go_simp <;> with_reducible rfl)⟩) (by assumption) ?_)
                                  | (refine wpAnyH_take (i := 10) rfl (by kernel_rfl) (by kernel_rfl) (by kernel_rfl) (fun _ _ _ h => h) (Or.inr ⟨by rfl, rfl⟩) (by assumption) ?_)
                                (try simp only [Act.put, List.setIfInBounds_toArray, List.set_cons_zero, List.set_cons_succ, List.getElem_toArray, List.getElem_cons_zero, List.getElem_cons_succ])
                                first
                                  | (refine wpAnyH_take (i := 11) rfl (by kernel_rfl) (by kernel_rfl) (by kernel_rfl) (fun _ _ _ h => h) (Or.inl ⟨by rfl, by intro w hSw; obtain ⟨y0, y1, -, -⟩ := HYC4.out _ hSw; obtain ⟨x0, x1, -, -⟩ := HXC.out _ hSw; (go_simp <;> with_reducible rfl)⟩) (by assumption) ?_)
                                  | (refine wpAnyH_take (i := 11) rfl (by kernel_rfl) (by kernel_rfl) (by kernel_rfl) (fun _ _ _ h => h) (Or.inr ⟨by rfl, rfl⟩) (by assumption) ?_)
                                (try simp only [Act.put, List.setIfInBounds_toArray, List.set_cons_zero, List.set_cons_succ, List.getElem_toArray, List.getElem_cons_zero, List.getElem_cons_succ])
                                first
                                  | (refine wpAnyH_take (i := 12) rfl (by kernel_rfl) (by kernel_rfl) (by kernel_rfl) (fun _ _ _ h => h) (Or.inl ⟨by rfl, by intro w hSw; obtain ⟨y0, y1, -, -⟩ := HYC4.out _ hSw; obtain ⟨x0, x1, -, -⟩ := HXC.out _ hSw; (go_simp <;> with_reducible rfl)⟩) (by assumption) ?_)
                                  | (refine wpAnyH_take (i := 12) rfl (by kernel_rfl) (by kernel_rfl) (by kernel_rfl) (fun _ _ _ h => h) (Or.inr ⟨by rfl, rfl⟩) (by assumption) ?_)
                                (try simp only [Act.put, List.setIfInBounds_toArray, List.set_cons_zero, List.set_cons_succ, List.getElem_toArray, List.getElem_cons_zero, List.getElem_cons_succ])
                                first
                                  | (refine wpAnyH_take (i := 13) rfl (by kernel_rfl) (by kernel_rfl) (by kernel_rfl) (fun _ _ _ h => h) (Or.inl ⟨by rfl, by intro w hSw; obtain ⟨y0, y1, -, -⟩ := HYC4.out _ hSw; obtain ⟨x0, x1, -, -⟩ := HXC.out _ hSw; (go_simp <;> with_reducible rfl)⟩) (by assumption) ?_)
                                  | (refine wpAnyH_take (i := 13) rfl (by kernel_rfl) (by kernel_rfl) (by kernel_rfl) (fun _ _ _ h => h) (Or.inr ⟨by rfl, rfl⟩) (by assumption) ?_)
                                (try simp only [Act.put, List.setIfInBounds_toArray, List.set_cons_zero, List.set_cons_succ, List.getElem_toArray, List.getElem_cons_zero, List.getElem_cons_succ])
                                first
                                  | (refine wpAnyH_take (i := 14) rfl (by kernel_rfl) (by kernel_rfl) (by kernel_rfl) (fun _ _ _ h => h) (Or.inl ⟨by rfl, by intro w hSw; obtain ⟨y0, y1, -, -⟩ := HYC4.out _ hSw; obtain ⟨x0, x1, -, -⟩ := HXC.out _ hSw; (go_simp <;> with_reducible rfl)⟩) (by assumption) ?_)
                                  | (refine wpAnyH_take (i := 14) rfl (by kernel_rfl) (by kernel_rfl) (by kernel_rfl) (fun _ _ _ h => h) (Or.inr ⟨by rfl, rfl⟩) (by assumption) ?_)
                                (try simp only [Act.put, List.setIfInBounds_toArray, List.set_cons_zero, List.set_cons_succ, List.getElem_toArray, List.getElem_cons_zero, List.getElem_cons_succ])
                                first
                                  | (refine wpAnyH_take (i := 15) rfl (by kernel_rfl) (by kernel_rfl) (by kernel_rfl) (fun _ _ _ h => h) (Or.inl ⟨by rfl, by intro w hSw; obtain ⟨y0, y1, -, -⟩ := HYC4.out _ hSw; obtain ⟨x0, x1, -, -⟩ := HXC.out _ hSw; (go_simp <;> with_reducible rfl)⟩) (by assumption) ?_)
                                  | (refine wpAnyH_take (i := 15) rfl (by kernel_rfl) (by kernel_rfl) (by kernel_rfl) (fun _ _ _ h => h) (Or.inr ⟨by rfl, rfl⟩) (by assumption) ?_)
                                (try simp only [Act.put, List.setIfInBounds_toArray, List.set_cons_zero, List.set_cons_succ, List.getElem_toArray, List.getElem_cons_zero, List.getElem_cons_succ])
                                first
                                  | (refine wpAnyH_take (i := 16) rfl (by kernel_rfl) (by kernel_rfl) (by kernel_rfl) (fun _ _ _ h => h) (Or.inl ⟨by rfl, by intro w hSw; obtain ⟨y0, y1, -, -⟩ := HYC4.out _ hSw; obtain ⟨x0, x1, -, -⟩ := HXC.out _ hSw; (go_simp <;> with_reducible rfl)⟩) (by assumption) ?_)
                                  | (refine wpAnyH_take (i := 16) rfl (by kernel_rfl) (by kernel_rfl) (by kernel_rfl) (fun _ _ _ h => h) (Or.inr ⟨by rfl, rfl⟩) (by assumption) ?_)
                                (try simp only [Act.put, List.setIfInBounds_toArray, List.set_cons_zero, List.set_cons_succ, List.getElem_toArray, List.getElem_cons_zero, List.getElem_cons_succ])
                                first
                                  | (refine wpAnyH_take (i := 17) rfl (by kernel_rfl) (by kernel_rfl) (by kernel_rfl) (fun _ _ _ h => h) (Or.inl ⟨by rfl, by intro w hSw; obtain ⟨y0, y1, -, -⟩ := HYC4.out _ hSw; obtain ⟨x0, x1, -, -⟩ := HXC.out _ hSw; (go_simp <;> with_reducible rfl)⟩) (by assumption) ?_)
                                  | (refine wpAnyH_take (i := 17) rfl (by kernel_rfl) (by kernel_rfl) (by kernel_rfl) (fun _ _ _ h => h) (Or.inr ⟨by rfl, rfl⟩) (by assumption) ?_)
                                (try simp only [Act.put, List.setIfInBounds_toArray, List.set_cons_zero, List.set_cons_succ, List.getElem_toArray, List.getElem_cons_zero, List.getElem_cons_succ])
                                first
                                  | (refine wpAnyH_take (i := 18) rfl (by kernel_rfl) (by kernel_rfl) (by kernel_rfl) (fun _ _ _ h => h) (Or.inl ⟨by rfl, by intro w hSw; obtain ⟨y0, y1, -, -⟩ := HYC4.out _ hSw; obtain ⟨x0, x1, -, -⟩ := HXC.out _ hSw; (go_simp <;> with_reducible rfl)⟩) (by assumption) ?_)
                                  | (refine wpAnyH_take (i := 18) rfl (by kernel_rfl) (by kernel_rfl) (by kernel_rfl) (fun _ _ _ h => h) (Or.inr ⟨by rfl, rfl⟩) (by assumption) ?_)
                                (try simp only [Act.put, List.setIfInBounds_toArray, List.set_cons_zero, List.set_cons_succ, List.getElem_toArray, List.getElem_cons_zero, List.getElem_cons_succ])
                                first
                                  | (refine wpAnyH_take (i := 19) rfl (by kernel_rfl) (by kernel_rfl) (by kernel_rfl) (fun _ _ _ h => h) (Or.inl ⟨by rfl, by intro w hSw; obtain ⟨y0, y1, -, -⟩ := HYC4.out _ hSw; obtain ⟨x0, x1, -, -⟩ := HXC.out _ hSw; (go_simp <;> with_reducible rfl)⟩) (by assumption) ?_)
                                  | (refine wpAnyH_take (i := 19) rfl (by kernel_rfl) (by kernel_rfl) (by kernel_rfl) (fun _ _ _ h => h) (Or.inr ⟨by rfl, rfl⟩) (by assumption) ?_)
                                (try simp only [Act.put, List.setIfInBounds_toArray, List.set_cons_zero, List.set_cons_succ, List.getElem_toArray, List.getElem_cons_zero, List.getElem_cons_succ])
                                first
                                  | (refine wpAnyH_take (i := 20) rfl (by kernel_rfl) (by kernel_rfl) (by kernel_rfl) (fun _ _ _ h => h) (Or.inl ⟨by rfl, by intro w hSw; obtain ⟨y0, y1, -, -⟩ := HYC4.out _ hSw; obtain ⟨x0, x1, -, -⟩ := HXC.out _ hSw; (go_simp <;> with_reducible rfl)⟩) (by assumption) ?_)
                                  | (refine wpAnyH_take (i := 20) rfl (by kernel_rfl) (by kernel_rfl) (by kernel_rfl) (fun _ _ _ h => h) (Or.inr ⟨by rfl, rfl⟩) (by assumption) ?_)
                                (try simp only [Act.put, List.setIfInBounds_toArray, List.set_cons_zero, List.set_cons_succ, List.getElem_toArray, List.getElem_cons_zero, List.getElem_cons_succ])
                                first
                                  | (refine wpAnyH_take (i := 21) rfl (by kernel_rfl) (by kernel_rfl) (by kernel_rfl) (fun _ _ _ h => h) (Or.inl ⟨by rfl, by intro w hSw; obtain ⟨y0, y1, -, -⟩ := HYC4.out _ hSw; obtain ⟨x0, x1, -, -⟩ := HXC.out _ hSw; (go_simp <;> with_reducible rfl)⟩) (by assumption) ?_)
                                  | (refine wpAnyH_take (i := 21) rfl (by kernel_rfl) (by kernel_rfl) (by kernel_rfl) (fun _ _ _ h => h) (Or.inr ⟨by rfl, rfl⟩) (by assumption) ?_)
                                (try simp only [Act.put, List.setIfInBounds_toArray, List.set_cons_zero, List.set_cons_succ, List.getElem_toArray, List.getElem_cons_zero, List.getElem_cons_succ])
                                first
                                  | (refine wpAnyH_take (i := 22) rfl (by kernel_rfl) (by kernel_rfl) (by kernel_rfl) (fun _ _ _ h => h) (Or.inl ⟨by rfl, by intro w hSw; obtain ⟨y0, y1, -, -⟩ := HYC4.out _ hSw; obtain ⟨x0, x1, -, -⟩ := HXC.out _ hSw; (go_simp <;> with_reducible rfl)⟩) (by assumption) ?_)
                                  | (refine wpAnyH_take (i := 22) rfl (by kernel_rfl) (by kernel_rfl) (by kernel_rfl) (fun _ _ _ h => h) (Or.inr ⟨by rfl, rfl⟩) (by assumption) ?_)
                                (try simp only [Act.put, List.setIfInBounds_toArray, List.set_cons_zero, List.set_cons_succ, List.getElem_toArray, List.getElem_cons_zero, List.getElem_cons_succ])
                                first
                                  | (refine wpAnyH_take (i := 23) rfl (by kernel_rfl) (by kernel_rfl) (by kernel_rfl) (fun _ _ _ h => h) (Or.inl ⟨by rfl, by intro w hSw; obtain ⟨y0, y1, -, -⟩ := HYC4.out _ hSw; obtain ⟨x0, x1, -, -⟩ := HXC.out _ hSw; (go_simp <;> with_reducible rfl)⟩) (by assumption) ?_)
                                  | (refine wpAnyH_take (i := 23) rfl (by kernel_rfl) (by kernel_rfl) (by kernel_rfl) (fun _ _ _ h => h) (Or.inr ⟨by rfl, rfl⟩) (by assumption) ?_)
                                (try simp only [Act.put, List.setIfInBounds_toArray, List.set_cons_zero, List.set_cons_succ, List.getElem_toArray, List.getElem_cons_zero, List.getElem_cons_succ])
                                first
                                  | (refine wpAnyH_take (i := 24) rfl (by kernel_rfl) (by kernel_rfl) (by kernel_rfl) (fun _ _ _ h => h) (Or.inl ⟨by rfl, by intro w hSw; obtain ⟨y0, y1, -, -⟩ := HYC4.out _ hSw; obtain ⟨x0, x1, -, -⟩ := HXC.out _ hSw; (go_simp <;> with_reducible rfl)⟩) (by assumption) ?_)
                                  | (refine wpAnyH_take (i := 24) rfl (by kernel_rfl) (by kernel_rfl) (by kernel_rfl) (fun _ _ _ h => h) (Or.inr ⟨by rfl, rfl⟩) (by assumption) ?_)
                                (try simp only [Act.put, List.setIfInBounds_toArray, List.set_cons_zero, List.set_cons_succ, List.getElem_toArray, List.getElem_cons_zero, List.getElem_cons_succ])
                                first
                                  | (refine wpAnyH_take (i := 25) rfl (by kernel_rfl) (by kernel_rfl) (by kernel_rfl) (fun _ _ _ h => h) (Or.inl ⟨by rfl, by intro w hSw; obtain ⟨y0, y1, -, -⟩ := HYC4.out _ hSw; obtain ⟨x0, x1, -, -⟩ := HXC.out _ hSw; (go_simp <;> with_reducible rfl)⟩) (by assumption) ?_)
                                  | (refine wpAnyH_take (i := 25) rfl (by kernel_rfl) (by kernel_rfl) (by kernel_rfl) (fun _ _ _ h => h) (Or.inr ⟨by rfl, rfl⟩) (by assumption) ?_)
                                (try simp only [Act.put, List.setIfInBounds_toArray, List.set_cons_zero, List.set_cons_succ, List.getElem_toArray, List.getElem_cons_zero, List.getElem_cons_succ])
                                first
                                  | (refine wpAnyH_take (i := 26) rfl (by kernel_rfl) (by kernel_rfl) (by kernel_rfl) (fun _ _ _ h => h) (Or.inl ⟨by rfl, by intro w hSw; obtain ⟨y0, y1, -, -⟩ := HYC4.out _ hSw; obtain ⟨x0, x1, -, -⟩ := HXC.out _ hSw; (go_simp <;> with_reducible rfl)⟩) (by assumption) ?_)
                                  | (refine wpAnyH_take (i := 26) rfl (by kernel_rfl) (by kernel_rfl) (by kernel_rfl) (fun _ _ _ h => h) (Or.inr ⟨by rfl, rfl⟩) (by assumption) ?_)
                                (try simp only [Act.put, List.setIfInBounds_toArray, List.set_cons_zero, List.set_cons_succ, List.getElem_toArray, List.getElem_cons_zero, List.getElem_cons_succ])
                                first
                                  | (refine wpAnyH_take (i := 27) rfl (by kernel_rfl) (by kernel_rfl) (by kernel_rfl) (fun _ _ _ h => h) (Or.inl ⟨by rfl, by intro w hSw; obtain ⟨y0, y1, -, -⟩ := HYC4.out _ hSw; obtain ⟨x0, x1, -, -⟩ := HXC.out _ hSw; (go_simp <;> with_reducible rfl)⟩) (by assumption) ?_)
                                  | (refine wpAnyH_take (i := 27) rfl (by kernel_rfl) (by kernel_rfl) (by kernel_rfl) (fun _ _ _ h => h) (Or.inr ⟨by rfl, rfl⟩) (by assumption) ?_)
                                (try simp only [Act.put, List.setIfInBounds_toArray, List.set_cons_zero, List.set_cons_succ, List.getElem_toArray, List.getElem_cons_zero, List.getElem_cons_succ])
                                first
                                  | (refine wpAnyH_take (i := 28) rfl (by kernel_rfl) (by kernel_rfl) (by kernel_rfl) (fun _ _ _ h => h) (Or.inl ⟨by rfl, by intro w hSw; obtain ⟨y0, y1, -, -⟩ := HYC4.out _ hSw; obtain ⟨x0, x1, -, -⟩ := HXC.out _ hSw; (go_simp <;> with_reducible rfl)⟩) (by assumption) ?_)
                                  | (refine wpAnyH_take (i := 28) rfl (by kernel_rfl) (by kernel_rfl) (by kernel_rfl) (fun _ _ _ h => h) (Or.inr ⟨by rfl, rfl⟩) (by assumption) ?_)
                                (try simp only [Act.put, List.setIfInBounds_toArray, List.set_cons_zero, List.set_cons_succ, List.getElem_toArray, List.getElem_cons_zero, List.getElem_cons_succ])
                                first
                                  | (refine wpAnyH_take (i := 29) rfl (by kernel_rfl) (by kernel_rfl) (by kernel_rfl) (fun _ _ _ h => h) (Or.inl ⟨by rfl, by intro w hSw; obtain ⟨y0, y1, -, -⟩ := HYC4.out _ hSw; obtain ⟨x0, x1, -, -⟩ := HXC.out _ hSw; (go_simp <;> with_reducible rfl)⟩) (by assumption) ?_)
                                  | (refine wpAnyH_take (i := 29) rfl (by kernel_rfl) (by kernel_rfl) (by kernel_rfl) (fun _ _ _ h => h) (Or.inr ⟨by rfl, rfl⟩) (by assumption) ?_)
                                (try simp only [Act.put, List.setIfInBounds_toArray, List.set_cons_zero, List.set_cons_succ, List.getElem_toArray, List.getElem_cons_zero, List.getElem_cons_succ])
                                first
                                  | (refine wpAnyH_take (i := 30) rfl (by kernel_rfl) (by kernel_rfl) (by kernel_rfl) (fun _ _ _ h => h) (Or.inl ⟨by rfl, by intro w hSw; obtain ⟨y0, y1, -, -⟩ := HYC4.out _ hSw; obtain ⟨x0, x1, -, -⟩ := HXC.out _ hSw; (go_simp <;> with_reducible rfl)⟩) (by assumption) ?_)
                                  | (refine wpAnyH_take (i := 30) rfl (by kernel_rfl) (by kernel_rfl) (by kernel_rfl) (fun _ _ _ h => h) (Or.inr ⟨by rfl, rfl⟩) (by assumption) ?_)
                                (try simp only [Act.put, List.setIfInBounds_toArray, List.set_cons_zero, List.set_cons_succ, List.getElem_toArray, List.getElem_cons_zero, List.getElem_cons_succ])
                                first
                                  | (refine wpAnyH_take (i := 31) rfl (by kernel_rfl) (by kernel_rfl) (by kernel_rfl) (fun _ _ _ h => h) (Or.inl ⟨by rfl, by intro w hSw; obtain ⟨y0, y1, -, -⟩ := HYC4.out _ hSw; obtain ⟨x0, x1, -, -⟩ := HXC.out _ hSw; (go_simp <;> with_reducible rfl)⟩) (by assumption) ?_)
                                  | (refine wpAnyH_take (i := 31) rfl (by kernel_rfl) (by kernel_rfl) (by kernel_rfl) (fun _ _ _ h => h) (Or.inr ⟨by rfl, rfl⟩) (by assumption) ?_)
                                (try simp only [Act.put, List.setIfInBounds_toArray, List.set_cons_zero, List.set_cons_succ, List.getElem_toArray, List.getElem_cons_zero, List.getElem_cons_succ])
                                first
                                  | (refine wpAnyH_take (i := 32) rfl (by kernel_rfl) (by kernel_rfl) (by kernel_rfl) (fun _ _ _ h => h) (Or.inl ⟨by rfl, by intro w hSw; obtain ⟨y0, y1, -, -⟩ := HYC4.out _ hSw; obtain ⟨x0, x1, -, -⟩ := HXC.out _ hSw; (go_simp <;> with_reducible rfl)⟩) (by assumption) ?_)
                                  | (refine wpAnyH_take (i := 32) rfl (by kernel_rfl) (by kernel_rfl) (by kernel_rfl) (fun _ _ _ h => h) (Or.inr ⟨by rfl, rfl⟩) (by assumption) ?_)
                                (try simp only [Act.put, List.setIfInBounds_toArray, List.set_cons_zero, List.set_cons_succ, List.getElem_toArray, List.getElem_cons_zero, List.getElem_cons_succ])
                                first
                                  | (refine wpAnyH_take (i := 33) rfl (by kernel_rfl) (by kernel_rfl) (by kernel_rfl) (fun _ _ _ h => h) (Or.inl ⟨by rfl, by intro w hSw; obtain ⟨y0, y1, -, -⟩ := HYC4.out _ hSw; obtain ⟨x0, x1, -, -⟩ := HXC.out _ hSw; (go_simp <;> with_reducible rfl)⟩) (by assumption) ?_)
                                  | (refine wpAnyH_take (i := 33) rfl (by kernel_rfl) (by kernel_rfl) (by kernel_rfl) (fun _ _ _ h => h) (Or.inr ⟨by rfl, rfl⟩) (by assumption) ?_)
                                (try simp only [Act.put, List.setIfInBounds_toArray, List.set_cons_zero, List.set_cons_succ, List.getElem_toArray, List.getElem_cons_zero, List.getElem_cons_succ])
                                first
                                  | (refine wpAnyH_take (i := 34) rfl (by kernel_rfl) (by kernel_rfl) (by kernel_rfl) (fun _ _ _ h => h) (Or.inl ⟨by rfl, by intro w hSw; obtain ⟨y0, y1, -, -⟩ := HYC4.out _ hSw; obtain ⟨x0, x1, -, -⟩ := HXC.out _ hSw; (go_simp <;> with_reducible rfl)⟩) (by assumption) ?_)
                                  | (refine wpAnyH_take (i := 34) rfl (by kernel_rfl) (by kernel_rfl) (by kernel_rfl) (fun _ _ _ h => h) (Or.inr ⟨by rfl, rfl⟩) (by assumption) ?_)
                                (try simp only [Act.put, List.setIfInBounds_toArray, List.set_cons_zero, List.set_cons_succ, List.getElem_toArray, List.getElem_cons_zero, List.getElem_cons_succ])
                                first
                                  | (refine wpAnyH_take (i := 35) rfl (by kernel_rfl) (by kernel_rfl) (by kernel_rfl) (fun _ _ _ h => h) (Or.inl ⟨by rfl, by intro w hSw; obtain ⟨y0, y1, -, -⟩ := HYC4.out _ hSw; obtain ⟨x0, x1, -, -⟩ := HXC.out _ hSw; (go_simp <;> with_reducible rfl)⟩) (by assumption) ?_)
                                  | (refine wpAnyH_take (i := 35) rfl (by kernel_rfl) (by kernel_rfl) (by kernel_rfl) (fun _ _ _ h => h) (Or.inr ⟨by rfl, rfl⟩) (by assumption) ?_)
                                (try simp only [Act.put, List.setIfInBounds_toArray, List.set_cons_zero, List.set_cons_succ, List.getElem_toArray, List.getElem_cons_zero, List.getElem_cons_succ])
                                first
                                  | (refine wpAnyH_take (i := 36) rfl (by kernel_rfl) (by kernel_rfl) (by kernel_rfl) (fun _ _ _ h => h) (Or.inl ⟨by rfl, by intro w hSw; obtain ⟨y0, y1, -, -⟩ := HYC4.out _ hSw; obtain ⟨x0, x1, -, -⟩ := HXC.out _ hSw; (go_simp <;> with_reducible rfl)⟩) (by assumption) ?_)
                                  | (refine wpAnyH_take (i := 36) rfl (by kernel_rfl) (by kernel_rfl) (by kernel_rfl) (fun _ _ _ h => h) (Or.inr ⟨by rfl, rfl⟩) (by assumption) ?_)
                                (try simp only [Act.put, List.setIfInBounds_toArray, List.set_cons_zero, List.set_cons_succ, List.getElem_toArray, List.getElem_cons_zero, List.getElem_cons_succ])
                                first
                                  | (refine wpAnyH_take (i := 37) rfl (by kernel_rfl) (by kernel_rfl) (by kernel_rfl) (fun _ _ _ h => h) (Or.inl ⟨by rfl, by intro w hSw; obtain ⟨y0, y1, -, -⟩ := HYC4.out _ hSw; obtain ⟨x0, x1, -, -⟩ := HXC.out _ hSw; (go_simp <;> with_reducible rfl)⟩) (by assumption) ?_)
                                  | (refine wpAnyH_take (i := 37) rfl (by kernel_rfl) (by kernel_rfl) (by kernel_rfl) (fun _ _ _ h => h) (Or.inr ⟨by rfl, rfl⟩) (by assumption) ?_)
                                (try simp only [Act.put, List.setIfInBounds_toArray, List.set_cons_zero, List.set_cons_succ, List.getElem_toArray, List.getElem_cons_zero, List.getElem_cons_succ])
                                first
                                  | (refine wpAnyH_take (i := 38) rfl (by kernel_rfl) (by kernel_rfl) (by kernel_rfl) (fun _ _ _ h => h) (Or.inl ⟨by rfl, by intro w hSw; obtain ⟨y0, y1, -, -⟩ := HYC4.out _ hSw; obtain ⟨x0, x1, -, -⟩ := HXC.out _ hSw; (go_simp <;> with_reducible rfl)⟩) (by assumption) ?_)
                                  | (refine wpAnyH_take (i := 38) rfl (by kernel_rfl) (by kernel_rfl) (by kernel_rfl) (fun _ _ _ h => h) (Or.inr ⟨by rfl, rfl⟩) (by assumption) ?_)
                                (try simp only [Act.put, List.setIfInBounds_toArray, List.set_cons_zero, List.set_cons_succ, List.getElem_toArray, List.getElem_cons_zero, List.getElem_cons_succ])
                                first
                                  | (refine wpAnyH_take (i := 39) rfl (by kernel_rfl) (by kernel_rfl) (by kernel_rfl) (fun _ _ _ h => h) (Or.inl ⟨by rfl, by intro w hSw; obtain ⟨y0, y1, -, -⟩ := HYC4.out _ hSw; obtain ⟨x0, x1, -, -⟩ := HXC.out _ hSw; (go_simp <;> with_reducible rfl)⟩) (by assumption) ?_)
                                  | (refine wpAnyH_take (i := 39) rfl (by kernel_rfl) (by kernel_rfl) (by kernel_rfl) (fun _ _ _ h => h) (Or.inr ⟨by rfl, rfl⟩) (by assumption) ?_)
                                (try simp only [Act.put, List.setIfInBounds_toArray, List.set_cons_zero, List.set_cons_succ, List.getElem_toArray, List.getElem_cons_zero, List.getElem_cons_succ])
                                first
                                  | (refine wpAnyH_take (i := 40) rfl (by kernel_rfl) (by kernel_rfl) (by kernel_rfl) (fun _ _ _ h => h) (Or.inl ⟨by rfl, by intro w hSw; obtain ⟨y0, y1, -, -⟩ := HYC4.out _ hSw; obtain ⟨x0, x1, -, -⟩ := HXC.out _ hSw; (go_simp <;> with_reducible rfl)⟩) (by assumption) ?_)
                                  | (refine wpAnyH_take (i := 40) rfl (by kernel_rfl) (by kernel_rfl) (by kernel_rfl) (fun _ _ _ h => h) (Or.inr ⟨by rfl, rfl⟩) (by assumption) ?_)
                                (try simp only [Act.put, List.setIfInBounds_toArray, List.set_cons_zero, List.set_cons_succ, List.getElem_toArray, List.getElem_cons_zero, List.getElem_cons_succ])
                                refine wpAnyH_done (by kernel_rfl) ?_ _
                                clear hHeld
                                go_wp2
                                go_roundw
                                case rel => exact ⟨k + 1, (j : Int), by have := HKL.out; omega, rfl, by go_num, HK1, HB4.out.drew⟩
                                case measure => have := HKL.out; simp [intOf]; omega
                            · have h2d : (y.mom == x.mom) = false := by simp [h2]
                              have HK1 := Lib.hid (HBE.out.stay HPOS.out HX.out HY.out (by unfold beats; simp [h1, h2]))
                              go_wp2_with fail
                              refine wp_region_held_drew (S := fun V => Below w4.heap.size w4 V) (by kernel_rfl) ((Below.refl _ _).drew) (fun hHeld => ?_)
                              first
                                | (refine wpAnyH_take (i := 0) rfl (by kernel_rfl) (by kernel_rfl) (by kernel_rfl) (fun _ _ _ h => h) (Or.inl ⟨by rfl, by intro w hSw; obtain ⟨y0, y1, -, -⟩ := HYC4.out _ hSw; obtain ⟨x0, x1, -, -⟩ := HXC.out _ hSw; (go_simp <;> with_reducible rfl)⟩) (by assumption) ?_)
                                | (refine wpAnyH_take (i := 0) rfl (by kernel_rfl) (by kernel_rfl) (by kernel_rfl) (fun _ _ _ h => h) (Or.inr ⟨by rfl, rfl⟩) (by assumption) ?_)
                              (try simp only [Act.put, List.setIfInBounds_toArray, List.set_cons_zero, List.set_cons_succ, List.getElem_toArray, List.getElem_cons_zero, List.getElem_cons_succ])
                              first
                                | (refine wpAnyH_take (i := 1) rfl (by kernel_rfl) (by kernel_rfl) (by kernel_rfl) (fun _ _ _ h => h) (Or.inl ⟨by rfl, by intro w hSw; obtain ⟨y0, y1, -, -⟩ := HYC4.out _ hSw; obtain ⟨x0, x1, -, -⟩ := HXC.out _ hSw; (go_simp <;> with_reducible rfl)⟩) (by assumption) ?_)
                                | (refine wpAnyH_take (i := 1) rfl (by kernel_rfl) (by kernel_rfl) (by kernel_rfl) (fun _ _ _ h => h) (Or.inr ⟨by rfl, rfl⟩) (by assumption) ?_)
                              (try simp only [Act.put, List.setIfInBounds_toArray, List.set_cons_zero, List.set_cons_succ, List.getElem_toArray, List.getElem_cons_zero, List.getElem_cons_succ])
                              first
                                | (refine wpAnyH_take (i := 2) rfl (by kernel_rfl) (by kernel_rfl) (by kernel_rfl) (fun _ _ _ h => h) (Or.inl ⟨by rfl, by intro w hSw; obtain ⟨y0, y1, -, -⟩ := HYC4.out _ hSw; obtain ⟨x0, x1, -, -⟩ := HXC.out _ hSw; (go_simp <;> with_reducible rfl)⟩) (by assumption) ?_)
                                | (refine wpAnyH_take (i := 2) rfl (by kernel_rfl) (by kernel_rfl) (by kernel_rfl) (fun _ _ _ h => h) (Or.inr ⟨by rfl, rfl⟩) (by assumption) ?_)
                              (try simp only [Act.put, List.setIfInBounds_toArray, List.set_cons_zero, List.set_cons_succ, List.getElem_toArray, List.getElem_cons_zero, List.getElem_cons_succ])
                              first
                                | (refine wpAnyH_take (i := 3) rfl (by kernel_rfl) (by kernel_rfl) (by kernel_rfl) (fun _ _ _ h => h) (Or.inl ⟨by rfl, by intro w hSw; obtain ⟨y0, y1, -, -⟩ := HYC4.out _ hSw; obtain ⟨x0, x1, -, -⟩ := HXC.out _ hSw; (go_simp <;> with_reducible rfl)⟩) (by assumption) ?_)
                                | (refine wpAnyH_take (i := 3) rfl (by kernel_rfl) (by kernel_rfl) (by kernel_rfl) (fun _ _ _ h => h) (Or.inr ⟨by rfl, rfl⟩) (by assumption) ?_)
                              (try simp only [Act.put, List.setIfInBounds_toArray, List.set_cons_zero, List.set_cons_succ, List.getElem_toArray, List.getElem_cons_zero, List.getElem_cons_succ])
                              first
                                | (refine wpAnyH_take (i := 4) rfl (by kernel_rfl) (by kernel_rfl) (by kernel_rfl) (fun _ _ _ h => h) (Or.inl ⟨by rfl, by intro w hSw; obtain ⟨y0, y1, -, -⟩ := HYC4.out _ hSw; obtain ⟨x0, x1, -, -⟩ := HXC.out _ hSw; (go_simp <;> with_reducible rfl)⟩) (by assumption) ?_)
                                | (refine wpAnyH_take (i := 4) rfl (by kernel_rfl) (by kernel_rfl) (by kernel_rfl) (fun _ _ _ h => h) (Or.inr ⟨by rfl, rfl⟩) (by assumption) ?_)
                              (try simp only [Act.put, List.setIfInBounds_toArray, List.set_cons_zero, List.set_cons_succ, List.getElem_toArray, List.getElem_cons_zero, List.getElem_cons_succ])
                              first
                                | (refine wpAnyH_take (i := 5) rfl (by kernel_rfl) (by kernel_rfl) (by kernel_rfl) (fun _ _ _ h => h) (Or.inl ⟨by rfl, by intro w hSw; obtain ⟨y0, y1, -, -⟩ := HYC4.out _ hSw; obtain ⟨x0, x1, -, -⟩ := HXC.out _ hSw; (go_simp <;> with_reducible rfl)⟩) (by assumption) ?_)
                                | (refine wpAnyH_take (i := 5) rfl (by kernel_rfl) (by kernel_rfl) (by kernel_rfl) (fun _ _ _ h => h) (Or.inr ⟨by rfl, rfl⟩) (by assumption) ?_)
                              (try simp only [Act.put, List.setIfInBounds_toArray, List.set_cons_zero, List.set_cons_succ, List.getElem_toArray, List.getElem_cons_zero, List.getElem_cons_succ])
                              first
                                | (refine wpAnyH_take (i := 6) rfl (by kernel_rfl) (by kernel_rfl) (by kernel_rfl) (fun _ _ _ h => h) (Or.inl ⟨by rfl, by intro w hSw; obtain ⟨y0, y1, -, -⟩ := HYC4.out _ hSw; obtain ⟨x0, x1, -, -⟩ := HXC.out _ hSw; (go_simp <;> with_reducible rfl)⟩) (by assumption) ?_)
                                | (refine wpAnyH_take (i := 6) rfl (by kernel_rfl) (by kernel_rfl) (by kernel_rfl) (fun _ _ _ h => h) (Or.inr ⟨by rfl, rfl⟩) (by assumption) ?_)
                              (try simp only [Act.put, List.setIfInBounds_toArray, List.set_cons_zero, List.set_cons_succ, List.getElem_toArray, List.getElem_cons_zero, List.getElem_cons_succ])
                              first
                                | (refine wpAnyH_take (i := 7) rfl (by kernel_rfl) (by kernel_rfl) (by kernel_rfl) (fun _ _ _ h => h) (Or.inl ⟨by rfl, by intro w hSw; obtain ⟨y0, y1, -, -⟩ := HYC4.out _ hSw; obtain ⟨x0, x1, -, -⟩ := HXC.out _ hSw; (go_simp <;> with_reducible rfl)⟩) (by assumption) ?_)
                                | (refine wpAnyH_take (i := 7) rfl (by kernel_rfl) (by kernel_rfl) (by kernel_rfl) (fun _ _ _ h => h) (Or.inr ⟨by rfl, rfl⟩) (by assumption) ?_)
                              (try simp only [Act.put, List.setIfInBounds_toArray, List.set_cons_zero, List.set_cons_succ, List.getElem_toArray, List.getElem_cons_zero, List.getElem_cons_succ])
                              first
                                | (refine wpAnyH_take (i := 8) rfl (by kernel_rfl) (by kernel_rfl) (by kernel_rfl) (fun _ _ _ h => h) (Or.inl ⟨by rfl, by intro w hSw; obtain ⟨y0, y1, -, -⟩ := HYC4.out _ hSw; obtain ⟨x0, x1, -, -⟩ := HXC.out _ hSw; (go_simp <;> with_reducible rfl)⟩) (by assumption) ?_)
                                | (refine wpAnyH_take (i := 8) rfl (by kernel_rfl) (by kernel_rfl) (by kernel_rfl) (fun _ _ _ h => h) (Or.inr ⟨by rfl, rfl⟩) (by assumption) ?_)
                              (try simp only [Act.put, List.setIfInBounds_toArray, List.set_cons_zero, List.set_cons_succ, List.getElem_toArray, List.getElem_cons_zero, List.getElem_cons_succ])
                              first
                                | (refine wpAnyH_take (i := 9) rfl (by kernel_rfl) (by kernel_rfl) (by kernel_rfl) (fun _ _ _ h => h) (Or.inl ⟨by rfl, by intro w hSw; obtain ⟨y0, y1, -, -⟩ := HYC4.out _ hSw; obtain ⟨x0, x1, -, -⟩ := HXC.out _ hSw; (go_simp <;> with_reducible rfl)⟩) (by assumption) ?_)
                                | (refine wpAnyH_take (i := 9) rfl (by kernel_rfl) (by kernel_rfl) (by kernel_rfl) (fun _ _ _ h => h) (Or.inr ⟨by rfl, rfl⟩) (by assumption) ?_)
                              (try simp only [Act.put, List.setIfInBounds_toArray, List.set_cons_zero, List.set_cons_succ, List.getElem_toArray, List.getElem_cons_zero, List.getElem_cons_succ])
                              first
                                | (refine wpAnyH_take (i := 10) rfl (by kernel_rfl) (by kernel_rfl) (by kernel_rfl) (fun _ _ _ h => h) (Or.inl ⟨by rfl, by intro w hSw; obtain ⟨y0, y1, -, -⟩ := HYC4.out _ hSw; obtain ⟨x0, x1, -, -⟩ := HXC.out _ hSw; (go_simp <;> with_reducible rfl)⟩) (by assumption) ?_)
                                | (refine wpAnyH_take (i := 10) rfl (by kernel_rfl) (by kernel_rfl) (by kernel_rfl) (fun _ _ _ h => h) (Or.inr ⟨by rfl, rfl⟩) (by assumption) ?_)
                              (try simp only [Act.put, List.setIfInBounds_toArray, List.set_cons_zero, List.set_cons_succ, List.getElem_toArray, List.getElem_cons_zero, List.getElem_cons_succ])
                              first
                                | (refine wpAnyH_take (i := 11) rfl (by kernel_rfl) (by kernel_rfl) (by kernel_rfl) (fun _ _ _ h => h) (Or.inl ⟨by rfl, by intro w hSw; obtain ⟨y0, y1, -, -⟩ := HYC4.out _ hSw; obtain ⟨x0, x1, -, -⟩ := HXC.out _ hSw; (go_simp <;> with_reducible rfl)⟩) (by assumption) ?_)
                                | (refine wpAnyH_take (i := 11) rfl (by kernel_rfl) (by kernel_rfl) (by kernel_rfl) (fun _ _ _ h => h) (Or.inr ⟨by rfl, rfl⟩) (by assumption) ?_)
                              (try simp only [Act.put, List.setIfInBounds_toArray, List.set_cons_zero, List.set_cons_succ, List.getElem_toArray, List.getElem_cons_zero, List.getElem_cons_succ])
                              first
                                | (refine wpAnyH_take (i := 12) rfl (by kernel_rfl) (by kernel_rfl) (by kernel_rfl) (fun _ _ _ h => h) (Or.inl ⟨by rfl, by intro w hSw; obtain ⟨y0, y1, -, -⟩ := HYC4.out _ hSw; obtain ⟨x0, x1, -, -⟩ := HXC.out _ hSw; (go_simp <;> with_reducible rfl)⟩) (by assumption) ?_)
                                | (refine wpAnyH_take (i := 12) rfl (by kernel_rfl) (by kernel_rfl) (by kernel_rfl) (fun _ _ _ h => h) (Or.inr ⟨by rfl, rfl⟩) (by assumption) ?_)
                              (try simp only [Act.put, List.setIfInBounds_toArray, List.set_cons_zero, List.set_cons_succ, List.getElem_toArray, List.getElem_cons_zero, List.getElem_cons_succ])
                              first
                                | (refine wpAnyH_take (i := 13) rfl (by kernel_rfl) (by kernel_rfl) (by kernel_rfl) (fun _ _ _ h => h) (Or.inl ⟨by rfl, by intro w hSw; obtain ⟨y0, y1, -, -⟩ := HYC4.out _ hSw; obtain ⟨x0, x1, -, -⟩ := HXC.out _ hSw; (go_simp <;> with_reducible rfl)⟩) (by assumption) ?_)
                                | (refine wpAnyH_take (i := 13) rfl (by kernel_rfl) (by kernel_rfl) (by kernel_rfl) (fun _ _ _ h => h) (Or.inr ⟨by rfl, rfl⟩) (by assumption) ?_)
                              (try simp only [Act.put, List.setIfInBounds_toArray, List.set_cons_zero, List.set_cons_succ, List.getElem_toArray, List.getElem_cons_zero, List.getElem_cons_succ])
                              first
                                | (refine wpAnyH_take (i := 14) rfl (by kernel_rfl) (by kernel_rfl) (by kernel_rfl) (fun _ _ _ h => h) (Or.inl ⟨by rfl, by intro w hSw; obtain ⟨y0, y1, -, -⟩ := HYC4.out _ hSw; obtain ⟨x0, x1, -, -⟩ := HXC.out _ hSw; (go_simp <;> with_reducible rfl)⟩) (by assumption) ?_)
                                | (refine wpAnyH_take (i := 14) rfl (by kernel_rfl) (by kernel_rfl) (by kernel_rfl) (fun _ _ _ h => h) (Or.inr ⟨by rfl, rfl⟩) (by assumption) ?_)
                              (try simp only [Act.put, List.setIfInBounds_toArray, List.set_cons_zero, List.set_cons_succ, List.getElem_toArray, List.getElem_cons_zero, List.getElem_cons_succ])
                              first
                                | (refine wpAnyH_take (i := 15) rfl (by kernel_rfl) (by kernel_rfl) (by kernel_rfl) (fun _ _ _ h => h) (Or.inl ⟨by rfl, by intro w hSw; obtain ⟨y0, y1, -, -⟩ := HYC4.out _ hSw; obtain ⟨x0, x1, -, -⟩ := HXC.out _ hSw; (go_simp <;> with_reducible rfl)⟩) (by assumption) ?_)
                                | (refine wpAnyH_take (i := 15) rfl (by kernel_rfl) (by kernel_rfl) (by kernel_rfl) (fun _ _ _ h => h) (Or.inr ⟨by rfl, rfl⟩) (by assumption) ?_)
                              (try simp only [Act.put, List.setIfInBounds_toArray, List.set_cons_zero, List.set_cons_succ, List.getElem_toArray, List.getElem_cons_zero, List.getElem_cons_succ])
                              first
                                | (refine wpAnyH_take (i := 16) rfl (by kernel_rfl) (by kernel_rfl) (by kernel_rfl) (fun _ _ _ h => h) (Or.inl ⟨by rfl, by intro w hSw; obtain ⟨y0, y1, -, -⟩ := HYC4.out _ hSw; obtain ⟨x0, x1, -, -⟩ := HXC.out _ hSw; (go_simp <;> with_reducible rfl)⟩) (by assumption) ?_)
                                | (refine wpAnyH_take (i := 16) rfl (by kernel_rfl) (by kernel_rfl) (by kernel_rfl) (fun _ _ _ h => h) (Or.inr ⟨by rfl, rfl⟩) (by assumption) ?_)
                              (try simp only [Act.put, List.setIfInBounds_toArray, List.set_cons_zero, List.set_cons_succ, List.getElem_toArray, List.getElem_cons_zero, List.getElem_cons_succ])
                              first
                                | (refine wpAnyH_take (i := 17) rfl (by kernel_rfl) (by kernel_rfl) (by kernel_rfl) (fun _ _ _ h => h) (Or.inl ⟨by rfl, by intro w hSw; obtain ⟨y0, y1, -, -⟩ := HYC4.out _ hSw; obtain ⟨x0, x1, -, -⟩ := HXC.out _ hSw; (go_simp <;> with_reducible rfl)⟩) (by assumption) ?_)
                                | (refine wpAnyH_take (i := 17) rfl (by kernel_rfl) (by kernel_rfl) (by kernel_rfl) (fun _ _ _ h => h) (Or.inr ⟨by rfl, rfl⟩) (by assumption) ?_)
                              (try simp only [Act.put, List.setIfInBounds_toArray, List.set_cons_zero, List.set_cons_succ, List.getElem_toArray, List.getElem_cons_zero, List.getElem_cons_succ])
                              first
                                | (refine wpAnyH_take (i := 18) rfl (by kernel_rfl) (by kernel_rfl) (by kernel_rfl) (fun _ _ _ h => h) (Or.inl ⟨by rfl, by intro w hSw; obtain ⟨y0, y1, -, -⟩ := HYC4.out _ hSw; obtain ⟨x0, x1, -, -⟩ := HXC.out _ hSw; (go_simp <;> with_reducible rfl)⟩) (by assumption) ?_)
                                | (refine wpAnyH_take (i := 18) rfl (by kernel_rfl) (by kernel_rfl) (by kernel_rfl) (fun _ _ _ h => h) (Or.inr ⟨by rfl, rfl⟩) (by assumption) ?_)
                              (try simp only [Act.put, List.setIfInBounds_toArray, List.set_cons_zero, List.set_cons_succ, List.getElem_toArray, List.getElem_cons_zero, List.getElem_cons_succ])
                              first
                                | (refine wpAnyH_take (i := 19) rfl (by kernel_rfl) (by kernel_rfl) (by kernel_rfl) (fun _ _ _ h => h) (Or.inl ⟨by rfl, by intro w hSw; obtain ⟨y0, y1, -, -⟩ := HYC4.out _ hSw; obtain ⟨x0, x1, -, -⟩ := HXC.out _ hSw; (go_simp <;> with_reducible rfl)⟩) (by assumption) ?_)
                                | (refine wpAnyH_take (i := 19) rfl (by kernel_rfl) (by kernel_rfl) (by kernel_rfl) (fun _ _ _ h => h) (Or.inr ⟨by rfl, rfl⟩) (by assumption) ?_)
                              (try simp only [Act.put, List.setIfInBounds_toArray, List.set_cons_zero, List.set_cons_succ, List.getElem_toArray, List.getElem_cons_zero, List.getElem_cons_succ])
                              first
                                | (refine wpAnyH_take (i := 20) rfl (by kernel_rfl) (by kernel_rfl) (by kernel_rfl) (fun _ _ _ h => h) (Or.inl ⟨by rfl, by intro w hSw; obtain ⟨y0, y1, -, -⟩ := HYC4.out _ hSw; obtain ⟨x0, x1, -, -⟩ := HXC.out _ hSw; (go_simp <;> with_reducible rfl)⟩) (by assumption) ?_)
                                | (refine wpAnyH_take (i := 20) rfl (by kernel_rfl) (by kernel_rfl) (by kernel_rfl) (fun _ _ _ h => h) (Or.inr ⟨by rfl, rfl⟩) (by assumption) ?_)
                              (try simp only [Act.put, List.setIfInBounds_toArray, List.set_cons_zero, List.set_cons_succ, List.getElem_toArray, List.getElem_cons_zero, List.getElem_cons_succ])
                              first
                                | (refine wpAnyH_take (i := 21) rfl (by kernel_rfl) (by kernel_rfl) (by kernel_rfl) (fun _ _ _ h => h) (Or.inl ⟨by rfl, by intro w hSw; obtain ⟨y0, y1, -, -⟩ := HYC4.out _ hSw; obtain ⟨x0, x1, -, -⟩ := HXC.out _ hSw; (go_simp <;> with_reducible rfl)⟩) (by assumption) ?_)
                                | (refine wpAnyH_take (i := 21) rfl (by kernel_rfl) (by kernel_rfl) (by kernel_rfl) (fun _ _ _ h => h) (Or.inr ⟨by rfl, rfl⟩) (by assumption) ?_)
                              (try simp only [Act.put, List.setIfInBounds_toArray, List.set_cons_zero, List.set_cons_succ, List.getElem_toArray, List.getElem_cons_zero, List.getElem_cons_succ])
                              first
                                | (refine wpAnyH_take (i := 22) rfl (by kernel_rfl) (by kernel_rfl) (by kernel_rfl) (fun _ _ _ h => h) (Or.inl ⟨by rfl, by intro w hSw; obtain ⟨y0, y1, -, -⟩ := HYC4.out _ hSw; obtain ⟨x0, x1, -, -⟩ := HXC.out _ hSw; (go_simp <;> with_reducible rfl)⟩) (by assumption) ?_)
                                | (refine wpAnyH_take (i := 22) rfl (by kernel_rfl) (by kernel_rfl) (by kernel_rfl) (fun _ _ _ h => h) (Or.inr ⟨by rfl, rfl⟩) (by assumption) ?_)
                              (try simp only [Act.put, List.setIfInBounds_toArray, List.set_cons_zero, List.set_cons_succ, List.getElem_toArray, List.getElem_cons_zero, List.getElem_cons_succ])
                              first
                                | (refine wpAnyH_take (i := 23) rfl (by kernel_rfl) (by kernel_rfl) (by kernel_rfl) (fun _ _ _ h => h) (Or.inl ⟨by rfl, by intro w hSw; obtain ⟨y0, y1, -, -⟩ := HYC4.out _ hSw; obtain ⟨x0, x1, -, -⟩ := HXC.out _ hSw; (go_simp <;> with_reducible rfl)⟩) (by assumption) ?_)
                                | (refine wpAnyH_take (i := 23) rfl (by kernel_rfl) (by kernel_rfl) (by kernel_rfl) (fun _ _ _ h => h) (Or.inr ⟨by rfl, rfl⟩) (by assumption) ?_)
                              (try simp only [Act.put, List.setIfInBounds_toArray, List.set_cons_zero, List.set_cons_succ, List.getElem_toArray, List.getElem_cons_zero, List.getElem_cons_succ])
                              first
                                | (refine wpAnyH_take (i := 24) rfl (by kernel_rfl) (by kernel_rfl) (by kernel_rfl) (fun _ _ _ h => h) (Or.inl ⟨by rfl, by intro w hSw; obtain ⟨y0, y1, -, -⟩ := HYC4.out _ hSw; obtain ⟨x0, x1, -, -⟩ := HXC.out _ hSw; (go_simp <;> with_reducible rfl)⟩) (by assumption) ?_)
                                | (refine wpAnyH_take (i := 24) rfl (by kernel_rfl) (by kernel_rfl) (by kernel_rfl) (fun _ _ _ h => h) (Or.inr ⟨by rfl, rfl⟩) (by assumption) ?_)
                              (try simp only [Act.put, List.setIfInBounds_toArray, List.set_cons_zero, List.set_cons_succ, List.getElem_toArray, List.getElem_cons_zero, List.getElem_cons_succ])
                              first
                                | (refine wpAnyH_take (i := 25) rfl (by kernel_rfl) (by kernel_rfl) (by kernel_rfl) (fun _ _ _ h => h) (Or.inl ⟨by rfl, by intro w hSw; obtain ⟨y0, y1, -, -⟩ := HYC4.out _ hSw; obtain ⟨x0, x1, -, -⟩ := HXC.out _ hSw; (go_simp <;> with_reducible rfl)⟩) (by assumption) ?_)
                                | (refine wpAnyH_take (i := 25) rfl (by kernel_rfl) (by kernel_rfl) (by kernel_rfl) (fun _ _ _ h => h) (Or.inr ⟨by rfl, rfl⟩) (by assumption) ?_)
                              (try simp only [Act.put, List.setIfInBounds_toArray, List.set_cons_zero, List.set_cons_succ, List.getElem_toArray, List.getElem_cons_zero, List.getElem_cons_succ])
                              first
                                | (refine wpAnyH_take (i := 26) rfl (by kernel_rfl) (by kernel_rfl) (by kernel_rfl) (fun _ _ _ h => h) (Or.inl ⟨by rfl, by intro w hSw; obtain ⟨y0, y1, -, -⟩ := HYC4.out _ hSw; obtain ⟨x0, x1, -, -⟩ := HXC.out _ hSw; (go_simp <;> with_reducible rfl)⟩) (by assumption) ?_)
                                | (refine wpAnyH_take (i := 26) rfl (by kernel_rfl) (by kernel_rfl) (by kernel_rfl) (fun _ _ _ h => h) (Or.inr ⟨by rfl, rfl⟩) (by assumption) ?_)
                              (try simp only [Act.put, List.setIfInBounds_toArray, List.set_cons_zero, List.set_cons_succ, List.getElem_toArray, List.getElem_cons_zero, List.getElem_cons_succ])
                              first
                                | (refine wpAnyH_take (i := 27) rfl (by kernel_rfl) (by kernel_rfl) (by kernel_rfl) (fun _ _ _ h => h) (Or.inl ⟨by rfl, by intro w hSw; obtain ⟨y0, y1, -, -⟩ := HYC4.out _ hSw; obtain ⟨x0, x1, -, -⟩ := HXC.out _ hSw; (go_simp <;> with_reducible rfl)⟩) (by assumption) ?_)
                                | (refine wpAnyH_take (i := 27) rfl (by kernel_rfl) (by kernel_rfl) (by kernel_rfl) (fun _ _ _ h => h) (Or.inr ⟨by rfl, rfl⟩) (by assumption) ?_)
                              (try simp only [Act.put, List.setIfInBounds_toArray, List.set_cons_zero, List.set_cons_succ, List.getElem_toArray, List.getElem_cons_zero, List.getElem_cons_succ])
                              first
                                | (refine wpAnyH_take (i := 28) rfl (by kernel_rfl) (by kernel_rfl) (by kernel_rfl) (fun _ _ _ h => h) (Or.inl ⟨by rfl, by intro w hSw; obtain ⟨y0, y1, -, -⟩ := HYC4.out _ hSw; obtain ⟨x0, x1, -, -⟩ := HXC.out _ hSw; (go_simp <;> with_reducible rfl)⟩) (by assumption) ?_)
                                | (refine wpAnyH_take (i := 28) rfl (by kernel_rfl) (by kernel_rfl) (by kernel_rfl) (fun _ _ _ h => h) (Or.inr ⟨by rfl, rfl⟩) (by assumption) ?_)
                              (try simp only [Act.put, List.setIfInBounds_toArray, List.set_cons_zero, List.set_cons_succ, List.getElem_toArray, List.getElem_cons_zero, List.getElem_cons_succ])
                              first
                                | (refine wpAnyH_take (i := 29) rfl (by kernel_rfl) (by kernel_rfl) (by kernel_rfl) (fun _ _ _ h => h) (Or.inl ⟨by rfl, by intro w hSw; obtain ⟨y0, y1, -, -⟩ := HYC4.out _ hSw; obtain ⟨x0, x1, -, -⟩ := HXC.out _ hSw; (go_simp <;> with_reducible rfl)⟩) (by assumption) ?_)
                                | (refine wpAnyH_take (i := 29) rfl (by kernel_rfl) (by kernel_rfl) (by kernel_rfl) (fun _ _ _ h => h) (Or.inr ⟨by rfl, rfl⟩) (by assumption) ?_)
                              (try simp only [Act.put, List.setIfInBounds_toArray, List.set_cons_zero, List.set_cons_succ, List.getElem_toArray, List.getElem_cons_zero, List.getElem_cons_succ])
                              first
                                | (refine wpAnyH_take (i := 30) rfl (by kernel_rfl) (by kernel_rfl) (by kernel_rfl) (fun _ _ _ h => h) (Or.inl ⟨by rfl, by intro w hSw; obtain ⟨y0, y1, -, -⟩ := HYC4.out _ hSw; obtain ⟨x0, x1, -, -⟩ := HXC.out _ hSw; (go_simp <;> with_reducible rfl)⟩) (by assumption) ?_)
                                | (refine wpAnyH_take (i := 30) rfl (by kernel_rfl) (by kernel_rfl) (by kernel_rfl) (fun _ _ _ h => h) (Or.inr ⟨by rfl, rfl⟩) (by assumption) ?_)
                              (try simp only [Act.put, List.setIfInBounds_toArray, List.set_cons_zero, List.set_cons_succ, List.getElem_toArray, List.getElem_cons_zero, List.getElem_cons_succ])
                              first
                                | (refine wpAnyH_take (i := 31) rfl (by kernel_rfl) (by kernel_rfl) (by kernel_rfl) (fun _ _ _ h => h) (Or.inl ⟨by rfl, by intro w hSw; obtain ⟨y0, y1, -, -⟩ := HYC4.out _ hSw; obtain ⟨x0, x1, -, -⟩ := HXC.out _ hSw; (go_simp <;> with_reducible rfl)⟩) (by assumption) ?_)
                                | (refine wpAnyH_take (i := 31) rfl (by kernel_rfl) (by kernel_rfl) (by kernel_rfl) (fun _ _ _ h => h) (Or.inr ⟨by rfl, rfl⟩) (by assumption) ?_)
                              (try simp only [Act.put, List.setIfInBounds_toArray, List.set_cons_zero, List.set_cons_succ, List.getElem_toArray, List.getElem_cons_zero, List.getElem_cons_succ])
                              first
                                | (refine wpAnyH_take (i := 32) rfl (by kernel_rfl) (by kernel_rfl) (by kernel_rfl) (fun _ _ _ h => h) (Or.inl ⟨by rfl, by intro w hSw; obtain ⟨y0, y1, -, -⟩ := HYC4.out _ hSw; obtain ⟨x0, x1, -, -⟩ := HXC.out _ hSw; (go_simp <;> with_reducible rfl)⟩) (by assumption) ?_)
                                | (refine wpAnyH_take (i := 32) rfl (by kernel_rfl) (by kernel_rfl) (by kernel_rfl) (fun _ _ _ h => h) (Or.inr ⟨by rfl, rfl⟩) (by assumption) ?_)
                              (try simp only [Act.put, List.setIfInBounds_toArray, List.set_cons_zero, List.set_cons_succ, List.getElem_toArray, List.getElem_cons_zero, List.getElem_cons_succ])
                              first
                                | (refine wpAnyH_take (i := 33) rfl (by kernel_rfl) (by kernel_rfl) (by kernel_rfl) (fun _ _ _ h => h) (Or.inl ⟨by rfl, by intro w hSw; obtain ⟨y0, y1, -, -⟩ := HYC4.out _ hSw; obtain ⟨x0, x1, -, -⟩ := HXC.out _ hSw; (go_simp <;> with_reducible rfl)⟩) (by assumption) ?_)
                                | (refine wpAnyH_take (i := 33) rfl (by kernel_rfl) (by kernel_rfl) (by kernel_rfl) (fun _ _ _ h => h) (Or.inr ⟨by rfl, rfl⟩) (by assumption) ?_)
                              (try simp only [Act.put, List.setIfInBounds_toArray, List.set_cons_zero, List.set_cons_succ, List.getElem_toArray, List.getElem_cons_zero, List.getElem_cons_succ])
                              first
                                | (refine wpAnyH_take (i := 34) rfl (by kernel_rfl) (by kernel_rfl) (by kernel_rfl) (fun _ _ _ h => h) (Or.inl ⟨by rfl, by intro w hSw; obtain ⟨y0, y1, -, -⟩ := HYC4.out _ hSw; obtain ⟨x0, x1, -, -⟩ := HXC.out _ hSw; (go_simp <;> with_reducible rfl)⟩) (by assumption) ?_)
                                | (refine wpAnyH_take (i := 34) rfl (by kernel_rfl) (by kernel_rfl) (by kernel_rfl) (fun _ _ _ h => h) (Or.inr ⟨by rfl, rfl⟩) (by assumption) ?_)
                              (try simp only [Act.put, List.setIfInBounds_toArray, List.set_cons_zero, List.set_cons_succ, List.getElem_toArray, List.getElem_cons_zero, List.getElem_cons_succ])
                              first
                                | (refine wpAnyH_take (i := 35) rfl (by kernel_rfl) (by kernel_rfl) (by kernel_rfl) (fun _ _ _ h => h) (Or.inl ⟨by rfl, by intro w hSw; obtain ⟨y0, y1, -, -⟩ := HYC4.out _ hSw; obtain ⟨x0, x1, -, -⟩ := HXC.out _ hSw; (go_simp <;> with_reducible rfl)⟩) (by assumption) ?_)
                                | (refine wpAnyH_take (i := 35) rfl (by kernel_rfl) (by kernel_rfl) (by kernel_rfl) (fun _ _ _ h => h) (Or.inr ⟨by rfl, rfl⟩) (by assumption) ?_)
                              (try simp only [Act.put, List.setIfInBounds_toArray, List.set_cons_zero, List.set_cons_succ, List.getElem_toArray, List.getElem_cons_zero, List.getElem_cons_succ])
                              first
                                | (refine wpAnyH_take (i := 36) rfl (by kernel_rfl) (by kernel_rfl) (by kernel_rfl) (fun _ _ _ h => h) (Or.inl ⟨by rfl, by intro w hSw; obtain ⟨y0, y1, -, -⟩ := HYC4.out _ hSw; obtain ⟨x0, x1, -, -⟩ := HXC.out _ hSw; (go_simp <;> with_reducible rfl)⟩) (by assumption) ?_)
                                | (refine wpAnyH_take (i := 36) rfl (by kernel_rfl) (by kernel_rfl) (by kernel_rfl) (fun _ _ _ h => h) (Or.inr ⟨by rfl, rfl⟩) (by assumption) ?_)
                              (try simp only [Act.put, List.setIfInBounds_toArray, List.set_cons_zero, List.set_cons_succ, List.getElem_toArray, List.getElem_cons_zero, List.getElem_cons_succ])
                              first
                                | (refine wpAnyH_take (i := 37) rfl (by kernel_rfl) (by kernel_rfl) (by kernel_rfl) (fun _ _ _ h => h) (Or.inl ⟨by rfl, by intro w hSw; obtain ⟨y0, y1, -, -⟩ := HYC4.out _ hSw; obtain ⟨x0, x1, -, -⟩ := HXC.out _ hSw; (go_simp <;> with_reducible rfl)⟩) (by assumption) ?_)
                                | (refine wpAnyH_take (i := 37) rfl (by kernel_rfl) (by kernel_rfl) (by kernel_rfl) (fun _ _ _ h => h) (Or.inr ⟨by rfl, rfl⟩) (by assumption) ?_)
                              (try simp only [Act.put, List.setIfInBounds_toArray, List.set_cons_zero, List.set_cons_succ, List.getElem_toArray, List.getElem_cons_zero, List.getElem_cons_succ])
                              first
                                | (refine wpAnyH_take (i := 38) rfl (by kernel_rfl) (by kernel_rfl) (by kernel_rfl) (fun _ _ _ h => h) (Or.inl ⟨by rfl, by intro w hSw; obtain ⟨y0, y1, -, -⟩ := HYC4.out _ hSw; obtain ⟨x0, x1, -, -⟩ := HXC.out _ hSw; (go_simp <;> with_reducible rfl)⟩) (by assumption) ?_)
                                | (refine wpAnyH_take (i := 38) rfl (by kernel_rfl) (by kernel_rfl) (by kernel_rfl) (fun _ _ _ h => h) (Or.inr ⟨by rfl, rfl⟩) (by assumption) ?_)
                              (try simp only [Act.put, List.setIfInBounds_toArray, List.set_cons_zero, List.set_cons_succ, List.getElem_toArray, List.getElem_cons_zero, List.getElem_cons_succ])
                              first
                                | (refine wpAnyH_take (i := 39) rfl (by kernel_rfl) (by kernel_rfl) (by kernel_rfl) (fun _ _ _ h => h) (Or.inl ⟨by rfl, by intro w hSw; obtain ⟨y0, y1, -, -⟩ := HYC4.out _ hSw; obtain ⟨x0, x1, -, -⟩ := HXC.out _ hSw; (go_simp <;> with_reducible rfl)⟩) (by assumption) ?_)
                                | (refine wpAnyH_take (i := 39) rfl (by kernel_rfl) (by kernel_rfl) (by kernel_rfl) (fun _ _ _ h => h) (Or.inr ⟨by rfl, rfl⟩) (by assumption) ?_)
                              (try simp only [Act.put, List.setIfInBounds_toArray, List.set_cons_zero, List.set_cons_succ, List.getElem_toArray, List.getElem_cons_zero, List.getElem_cons_succ])
                              first
                                | (refine wpAnyH_take (i := 40) rfl (by kernel_rfl) (by kernel_rfl) (by kernel_rfl) (fun _ _ _ h => h) (Or.inl ⟨by rfl, by intro w hSw; obtain ⟨y0, y1, -, -⟩ := HYC4.out _ hSw; obtain ⟨x0, x1, -, -⟩ := HXC.out _ hSw; (go_simp <;> with_reducible rfl)⟩) (by assumption) ?_)
                                | (refine wpAnyH_take (i := 40) rfl (by kernel_rfl) (by kernel_rfl) (by kernel_rfl) (fun _ _ _ h => h) (Or.inr ⟨by rfl, rfl⟩) (by assumption) ?_)
                              (try simp only [Act.put, List.setIfInBounds_toArray, List.set_cons_zero, List.set_cons_succ, List.getElem_toArray, List.getElem_cons_zero, List.getElem_cons_succ])
                              refine wpAnyH_done (by kernel_rfl) ?_ _
                              clear hHeld
                              go_wp2
                              go_roundw
                              case rel => exact ⟨k + 1, (j : Int), by have := HKL.out; omega, rfl, by go_num, HK1, HB4.out.drew⟩
                              case measure => have := HKL.out; simp [intOf]; omega
                    · have hkk : k = L.length := by omega
                      rw [hkk] at HBE
                      have hb0 := HG.out.found HONE.out HPOS.out HLT.out HBE.out
                      obtain ⟨j, hj⟩ := Int.eq_ofNat_of_zero_le hb0
                      obtain ⟨x, hj1, hx, -, -⟩ := HBE.out.some hb0
                      subst hj
                      rw [Int.toNat_natCast] at hj1 hx
                      obtain ⟨b9, o9, x9, rfl, -, hx9, hxc9⟩ := HTLW.out.at_ hj1
                      rw [hx] at hx9
                      injection hx9 with hx9
                      subst hx9
                      obtain ⟨hg2, -⟩ := HG.out.next hx HBE.out
                      have HG2 := Lib.hid hg2
                      obtain ⟨c0, c1, c2, c3⟩ := tc_cells (hxc9 _ (Below.refl _ _))
                      have HXL := Lib.hid (show o.length ≤ 240 by have := HLT.out; omega)
                      have hj0 : (0 : Int) ≤ (j : Int) := by omega
                      have hjz : (j : Int) < (L.length : Int) := by omega
                      have howng := HO.out.keptB HBW.out
                      have hbg := HBR.out.trans (HBW.out.mono HBR.out.size)
                      clear hx hxc9 hj1 hb0 hkk hg2 hk
                      go_wp2_with (at_builtin; refine wpList_append_off _ rfl _ _ 30 rfl (wp.heap.size) 39 z0 (.agg #[.int .i64 0, .int .i64 0, .int .i64 0, .int .i64 0]) 4 32 Try.underlying30 hz0 hz1 hz2 hz3 rfl (by decide) _ _ _ rfl (howng.keptB ((Below.refl _ _).alloc (Nat.le_refl _) _)) ⟨wr.heap.size, 0, none⟩ 1 1 (tc x) rfl rfl (news_blk (heap_alloc_new wr _)) (tcell_ones _) (by have := HXL.out; unfold maxLen; omega) (by have := HXL.out; omega) (by have := hbg.size; simp; omega) ?_)
                      intro v2 w8 hown8 hgr8 _
                      have HB8 := Lib.hid ((hbg.alloc hbg.size _).grown hgr8 (by have := hbg.size; simp; omega) (fun i e => (howng.lt i e).1))
                      obtain ⟨a8, c8, rfl, -, -⟩ := hown8.slice
                      have H8 : Hid (OwnsOff w8 wp.heap.size 39 4 (.slice a8 (o.length + 1) c8) (o ++ [x]).length (tcs (o ++ [x]))) := Lib.hid (by rw [List.length_append, tcs_app, tcs_one]; exact hown8)
                      clear hown8 hgr8 howng hbg c0 c1 c2 c3
                      go_wp2
                      go_roundw
                      case rel => exact ⟨o ++ [x], HG2.out, H8.out, HB8.out⟩
                      case measure => have := HLT.out; simp; omega
                · have hoe : o = ordS L := HG.out.done (by omega)
                  have HOE := Lib.hid (show o = witS l b by rw [hoe, HWS.out])
                  have hgn : ¬ (o.length : Int) < (L.length : Int) := by omega
                  have hgd : decide ((o.length : Int) < (L.length : Int)) = false := decide_eq_false hgn
                  clear hoe hol hlt
                  go_wp2
                  go_ret
                  exact ⟨_, rfl, by rw [← HOE.out]; exact (HO.out.mono HB3.out.size), HB3.out.trans (HBR.out.mono HB3.out.size)⟩
end Go.Proofs.Ytmonneeikkgllaa
