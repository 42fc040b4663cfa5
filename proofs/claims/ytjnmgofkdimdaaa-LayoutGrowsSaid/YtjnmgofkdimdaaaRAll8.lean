/- The document's All, as a contract. No condition but those in the statements. -/
import Derived.Test.YtjnmgofkdimdaaaRPriv
import Derived.BigQuiet
import Derived.IntWalk
import Derived.BigRegion
import Derived.Deep.RegionHeld3
import Derived.Deep.RegionLaw
import Derived.Deep.RegionLawGrows
namespace Go.Proofs.Ytjnmgofkdimdaaa
open Go.RowKit Go.Sort Go.ChangeShapes Go.WideShapes
set_option linter.unusedVariables false
set_option linter.unusedSimpArgs false

theorem step_append_off {P : Program} {ops : Array Oper} {o : Oper} {a : Act} {w : World} {K : Act → World → Prop} {Q : Exit → Act → World → Prop} {E : Prop} (hgd : o.guard = none) (s x : Operand) (t : TypeId)
    (ho : o.op = .call { callee := .builtin .append, args := #[s, x], argTypes := #[t, t] })
    (base : Nat) (e : TypeId) (i : TypeInfo) (z : Value) (size bytes : Nat) (ht : P.underlying t = some (.slice e)) (hi : P.info? e = some i) (hz : i.zero = some z)
    (hsize : i.size = size) (hby : i.bytes = bytes) (hzs : z.cells.size = size) (hsz : 0 < size)
    (v : Value) (n : Nat) (xs : List Value) (hs : a.eval s = v) (hown : OwnsOff w base e size v n xs)
    (ad : Addr) (m c : Nat) (news : List Value) (hx : a.eval x = .slice (some ad) m c) (hl : news.length = m * size) (hnews : ∀ j u, news[j]? = some u → w.cell? (ad.add j) = some u) (h1 : ∀ u ∈ news, u.oneCell' = true)
    (h63 : n + m ≤ maxLen) (hbytes : (n + m) * bytes ≤ 140737488355328) (hbase : base ≤ w.heap.size)
    (h : ∀ v' w', OwnsOff w' base e size v' (n + m) (xs ++ news) → w.grownBy w' v.ownBlock → (∀ g, v'.ownBlock = some g → v.ownBlock = some g ∨ w.heap.size ≤ g) → K (a.put o.dst v') w') :
    if Region.wanted o (yielded ops a.tmps) = true then Oper.wp P o a w K Q else E := by
  have hw : Region.wanted o (yielded ops a.tmps) = true := by simp [Region.wanted, hgd]
  rw [if_pos hw]
  obtain ⟨v', w', hrun, r1, r2, r3⟩ := run_append_off (P := P) w base t o.type e i z size bytes ht hi hz hsize hby hzs hsz v n xs hown ad m c news hl hnews h1 h63 hbytes hbase
  unfold Oper.wp
  simp [execOp, ho, resolve, invoke, builtin, hs, hx, hrun, Result.andThen]
  exact h v' w' r1 r2 r3

/-- The cells to be appended, out of a block that is known whole. -/
theorem news_block {w : World} {B : Nat} {cs : Array Value} {t : TypeId} {fr : Nat × Nat} (hb : w.heap[B]? = some (.cells cs t fr)) : ∀ j u, cs.toList[j]? = some u → w.cell? ((⟨B, 0, none⟩ : Addr).add j) = some u := fun j u hu => by
  rw [Addr.add_lit, Nat.zero_add]
  simp [World.cell?, hb]
  simpa using hu

theorem news_new' (w : World) (cs : Array Value) (t : TypeId) : ∀ j u, cs.toList[j]? = some u → (w.alloc (.cells cs t)).cell? ((⟨w.heap.size, 0, none⟩ : Addr).add j) = some u := fun j u hu => by
  rw [Addr.add_lit, Nat.zero_add]
  exact cell_blk (heap_alloc_new w _) (by simpa using hu)
theorem Try.infoSp : (Try.prog.info? 36).map (fun i => (i.zero, i.size, i.bytes)) = some (some (.agg #[.int .i64 0, .int .i64 0]), 2, 16) := by kernel_rfl
def pair (x : Int × Int) : List Int := [x.1, x.2]
/-- The private spans of the first n partitions; the spans of the first n channels. -/
def privL (c : Cfg) (n : Nat) : List (List Int) := (List.range n).map (fun p : Nat => pair (privSpan c (p : Int)))
def chanL (c : Cfg) : Nat → List (List Int)
  | 0 => []
  | n + 1 => chanL c n ++ [pair (srcSpan c (n : Int)), pair (dstSpan c (n : Int))]
/-- All spans of a configuration. -/
def spansL (c : Cfg) : List (List Int) := if acceptsB c = true then privL c c.parts.length ++ chanL c c.chans.length else []
theorem privL_succ (c : Cfg) (n : Nat) : privL c (n + 1) = privL c n ++ [pair (privSpan c (n : Int))] := by simp [privL, List.range_succ]
theorem privL_len (c : Cfg) (n : Nat) : (privL c n).length = n := by simp [privL]
theorem chanL_len (c : Cfg) : ∀ n, (chanL c n).length = 2 * n
  | 0 => rfl
  | n + 1 => by
    show (chanL c n ++ _).length = _
    rw [List.length_append, chanL_len c n]
    simp
    omega
set_option maxRecDepth 100000 in
set_option maxHeartbeats 8000000 in
theorem rall8_b (c : Cfg) (x : CfgAt) (w : World) (hx : CfgIn w w.heap.size c x) (wx : CfgWf c) (lx : CfgFew c) : Calls Try.prog 10 #[.agg (cfgCells c x)] w fun e w' => ∃ v, e = .returned v ∧ OwnsOff w' w.heap.size 36 2 v (spansL c).length (rcells [.i64, .i64] (spansL c)) ∧ Below w.heap.size w w' := by
  obtain ⟨W, HW, hB, -, bx⟩ := one_cbox w c x 29
  obtain ⟨i0, hi0, hz0, hz1, hz2⟩ := info_parts Try.infoSp
  have hx := hx.later hB
  have HB := Lib.hid hB; have HXW := Lib.hid hx
  obtain ⟨c0, c1, c2, c3, c4, c5⟩ := bx _ (Below.refl _ _)
  cases hq : acceptsB c with
  | false =>
    have HX := Lib.hid (show spansL c = [] from if_neg (by rw [hq]; decide))
    have HA := Lib.hid (racc_b c x false W hx wx lx hq)
    simp only [cfgCells] at HA ⊢
    clear hq hB hx
    go_enter Try.func10, Try.ntmps10
    go_wp2_with (rw [← HW.out])
    refine HA.out.mono ?_
    rintro e w5 ⟨rfl, hb5⟩
    have HF := Lib.hid (HB.out.trans (hb5.mono HB.out.size))
    clear hb5
    go_wp2
    go_ret
    exact ⟨_, rfl, by rw [HX.out]; exact OwnsOff.nil _ _ _ _, HF.out⟩
  | true =>
    have HX := Lib.hid (show spansL c = privL c c.parts.length ++ chanL c c.chans.length from if_pos hq)
    have HA := Lib.hid (racc_b c x true W hx wx lx hq)
    have hac := accd_of hq
    have hp6 : c.parts.length ≤ 6 := hac.parts.2
    have hc8 : c.chans.length ≤ 8 := hac.chans
    have HP := Lib.hid (show ∀ (p : Int) W', Below W.heap.size W W' → Calls Try.prog 14 #[.agg (cfgCells c x), .int .i64 p] W' (fun e w' => e = .returned (.agg #[.int .i64 (privSpan c p).1, .int .i64 (privSpan c p).2]) ∧ Below W'.heap.size W' w') from fun p W' hb => rprivate_b c x p W' (HXW.out.later hb) wx lx)
    have HS := Lib.hid (show ∀ (k : Int) W', Below W.heap.size W W' → Calls Try.prog 16 #[.agg (cfgCells c x), .int .i64 k] W' (fun e w' => e = .returned (.agg #[.int .i64 (srcSpan c k).1, .int .i64 (srcSpan c k).2]) ∧ Below W'.heap.size W' w') from fun k W' hb => rsource_b c x k W' (HXW.out.later hb) wx lx)
    have HD := Lib.hid (show ∀ (k : Int) W', Below W.heap.size W W' → Calls Try.prog 18 #[.agg (cfgCells c x), .int .i64 k] W' (fun e w' => e = .returned (.agg #[.int .i64 (dstSpan c k).1, .int .i64 (dstSpan c k).2]) ∧ Below W'.heap.size W' w') from fun k W' hb => rdest_b c x k W' (HXW.out.later hb) wx lx)
    simp only [cfgCells] at HA HP HS HD ⊢
    clear hq hB hx hac
    go_enter Try.func10, Try.ntmps10
    go_wp2_with (rw [← HW.out])
    refine HA.out.mono ?_
    rintro e w5 ⟨rfl, hb5⟩
    have HB5 := Lib.hid hb5
    clear hb5 c0 c1 c2 c3 c4 c5
    go_wp2
    go_loopw [3, 4] (fun v ix wr => ∃ i : Nat, i ≤ c.parts.length ∧ ix = .int .i64 i ∧ OwnsOff wr W.heap.size 36 2 v i (rcells [.i64, .i64] (privL c i)) ∧ Below W.heap.size W wr) (fun _ ix _ => c.parts.length - (intOf ix).toNat)
    case atStart => exact ⟨0, Nat.zero_le _, rfl, OwnsOff.nil _ _ _ _, HB5.out⟩
    case round =>
      obtain ⟨i, hi, rfl, hown, hB⟩ := hrel
      obtain ⟨c0, c1, c2, c3, c4, c5⟩ := bx _ hB
      by_cases hlt : i < c.parts.length
      · have HN := Lib.hid (privL_succ c i)
        obtain ⟨ls, hls⟩ : ∃ ls, privL c i = ls := ⟨_, rfl⟩
        rw [hls] at hown HN
        have hcall := HP.out (i : Int) wr hB
        obtain ⟨y0, hy0⟩ : ∃ y0, (privSpan c (i : Int)).1 = y0 := ⟨_, rfl⟩
        obtain ⟨y1, hy1⟩ : ∃ y1, (privSpan c (i : Int)).2 = y1 := ⟨_, rfl⟩
        rw [hy0, hy1] at hcall
        have HP1 := Lib.hid (show pair (privSpan c (i : Int)) = [y0, y1] by rw [← hy0, ← hy1]; rfl)
        have HCL := Lib.hid hcall
        clear hls hcall hy0 hy1
        go_wp2_with fail
        refine HCL.out.mono ?_
        rintro e w6 ⟨rfl, hl⟩
        have hown6 := hown.keptB hl
        have hB6 := hB.trans (hl.mono hB.size)
        clear hown hB hl c0 c1 c2 c3 c4 c5
        go_wp2_with (at_builtin; refine wpList_append_off _ rfl _ _ 32 rfl W.heap.size 36 i0 (.agg #[.int .i64 0, .int .i64 0]) 2 16 Try.underlying32 hi0 hz0 hz1 hz2 rfl (by decide) _ _ _ rfl (hown6.keptB ((Below.refl _ _).alloc (Nat.le_refl _) _)) ⟨w6.heap.size, 0, none⟩ 1 1 [.int .i64 y0, .int .i64 y1] rfl rfl (news_new' _ _ _) (by simp [Value.oneCell']) (by unfold maxLen; omega) (by omega) (by have := hB6.size; simp; omega) ?_)
        intro v' w7 hown' hgr _
        have HB7 := Lib.hid ((hB6.alloc hB6.size (.cells #[.int .i64 y0, .int .i64 y1] 36)).grown hgr (by have := hB6.size; simp; omega) (fun g e => (hown6.lt g e).1))
        have HW7 := Lib.hid (show OwnsOff w7 W.heap.size 36 2 v' (i + 1) (rcells [.i64, .i64] (ls ++ [[y0, y1]])) by rw [rcells_app]; exact hown')
        clear hown' hgr hown6 hB6
        go_wp2
        go_roundw
        case rel => exact ⟨i + 1, by omega, by go_num, by rw [HN.out, HP1.out]; exact HW7.out, HB7.out⟩
        case measure => simp [intOf]; omega
      · have hii : i = c.parts.length := by omega
        subst hii
        have hbd := hB
        have HOW := Lib.hid hown
        clear hown hB
        go_wp2
        clear c0 c1 c2 c3 c4 c5
        go_loopw [3, 5] (fun v ix wv => ∃ j : Nat, j ≤ c.chans.length ∧ ix = .int .i64 j ∧ OwnsOff wv W.heap.size 36 2 v (c.parts.length + 2 * j) (rcells [.i64, .i64] (privL c c.parts.length ++ chanL c j)) ∧ Below W.heap.size W wv) (fun _ ix _ => c.chans.length - (intOf ix).toNat)
        case atStart => exact ⟨0, Nat.zero_le _, rfl, by simpa [chanL] using HOW.out, hbd⟩
        case round =>
          clear hbd
          obtain ⟨j, hj, rfl, hown, hB⟩ := hrel
          obtain ⟨c0, c1, c2, c3, c4, c5⟩ := bx _ hB
          by_cases hlt : j < c.chans.length
          · have HN := Lib.hid (show privL c c.parts.length ++ chanL c (j + 1) = (privL c c.parts.length ++ chanL c j) ++ [pair (srcSpan c (j : Int)), pair (dstSpan c (j : Int))] by rw [List.append_assoc]; rfl)
            obtain ⟨ls, hls⟩ : ∃ ls, privL c c.parts.length ++ chanL c j = ls := ⟨_, rfl⟩
            rw [hls] at hown HN
            have hcs := fun W' hb => HS.out (j : Int) W' hb
            have hcd := fun W' hb => HD.out (j : Int) W' hb
            obtain ⟨y0, hy0⟩ : ∃ y0, (srcSpan c (j : Int)).1 = y0 := ⟨_, rfl⟩
            obtain ⟨y1, hy1⟩ : ∃ y1, (srcSpan c (j : Int)).2 = y1 := ⟨_, rfl⟩
            obtain ⟨z0, hz0'⟩ : ∃ z0, (dstSpan c (j : Int)).1 = z0 := ⟨_, rfl⟩
            obtain ⟨z1, hz1'⟩ : ∃ z1, (dstSpan c (j : Int)).2 = z1 := ⟨_, rfl⟩
            simp only [hy0, hy1] at hcs
            simp only [hz0', hz1'] at hcd
            have HP1 := Lib.hid (show pair (srcSpan c (j : Int)) = [y0, y1] by rw [← hy0, ← hy1]; rfl)
            have HP2 := Lib.hid (show pair (dstSpan c (j : Int)) = [z0, z1] by rw [← hz0', ← hz1']; rfl)
            have HCS := Lib.hid hcs; have HCD := Lib.hid hcd
            obtain ⟨n, hn⟩ : ∃ n, c.parts.length + 2 * j = n := ⟨_, rfl⟩
            rw [hn] at hown
            have hn30 : n ≤ 30 := by omega
            have HNN := Lib.hid hn
            obtain ⟨A', c', rfl, hvl, hvm⟩ := hown.slice
            clear hls hcs hcd hy0 hy1 hz0' hz1' hn
            go_wp2_with (fail)
            clear c0 c1 c2 c3 c4 c5
            refine wp_region_held_drew (S := fun W' => Below W.heap.size W W') (by kernel_rfl) (hB.drew) (fun hHeld => ?_)
            refine wpAnyH_take (i := 0) rfl (by kernel_rfl) (by kernel_rfl) (by kernel_rfl) (fun _ _ _ h => h) (Or.inl ⟨by rfl, by intro w hSw; (obtain ⟨c0, c1, c2, c3, c4, c5⟩ := bx _ hSw); (go_simp <;> with_reducible rfl)⟩) (by assumption) ?_
            (try simp only [Act.put, List.setIfInBounds_toArray, List.set_cons_zero, List.set_cons_succ, List.getElem_toArray, List.getElem_cons_zero, List.getElem_cons_succ])
            refine wpAnyH_take (i := 1) rfl (by kernel_rfl) (by kernel_rfl) (by kernel_rfl) (fun _ _ _ h => h) (Or.inl ⟨by rfl, by intro w hSw; (obtain ⟨c0, c1, c2, c3, c4, c5⟩ := bx _ hSw); (go_simp <;> with_reducible rfl)⟩) (by assumption) ?_
            (try simp only [Act.put, List.setIfInBounds_toArray, List.set_cons_zero, List.set_cons_succ, List.getElem_toArray, List.getElem_cons_zero, List.getElem_cons_succ])
            refine wpAnyH_take (i := 2) rfl (by kernel_rfl) (by kernel_rfl) (by kernel_rfl) (fun _ _ _ h => h) (Or.inl ⟨by rfl, by intro w hSw; (obtain ⟨c0, c1, c2, c3, c4, c5⟩ := bx _ hSw); (go_simp <;> with_reducible rfl)⟩) (by assumption) ?_
            (try simp only [Act.put, List.setIfInBounds_toArray, List.set_cons_zero, List.set_cons_succ, List.getElem_toArray, List.getElem_cons_zero, List.getElem_cons_succ])
            refine wpAnyH_take (i := 4) rfl (by kernel_rfl) (by kernel_rfl) (by kernel_rfl) (fun _ _ _ h => h) (Or.inl ⟨by rfl, by intro w hSw; (obtain ⟨c0, c1, c2, c3, c4, c5⟩ := bx _ hSw); (go_simp <;> with_reducible rfl)⟩) (by assumption) ?_
            (try simp only [Act.put, List.setIfInBounds_toArray, List.set_cons_zero, List.set_cons_succ, List.getElem_toArray, List.getElem_cons_zero, List.getElem_cons_succ])
            refine wpAnyH_take (i := 5) rfl (by kernel_rfl) (by kernel_rfl) (by kernel_rfl) (fun _ _ _ h => h) (Or.inl ⟨by rfl, by intro w hSw; (obtain ⟨c0, c1, c2, c3, c4, c5⟩ := bx _ hSw); (go_simp <;> with_reducible rfl)⟩) (by assumption) ?_
            (try simp only [Act.put, List.setIfInBounds_toArray, List.set_cons_zero, List.set_cons_succ, List.getElem_toArray, List.getElem_cons_zero, List.getElem_cons_succ])
            have hown := hown.keptB (Below.refl _ _).drew
            have hB := hB.drew
            refine wpAnyH_ready (rs := [3]) (by kernel_rfl) (by simp) (AllReadyH.cons rfl (fun K hK => ?_) AllReadyH.nil)
            go_simp
            refine (HCS.out _ hB).mono ?_
            rintro e w6 ⟨rfl, hl⟩
            (try go_wp2_with fail)
            have hown' := hown.keptB hl
            have hB' := hB.trans (hl.mono hB.size)
            clear hown hB hl hHeld
            have hown := hown'; have hB := hB'
            clear hown' hB'
            refine hK.out _ _ hB (fun hHeld => ?_)
            clear hK K
            (try simp only [Act.put, List.setIfInBounds_toArray, List.set_cons_zero, List.set_cons_succ, List.getElem_toArray, List.getElem_cons_zero, List.getElem_cons_succ])
            refine wpAnyH_ready (rs := [6]) (by kernel_rfl) (by simp) (AllReadyH.cons rfl (fun K hK => ?_) AllReadyH.nil)
            go_simp
            refine (HCD.out _ hB).mono ?_
            rintro e w7 ⟨rfl, hl⟩
            (try go_wp2_with fail)
            have hown' := hown.keptB hl
            have hB' := hB.trans (hl.mono hB.size)
            clear hown hB hl hHeld
            have hown := hown'; have hB := hB'
            clear hown' hB'
            refine hK.out _ _ hB (fun hHeld => ?_)
            clear hK K
            (try simp only [Act.put, List.setIfInBounds_toArray, List.set_cons_zero, List.set_cons_succ, List.getElem_toArray, List.getElem_cons_zero, List.getElem_cons_succ])
            refine wpAnyH_ready (rs := [7]) (by kernel_rfl) (by simp) (AllReadyH.cons rfl (fun K hK => ?_) AllReadyH.nil)
            go_simp
            obtain ⟨w8, hw8⟩ : ∃ v, Hid (v = w7.alloc (.cells #[.int .i64 y0, .int .i64 y1, .int .i64 z0, .int .i64 z1] 36)) := ⟨_, rfl⟩
            rw [← hw8.out]
            have hl : Below w7.heap.size w7 w8 := by rw [hw8.out]; exact (Below.refl _ _).alloc (Nat.le_refl _) _
            have hEe : w8.heap[w7.heap.size]? = some (.cells #[.int .i64 y0, .int .i64 y1, .int .i64 z0, .int .i64 z1] 36 (0, 0)) := by rw [hw8.out]; exact heap_alloc_new _ _
            have hown8 := hown.keptB hl
            have hB8 := hB.trans (hl.mono hB.size)
            clear hown hB hHeld
            refine hK.out _ _ hB8 (fun hHeld => ?_)
            clear hK K
            (try simp only [Act.put, List.setIfInBounds_toArray, List.set_cons_zero, List.set_cons_succ, List.getElem_toArray, List.getElem_cons_zero, List.getElem_cons_succ])
            refine wpAnyH_ready (rs := [8]) (by kernel_rfl) (by simp) (AllReadyH.cons rfl (fun K hK => ?_) AllReadyH.nil)
            refine step_append_off rfl _ _ 32 rfl W.heap.size 36 i0 (.agg #[.int .i64 0, .int .i64 0]) 2 16 Try.underlying32 hi0 hz0 hz1 hz2 rfl (by decide) _ n (rcells [.i64, .i64] ls) rfl hown8 ⟨w7.heap.size, 0, none⟩ 2 2 [.int .i64 y0, .int .i64 y1, .int .i64 z0, .int .i64 z1] rfl rfl (news_block hEe) (by simp [Value.oneCell']) (by unfold maxLen; omega) (by omega) hB8.size ?_
            intro v' w9 hown' hgr hfr
            clear hfr
            have hB9 := hB8.grown hgr hB8.size (fun g e => (hown8.lt g e).1)
            have hown9 : OwnsOff w9 W.heap.size 36 2 v' (n + 2) (rcells [.i64, .i64] (ls ++ [[y0, y1], [z0, z1]])) := by rw [rcells_app]; exact hown'
            have HB9 := Lib.hid hB9; have HW9 := Lib.hid hown9
            clear hgr hown8 hown' hown9 hHeld hEe hl hB8
            refine hK.out _ _ HB9.out (fun hHeld => ?_)
            clear hK K
            (try simp only [Act.put, List.setIfInBounds_toArray, List.set_cons_zero, List.set_cons_succ, List.getElem_toArray, List.getElem_cons_zero, List.getElem_cons_succ])
            refine wpAnyH_take (i := 9) rfl (by kernel_rfl) (by kernel_rfl) (by kernel_rfl) (fun _ _ _ h => h) (Or.inl ⟨by rfl, by intro w hSw; (obtain ⟨c0, c1, c2, c3, c4, c5⟩ := bx _ hSw); (go_simp <;> with_reducible rfl)⟩) (by assumption) ?_
            (try simp only [Act.put, List.setIfInBounds_toArray, List.set_cons_zero, List.set_cons_succ, List.getElem_toArray, List.getElem_cons_zero, List.getElem_cons_succ])
            refine wpAnyH_done (by kernel_rfl) ?_ _
            clear hHeld hB9
            go_wp2
            go_roundw
            case rel => exact ⟨j + 1, by omega, by go_num, by rw [HN.out, HP1.out, HP2.out, show c.parts.length + 2 * (j + 1) = n + 2 by have := HNN.out; omega]; exact HW9.out, HB9.out⟩
            case measure => simp [intOf]; omega
          · have hjj : j = c.chans.length := by omega
            subst hjj
            have HL := Lib.hid (show (spansL c).length = c.parts.length + 2 * c.chans.length by rw [HX.out, List.length_append, privL_len, chanL_len])
            have HO := Lib.hid hown; have HBF := Lib.hid hB
            clear hown hB
            go_wp2
            go_ret
            exact ⟨_, rfl, by rw [HL.out, HX.out]; exact HO.out.mono HB.out.size, HB.out.trans (HBF.out.mono HB.out.size)⟩
end Go.Proofs.Ytjnmgofkdimdaaa
