/- DefectTurns answers true at a configuration of few rows. No condition but those in the statements. -/
import Derived.Test.YtogffilanioejaaLMirror
import Derived.BigQuiet
import Derived.IntWalk
import Derived.OpenShut
import Derived.BigRegion
import Derived.Deep.RegionHeld3
import Derived.Deep.RegionLaw
import Derived.Deep.RegionLawGrows
namespace Go.Proofs.Ytogffilanioejaa
open Go.RowKit Go.Sort Go.ChangeShapes Go.WideShapes
set_option linter.unusedVariables false
set_option linter.unusedSimpArgs false

theorem step_append_off {P : Program} {ops : Array Oper} {o : Oper} {a : Act} {w : World} {K : Act → World → Prop} {Q : Exit → Act → World → Prop} {E : Prop} (hgd : o.guard = none) (s x : Operand) (t : TypeId)
    (ho : o.op = .call { callee := .builtin .append, args := #[s, x], argTypes := #[t, t] })
    (base : Nat) (e : TypeId) (i : TypeInfo) (z : Value) (size bytes : Nat) (ht : P.underlying t = some (.slice e)) (hi : P.info? e = some i) (hz : i.zero = some z)
    (hsize : i.size = size) (hby : i.bytes = bytes) (hzs : z.cells.size = size) (hsz : 0 < size)
    (v : Value) (n : Nat) (xs : List Value) (hs : a.eval s = v) (hown : OwnsOff w base e size v n xs)
    (ad : Addr) (m c : Nat) (news : List Value) (hx : a.eval x = .slice (some ad) m c) (hl : news.length = m * size) (hnews : ∀ j u, news[j]? = some u → w.cell? (ad.add j) = some u) (h1 : ∀ u ∈ news, u.oneCell' = true)
    (h63 : n + m ≤ maxLen) (hbytes : (n + m) * bytes ≤ 140737488355328) (hbase : base ≤ w.heap.size)
    (h : ∀ v' w', OwnsOff w' base e size v' (n + m) (xs ++ news) → w.grownBy w' v.ownBlock → (∀ g, v'.ownBlock = some g → v.ownBlock = some g ∨ w.heap.size ≤ g) → K (a.put o.dst v') w') :
    if Region.wanted o (yielded ops a.tmps) = true then Oper.wp P o a w K Q else E := by
  have hw : Region.wanted o (yielded ops a.tmps) = true := by simp [Region.wanted, hgd]
  rw [if_pos hw]
  obtain ⟨v', w', hrun, r1, r2, r3⟩ := run_append_off (P := P) w base t o.type e i z size bytes ht hi hz hsize hby hzs hsz v n xs hown ad m c news hl hnews h1 h63 hbytes hbase
  unfold Oper.wp
  simp [execOp, ho, resolve, invoke, builtin, hs, hx, hrun, Result.andThen]
  exact h v' w' r1 r2 r3

/-- The cells to be appended, out of a block that is known whole. -/
theorem news_block {w : World} {B : Nat} {cs : Array Value} {t : TypeId} {fr : Nat × Nat} (hb : w.heap[B]? = some (.cells cs t fr)) : ∀ j u, cs.toList[j]? = some u → w.cell? ((⟨B, 0, none⟩ : Addr).add j) = some u := fun j u hu => by
  rw [Addr.add_lit, Nat.zero_add]
  simp [World.cell?, hb]
  simpa using hu

theorem ncells_at {ks : List IntKind} {x : List Int} {u : Value} {j : Nat} (h : (ncells ks x)[j]? = some u) : u.oneCell' = true := ncells_one ks x u (List.mem_of_getElem? h)
theorem rcells_ones {ks : List IntKind} {l : List (List Int)} : ∀ u ∈ rcells ks l, u.oneCell' = true := by
  intro u hu
  unfold rcells at hu
  rw [List.mem_flatten] at hu
  obtain ⟨cs, hcs, hu⟩ := hu
  obtain ⟨x, _, rfl⟩ := List.mem_map.1 hcs
  exact ncells_one ks x u hu
/-- A row's cells, one behind the other. -/
theorem RowN.news {ks : List IntKind} {w : World} {B : Nat} {b o : Nat} {l : List (List Int)} (hk : 0 < ks.length) (h : RowN ks w B (some ⟨b, o, none⟩) l) (hw : wfR ks l) : ∀ j u, (rcells ks l)[j]? = some u → w.cell? ((⟨b, o, none⟩ : Addr).add j) = some u := by
  intro j u hj
  have hlen := rcells_len hw
  have hjl : j < l.length * ks.length := by have := (List.getElem?_eq_some_iff.1 hj).1; omega
  have hpos : 0 < l.length := by
    rcases Nat.eq_zero_or_pos l.length with h0 | h0
    · rw [h0] at hjl; omega
    · exact h0
  obtain ⟨b', o', hA, _, hc⟩ := h hpos
  cases hA
  have hi : j / ks.length < l.length := Nat.div_lt_of_lt_mul (by rw [Nat.mul_comm]; exact hjl)
  have hjm : j % ks.length < ks.length := Nat.mod_lt _ hk
  have hx : l[j / ks.length]? = some l[j / ks.length] := List.getElem?_eq_getElem hi
  have h1 := rcells_at hw hx (j % ks.length) hjm
  rw [Nat.mul_comm, Nat.div_add_mod, hj] at h1
  have h2 := hc _ _ hx (j % ks.length) u h1.symm
  rw [Addr.add_lit]
  rw [Nat.add_assoc, Nat.mul_comm, Nat.div_add_mod] at h2
  exact h2
/-- The channels, turned round. -/
def rot (l : List (List Int)) (q i : Nat) : List (List Int) := (List.range i).map (fun j => row l ((j + q) % l.length))
theorem rot_len (l : List (List Int)) (q : Nat) : (rot l q l.length).length = l.length := by simp [rot]
theorem row_mem {l : List (List Int)} {i : Nat} (h : i < l.length) : row l i ∈ l := by rw [row_at (List.getElem?_eq_getElem h)]; exact List.getElem_mem h
theorem rot_mem {l : List (List Int)} {q : Nat} (hn : l.length ≠ 0) : ∀ x, x ∈ rot l q l.length ↔ x ∈ l := by
  intro x
  unfold rot
  constructor
  · intro h
    obtain ⟨j, _, rfl⟩ := List.mem_map.1 h
    exact row_mem (Nat.mod_lt _ (by omega))
  · intro h
    obtain ⟨m, hm, rfl⟩ := List.getElem_of_mem h
    have hr : q % l.length < l.length := Nat.mod_lt _ (by omega)
    refine List.mem_map.2 ⟨(m + (l.length - q % l.length)) % l.length, List.mem_range.2 (Nat.mod_lt _ (by omega)), ?_⟩
    have e : ((m + (l.length - q % l.length)) % l.length + q) % l.length = m := by
      rw [Nat.mod_add_mod, ← Nat.add_mod_mod]
      rw [show m + (l.length - q % l.length) + q % l.length = m + l.length by omega, Nat.add_mod_right, Nat.mod_eq_of_lt hm]
    rw [e, row_at (List.getElem?_eq_getElem hm)]
theorem rot_wf {ks : List IntKind} {l : List (List Int)} {q : Nat} (h : wfR ks l) (hn : l.length ≠ 0) : wfR ks (rot l q l.length) := fun x hx => h x ((rot_mem hn x).1 hx)
theorem RowN.only {ks : List IntKind} {w w' : World} {B : Nat} {A : Option Addr} {l : List (List Int)} {S : Nat → Prop} (h : RowN ks w B A l) (hB : B ≤ w.heap.size) (ho : Only S w w') (hA : ∀ a, A = some a → ¬ S a.block) : RowN ks w' B A l := fun hn => by
  obtain ⟨b, o, rfl, hlt, hc⟩ := h hn
  refine ⟨b, o, rfl, hlt, fun i x hx j v hv => ?_⟩
  rw [← hc i x hx j v hv]
  simp [World.cell?, ho.block b (by omega) (hA _ rfl)]
theorem below_two {a b c : World} (h : Below a.heap.size a b) (k : Below b.heap.size b c) : Below a.heap.size a c := h.trans (k.mono h.size)
theorem rot_succ (l : List (List Int)) (q i : Nat) : rot l q (i + 1) = rot l q i ++ [row l ((i + q) % l.length)] := by simp [rot, List.range_succ]
structure Lock (T : Prop) : Prop where
  get : T
theorem cut2 {T G : Prop} (six : T) (body : Lock T → G) : G := body ⟨six⟩
theorem Try.infoC : (Try.prog.info? 35).map (fun i => (i.zero, i.size, i.bytes)) = some (some (.agg #[.int .i64 0, .int .i64 0, .int .i64 0, .int .i64 0, .int .i64 0, .int .i64 0, .int .u32 0]), 7, 56) := by kernel_rfl

set_option maxRecDepth 100000 in
set_option maxHeartbeats 40000000 in
theorem turns_plain (parts chans : List (List Int)) (len0 : Int) (win0 : List (List Int)) (len1 : Int) (win1 : List (List Int)) (pa : Option Addr) (pc : Nat) (ca : Option Addr) (cc : Nat) (aa : Option Addr) (ac : Nat) (ba : Option Addr) (bc : Nat) (q : Nat) (w : World) (hp : RowN [.i64, .i64] w w.heap.size pa parts) (hpw : wfR [.i64, .i64] parts) (hpl : parts.length ≤ 1000000) (hc : RowN [.i64, .i64, .i64, .i64, .i64, .i64, .u32] w w.heap.size ca chans) (hcw : wfR [.i64, .i64, .i64, .i64, .i64, .i64, .u32] chans) (hcl : chans.length ≤ 1000000) (h0 : RowN [.i64, .i64, .i64] w w.heap.size aa win0) (h0w : wfR [.i64, .i64, .i64] win0) (h0l : win0.length ≤ 1000000) (h1 : RowN [.i64, .i64, .i64] w w.heap.size ba win1) (h1w : wfR [.i64, .i64, .i64] win1) (h1l : win1.length ≤ 1000000) (hl0 : (Lit.int .i64 len0).wf = true) (hl1 : (Lit.int .i64 len1).wf = true) (LP : parts.length ≤ pc ∧ pc ≤ maxLen ∧ (pa = none → parts = [])) (LC : chans.length ≤ cc ∧ cc ≤ maxLen ∧ (ca = none → chans = [])) (LA : win0.length ≤ ac ∧ ac ≤ maxLen ∧ (aa = none → win0 = [])) (LB : win1.length ≤ bc ∧ bc ≤ maxLen ∧ (ba = none → win1 = [])) (hq : q ≤ 255) (hle : cfgLe 100 (⟨parts, chans, len0, win0, len1, win1⟩ : Cfg) = true) (hne : chans.length ≠ 0) : Calls Try.prog 6 #[.agg #[.slice pa parts.length pc, .slice ca chans.length cc, .int .i64 len0, .slice aa win0.length ac, .int .i64 len1, .slice ba win1.length bc], .int .u8 (q : Int)] w fun e w' => e = .returned (.bool true) ∧ Below w.heap.size w w' := by
  have HGR := Lib.hid (show (!cfgLe 100 (⟨parts, chans, len0, win0, len1, win1⟩ : Cfg)) = false by rw [hle]; rfl)
  have hin : CfgIn w w.heap.size (⟨parts, chans, len0, win0, len1, win1⟩ : Cfg) ⟨pa, pc, ca, cc, aa, ac, ba, bc⟩ := ⟨hp, hc, h0, h1, LP, LC, LA, LB⟩
  have hwf : CfgWf (⟨parts, chans, len0, win0, len1, win1⟩ : Cfg) := ⟨hpw, hcw, h0w, h1w, hl0, hl1⟩
  have hfew : CfgFew (⟨parts, chans, len0, win0, len1, win1⟩ : Cfg) := ⟨hpl, hcl, h0l, h1l⟩
  have hn0 : chans.length ≠ 0 := hne
  have hn1 : ((chans.length : Int) == 0) = false := by simpa using hne
  have g100 := cfgLe_yes hle
  clear hle
  obtain ⟨W, HW, hB, hWs, bx⟩ := one_cbox w ⟨parts, chans, len0, win0, len1, win1⟩ ⟨pa, pc, ca, cc, aa, ac, ba, bc⟩ 29
  have HB := Lib.hid hB
  have hp := hp.later hB; have hc := hc.later hB; have h0 := h0.later hB; have h1 := h1.later hB
  have hin := hin.later hB
  have hWs : w.heap.size < W.heap.size := by omega
  have HIN := Lib.hid hin; have HWF := Lib.hid hwf; have HFEW := Lib.hid hfew; have HLE := Lib.hid g100
  clear hB hin hwf hfew g100
  go_enter Try.func6, Try.ntmps6
  go_wp2_with (rw [← HW.out])
  refine (wakes_b _).mono ?_
  rintro e w1 ⟨rfl, hb1⟩
  obtain ⟨c0, c1, c2, c3, c4, c5⟩ := bx _ hb1
  go_wp2_with fail
  refine (great_is (⟨parts, chans, len0, win0, len1, win1⟩ : Cfg) ⟨pa, pc, ca, cc, aa, ac, ba, bc⟩ false w1 HGR.out).mono ?_
  rintro e w2 ⟨rfl, hb2⟩
  have hb2 := hb1.trans (hb2.mono hb1.size)
  clear c0 c1 c2 c3 c4 c5 hb1
  obtain ⟨c0, c1, c2, c3, c4, c5⟩ := bx _ hb2
  have HB2 := Lib.hid hb2
  obtain ⟨i0, hi0, hz0, hz1, hz2⟩ := info_parts Try.infoC
  have hwb : w.heap.size < w2.heap.size := by have := hb2.size; omega
  have hc100 : chans.length ≤ 100 := HLE.out.2.1
  clear hb2
  go_wp2
  go_region
  clear c0 c1 c2 c3 c4 c5 hwb
  obtain ⟨X0, hX0⟩ : ∃ u, Hid (u = ((w2.alloc (.cells #[.slice pa parts.length pc, .slice ca chans.length cc, .int .i64 len0, .slice aa win0.length ac, .int .i64 len1, .slice ba win1.length bc] 29)).alloc (.cells #[.slice pa parts.length pc, .slice ca chans.length cc, .int .i64 len0, .slice aa win0.length ac, .int .i64 len1, .slice ba win1.length bc] 29)).drew) := ⟨_, rfl⟩
  have hb0 : Below w2.heap.size w2 X0 := by rw [hX0.out]; exact (((Below.refl _ w2).alloc (Nat.le_refl _) _).alloc (by simp) _).drew
  have hs0 : X0.heap[w2.heap.size]? = some (.cells #[.slice pa parts.length pc, .slice ca chans.length cc, .int .i64 len0, .slice aa win0.length ac, .int .i64 len1, .slice ba win1.length bc] 29 (0, 0)) := by rw [hX0.out]; exact (Below.heap_alloc _ _ _ (by simp)).trans (heap_alloc_new w2 _)
  have hs1 : X0.heap[w2.heap.size + 1]? = some (.cells #[.slice pa parts.length pc, .slice ca chans.length cc, .int .i64 len0, .slice aa win0.length ac, .int .i64 len1, .slice ba win1.length bc] 29 (0, 0)) := by rw [hX0.out]; have h := heap_alloc_new (w2.alloc (.cells #[.slice pa parts.length pc, .slice ca chans.length cc, .int .i64 len0, .slice aa win0.length ac, .int .i64 len1, .slice ba win1.length bc] 29)) (.cells #[.slice pa parts.length pc, .slice ca chans.length cc, .int .i64 len0, .slice aa win0.length ac, .int .i64 len1, .slice ba win1.length bc] 29); rw [World.size_alloc] at h; exact h
  rw [← hX0.out]
  have hbW := HB2.out.trans (hb0.mono HB2.out.size)
  have hsz := HB2.out.size
  obtain ⟨yb, hyb⟩ : ∃ k, k = w2.heap.size + 1 := ⟨_, rfl⟩
  obtain ⟨xb, hxb⟩ : ∃ k, k = w2.heap.size := ⟨_, rfl⟩
  have hne1 : xb ≠ yb := by omega
  have hxW : W.heap.size ≤ xb := by omega
  have hyW : W.heap.size ≤ yb := by omega
  rw [← hyb] at hs1
  rw [← hxb] at hs0
  simp only [← hyb]
  simp only [← hxb]
  have hX := hs0
  have hY := hs1
  clear hb0 hs0 hs1 hsz hxb hyb hX0
  revert hyW; revert hxW; revert hne1; revert hY; revert hX; revert hbW; revert yb; revert xb; revert X0
  refine ?five
  rotate_left
  clear c0 c1 c2 c3 c4 c5 hwb
  obtain ⟨X0, hX0⟩ : ∃ u, Hid (u = ((w2.alloc (.cells #[.slice pa parts.length pc, .slice ca chans.length cc, .int .i64 len0, .slice aa win0.length ac, .int .i64 len1, .slice ba win1.length bc] 29)).alloc (.cells #[.slice pa parts.length pc, .slice ca chans.length cc, .int .i64 len0, .slice aa win0.length ac, .int .i64 len1, .slice ba win1.length bc] 29)).drew) := ⟨_, rfl⟩
  have hb0 : Below w2.heap.size w2 X0 := by rw [hX0.out]; exact (((Below.refl _ w2).alloc (Nat.le_refl _) _).alloc (by simp) _).drew
  have hs0 : X0.heap[w2.heap.size]? = some (.cells #[.slice pa parts.length pc, .slice ca chans.length cc, .int .i64 len0, .slice aa win0.length ac, .int .i64 len1, .slice ba win1.length bc] 29 (0, 0)) := by rw [hX0.out]; exact (Below.heap_alloc _ _ _ (by simp)).trans (heap_alloc_new w2 _)
  have hs1 : X0.heap[w2.heap.size + 1]? = some (.cells #[.slice pa parts.length pc, .slice ca chans.length cc, .int .i64 len0, .slice aa win0.length ac, .int .i64 len1, .slice ba win1.length bc] 29 (0, 0)) := by rw [hX0.out]; have h := heap_alloc_new (w2.alloc (.cells #[.slice pa parts.length pc, .slice ca chans.length cc, .int .i64 len0, .slice aa win0.length ac, .int .i64 len1, .slice ba win1.length bc] 29)) (.cells #[.slice pa parts.length pc, .slice ca chans.length cc, .int .i64 len0, .slice aa win0.length ac, .int .i64 len1, .slice ba win1.length bc] 29); rw [World.size_alloc] at h; exact h
  rw [← hX0.out]
  have hbW := HB2.out.trans (hb0.mono HB2.out.size)
  have hsz := HB2.out.size
  obtain ⟨xb, hxb⟩ : ∃ k, k = w2.heap.size + 1 := ⟨_, rfl⟩
  obtain ⟨yb, hyb⟩ : ∃ k, k = w2.heap.size := ⟨_, rfl⟩
  have hne1 : xb ≠ yb := by omega
  have hxW : W.heap.size ≤ xb := by omega
  have hyW : W.heap.size ≤ yb := by omega
  rw [← hxb] at hs1
  rw [← hyb] at hs0
  simp only [← hxb]
  simp only [← hyb]
  have hX := hs1
  have hY := hs0
  clear hb0 hs0 hs1 hsz hyb hxb hX0
  revert hyW; revert hxW; revert hne1; revert hY; revert hX; revert hbW; revert yb; revert xb; revert X0
  exact ?five
  · intro X0 xb yb hbW hX hY hne1 hxW hyW
    have hm : q % chans.length < chans.length := Nat.mod_lt _ (by omega)
    obtain ⟨m, hmq⟩ : ∃ m, m = q % chans.length := ⟨_, rfl⟩
    rw [← hmq] at hm
    have r1 : (q : Int) % (chans.length : Int) = (m : Int) := by rw [hmq]; rfl
    have r2 : (q : Int).tmod (chans.length : Int) = (m : Int) := by rw [hmq]; rfl
    have r0 : IntKind.i64.wrap (q : Int) = (q : Int) := IntWalk.i64_in _ (by omega)
    have m0 : (0 : Int) ≤ (m : Int) := by omega
    have m1 : (m : Int) < (chans.length : Int) := by omega
    have HMQ := Lib.hid hmq
    clear hmq
    obtain ⟨b, o, x0, x1, x2, x3, x4, x5, x6, e0, hbw, e1, -, hrow⟩ := hc.at7 hcw hm
    have hnw := hc
    subst e0
    have E1 := Lib.hid e1
    clear e1
    go_wp2_with fail
    refine wp_region_held_drew (S := (fun W' => Below W.heap.size W W')) (by kernel_rfl) (hbW.drew) (fun hHeld => ?_)
    refine wpAnyH_take (i := 1) rfl (by kernel_rfl) (by kernel_rfl) (by kernel_rfl) (fun _ _ _ h => h) (Or.inl ⟨by rfl, by intro w hSw; (obtain ⟨c0, c1, c2, c3, c4, c5⟩ := bx _ hSw; obtain ⟨k0, k1, k2, k3, k4, k5, k6⟩ := hrow _ hSw); (go_simp <;> with_reducible rfl)⟩) (by assumption) ?_
    (try simp only [Act.put, List.setIfInBounds_toArray, List.set_cons_zero, List.set_cons_succ, List.getElem_toArray, List.getElem_cons_zero, List.getElem_cons_succ])
    refine wpAnyH_take (i := 2) rfl (by kernel_rfl) (by kernel_rfl) (by kernel_rfl) (fun _ _ _ h => h) (Or.inl ⟨by rfl, by intro w hSw; (obtain ⟨c0, c1, c2, c3, c4, c5⟩ := bx _ hSw; obtain ⟨k0, k1, k2, k3, k4, k5, k6⟩ := hrow _ hSw); (go_simp <;> with_reducible rfl)⟩) (by assumption) ?_
    (try simp only [Act.put, List.setIfInBounds_toArray, List.set_cons_zero, List.set_cons_succ, List.getElem_toArray, List.getElem_cons_zero, List.getElem_cons_succ])
    refine wpAnyH_take (i := 4) rfl (by kernel_rfl) (by kernel_rfl) (by kernel_rfl) (fun _ _ _ h => h) (Or.inl ⟨by rfl, by intro w hSw; (obtain ⟨c0, c1, c2, c3, c4, c5⟩ := bx _ hSw; obtain ⟨k0, k1, k2, k3, k4, k5, k6⟩ := hrow _ hSw); (go_simp <;> with_reducible rfl)⟩) (by assumption) ?_
    (try simp only [Act.put, List.setIfInBounds_toArray, List.set_cons_zero, List.set_cons_succ, List.getElem_toArray, List.getElem_cons_zero, List.getElem_cons_succ])
    refine wpAnyH_take (i := 5) rfl (by kernel_rfl) (by kernel_rfl) (by kernel_rfl) (fun _ _ _ h => h) (Or.inl ⟨by rfl, by intro w hSw; (obtain ⟨c0, c1, c2, c3, c4, c5⟩ := bx _ hSw; obtain ⟨k0, k1, k2, k3, k4, k5, k6⟩ := hrow _ hSw); (go_simp <;> with_reducible rfl)⟩) (by assumption) ?_
    (try simp only [Act.put, List.setIfInBounds_toArray, List.set_cons_zero, List.set_cons_succ, List.getElem_toArray, List.getElem_cons_zero, List.getElem_cons_succ])
    refine wpAnyH_take (i := 6) rfl (by kernel_rfl) (by kernel_rfl) (by kernel_rfl) (fun _ _ _ h => h) (Or.inl ⟨by rfl, by intro w hSw; (obtain ⟨c0, c1, c2, c3, c4, c5⟩ := bx _ hSw; obtain ⟨k0, k1, k2, k3, k4, k5, k6⟩ := hrow _ hSw); (go_simp <;> with_reducible rfl)⟩) (by assumption) ?_
    (try simp only [Act.put, List.setIfInBounds_toArray, List.set_cons_zero, List.set_cons_succ, List.getElem_toArray, List.getElem_cons_zero, List.getElem_cons_succ])
    refine wpAnyH_take (i := 7) rfl (by kernel_rfl) (by kernel_rfl) (by kernel_rfl) (fun _ _ _ h => h) (Or.inl ⟨by rfl, by intro w hSw; (obtain ⟨c0, c1, c2, c3, c4, c5⟩ := bx _ hSw; obtain ⟨k0, k1, k2, k3, k4, k5, k6⟩ := hrow _ hSw); (go_simp <;> with_reducible rfl)⟩) (by assumption) ?_
    (try simp only [Act.put, List.setIfInBounds_toArray, List.set_cons_zero, List.set_cons_succ, List.getElem_toArray, List.getElem_cons_zero, List.getElem_cons_succ])
    refine wpAnyH_take (i := 8) rfl (by kernel_rfl) (by kernel_rfl) (by kernel_rfl) (fun _ _ _ h => h) (Or.inl ⟨by rfl, by intro w hSw; (obtain ⟨c0, c1, c2, c3, c4, c5⟩ := bx _ hSw; obtain ⟨k0, k1, k2, k3, k4, k5, k6⟩ := hrow _ hSw); (go_simp <;> with_reducible rfl)⟩) (by assumption) ?_
    (try simp only [Act.put, List.setIfInBounds_toArray, List.set_cons_zero, List.set_cons_succ, List.getElem_toArray, List.getElem_cons_zero, List.getElem_cons_succ])
    refine wpAnyH_take (i := 9) rfl (by kernel_rfl) (by kernel_rfl) (by kernel_rfl) (fun _ _ _ h => h) (Or.inl ⟨by rfl, by intro w hSw; (obtain ⟨c0, c1, c2, c3, c4, c5⟩ := bx _ hSw; obtain ⟨k0, k1, k2, k3, k4, k5, k6⟩ := hrow _ hSw); (go_simp <;> with_reducible rfl)⟩) (by assumption) ?_
    (try simp only [Act.put, List.setIfInBounds_toArray, List.set_cons_zero, List.set_cons_succ, List.getElem_toArray, List.getElem_cons_zero, List.getElem_cons_succ])
    refine wpAnyH_take (i := 10) rfl (by kernel_rfl) (by kernel_rfl) (by kernel_rfl) (fun _ _ _ h => h) (Or.inl ⟨by rfl, by intro w hSw; (obtain ⟨c0, c1, c2, c3, c4, c5⟩ := bx _ hSw; obtain ⟨k0, k1, k2, k3, k4, k5, k6⟩ := hrow _ hSw); (go_simp <;> with_reducible rfl)⟩) (by assumption) ?_
    (try simp only [Act.put, List.setIfInBounds_toArray, List.set_cons_zero, List.set_cons_succ, List.getElem_toArray, List.getElem_cons_zero, List.getElem_cons_succ])
    refine wpAnyH_take (i := 11) rfl (by kernel_rfl) (by kernel_rfl) (by kernel_rfl) (fun _ _ _ h => h) (Or.inl ⟨by rfl, by intro w hSw; (obtain ⟨c0, c1, c2, c3, c4, c5⟩ := bx _ hSw; obtain ⟨k0, k1, k2, k3, k4, k5, k6⟩ := hrow _ hSw); (go_simp <;> with_reducible rfl)⟩) (by assumption) ?_
    (try simp only [Act.put, List.setIfInBounds_toArray, List.set_cons_zero, List.set_cons_succ, List.getElem_toArray, List.getElem_cons_zero, List.getElem_cons_succ])
    refine wpAnyH_take (i := 12) rfl (by kernel_rfl) (by kernel_rfl) (by kernel_rfl) (fun _ _ _ h => h) (Or.inl ⟨by rfl, by intro w hSw; (obtain ⟨c0, c1, c2, c3, c4, c5⟩ := bx _ hSw; obtain ⟨k0, k1, k2, k3, k4, k5, k6⟩ := hrow _ hSw); (go_simp <;> with_reducible rfl)⟩) (by assumption) ?_
    (try simp only [Act.put, List.setIfInBounds_toArray, List.set_cons_zero, List.set_cons_succ, List.getElem_toArray, List.getElem_cons_zero, List.getElem_cons_succ])
    refine wpAnyH_take (i := 13) rfl (by kernel_rfl) (by kernel_rfl) (by kernel_rfl) (fun _ _ _ h => h) (Or.inl ⟨by rfl, by intro w hSw; (obtain ⟨c0, c1, c2, c3, c4, c5⟩ := bx _ hSw; obtain ⟨k0, k1, k2, k3, k4, k5, k6⟩ := hrow _ hSw); (go_simp <;> with_reducible rfl)⟩) (by assumption) ?_
    (try simp only [Act.put, List.setIfInBounds_toArray, List.set_cons_zero, List.set_cons_succ, List.getElem_toArray, List.getElem_cons_zero, List.getElem_cons_succ])
    refine wpAnyH_take (i := 16) rfl (by kernel_rfl) (by kernel_rfl) (by kernel_rfl) (fun _ _ _ h => h) (Or.inl ⟨by rfl, by intro w hSw; (obtain ⟨c0, c1, c2, c3, c4, c5⟩ := bx _ hSw; obtain ⟨k0, k1, k2, k3, k4, k5, k6⟩ := hrow _ hSw); (go_simp <;> with_reducible rfl)⟩) (by assumption) ?_
    (try simp only [Act.put, List.setIfInBounds_toArray, List.set_cons_zero, List.set_cons_succ, List.getElem_toArray, List.getElem_cons_zero, List.getElem_cons_succ])
    apply cut2
    rotate_left
    intro key
    have hB := hbW
    have hX := hX
    have hY := hY
    have hHeld := hHeld
    refine wpAnyH_ready (rs := [0, 14]) (by kernel_rfl) (by simp) (AllReadyH.cons rfl (fun K hK => ?_) (AllReadyH.cons rfl (fun K hK => ?_) AllReadyH.nil))
    go_simp
    obtain ⟨v1, hv1⟩ : ∃ v, Hid (v = (X0.alloc (.cells #[] 35)).drew) := ⟨_, rfl⟩
    rw [← hv1.out]
    have hl : Below X0.heap.size X0 v1 := by rw [hv1.out]; exact ((Below.refl _ _).alloc (Nat.le_refl _) _).drew
    have hE0 : v1.heap[X0.heap.size]? = some (.cells #[] 35 (0, 0)) := by rw [hv1.out]; exact heap_alloc_new _ _
    have hW0 : W.heap.size ≤ X0.heap.size := hB.size
    have hB' := hB.trans (hl.mono hB.size)
    have hX' := (hl.block xb (Array.getElem?_eq_some_iff.1 hX).1).trans hX
    have hY' := (hl.block yb (Array.getElem?_eq_some_iff.1 hY).1).trans hY
    clear hB hX hY
    have hB := hB'; have hX := hX'; have hY := hY'
    clear hB' hX' hY' hHeld
    refine hK.out _ _ hB (fun hHeld => ?_)
    clear hK K
    (try simp only [Act.put, List.setIfInBounds_toArray, List.set_cons_zero, List.set_cons_succ, List.getElem_toArray, List.getElem_cons_zero, List.getElem_cons_succ])
    refine wpAnyH_ready (rs := [3, 14]) (by kernel_rfl) (by simp) (AllReadyH.cons rfl (fun K hK => ?_) (AllReadyH.cons rfl (fun K hK => ?_) AllReadyH.nil))
    have hG0 : OwnsOff v1 W.heap.size 35 7 (.slice (some ⟨X0.heap.size, 0, none⟩) 0 0) 0 [] := ⟨rfl, .inr ⟨_, 0, 0, #[], rfl, hW0, hE0, Nat.le_refl _, by unfold maxLen; omega, by simp, rfl⟩⟩
    refine step_append_off rfl _ _ 23 rfl W.heap.size 35 i0 (.agg #[.int .i64 0, .int .i64 0, .int .i64 0, .int .i64 0, .int .i64 0, .int .i64 0, .int .u32 0]) 7 56 Try.underlying23 hi0 hz0 hz1 hz2 rfl (by decide) _ 0 [] rfl hG0 ⟨b, o, none⟩ chans.length cc (rcells [.i64, .i64, .i64, .i64, .i64, .i64, .u32] chans) rfl (by rw [rcells_len hcw]; rfl) (RowN.news (by decide) (hnw.below hB) hcw) rcells_ones (by unfold maxLen; omega) (by omega) hB.size ?_
    intro va v2 hown hgr hfr
    clear hfr
    have hnX : ∀ g : Nat, some g = (Value.slice (some ⟨X0.heap.size, 0, none⟩) 0 0).ownBlock → v1.heap[g]? = some (.cells #[] 35 (0, 0)) := fun g e => by rw [Option.some.inj e]; exact hE0
    have hX' := (hgr.block xb (Array.getElem?_eq_some_iff.1 hX).1 (fun e => by have := hnX xb e; rw [hX] at this; cases this)).trans hX
    have hY' := (hgr.block yb (Array.getElem?_eq_some_iff.1 hY).1 (fun e => by have := hnX yb e; rw [hY] at this; cases this)).trans hY
    have hB' := hB.grown hgr hB.size (fun k e => by rw [← Option.some.inj e]; exact hW0)
    obtain ⟨a1, c1, rfl, hv1, hm1⟩ := hown.slice
    simp only [Nat.zero_add, List.nil_append] at hown
    clear hnX hgr hG0 hE0 hW0
    simp only [Nat.zero_add]
    clear hB hX hY
    have hB := hB'; have hX := hX'; have hY := hY'
    clear hB' hX' hY' hHeld
    refine hK.out _ _ hB (fun hHeld => ?_)
    clear hK K
    (try simp only [Act.put, List.setIfInBounds_toArray, List.set_cons_zero, List.set_cons_succ, List.getElem_toArray, List.getElem_cons_zero, List.getElem_cons_succ])
    refine wpAnyH_ready (rs := [14]) (by kernel_rfl) (by simp) (AllReadyH.cons rfl (fun K hK => ?_) AllReadyH.nil)
    go_simp
    obtain ⟨v3, hv3⟩ : ∃ v, Hid (v = (v2.alloc (.cells #[.int .i64 x0, .int .i64 x1, .int .i64 x2, .int .i64 x3, .int .i64 x4, .int .i64 x5, .int .u32 x6] 35))) := ⟨_, rfl⟩
    rw [← hv3.out]
    have hl : Below v2.heap.size v2 v3 := by rw [hv3.out]; exact ((Below.refl _ _).alloc (Nat.le_refl _) _)
    have hEe : v3.heap[v2.heap.size]? = some (.cells #[.int .i64 x0, .int .i64 x1, .int .i64 x2, .int .i64 x3, .int .i64 x4, .int .i64 x5, .int .u32 x6] 35 (0, 0)) := by rw [hv3.out]; exact heap_alloc_new _ _
    have hWe : W.heap.size ≤ v2.heap.size := hB.size
    have hB' := hB.trans (hl.mono hB.size)
    have hX' := (hl.block xb (Array.getElem?_eq_some_iff.1 hX).1).trans hX
    have hY' := (hl.block yb (Array.getElem?_eq_some_iff.1 hY).1).trans hY
    have hown := hown.keptB hl
    clear hB hX hY
    have hB := hB'; have hX := hX'; have hY := hY'
    clear hB' hX' hY' hHeld
    refine hK.out _ _ hB (fun hHeld => ?_)
    clear hK K
    (try simp only [Act.put, List.setIfInBounds_toArray, List.set_cons_zero, List.set_cons_succ, List.getElem_toArray, List.getElem_cons_zero, List.getElem_cons_succ])
    refine wpAnyH_ready (rs := [15]) (by kernel_rfl) (by simp) (AllReadyH.cons rfl (fun K hK => ?_) AllReadyH.nil)
    refine step_append_off rfl _ _ 23 rfl W.heap.size 35 i0 (.agg #[.int .i64 0, .int .i64 0, .int .i64 0, .int .i64 0, .int .i64 0, .int .i64 0, .int .u32 0]) 7 56 Try.underlying23 hi0 hz0 hz1 hz2 rfl (by decide) _ chans.length (rcells [.i64, .i64, .i64, .i64, .i64, .i64, .u32] chans) rfl hown ⟨v2.heap.size, 0, none⟩ 1 1 [.int .i64 x0, .int .i64 x1, .int .i64 x2, .int .i64 x3, .int .i64 x4, .int .i64 x5, .int .u32 x6] rfl rfl (news_block hEe) (by simp [Value.oneCell']) (by unfold maxLen; omega) (by omega) hB.size ?_
    intro vb v4 hown2 hgr hfr
    clear hfr
    have hX' := (hgr.block xb (Array.getElem?_eq_some_iff.1 hX).1 (fun e => by obtain ⟨cs, h⟩ := hown.typed xb e.symm; rw [hX] at h; cases h)).trans hX
    have hY' := (hgr.block yb (Array.getElem?_eq_some_iff.1 hY).1 (fun e => by obtain ⟨cs, h⟩ := hown.typed yb e.symm; rw [hY] at h; cases h)).trans hY
    have hB' := hB.grown hgr hB.size (fun k e => (hown.lt k e).1)
    have hown' : OwnsOff v4 W.heap.size 35 7 vb (chans.length + 1) (rcells [.i64, .i64, .i64, .i64, .i64, .i64, .u32] (chans ++ [[x0, x1, x2, x3, x4, x5, x6]])) := by rw [rcells_app]; exact hown2
    clear hgr hown hEe hown2
    obtain ⟨a2, c2, rfl, hv2, hm2⟩ := hown'.slice
    clear hB hX hY
    have hB := hB'; have hX := hX'; have hY := hY'
    clear hB' hX' hY' hHeld
    refine hK.out _ _ hB (fun hHeld => ?_)
    clear hK K
    (try simp only [Act.put, List.setIfInBounds_toArray, List.set_cons_zero, List.set_cons_succ, List.getElem_toArray, List.getElem_cons_zero, List.getElem_cons_succ])
    refine wpAnyH_ready (rs := [17]) (by kernel_rfl) (by simp) (AllReadyH.cons rfl (fun K hK => ?_) AllReadyH.nil)
    have z0 := cell_blk hX (i := 1) rfl
    have z1 : v4.frozen? ⟨xb, 1, none⟩ = false := by simp [World.frozen?, hX]
    go_simp
    clear z0 z1
    obtain ⟨vc, hvc⟩ : ∃ v, Hid (v = v4.setCell ⟨xb, 1, none⟩ (.slice none 0 0)) := ⟨_, rfl⟩
    rw [← hvc.out]
    have hX' : vc.heap[xb]? = some (.cells #[.slice pa parts.length pc, .slice none 0 0, .int .i64 len0, .slice aa win0.length ac, .int .i64 len1, .slice ba win1.length bc] 29 (0, 0)) := by rw [hvc.out]; simp [World.setCell, Array.getElem?_modify, hX]
    have hY' : vc.heap[yb]? = some (.cells #[.slice pa parts.length pc, .slice (some ⟨b, o, none⟩) chans.length cc, .int .i64 len0, .slice aa win0.length ac, .int .i64 len1, .slice ba win1.length bc] 29 (0, 0)) := by rw [hvc.out]; exact (Below.heap_setCell _ _ _ _ (by simpa using hne1.symm)).trans hY
    have hB' : Below W.heap.size W vc := by rw [hvc.out]; exact hB.setCell (p := ⟨xb, 1, none⟩) hxW _
    have hown3 : OwnsOff vc W.heap.size 35 7 (.slice a2 (chans.length + 1) c2) (chans.length + 1) (rcells [.i64, .i64, .i64, .i64, .i64, .i64, .u32] (chans ++ [[x0, x1, x2, x3, x4, x5, x6]])) := by
      rw [hvc.out]
      exact hown'.kept (Only.setCell v4 ⟨xb, 1, none⟩ _) (fun g hg e => by obtain ⟨cs, h⟩ := hown'.typed g hg; rw [show g = xb from e, hX] at h; cases h)
    clear hown' hvc
    clear hB hX hY
    have hB := hB'; have hX := hX'; have hY := hY'
    clear hB' hX' hY' hHeld
    refine hK.out _ _ hB (fun hHeld => ?_)
    clear hK K
    (try simp only [Act.put, List.setIfInBounds_toArray, List.set_cons_zero, List.set_cons_succ, List.getElem_toArray, List.getElem_cons_zero, List.getElem_cons_succ])
    refine wpAnyH_take (i := 18) rfl (by kernel_rfl) (by kernel_rfl) (by kernel_rfl) (fun _ _ _ h => h) (Or.inl ⟨by rfl, by intro w hSw; (obtain ⟨c0, c1, c2, c3, c4, c5⟩ := bx _ hSw; obtain ⟨k0, k1, k2, k3, k4, k5, k6⟩ := hrow _ hSw); (go_simp <;> with_reducible rfl)⟩) (by assumption) ?_
    (try simp only [Act.put, List.setIfInBounds_toArray, List.set_cons_zero, List.set_cons_succ, List.getElem_toArray, List.getElem_cons_zero, List.getElem_cons_succ])
    refine wpAnyH_ready (rs := [19]) (by kernel_rfl) (by simp) (AllReadyH.cons rfl (fun K hK => ?_) AllReadyH.nil)
    have z0 := cell_blk hY (i := 1) rfl
    have z1 : vc.frozen? ⟨yb, 1, none⟩ = false := by simp [World.frozen?, hY]
    go_simp
    clear z0 z1
    obtain ⟨vd, hvd⟩ : ∃ v, Hid (v = vc.setCell ⟨yb, 1, none⟩ (.slice a2 (chans.length + 1) c2)) := ⟨_, rfl⟩
    rw [← hvd.out]
    have hX' : vd.heap[xb]? = some (.cells #[.slice pa parts.length pc, .slice none 0 0, .int .i64 len0, .slice aa win0.length ac, .int .i64 len1, .slice ba win1.length bc] 29 (0, 0)) := by rw [hvd.out]; exact (Below.heap_setCell _ _ _ _ (by simpa using hne1)).trans hX
    have hY' : vd.heap[yb]? = some (.cells #[.slice pa parts.length pc, .slice a2 (chans.length + 1) c2, .int .i64 len0, .slice aa win0.length ac, .int .i64 len1, .slice ba win1.length bc] 29 (0, 0)) := by rw [hvd.out]; simp [World.setCell, Array.getElem?_modify, hY]
    have hB' : Below W.heap.size W vd := by rw [hvd.out]; exact hB.setCell (p := ⟨yb, 1, none⟩) hyW _
    have hown4 : OwnsOff vd W.heap.size 35 7 (.slice a2 (chans.length + 1) c2) (chans.length + 1) (rcells [.i64, .i64, .i64, .i64, .i64, .i64, .u32] (chans ++ [[x0, x1, x2, x3, x4, x5, x6]])) := by
      rw [hvd.out]
      exact hown3.kept (Only.setCell vc ⟨yb, 1, none⟩ _) (fun g hg e => by obtain ⟨cs, h⟩ := hown3.typed g hg; rw [show g = yb from e, hY] at h; cases h)
    clear hown3 hvd
    clear hB hX hY
    have hB := hB'; have hX := hX'; have hY := hY'
    clear hB' hX' hY' hHeld
    refine hK.out _ _ hB (fun hHeld => ?_)
    clear hK K
    (try simp only [Act.put, List.setIfInBounds_toArray, List.set_cons_zero, List.set_cons_succ, List.getElem_toArray, List.getElem_cons_zero, List.getElem_cons_succ])
    refine wpAnyH_done (by kernel_rfl) ?_ _
    clear hHeld
    generalize (Value.slice (some ⟨X0.heap.size, 0, none⟩) 0 0) = s21
    generalize (Value.slice (some ⟨v2.heap.size, 0, none⟩) 1 1) = s35
    generalize (Value.slice a1 chans.length c1) = s24
    revert hm2; revert hv2; revert hown4; revert hY; revert hX; revert hB; revert s35; revert s24; revert s21; revert c2; revert a2; revert vd
    exact key.get
    go_simp
    obtain ⟨v2, hv2⟩ : ∃ v, Hid (v = (v1.alloc (.cells #[.int .i64 x0, .int .i64 x1, .int .i64 x2, .int .i64 x3, .int .i64 x4, .int .i64 x5, .int .u32 x6] 35))) := ⟨_, rfl⟩
    rw [← hv2.out]
    have hl : Below v1.heap.size v1 v2 := by rw [hv2.out]; exact ((Below.refl _ _).alloc (Nat.le_refl _) _)
    have hEe : v2.heap[v1.heap.size]? = some (.cells #[.int .i64 x0, .int .i64 x1, .int .i64 x2, .int .i64 x3, .int .i64 x4, .int .i64 x5, .int .u32 x6] 35 (0, 0)) := by rw [hv2.out]; exact heap_alloc_new _ _
    have hWe : W.heap.size ≤ v1.heap.size := hB.size
    have hB' := hB.trans (hl.mono hB.size)
    have hX' := (hl.block xb (Array.getElem?_eq_some_iff.1 hX).1).trans hX
    have hY' := (hl.block yb (Array.getElem?_eq_some_iff.1 hY).1).trans hY
    have hE0 := (hl.block _ (Array.getElem?_eq_some_iff.1 hE0).1).trans hE0
    clear hB hX hY
    have hB := hB'; have hX := hX'; have hY := hY'
    clear hB' hX' hY' hHeld
    refine hK.out _ _ hB (fun hHeld => ?_)
    clear hK K
    (try simp only [Act.put, List.setIfInBounds_toArray, List.set_cons_zero, List.set_cons_succ, List.getElem_toArray, List.getElem_cons_zero, List.getElem_cons_succ])
    refine wpAnyH_ready (rs := [3]) (by kernel_rfl) (by simp) (AllReadyH.cons rfl (fun K hK => ?_) AllReadyH.nil)
    have hG0 : OwnsOff v2 W.heap.size 35 7 (.slice (some ⟨X0.heap.size, 0, none⟩) 0 0) 0 [] := ⟨rfl, .inr ⟨_, 0, 0, #[], rfl, hW0, hE0, Nat.le_refl _, by unfold maxLen; omega, by simp, rfl⟩⟩
    refine step_append_off rfl _ _ 23 rfl W.heap.size 35 i0 (.agg #[.int .i64 0, .int .i64 0, .int .i64 0, .int .i64 0, .int .i64 0, .int .i64 0, .int .u32 0]) 7 56 Try.underlying23 hi0 hz0 hz1 hz2 rfl (by decide) _ 0 [] rfl hG0 ⟨b, o, none⟩ chans.length cc (rcells [.i64, .i64, .i64, .i64, .i64, .i64, .u32] chans) rfl (by rw [rcells_len hcw]; rfl) (RowN.news (by decide) (hnw.below hB) hcw) rcells_ones (by unfold maxLen; omega) (by omega) hB.size ?_
    intro va v3 hown hgr hfr
    clear hfr
    have hnX : ∀ g : Nat, some g = (Value.slice (some ⟨X0.heap.size, 0, none⟩) 0 0).ownBlock → v2.heap[g]? = some (.cells #[] 35 (0, 0)) := fun g e => by rw [Option.some.inj e]; exact hE0
    have hX' := (hgr.block xb (Array.getElem?_eq_some_iff.1 hX).1 (fun e => by have := hnX xb e; rw [hX] at this; cases this)).trans hX
    have hY' := (hgr.block yb (Array.getElem?_eq_some_iff.1 hY).1 (fun e => by have := hnX yb e; rw [hY] at this; cases this)).trans hY
    have hB' := hB.grown hgr hB.size (fun k e => by rw [← Option.some.inj e]; exact hW0)
    have hEe := (hgr.block v1.heap.size (Array.getElem?_eq_some_iff.1 hEe).1 (fun e => by have e := Option.some.inj e; rw [e, hE0] at hEe; cases hEe)).trans hEe
    obtain ⟨a1, c1, rfl, hv1, hm1⟩ := hown.slice
    simp only [Nat.zero_add, List.nil_append] at hown
    clear hnX hgr hG0 hE0 hW0
    simp only [Nat.zero_add]
    clear hB hX hY
    have hB := hB'; have hX := hX'; have hY := hY'
    clear hB' hX' hY' hHeld
    refine hK.out _ _ hB (fun hHeld => ?_)
    clear hK K
    (try simp only [Act.put, List.setIfInBounds_toArray, List.set_cons_zero, List.set_cons_succ, List.getElem_toArray, List.getElem_cons_zero, List.getElem_cons_succ])
    refine wpAnyH_ready (rs := [15]) (by kernel_rfl) (by simp) (AllReadyH.cons rfl (fun K hK => ?_) AllReadyH.nil)
    refine step_append_off rfl _ _ 23 rfl W.heap.size 35 i0 (.agg #[.int .i64 0, .int .i64 0, .int .i64 0, .int .i64 0, .int .i64 0, .int .i64 0, .int .u32 0]) 7 56 Try.underlying23 hi0 hz0 hz1 hz2 rfl (by decide) _ chans.length (rcells [.i64, .i64, .i64, .i64, .i64, .i64, .u32] chans) rfl hown ⟨v1.heap.size, 0, none⟩ 1 1 [.int .i64 x0, .int .i64 x1, .int .i64 x2, .int .i64 x3, .int .i64 x4, .int .i64 x5, .int .u32 x6] rfl rfl (news_block hEe) (by simp [Value.oneCell']) (by unfold maxLen; omega) (by omega) hB.size ?_
    intro vb v4 hown2 hgr hfr
    clear hfr
    have hX' := (hgr.block xb (Array.getElem?_eq_some_iff.1 hX).1 (fun e => by obtain ⟨cs, h⟩ := hown.typed xb e.symm; rw [hX] at h; cases h)).trans hX
    have hY' := (hgr.block yb (Array.getElem?_eq_some_iff.1 hY).1 (fun e => by obtain ⟨cs, h⟩ := hown.typed yb e.symm; rw [hY] at h; cases h)).trans hY
    have hB' := hB.grown hgr hB.size (fun k e => (hown.lt k e).1)
    have hown' : OwnsOff v4 W.heap.size 35 7 vb (chans.length + 1) (rcells [.i64, .i64, .i64, .i64, .i64, .i64, .u32] (chans ++ [[x0, x1, x2, x3, x4, x5, x6]])) := by rw [rcells_app]; exact hown2
    clear hgr hown hEe hown2
    obtain ⟨a2, c2, rfl, hv2, hm2⟩ := hown'.slice
    clear hB hX hY
    have hB := hB'; have hX := hX'; have hY := hY'
    clear hB' hX' hY' hHeld
    refine hK.out _ _ hB (fun hHeld => ?_)
    clear hK K
    (try simp only [Act.put, List.setIfInBounds_toArray, List.set_cons_zero, List.set_cons_succ, List.getElem_toArray, List.getElem_cons_zero, List.getElem_cons_succ])
    refine wpAnyH_ready (rs := [17]) (by kernel_rfl) (by simp) (AllReadyH.cons rfl (fun K hK => ?_) AllReadyH.nil)
    have z0 := cell_blk hX (i := 1) rfl
    have z1 : v4.frozen? ⟨xb, 1, none⟩ = false := by simp [World.frozen?, hX]
    go_simp
    clear z0 z1
    obtain ⟨vc, hvc⟩ : ∃ v, Hid (v = v4.setCell ⟨xb, 1, none⟩ (.slice none 0 0)) := ⟨_, rfl⟩
    rw [← hvc.out]
    have hX' : vc.heap[xb]? = some (.cells #[.slice pa parts.length pc, .slice none 0 0, .int .i64 len0, .slice aa win0.length ac, .int .i64 len1, .slice ba win1.length bc] 29 (0, 0)) := by rw [hvc.out]; simp [World.setCell, Array.getElem?_modify, hX]
    have hY' : vc.heap[yb]? = some (.cells #[.slice pa parts.length pc, .slice (some ⟨b, o, none⟩) chans.length cc, .int .i64 len0, .slice aa win0.length ac, .int .i64 len1, .slice ba win1.length bc] 29 (0, 0)) := by rw [hvc.out]; exact (Below.heap_setCell _ _ _ _ (by simpa using hne1.symm)).trans hY
    have hB' : Below W.heap.size W vc := by rw [hvc.out]; exact hB.setCell (p := ⟨xb, 1, none⟩) hxW _
    have hown3 : OwnsOff vc W.heap.size 35 7 (.slice a2 (chans.length + 1) c2) (chans.length + 1) (rcells [.i64, .i64, .i64, .i64, .i64, .i64, .u32] (chans ++ [[x0, x1, x2, x3, x4, x5, x6]])) := by
      rw [hvc.out]
      exact hown'.kept (Only.setCell v4 ⟨xb, 1, none⟩ _) (fun g hg e => by obtain ⟨cs, h⟩ := hown'.typed g hg; rw [show g = xb from e, hX] at h; cases h)
    clear hown' hvc
    clear hB hX hY
    have hB := hB'; have hX := hX'; have hY := hY'
    clear hB' hX' hY' hHeld
    refine hK.out _ _ hB (fun hHeld => ?_)
    clear hK K
    (try simp only [Act.put, List.setIfInBounds_toArray, List.set_cons_zero, List.set_cons_succ, List.getElem_toArray, List.getElem_cons_zero, List.getElem_cons_succ])
    refine wpAnyH_take (i := 18) rfl (by kernel_rfl) (by kernel_rfl) (by kernel_rfl) (fun _ _ _ h => h) (Or.inl ⟨by rfl, by intro w hSw; (obtain ⟨c0, c1, c2, c3, c4, c5⟩ := bx _ hSw; obtain ⟨k0, k1, k2, k3, k4, k5, k6⟩ := hrow _ hSw); (go_simp <;> with_reducible rfl)⟩) (by assumption) ?_
    (try simp only [Act.put, List.setIfInBounds_toArray, List.set_cons_zero, List.set_cons_succ, List.getElem_toArray, List.getElem_cons_zero, List.getElem_cons_succ])
    refine wpAnyH_ready (rs := [19]) (by kernel_rfl) (by simp) (AllReadyH.cons rfl (fun K hK => ?_) AllReadyH.nil)
    have z0 := cell_blk hY (i := 1) rfl
    have z1 : vc.frozen? ⟨yb, 1, none⟩ = false := by simp [World.frozen?, hY]
    go_simp
    clear z0 z1
    obtain ⟨vd, hvd⟩ : ∃ v, Hid (v = vc.setCell ⟨yb, 1, none⟩ (.slice a2 (chans.length + 1) c2)) := ⟨_, rfl⟩
    rw [← hvd.out]
    have hX' : vd.heap[xb]? = some (.cells #[.slice pa parts.length pc, .slice none 0 0, .int .i64 len0, .slice aa win0.length ac, .int .i64 len1, .slice ba win1.length bc] 29 (0, 0)) := by rw [hvd.out]; exact (Below.heap_setCell _ _ _ _ (by simpa using hne1)).trans hX
    have hY' : vd.heap[yb]? = some (.cells #[.slice pa parts.length pc, .slice a2 (chans.length + 1) c2, .int .i64 len0, .slice aa win0.length ac, .int .i64 len1, .slice ba win1.length bc] 29 (0, 0)) := by rw [hvd.out]; simp [World.setCell, Array.getElem?_modify, hY]
    have hB' : Below W.heap.size W vd := by rw [hvd.out]; exact hB.setCell (p := ⟨yb, 1, none⟩) hyW _
    have hown4 : OwnsOff vd W.heap.size 35 7 (.slice a2 (chans.length + 1) c2) (chans.length + 1) (rcells [.i64, .i64, .i64, .i64, .i64, .i64, .u32] (chans ++ [[x0, x1, x2, x3, x4, x5, x6]])) := by
      rw [hvd.out]
      exact hown3.kept (Only.setCell vc ⟨yb, 1, none⟩ _) (fun g hg e => by obtain ⟨cs, h⟩ := hown3.typed g hg; rw [show g = yb from e, hY] at h; cases h)
    clear hown3 hvd
    clear hB hX hY
    have hB := hB'; have hX := hX'; have hY := hY'
    clear hB' hX' hY' hHeld
    refine hK.out _ _ hB (fun hHeld => ?_)
    clear hK K
    (try simp only [Act.put, List.setIfInBounds_toArray, List.set_cons_zero, List.set_cons_succ, List.getElem_toArray, List.getElem_cons_zero, List.getElem_cons_succ])
    refine wpAnyH_done (by kernel_rfl) ?_ _
    clear hHeld
    generalize (Value.slice (some ⟨X0.heap.size, 0, none⟩) 0 0) = s21
    generalize (Value.slice (some ⟨v1.heap.size, 0, none⟩) 1 1) = s35
    generalize (Value.slice a1 chans.length c1) = s24
    revert hm2; revert hv2; revert hown4; revert hY; revert hX; revert hB; revert s35; revert s24; revert s21; revert c2; revert a2; revert vd
    exact key.get
    go_simp
    obtain ⟨v1, hv1⟩ : ∃ v, Hid (v = (X0.alloc (.cells #[.int .i64 x0, .int .i64 x1, .int .i64 x2, .int .i64 x3, .int .i64 x4, .int .i64 x5, .int .u32 x6] 35)).drew) := ⟨_, rfl⟩
    rw [← hv1.out]
    have hl : Below X0.heap.size X0 v1 := by rw [hv1.out]; exact ((Below.refl _ _).alloc (Nat.le_refl _) _).drew
    have hEe : v1.heap[X0.heap.size]? = some (.cells #[.int .i64 x0, .int .i64 x1, .int .i64 x2, .int .i64 x3, .int .i64 x4, .int .i64 x5, .int .u32 x6] 35 (0, 0)) := by rw [hv1.out]; exact heap_alloc_new _ _
    have hWe : W.heap.size ≤ X0.heap.size := hB.size
    have hB' := hB.trans (hl.mono hB.size)
    have hX' := (hl.block xb (Array.getElem?_eq_some_iff.1 hX).1).trans hX
    have hY' := (hl.block yb (Array.getElem?_eq_some_iff.1 hY).1).trans hY
    clear hB hX hY
    have hB := hB'; have hX := hX'; have hY := hY'
    clear hB' hX' hY' hHeld
    refine hK.out _ _ hB (fun hHeld => ?_)
    clear hK K
    (try simp only [Act.put, List.setIfInBounds_toArray, List.set_cons_zero, List.set_cons_succ, List.getElem_toArray, List.getElem_cons_zero, List.getElem_cons_succ])
    refine wpAnyH_ready (rs := [0]) (by kernel_rfl) (by simp) (AllReadyH.cons rfl (fun K hK => ?_) AllReadyH.nil)
    go_simp
    obtain ⟨v2, hv2⟩ : ∃ v, Hid (v = (v1.alloc (.cells #[] 35))) := ⟨_, rfl⟩
    rw [← hv2.out]
    have hl : Below v1.heap.size v1 v2 := by rw [hv2.out]; exact ((Below.refl _ _).alloc (Nat.le_refl _) _)
    have hE0 : v2.heap[v1.heap.size]? = some (.cells #[] 35 (0, 0)) := by rw [hv2.out]; exact heap_alloc_new _ _
    have hW0 : W.heap.size ≤ v1.heap.size := hB.size
    have hB' := hB.trans (hl.mono hB.size)
    have hX' := (hl.block xb (Array.getElem?_eq_some_iff.1 hX).1).trans hX
    have hY' := (hl.block yb (Array.getElem?_eq_some_iff.1 hY).1).trans hY
    have hEe := (hl.block _ (Array.getElem?_eq_some_iff.1 hEe).1).trans hEe
    clear hB hX hY
    have hB := hB'; have hX := hX'; have hY := hY'
    clear hB' hX' hY' hHeld
    refine hK.out _ _ hB (fun hHeld => ?_)
    clear hK K
    (try simp only [Act.put, List.setIfInBounds_toArray, List.set_cons_zero, List.set_cons_succ, List.getElem_toArray, List.getElem_cons_zero, List.getElem_cons_succ])
    refine wpAnyH_ready (rs := [3]) (by kernel_rfl) (by simp) (AllReadyH.cons rfl (fun K hK => ?_) AllReadyH.nil)
    have hG0 : OwnsOff v2 W.heap.size 35 7 (.slice (some ⟨v1.heap.size, 0, none⟩) 0 0) 0 [] := ⟨rfl, .inr ⟨_, 0, 0, #[], rfl, hW0, hE0, Nat.le_refl _, by unfold maxLen; omega, by simp, rfl⟩⟩
    refine step_append_off rfl _ _ 23 rfl W.heap.size 35 i0 (.agg #[.int .i64 0, .int .i64 0, .int .i64 0, .int .i64 0, .int .i64 0, .int .i64 0, .int .u32 0]) 7 56 Try.underlying23 hi0 hz0 hz1 hz2 rfl (by decide) _ 0 [] rfl hG0 ⟨b, o, none⟩ chans.length cc (rcells [.i64, .i64, .i64, .i64, .i64, .i64, .u32] chans) rfl (by rw [rcells_len hcw]; rfl) (RowN.news (by decide) (hnw.below hB) hcw) rcells_ones (by unfold maxLen; omega) (by omega) hB.size ?_
    intro va v3 hown hgr hfr
    clear hfr
    have hnX : ∀ g : Nat, some g = (Value.slice (some ⟨v1.heap.size, 0, none⟩) 0 0).ownBlock → v2.heap[g]? = some (.cells #[] 35 (0, 0)) := fun g e => by rw [Option.some.inj e]; exact hE0
    have hX' := (hgr.block xb (Array.getElem?_eq_some_iff.1 hX).1 (fun e => by have := hnX xb e; rw [hX] at this; cases this)).trans hX
    have hY' := (hgr.block yb (Array.getElem?_eq_some_iff.1 hY).1 (fun e => by have := hnX yb e; rw [hY] at this; cases this)).trans hY
    have hB' := hB.grown hgr hB.size (fun k e => by rw [← Option.some.inj e]; exact hW0)
    have hEe := (hgr.block X0.heap.size (Array.getElem?_eq_some_iff.1 hEe).1 (fun e => by have e := Option.some.inj e; rw [e, hE0] at hEe; cases hEe)).trans hEe
    obtain ⟨a1, c1, rfl, hv1, hm1⟩ := hown.slice
    simp only [Nat.zero_add, List.nil_append] at hown
    clear hnX hgr hG0 hE0 hW0
    simp only [Nat.zero_add]
    clear hB hX hY
    have hB := hB'; have hX := hX'; have hY := hY'
    clear hB' hX' hY' hHeld
    refine hK.out _ _ hB (fun hHeld => ?_)
    clear hK K
    (try simp only [Act.put, List.setIfInBounds_toArray, List.set_cons_zero, List.set_cons_succ, List.getElem_toArray, List.getElem_cons_zero, List.getElem_cons_succ])
    refine wpAnyH_ready (rs := [15]) (by kernel_rfl) (by simp) (AllReadyH.cons rfl (fun K hK => ?_) AllReadyH.nil)
    refine step_append_off rfl _ _ 23 rfl W.heap.size 35 i0 (.agg #[.int .i64 0, .int .i64 0, .int .i64 0, .int .i64 0, .int .i64 0, .int .i64 0, .int .u32 0]) 7 56 Try.underlying23 hi0 hz0 hz1 hz2 rfl (by decide) _ chans.length (rcells [.i64, .i64, .i64, .i64, .i64, .i64, .u32] chans) rfl hown ⟨X0.heap.size, 0, none⟩ 1 1 [.int .i64 x0, .int .i64 x1, .int .i64 x2, .int .i64 x3, .int .i64 x4, .int .i64 x5, .int .u32 x6] rfl rfl (news_block hEe) (by simp [Value.oneCell']) (by unfold maxLen; omega) (by omega) hB.size ?_
    intro vb v4 hown2 hgr hfr
    clear hfr
    have hX' := (hgr.block xb (Array.getElem?_eq_some_iff.1 hX).1 (fun e => by obtain ⟨cs, h⟩ := hown.typed xb e.symm; rw [hX] at h; cases h)).trans hX
    have hY' := (hgr.block yb (Array.getElem?_eq_some_iff.1 hY).1 (fun e => by obtain ⟨cs, h⟩ := hown.typed yb e.symm; rw [hY] at h; cases h)).trans hY
    have hB' := hB.grown hgr hB.size (fun k e => (hown.lt k e).1)
    have hown' : OwnsOff v4 W.heap.size 35 7 vb (chans.length + 1) (rcells [.i64, .i64, .i64, .i64, .i64, .i64, .u32] (chans ++ [[x0, x1, x2, x3, x4, x5, x6]])) := by rw [rcells_app]; exact hown2
    clear hgr hown hEe hown2
    obtain ⟨a2, c2, rfl, hv2, hm2⟩ := hown'.slice
    clear hB hX hY
    have hB := hB'; have hX := hX'; have hY := hY'
    clear hB' hX' hY' hHeld
    refine hK.out _ _ hB (fun hHeld => ?_)
    clear hK K
    (try simp only [Act.put, List.setIfInBounds_toArray, List.set_cons_zero, List.set_cons_succ, List.getElem_toArray, List.getElem_cons_zero, List.getElem_cons_succ])
    refine wpAnyH_ready (rs := [17]) (by kernel_rfl) (by simp) (AllReadyH.cons rfl (fun K hK => ?_) AllReadyH.nil)
    have z0 := cell_blk hX (i := 1) rfl
    have z1 : v4.frozen? ⟨xb, 1, none⟩ = false := by simp [World.frozen?, hX]
    go_simp
    clear z0 z1
    obtain ⟨vc, hvc⟩ : ∃ v, Hid (v = v4.setCell ⟨xb, 1, none⟩ (.slice none 0 0)) := ⟨_, rfl⟩
    rw [← hvc.out]
    have hX' : vc.heap[xb]? = some (.cells #[.slice pa parts.length pc, .slice none 0 0, .int .i64 len0, .slice aa win0.length ac, .int .i64 len1, .slice ba win1.length bc] 29 (0, 0)) := by rw [hvc.out]; simp [World.setCell, Array.getElem?_modify, hX]
    have hY' : vc.heap[yb]? = some (.cells #[.slice pa parts.length pc, .slice (some ⟨b, o, none⟩) chans.length cc, .int .i64 len0, .slice aa win0.length ac, .int .i64 len1, .slice ba win1.length bc] 29 (0, 0)) := by rw [hvc.out]; exact (Below.heap_setCell _ _ _ _ (by simpa using hne1.symm)).trans hY
    have hB' : Below W.heap.size W vc := by rw [hvc.out]; exact hB.setCell (p := ⟨xb, 1, none⟩) hxW _
    have hown3 : OwnsOff vc W.heap.size 35 7 (.slice a2 (chans.length + 1) c2) (chans.length + 1) (rcells [.i64, .i64, .i64, .i64, .i64, .i64, .u32] (chans ++ [[x0, x1, x2, x3, x4, x5, x6]])) := by
      rw [hvc.out]
      exact hown'.kept (Only.setCell v4 ⟨xb, 1, none⟩ _) (fun g hg e => by obtain ⟨cs, h⟩ := hown'.typed g hg; rw [show g = xb from e, hX] at h; cases h)
    clear hown' hvc
    clear hB hX hY
    have hB := hB'; have hX := hX'; have hY := hY'
    clear hB' hX' hY' hHeld
    refine hK.out _ _ hB (fun hHeld => ?_)
    clear hK K
    (try simp only [Act.put, List.setIfInBounds_toArray, List.set_cons_zero, List.set_cons_succ, List.getElem_toArray, List.getElem_cons_zero, List.getElem_cons_succ])
    refine wpAnyH_take (i := 18) rfl (by kernel_rfl) (by kernel_rfl) (by kernel_rfl) (fun _ _ _ h => h) (Or.inl ⟨by rfl, by intro w hSw; (obtain ⟨c0, c1, c2, c3, c4, c5⟩ := bx _ hSw; obtain ⟨k0, k1, k2, k3, k4, k5, k6⟩ := hrow _ hSw); (go_simp <;> with_reducible rfl)⟩) (by assumption) ?_
    (try simp only [Act.put, List.setIfInBounds_toArray, List.set_cons_zero, List.set_cons_succ, List.getElem_toArray, List.getElem_cons_zero, List.getElem_cons_succ])
    refine wpAnyH_ready (rs := [19]) (by kernel_rfl) (by simp) (AllReadyH.cons rfl (fun K hK => ?_) AllReadyH.nil)
    have z0 := cell_blk hY (i := 1) rfl
    have z1 : vc.frozen? ⟨yb, 1, none⟩ = false := by simp [World.frozen?, hY]
    go_simp
    clear z0 z1
    obtain ⟨vd, hvd⟩ : ∃ v, Hid (v = vc.setCell ⟨yb, 1, none⟩ (.slice a2 (chans.length + 1) c2)) := ⟨_, rfl⟩
    rw [← hvd.out]
    have hX' : vd.heap[xb]? = some (.cells #[.slice pa parts.length pc, .slice none 0 0, .int .i64 len0, .slice aa win0.length ac, .int .i64 len1, .slice ba win1.length bc] 29 (0, 0)) := by rw [hvd.out]; exact (Below.heap_setCell _ _ _ _ (by simpa using hne1)).trans hX
    have hY' : vd.heap[yb]? = some (.cells #[.slice pa parts.length pc, .slice a2 (chans.length + 1) c2, .int .i64 len0, .slice aa win0.length ac, .int .i64 len1, .slice ba win1.length bc] 29 (0, 0)) := by rw [hvd.out]; simp [World.setCell, Array.getElem?_modify, hY]
    have hB' : Below W.heap.size W vd := by rw [hvd.out]; exact hB.setCell (p := ⟨yb, 1, none⟩) hyW _
    have hown4 : OwnsOff vd W.heap.size 35 7 (.slice a2 (chans.length + 1) c2) (chans.length + 1) (rcells [.i64, .i64, .i64, .i64, .i64, .i64, .u32] (chans ++ [[x0, x1, x2, x3, x4, x5, x6]])) := by
      rw [hvd.out]
      exact hown3.kept (Only.setCell vc ⟨yb, 1, none⟩ _) (fun g hg e => by obtain ⟨cs, h⟩ := hown3.typed g hg; rw [show g = yb from e, hY] at h; cases h)
    clear hown3 hvd
    clear hB hX hY
    have hB := hB'; have hX := hX'; have hY := hY'
    clear hB' hX' hY' hHeld
    refine hK.out _ _ hB (fun hHeld => ?_)
    clear hK K
    (try simp only [Act.put, List.setIfInBounds_toArray, List.set_cons_zero, List.set_cons_succ, List.getElem_toArray, List.getElem_cons_zero, List.getElem_cons_succ])
    refine wpAnyH_done (by kernel_rfl) ?_ _
    clear hHeld
    generalize (Value.slice (some ⟨v1.heap.size, 0, none⟩) 0 0) = s21
    generalize (Value.slice (some ⟨X0.heap.size, 0, none⟩) 1 1) = s35
    generalize (Value.slice a1 chans.length c1) = s24
    revert hm2; revert hv2; revert hown4; revert hY; revert hX; revert hB; revert s35; revert s24; revert s21; revert c2; revert a2; revert vd
    exact key.get
    intro vd a2 c2 s21 s24 s35 hBd hXd hYd hownd hc2 hm2
    have hwE : wfN [.i64, .i64, .i64, .i64, .i64, .i64, .u32] [x0, x1, x2, x3, x4, x5, x6] := hcw _ (List.mem_of_getElem? E1.out)
    have hwy : wfR [.i64, .i64, .i64, .i64, .i64, .i64, .u32] (chans ++ [[x0, x1, x2, x3, x4, x5, x6]]) := hcw.snoc hwE
    have hy2 : ∀ a, a2 = some a → a.block ≠ xb ∧ a.block < vd.heap.size := fun a ha => by
      have h := hownd.typed a.block (by rw [ha]; rfl)
      obtain ⟨cs, h⟩ := h
      exact ⟨(fun e => by rw [e, hXd] at h; cases h), (Array.getElem?_eq_some_iff.1 h).1⟩
    obtain ⟨A2, c2', hv2, hl2, hmx2, hr2, hn2, -⟩ := OwnsOff.rowN (l := chans ++ [[x0, x1, x2, x3, x4, x5, x6]]) (by simpa using hownd) hwy
    have hv2' : Value.slice a2 (chans.length + 1) c2 = Value.slice A2 (chans.length + 1) c2' := by simpa using hv2
    cases hv2'
    have HYD := Lib.hid hYd; have HXD := Lib.hid hXd; have HBD := Lib.hid hBd; have HR2 := Lib.hid hr2; have HY2 := Lib.hid hy2; have HWY := Lib.hid hwy; have HL2 := Lib.hid hl2; have HN2 := Lib.hid hn2
    obtain ⟨d0, d1, d2, d3, d4, d5⟩ := bx _ hBd
    clear hYd hXd hBd hownd hr2 hy2 hwy hwE hv2 hl2 hn2
    go_wp2
    clear d0 d1 d2 d3 d4 d5 m0 m1 r0 r1 r2 hrow
    go_loopw [42] (fun ix wr => ∃ (i : Nat) (v : Value), i ≤ chans.length ∧ ix = .int .i64 i ∧ wr.heap[xb]? = some (.cells #[.slice pa parts.length pc, v, .int .i64 len0, .slice aa win0.length ac, .int .i64 len1, .slice ba win1.length bc] 29 (0, 0)) ∧ OwnsOff wr vd.heap.size 35 7 v i (rcells [.i64, .i64, .i64, .i64, .i64, .i64, .u32] (rot chans q i)) ∧ Only (fun j => j = xb) vd wr) (fun ix _ => chans.length - (intOf ix).toNat)
    case atStart => exact ⟨0, _, Nat.zero_le _, rfl, HXD.out, OwnsOff.nil _ _ _ _, Only.refl _ _⟩
    case round =>
      obtain ⟨i, v, hi, rfl, hX, hown, hO⟩ := hrel
      have hB := HBD.out.trans (hO.below HBD.out.size (fun k hk => by omega))
      by_cases hlt : i < chans.length
      · have HRS := Lib.hid (rot_succ chans q i)
        obtain ⟨rs, hrs⟩ : ∃ rs, rot chans q i = rs := ⟨_, rfl⟩
        rw [hrs] at hown HRS
        clear hrs
        have hm' : (i + q) % chans.length < chans.length := Nat.mod_lt _ (by omega)
        obtain ⟨m', hmq⟩ : ∃ m', m' = (i + q) % chans.length := ⟨_, rfl⟩
        rw [← hmq] at hm'
        have r1 : ((i : Int) + (q : Int)) % (chans.length : Int) = (m' : Int) := by rw [hmq]; rfl
        have r2 : ((i : Int) + (q : Int)).tmod (chans.length : Int) = (m' : Int) := by rw [hmq]; rfl
        have r0 : IntKind.i64.wrap (q : Int) = (q : Int) := IntWalk.i64_in _ (by omega)
        have r3 : IntKind.i64.wrap ((i : Int) + (q : Int)) = (i : Int) + (q : Int) := IntWalk.i64_in _ (by omega)
        have m0 : (0 : Int) ≤ (m' : Int) := by omega
        have m1 : (m' : Int) < (chans.length : Int) := by omega
        rw [← hmq] at HRS
        clear hmq
        obtain ⟨b2, o2, y0, y1, y2, y3, y4, y5, y6, e0, hbw2, e1, -, hrow2⟩ := hc.at7 hcw hm'
        cases e0
        have HE1 := Lib.hid e1
        obtain ⟨A', c', rfl, hvl, hvm⟩ := hown.slice
        clear e1
        go_wp2_with fail
        refine wp_region_held_drew (S := (fun W' => Below W.heap.size W W')) (by kernel_rfl) (hB.drew) (fun hHeld => ?_)
        refine wpAnyH_take (i := 0) rfl (by kernel_rfl) (by kernel_rfl) (by kernel_rfl) (fun _ _ _ h => h) (Or.inl ⟨by rfl, by intro w hSw; (obtain ⟨c0, c1, c2, c3, c4, c5⟩ := bx _ hSw; obtain ⟨k0, k1, k2, k3, k4, k5, k6⟩ := hrow2 _ hSw); (go_simp <;> with_reducible rfl)⟩) (by assumption) ?_
        (try simp only [Act.put, List.setIfInBounds_toArray, List.set_cons_zero, List.set_cons_succ, List.getElem_toArray, List.getElem_cons_zero, List.getElem_cons_succ])
        refine wpAnyH_take (i := 2) rfl (by kernel_rfl) (by kernel_rfl) (by kernel_rfl) (fun _ _ _ h => h) (Or.inl ⟨by rfl, by intro w hSw; (obtain ⟨c0, c1, c2, c3, c4, c5⟩ := bx _ hSw; obtain ⟨k0, k1, k2, k3, k4, k5, k6⟩ := hrow2 _ hSw); (go_simp <;> with_reducible rfl)⟩) (by assumption) ?_
        (try simp only [Act.put, List.setIfInBounds_toArray, List.set_cons_zero, List.set_cons_succ, List.getElem_toArray, List.getElem_cons_zero, List.getElem_cons_succ])
        refine wpAnyH_take (i := 3) rfl (by kernel_rfl) (by kernel_rfl) (by kernel_rfl) (fun _ _ _ h => h) (Or.inl ⟨by rfl, by intro w hSw; (obtain ⟨c0, c1, c2, c3, c4, c5⟩ := bx _ hSw; obtain ⟨k0, k1, k2, k3, k4, k5, k6⟩ := hrow2 _ hSw); (go_simp <;> with_reducible rfl)⟩) (by assumption) ?_
        (try simp only [Act.put, List.setIfInBounds_toArray, List.set_cons_zero, List.set_cons_succ, List.getElem_toArray, List.getElem_cons_zero, List.getElem_cons_succ])
        refine wpAnyH_take (i := 4) rfl (by kernel_rfl) (by kernel_rfl) (by kernel_rfl) (fun _ _ _ h => h) (Or.inl ⟨by rfl, by intro w hSw; (obtain ⟨c0, c1, c2, c3, c4, c5⟩ := bx _ hSw; obtain ⟨k0, k1, k2, k3, k4, k5, k6⟩ := hrow2 _ hSw); (go_simp <;> with_reducible rfl)⟩) (by assumption) ?_
        (try simp only [Act.put, List.setIfInBounds_toArray, List.set_cons_zero, List.set_cons_succ, List.getElem_toArray, List.getElem_cons_zero, List.getElem_cons_succ])
        refine wpAnyH_take (i := 5) rfl (by kernel_rfl) (by kernel_rfl) (by kernel_rfl) (fun _ _ _ h => h) (Or.inl ⟨by rfl, by intro w hSw; (obtain ⟨c0, c1, c2, c3, c4, c5⟩ := bx _ hSw; obtain ⟨k0, k1, k2, k3, k4, k5, k6⟩ := hrow2 _ hSw); (go_simp <;> with_reducible rfl)⟩) (by assumption) ?_
        (try simp only [Act.put, List.setIfInBounds_toArray, List.set_cons_zero, List.set_cons_succ, List.getElem_toArray, List.getElem_cons_zero, List.getElem_cons_succ])
        refine wpAnyH_take (i := 6) rfl (by kernel_rfl) (by kernel_rfl) (by kernel_rfl) (fun _ _ _ h => h) (Or.inl ⟨by rfl, by intro w hSw; (obtain ⟨c0, c1, c2, c3, c4, c5⟩ := bx _ hSw; obtain ⟨k0, k1, k2, k3, k4, k5, k6⟩ := hrow2 _ hSw); (go_simp <;> with_reducible rfl)⟩) (by assumption) ?_
        (try simp only [Act.put, List.setIfInBounds_toArray, List.set_cons_zero, List.set_cons_succ, List.getElem_toArray, List.getElem_cons_zero, List.getElem_cons_succ])
        refine wpAnyH_take (i := 7) rfl (by kernel_rfl) (by kernel_rfl) (by kernel_rfl) (fun _ _ _ h => h) (Or.inl ⟨by rfl, by intro w hSw; (obtain ⟨c0, c1, c2, c3, c4, c5⟩ := bx _ hSw; obtain ⟨k0, k1, k2, k3, k4, k5, k6⟩ := hrow2 _ hSw); (go_simp <;> with_reducible rfl)⟩) (by assumption) ?_
        (try simp only [Act.put, List.setIfInBounds_toArray, List.set_cons_zero, List.set_cons_succ, List.getElem_toArray, List.getElem_cons_zero, List.getElem_cons_succ])
        refine wpAnyH_take (i := 8) rfl (by kernel_rfl) (by kernel_rfl) (by kernel_rfl) (fun _ _ _ h => h) (Or.inl ⟨by rfl, by intro w hSw; (obtain ⟨c0, c1, c2, c3, c4, c5⟩ := bx _ hSw; obtain ⟨k0, k1, k2, k3, k4, k5, k6⟩ := hrow2 _ hSw); (go_simp <;> with_reducible rfl)⟩) (by assumption) ?_
        (try simp only [Act.put, List.setIfInBounds_toArray, List.set_cons_zero, List.set_cons_succ, List.getElem_toArray, List.getElem_cons_zero, List.getElem_cons_succ])
        refine wpAnyH_take (i := 9) rfl (by kernel_rfl) (by kernel_rfl) (by kernel_rfl) (fun _ _ _ h => h) (Or.inl ⟨by rfl, by intro w hSw; (obtain ⟨c0, c1, c2, c3, c4, c5⟩ := bx _ hSw; obtain ⟨k0, k1, k2, k3, k4, k5, k6⟩ := hrow2 _ hSw); (go_simp <;> with_reducible rfl)⟩) (by assumption) ?_
        (try simp only [Act.put, List.setIfInBounds_toArray, List.set_cons_zero, List.set_cons_succ, List.getElem_toArray, List.getElem_cons_zero, List.getElem_cons_succ])
        refine wpAnyH_take (i := 10) rfl (by kernel_rfl) (by kernel_rfl) (by kernel_rfl) (fun _ _ _ h => h) (Or.inl ⟨by rfl, by intro w hSw; (obtain ⟨c0, c1, c2, c3, c4, c5⟩ := bx _ hSw; obtain ⟨k0, k1, k2, k3, k4, k5, k6⟩ := hrow2 _ hSw); (go_simp <;> with_reducible rfl)⟩) (by assumption) ?_
        (try simp only [Act.put, List.setIfInBounds_toArray, List.set_cons_zero, List.set_cons_succ, List.getElem_toArray, List.getElem_cons_zero, List.getElem_cons_succ])
        refine wpAnyH_take (i := 11) rfl (by kernel_rfl) (by kernel_rfl) (by kernel_rfl) (fun _ _ _ h => h) (Or.inl ⟨by rfl, by intro w hSw; (obtain ⟨c0, c1, c2, c3, c4, c5⟩ := bx _ hSw; obtain ⟨k0, k1, k2, k3, k4, k5, k6⟩ := hrow2 _ hSw); (go_simp <;> with_reducible rfl)⟩) (by assumption) ?_
        (try simp only [Act.put, List.setIfInBounds_toArray, List.set_cons_zero, List.set_cons_succ, List.getElem_toArray, List.getElem_cons_zero, List.getElem_cons_succ])
        refine wpAnyH_take (i := 12) rfl (by kernel_rfl) (by kernel_rfl) (by kernel_rfl) (fun _ _ _ h => h) (Or.inl ⟨by rfl, by intro w hSw; (obtain ⟨c0, c1, c2, c3, c4, c5⟩ := bx _ hSw; obtain ⟨k0, k1, k2, k3, k4, k5, k6⟩ := hrow2 _ hSw); (go_simp <;> with_reducible rfl)⟩) (by assumption) ?_
        (try simp only [Act.put, List.setIfInBounds_toArray, List.set_cons_zero, List.set_cons_succ, List.getElem_toArray, List.getElem_cons_zero, List.getElem_cons_succ])
        refine wpAnyH_take (i := 13) rfl (by kernel_rfl) (by kernel_rfl) (by kernel_rfl) (fun _ _ _ h => h) (Or.inl ⟨by rfl, by intro w hSw; (obtain ⟨c0, c1, c2, c3, c4, c5⟩ := bx _ hSw; obtain ⟨k0, k1, k2, k3, k4, k5, k6⟩ := hrow2 _ hSw); (go_simp <;> with_reducible rfl)⟩) (by assumption) ?_
        (try simp only [Act.put, List.setIfInBounds_toArray, List.set_cons_zero, List.set_cons_succ, List.getElem_toArray, List.getElem_cons_zero, List.getElem_cons_succ])
        apply cut2
        rotate_left
        intro key
        have hB := hB
        have hX := hX
        have hO := hO
        have hown := hown
        have hHeld := hHeld
        refine wpAnyH_ready (rs := [1, 14]) (by kernel_rfl) (by simp) (AllReadyH.cons rfl (fun K hK => ?_) (AllReadyH.cons rfl (fun K hK => ?_) AllReadyH.nil))
        have z0 := cell_blk hX (i := 1) rfl
        go_simp
        clear z0 hHeld
        refine hK.out _ _ hB.drew (fun hHeld => ?_)
        clear hK K
        (try simp only [Act.put, List.setIfInBounds_toArray, List.set_cons_zero, List.set_cons_succ, List.getElem_toArray, List.getElem_cons_zero, List.getElem_cons_succ])
        refine wpAnyH_ready (rs := [14]) (by kernel_rfl) (by simp) (AllReadyH.cons rfl (fun K hK => ?_) AllReadyH.nil)
        go_simp
        obtain ⟨v1, hv1⟩ : ∃ v, Hid (v = (wr.alloc (.cells #[.int .i64 y0, .int .i64 y1, .int .i64 y2, .int .i64 y3, .int .i64 y4, .int .i64 y5, .int .u32 y6] 35)).drew) := ⟨_, rfl⟩
        rw [← hv1.out]
        have hl : Below wr.heap.size wr v1 := by rw [hv1.out]; exact ((Below.refl _ _).alloc (Nat.le_refl _) _).drew
        have hEe : v1.heap[wr.heap.size]? = some (.cells #[.int .i64 y0, .int .i64 y1, .int .i64 y2, .int .i64 y3, .int .i64 y4, .int .i64 y5, .int .u32 y6] 35 (0, 0)) := by rw [hv1.out]; exact heap_alloc_new _ _
        have hX' := (hl.block xb (Array.getElem?_eq_some_iff.1 hX).1).trans hX
        have hO' : Only (fun j => j = xb) vd v1 := hO.trans (Only.of_below hl)
        have hown' := hown.keptB hl
        have hB' := hB.trans (hl.mono hB.size)
        clear hX hO hown hB hHeld
        have hX := hX'; have hO := hO'; have hown := hown'; have hB := hB'
        clear hX' hO' hown' hB'
        refine hK.out _ _ hB (fun hHeld => ?_)
        clear hK K
        (try simp only [Act.put, List.setIfInBounds_toArray, List.set_cons_zero, List.set_cons_succ, List.getElem_toArray, List.getElem_cons_zero, List.getElem_cons_succ])
        refine wpAnyH_ready (rs := [15]) (by kernel_rfl) (by simp) (AllReadyH.cons rfl (fun K hK => ?_) AllReadyH.nil)
        refine step_append_off rfl _ _ 23 rfl vd.heap.size 35 i0 (.agg #[.int .i64 0, .int .i64 0, .int .i64 0, .int .i64 0, .int .i64 0, .int .i64 0, .int .u32 0]) 7 56 Try.underlying23 hi0 hz0 hz1 hz2 rfl (by decide) _ i (rcells [.i64, .i64, .i64, .i64, .i64, .i64, .u32] rs) rfl hown ⟨wr.heap.size, 0, none⟩ 1 1 [.int .i64 y0, .int .i64 y1, .int .i64 y2, .int .i64 y3, .int .i64 y4, .int .i64 y5, .int .u32 y6] rfl rfl (news_block hEe) (by simp [Value.oneCell']) (by unfold maxLen; omega) (by omega) hO.size ?_
        intro vb v4 hown2 hgr hfr
        clear hfr
        have hnx : ∀ k, some k = (Value.slice A' i c').ownBlock → k ≠ xb := fun k e e2 => by obtain ⟨cs, h⟩ := hown.typed k e.symm; rw [e2, hX] at h; cases h
        have hX' := (hgr.block xb (Array.getElem?_eq_some_iff.1 hX).1 (fun e => hnx xb e rfl)).trans hX
        have hO' : Only (fun j => j = xb) vd v4 := ⟨hgr.os.trans hO.os, hgr.tape.trans hO.tape, hgr.output.trans hO.output, Nat.le_trans hO.size hgr.size, fun k hk hs => (hgr.block k (Nat.lt_of_lt_of_le hk hO.size) (fun e => by have := (hown.lt k e.symm).1; omega)).trans (hO.block k hk hs)⟩
        have hB' := hB.grown hgr hB.size (fun k e => by have := (hown.lt k e).1; have := HBD.out.size; omega)
        have hown' : OwnsOff v4 vd.heap.size 35 7 vb (i + 1) (rcells [.i64, .i64, .i64, .i64, .i64, .i64, .u32] (rs ++ [[y0, y1, y2, y3, y4, y5, y6]])) := by rw [rcells_app]; exact hown2
        clear hgr hown hEe hown2 hnx hB hX hO
        obtain ⟨a3, c3, rfl, hv3, hm3⟩ := hown'.slice
        have hX := hX'; have hO := hO'; have hB := hB'
        clear hX' hO' hB' hHeld
        refine hK.out _ _ hB (fun hHeld => ?_)
        clear hK K
        (try simp only [Act.put, List.setIfInBounds_toArray, List.set_cons_zero, List.set_cons_succ, List.getElem_toArray, List.getElem_cons_zero, List.getElem_cons_succ])
        refine wpAnyH_take (i := 16) rfl (by kernel_rfl) (by kernel_rfl) (by kernel_rfl) (fun _ _ _ h => h) (Or.inl ⟨by rfl, by intro w hSw; (obtain ⟨c0, c1, c2, c3, c4, c5⟩ := bx _ hSw; obtain ⟨k0, k1, k2, k3, k4, k5, k6⟩ := hrow2 _ hSw); (go_simp <;> with_reducible rfl)⟩) (by assumption) ?_
        (try simp only [Act.put, List.setIfInBounds_toArray, List.set_cons_zero, List.set_cons_succ, List.getElem_toArray, List.getElem_cons_zero, List.getElem_cons_succ])
        refine wpAnyH_ready (rs := [17]) (by kernel_rfl) (by simp) (AllReadyH.cons rfl (fun K hK => ?_) AllReadyH.nil)
        have z0 := cell_blk hX (i := 1) rfl
        have z1 : v4.frozen? ⟨xb, 1, none⟩ = false := by simp [World.frozen?, hX]
        go_simp
        clear z0 z1
        obtain ⟨ve, hve⟩ : ∃ v, Hid (v = v4.setCell ⟨xb, 1, none⟩ (.slice a3 (i + 1) c3)) := ⟨_, rfl⟩
        rw [← hve.out]
        have hX' : ve.heap[xb]? = some (.cells #[.slice pa parts.length pc, .slice a3 (i + 1) c3, .int .i64 len0, .slice aa win0.length ac, .int .i64 len1, .slice ba win1.length bc] 29 (0, 0)) := by rw [hve.out]; simp [World.setCell, Array.getElem?_modify, hX]
        have hB' : Below W.heap.size W ve := by rw [hve.out]; exact hB.setCell (p := ⟨xb, 1, none⟩) hxW _
        have hO' : Only (fun j => j = xb) vd ve := by rw [hve.out]; exact hO.trans ((Only.setCell v4 ⟨xb, 1, none⟩ _).mono (fun k _ e => e))
        have hown3 : OwnsOff ve vd.heap.size 35 7 (.slice a3 (i + 1) c3) (i + 1) (rcells [.i64, .i64, .i64, .i64, .i64, .i64, .u32] (rs ++ [[y0, y1, y2, y3, y4, y5, y6]])) := by
          rw [hve.out]
          exact hown'.kept (Only.setCell v4 ⟨xb, 1, none⟩ _) (fun g hg e => by obtain ⟨cs, h⟩ := hown'.typed g hg; rw [show g = xb from e, hX] at h; cases h)
        clear hown' hve hX hB hO
        have hX := hX'; have hO := hO'; have hB := hB'
        clear hX' hO' hB' hHeld
        refine hK.out _ _ hB (fun hHeld => ?_)
        clear hK K
        (try simp only [Act.put, List.setIfInBounds_toArray, List.set_cons_zero, List.set_cons_succ, List.getElem_toArray, List.getElem_cons_zero, List.getElem_cons_succ])
        refine wpAnyH_done (by kernel_rfl) ?_ _
        clear hHeld
        revert hown3; revert hO; revert hX; revert hB; revert c3; revert a3; revert ve
        exact key.get
        go_simp
        obtain ⟨v1, hv1⟩ : ∃ v, Hid (v = (wr.alloc (.cells #[.int .i64 y0, .int .i64 y1, .int .i64 y2, .int .i64 y3, .int .i64 y4, .int .i64 y5, .int .u32 y6] 35)).drew) := ⟨_, rfl⟩
        rw [← hv1.out]
        have hl : Below wr.heap.size wr v1 := by rw [hv1.out]; exact ((Below.refl _ _).alloc (Nat.le_refl _) _).drew
        have hEe : v1.heap[wr.heap.size]? = some (.cells #[.int .i64 y0, .int .i64 y1, .int .i64 y2, .int .i64 y3, .int .i64 y4, .int .i64 y5, .int .u32 y6] 35 (0, 0)) := by rw [hv1.out]; exact heap_alloc_new _ _
        have hX' := (hl.block xb (Array.getElem?_eq_some_iff.1 hX).1).trans hX
        have hO' : Only (fun j => j = xb) vd v1 := hO.trans (Only.of_below hl)
        have hown' := hown.keptB hl
        have hB' := hB.trans (hl.mono hB.size)
        clear hX hO hown hB hHeld
        have hX := hX'; have hO := hO'; have hown := hown'; have hB := hB'
        clear hX' hO' hown' hB'
        refine hK.out _ _ hB (fun hHeld => ?_)
        clear hK K
        (try simp only [Act.put, List.setIfInBounds_toArray, List.set_cons_zero, List.set_cons_succ, List.getElem_toArray, List.getElem_cons_zero, List.getElem_cons_succ])
        refine wpAnyH_ready (rs := [1]) (by kernel_rfl) (by simp) (AllReadyH.cons rfl (fun K hK => ?_) AllReadyH.nil)
        have z0 := cell_blk hX (i := 1) rfl
        go_simp
        clear z0 hHeld
        refine hK.out _ _ hB (fun hHeld => ?_)
        clear hK K
        (try simp only [Act.put, List.setIfInBounds_toArray, List.set_cons_zero, List.set_cons_succ, List.getElem_toArray, List.getElem_cons_zero, List.getElem_cons_succ])
        refine wpAnyH_ready (rs := [15]) (by kernel_rfl) (by simp) (AllReadyH.cons rfl (fun K hK => ?_) AllReadyH.nil)
        refine step_append_off rfl _ _ 23 rfl vd.heap.size 35 i0 (.agg #[.int .i64 0, .int .i64 0, .int .i64 0, .int .i64 0, .int .i64 0, .int .i64 0, .int .u32 0]) 7 56 Try.underlying23 hi0 hz0 hz1 hz2 rfl (by decide) _ i (rcells [.i64, .i64, .i64, .i64, .i64, .i64, .u32] rs) rfl hown ⟨wr.heap.size, 0, none⟩ 1 1 [.int .i64 y0, .int .i64 y1, .int .i64 y2, .int .i64 y3, .int .i64 y4, .int .i64 y5, .int .u32 y6] rfl rfl (news_block hEe) (by simp [Value.oneCell']) (by unfold maxLen; omega) (by omega) hO.size ?_
        intro vb v4 hown2 hgr hfr
        clear hfr
        have hnx : ∀ k, some k = (Value.slice A' i c').ownBlock → k ≠ xb := fun k e e2 => by obtain ⟨cs, h⟩ := hown.typed k e.symm; rw [e2, hX] at h; cases h
        have hX' := (hgr.block xb (Array.getElem?_eq_some_iff.1 hX).1 (fun e => hnx xb e rfl)).trans hX
        have hO' : Only (fun j => j = xb) vd v4 := ⟨hgr.os.trans hO.os, hgr.tape.trans hO.tape, hgr.output.trans hO.output, Nat.le_trans hO.size hgr.size, fun k hk hs => (hgr.block k (Nat.lt_of_lt_of_le hk hO.size) (fun e => by have := (hown.lt k e.symm).1; omega)).trans (hO.block k hk hs)⟩
        have hB' := hB.grown hgr hB.size (fun k e => by have := (hown.lt k e).1; have := HBD.out.size; omega)
        have hown' : OwnsOff v4 vd.heap.size 35 7 vb (i + 1) (rcells [.i64, .i64, .i64, .i64, .i64, .i64, .u32] (rs ++ [[y0, y1, y2, y3, y4, y5, y6]])) := by rw [rcells_app]; exact hown2
        clear hgr hown hEe hown2 hnx hB hX hO
        obtain ⟨a3, c3, rfl, hv3, hm3⟩ := hown'.slice
        have hX := hX'; have hO := hO'; have hB := hB'
        clear hX' hO' hB' hHeld
        refine hK.out _ _ hB (fun hHeld => ?_)
        clear hK K
        (try simp only [Act.put, List.setIfInBounds_toArray, List.set_cons_zero, List.set_cons_succ, List.getElem_toArray, List.getElem_cons_zero, List.getElem_cons_succ])
        refine wpAnyH_take (i := 16) rfl (by kernel_rfl) (by kernel_rfl) (by kernel_rfl) (fun _ _ _ h => h) (Or.inl ⟨by rfl, by intro w hSw; (obtain ⟨c0, c1, c2, c3, c4, c5⟩ := bx _ hSw; obtain ⟨k0, k1, k2, k3, k4, k5, k6⟩ := hrow2 _ hSw); (go_simp <;> with_reducible rfl)⟩) (by assumption) ?_
        (try simp only [Act.put, List.setIfInBounds_toArray, List.set_cons_zero, List.set_cons_succ, List.getElem_toArray, List.getElem_cons_zero, List.getElem_cons_succ])
        refine wpAnyH_ready (rs := [17]) (by kernel_rfl) (by simp) (AllReadyH.cons rfl (fun K hK => ?_) AllReadyH.nil)
        have z0 := cell_blk hX (i := 1) rfl
        have z1 : v4.frozen? ⟨xb, 1, none⟩ = false := by simp [World.frozen?, hX]
        go_simp
        clear z0 z1
        obtain ⟨ve, hve⟩ : ∃ v, Hid (v = v4.setCell ⟨xb, 1, none⟩ (.slice a3 (i + 1) c3)) := ⟨_, rfl⟩
        rw [← hve.out]
        have hX' : ve.heap[xb]? = some (.cells #[.slice pa parts.length pc, .slice a3 (i + 1) c3, .int .i64 len0, .slice aa win0.length ac, .int .i64 len1, .slice ba win1.length bc] 29 (0, 0)) := by rw [hve.out]; simp [World.setCell, Array.getElem?_modify, hX]
        have hB' : Below W.heap.size W ve := by rw [hve.out]; exact hB.setCell (p := ⟨xb, 1, none⟩) hxW _
        have hO' : Only (fun j => j = xb) vd ve := by rw [hve.out]; exact hO.trans ((Only.setCell v4 ⟨xb, 1, none⟩ _).mono (fun k _ e => e))
        have hown3 : OwnsOff ve vd.heap.size 35 7 (.slice a3 (i + 1) c3) (i + 1) (rcells [.i64, .i64, .i64, .i64, .i64, .i64, .u32] (rs ++ [[y0, y1, y2, y3, y4, y5, y6]])) := by
          rw [hve.out]
          exact hown'.kept (Only.setCell v4 ⟨xb, 1, none⟩ _) (fun g hg e => by obtain ⟨cs, h⟩ := hown'.typed g hg; rw [show g = xb from e, hX] at h; cases h)
        clear hown' hve hX hB hO
        have hX := hX'; have hO := hO'; have hB := hB'
        clear hX' hO' hB' hHeld
        refine hK.out _ _ hB (fun hHeld => ?_)
        clear hK K
        (try simp only [Act.put, List.setIfInBounds_toArray, List.set_cons_zero, List.set_cons_succ, List.getElem_toArray, List.getElem_cons_zero, List.getElem_cons_succ])
        refine wpAnyH_done (by kernel_rfl) ?_ _
        clear hHeld
        revert hown3; revert hO; revert hX; revert hB; revert c3; revert a3; revert ve
        exact key.get
        · intro ve a3 c3 hv3 hm3 hB3 hX3 hO3 hown3
          have HX3 := Lib.hid hX3; have HO3 := Lib.hid hO3; have HW3 := Lib.hid hown3
          clear hX3 hO3 hown3 hB3 hX hown hO hB hrow2
          go_wp2
          go_roundw
          case rel => exact ⟨i + 1, _, by omega, by go_num, HX3.out, by rw [HRS.out, row_at HE1.out]; exact HW3.out, HO3.out⟩
          case measure => simp [intOf]; omega
      · have hii : i = chans.length := by omega
        subst hii
        obtain ⟨A', c', rfl, hvl, hvm⟩ := hown.slice
        have hrl := rot_len chans q
        have hwx : wfR [.i64, .i64, .i64, .i64, .i64, .i64, .u32] (rot chans q chans.length) := rot_wf hcw hn0
        obtain ⟨A3, c3', hv3, hl3, hmx3, hr3, hn3, -⟩ := OwnsOff.rowN (l := rot chans q chans.length) (by rw [hrl]; exact hown) hwx
        rw [hrl] at hv3
        cases hv3
        have hin := HIN.out.later hB
        have hinX : CfgIn wr wr.heap.size ⟨parts, rot chans q chans.length, len0, win0, len1, win1⟩ ⟨pa, pc, A', c', aa, ac, ba, bc⟩ := ⟨hin.rp, hr3, hin.ra, hin.rb, hin.lp, ⟨hl3, hmx3, hn3⟩, hin.la, hin.lb⟩
        have hrY : RowN [.i64, .i64, .i64, .i64, .i64, .i64, .u32] wr wr.heap.size a2 (chans ++ [[x0, x1, x2, x3, x4, x5, x6]]) := (HR2.out.only (Nat.le_refl _) hO (fun a ha => (HY2.out a ha).1)).more hO.size
        have hinY : CfgIn wr wr.heap.size ⟨parts, chans ++ [[x0, x1, x2, x3, x4, x5, x6]], len0, win0, len1, win1⟩ ⟨pa, pc, a2, c2, aa, ac, ba, bc⟩ := ⟨hin.rp, hrY, hin.ra, hin.rb, hin.lp, ⟨HL2.out, hmx2, HN2.out⟩, hin.la, hin.lb⟩
        have hwfX : CfgWf ⟨parts, rot chans q chans.length, len0, win0, len1, win1⟩ := ⟨hpw, hwx, h0w, h1w, hl0, hl1⟩
        have hwfY : CfgWf ⟨parts, chans ++ [[x0, x1, x2, x3, x4, x5, x6]], len0, win0, len1, win1⟩ := ⟨hpw, HWY.out, h0w, h1w, hl0, hl1⟩
        have hfewX : CfgFew ⟨parts, rot chans q chans.length, len0, win0, len1, win1⟩ := ⟨hpl, by show (rot chans q chans.length).length ≤ _; omega, h0l, h1l⟩
        have hfewY : CfgFew ⟨parts, chans ++ [[x0, x1, x2, x3, x4, x5, x6]], len0, win0, len1, win1⟩ := ⟨hpl, by show (chans ++ [[x0, x1, x2, x3, x4, x5, x6]]).length ≤ _; simp; omega, h0l, h1l⟩
        obtain ⟨ds, hds⟩ : ∃ ds, allP (⟨parts, chans, len0, win0, len1, win1⟩ : Cfg) 17 = ds := ⟨_, rfl⟩
        have hdx : allP ⟨parts, rot chans q chans.length, len0, win0, len1, win1⟩ 17 = ds := by rw [← hds]; exact allP_with (c := (⟨parts, chans, len0, win0, len1, win1⟩ : Cfg)) (rot_mem hn0) hrl 17
        have hdl : ds.length ≤ 17 := by rw [← hds]; exact allP_len _ _
        have HT1 := Lib.hid (show ∀ W', Below wr.heap.size wr W' → Calls Try.prog 13 #[.agg #[.slice pa parts.length pc, .slice A' chans.length c', .int .i64 len0, .slice aa win0.length ac, .int .i64 len1, .slice ba win1.length bc], .int .i64 99] W' (GivesNums W' ds) from fun W' hb => by
          have h := toldAll_b _ _ W' (hinX.later hb) hwfX hfewX
          rw [hdx] at h
          simp only [cfgCells] at h
          rw [hrl] at h
          exact h)
        have HT2 := Lib.hid (show ∀ W', Below wr.heap.size wr W' → Calls Try.prog 13 #[.agg #[.slice pa parts.length pc, .slice (some ⟨b, o, none⟩) chans.length cc, .int .i64 len0, .slice aa win0.length ac, .int .i64 len1, .slice ba win1.length bc], .int .i64 99] W' (GivesNums W' ds) from fun W' hb => by
          have h := toldAll_b _ _ W' (hin.later hb) HWF.out HFEW.out
          rw [hds] at h
          exact h)
        have HH1 := Lib.hid (show ∀ (k : Int) W', Below wr.heap.size wr W' → k ≠ 4 → Calls Try.prog 9 #[.agg #[.slice pa parts.length pc, .slice a2 (chans.length + 1) c2, .int .i64 len0, .slice aa win0.length ac, .int .i64 len1, .slice ba win1.length bc], .int .i64 k] W' (fun e w' => e = .returned (.bool (holdsP (⟨parts, chans, len0, win0, len1, win1⟩ : Cfg) k)) ∧ Below W'.heap.size W' w') from fun k W' hb hk => by
          have h := holds_is ⟨parts, chans ++ [[x0, x1, x2, x3, x4, x5, x6]], len0, win0, len1, win1⟩ ⟨pa, pc, a2, c2, aa, ac, ba, bc⟩ k (holdsP (⟨parts, chans, len0, win0, len1, win1⟩ : Cfg) k) W' (hinY.later hb) hwfY hfewY (holdsP_twice (c := (⟨parts, chans, len0, win0, len1, win1⟩ : Cfg)) (List.mem_of_getElem? E1.out) hk)
          simp only [cfgCells] at h
          rw [show (chans ++ [[x0, x1, x2, x3, x4, x5, x6]]).length = chans.length + 1 by simp] at h
          exact h)
        have HH4 := Lib.hid (show ∀ W', Below wr.heap.size wr W' → Calls Try.prog 9 #[.agg #[.slice pa parts.length pc, .slice a2 (chans.length + 1) c2, .int .i64 len0, .slice aa win0.length ac, .int .i64 len1, .slice ba win1.length bc], .int .i64 4] W' (fun e w' => e = .returned (.bool (decide (8 ≤ chans.length))) ∧ Below W'.heap.size W' w') from fun W' hb => by
          have h := holds_is ⟨parts, chans ++ [[x0, x1, x2, x3, x4, x5, x6]], len0, win0, len1, win1⟩ ⟨pa, pc, a2, c2, aa, ac, ba, bc⟩ 4 (decide (8 ≤ chans.length)) W' (hinY.later hb) hwfY hfewY (holdsP_four (⟨parts, chans, len0, win0, len1, win1⟩ : Cfg) [x0, x1, x2, x3, x4, x5, x6])
          simp only [cfgCells] at h
          rw [show (chans ++ [[x0, x1, x2, x3, x4, x5, x6]]).length = chans.length + 1 by simp] at h
          exact h)
        have HH2 := Lib.hid (show ∀ (k : Int) W', Below wr.heap.size wr W' → Calls Try.prog 9 #[.agg #[.slice pa parts.length pc, .slice (some ⟨b, o, none⟩) chans.length cc, .int .i64 len0, .slice aa win0.length ac, .int .i64 len1, .slice ba win1.length bc], .int .i64 k] W' (fun e w' => e = .returned (.bool (holdsP (⟨parts, chans, len0, win0, len1, win1⟩ : Cfg) k)) ∧ Below W'.heap.size W' w') from fun k W' hb => holds_b (⟨parts, chans, len0, win0, len1, win1⟩ : Cfg) ⟨pa, pc, some ⟨b, o, none⟩, cc, aa, ac, ba, bc⟩ k W' (hin.later hb) HWF.out HFEW.out)
        have hYw : wr.heap[yb]? = some (.cells #[.slice pa parts.length pc, .slice a2 (chans.length + 1) c2, .int .i64 len0, .slice aa win0.length ac, .int .i64 len1, .slice ba win1.length bc] 29 (0, 0)) := (hO.block yb (Array.getElem?_eq_some_iff.1 HYD.out).1 (fun e => hne1 e.symm)).trans HYD.out
        have hcx : wr.cell? ⟨xb, 0, none⟩ = some (.slice pa parts.length pc) ∧ wr.cell? ⟨xb, 1, none⟩ = some (.slice A' chans.length c') ∧ wr.cell? ⟨xb, 2, none⟩ = some (.int .i64 len0) ∧ wr.cell? ⟨xb, 3, none⟩ = some (.slice aa win0.length ac) ∧ wr.cell? ⟨xb, 4, none⟩ = some (.int .i64 len1) ∧ wr.cell? ⟨xb, 5, none⟩ = some (.slice ba win1.length bc) ∧ wr.cell? ⟨w.heap.size, 0, none⟩ = some (.slice pa parts.length pc) ∧ wr.cell? ⟨w.heap.size, 1, none⟩ = some (.slice (some ⟨b, o, none⟩) chans.length cc) ∧ wr.cell? ⟨w.heap.size, 2, none⟩ = some (.int .i64 len0) ∧ wr.cell? ⟨w.heap.size, 3, none⟩ = some (.slice aa win0.length ac) ∧ wr.cell? ⟨w.heap.size, 4, none⟩ = some (.int .i64 len1) ∧ wr.cell? ⟨w.heap.size, 5, none⟩ = some (.slice ba win1.length bc) := ⟨cell_blk hX (i := 0) rfl, cell_blk hX (i := 1) rfl, cell_blk hX (i := 2) rfl, cell_blk hX (i := 3) rfl, cell_blk hX (i := 4) rfl, cell_blk hX (i := 5) rfl, bx _ hB⟩
        have hcy : wr.cell? ⟨yb, 0, none⟩ = some (.slice pa parts.length pc) ∧ wr.cell? ⟨yb, 1, none⟩ = some (.slice a2 (chans.length + 1) c2) ∧ wr.cell? ⟨yb, 2, none⟩ = some (.int .i64 len0) ∧ wr.cell? ⟨yb, 3, none⟩ = some (.slice aa win0.length ac) ∧ wr.cell? ⟨yb, 4, none⟩ = some (.int .i64 len1) ∧ wr.cell? ⟨yb, 5, none⟩ = some (.slice ba win1.length bc) ∧ wr.cell? ⟨w.heap.size, 0, none⟩ = some (.slice pa parts.length pc) ∧ wr.cell? ⟨w.heap.size, 1, none⟩ = some (.slice (some ⟨b, o, none⟩) chans.length cc) ∧ wr.cell? ⟨w.heap.size, 2, none⟩ = some (.int .i64 len0) ∧ wr.cell? ⟨w.heap.size, 3, none⟩ = some (.slice aa win0.length ac) ∧ wr.cell? ⟨w.heap.size, 4, none⟩ = some (.int .i64 len1) ∧ wr.cell? ⟨w.heap.size, 5, none⟩ = some (.slice ba win1.length bc) := ⟨cell_blk hYw (i := 0) rfl, cell_blk hYw (i := 1) rfl, cell_blk hYw (i := 2) rfl, cell_blk hYw (i := 3) rfl, cell_blk hYw (i := 4) rfl, cell_blk hYw (i := 5) rfl, bx _ hB⟩
        have HCY := Lib.hid hcy
        have HF0 := Lib.hid (HB.out.trans (hB.mono HB.out.size))
        obtain ⟨wz, hwz⟩ : ∃ wz, wz = wr := ⟨_, rfl⟩
        rw [← hwz]
        rw [← hwz] at HT1 HT2 HH1 HH2 HH4 hcx HCY HF0
        have hnl : ¬ ((chans.length : Nat) : Int) < (chans.length : Int) := by omega
        clear hwz hX hown hO hB hin hinX hinY hrY hwfX hwfY hfewX hfewY hds hdx hYw hcy hr3 hwx hl3 hmx3 hn3 hvl hvm
        go_wp2_with fail
        apply cut2
        rotate_left
        · intro key
          go_region_held3 (fun W' => Below wz.heap.size wz W' ∧ W'.cell? ⟨xb, 0, none⟩ = some (.slice pa parts.length pc) ∧ W'.cell? ⟨xb, 1, none⟩ = some (.slice A' chans.length c') ∧ W'.cell? ⟨xb, 2, none⟩ = some (.int .i64 len0) ∧ W'.cell? ⟨xb, 3, none⟩ = some (.slice aa win0.length ac) ∧ W'.cell? ⟨xb, 4, none⟩ = some (.int .i64 len1) ∧ W'.cell? ⟨xb, 5, none⟩ = some (.slice ba win1.length bc) ∧ W'.cell? ⟨w.heap.size, 0, none⟩ = some (.slice pa parts.length pc) ∧ W'.cell? ⟨w.heap.size, 1, none⟩ = some (.slice (some ⟨b, o, none⟩) chans.length cc) ∧ W'.cell? ⟨w.heap.size, 2, none⟩ = some (.int .i64 len0) ∧ W'.cell? ⟨w.heap.size, 3, none⟩ = some (.slice aa win0.length ac) ∧ W'.cell? ⟨w.heap.size, 4, none⟩ = some (.int .i64 len1) ∧ W'.cell? ⟨w.heap.size, 5, none⟩ = some (.slice ba win1.length bc)) ((first | exact ⟨(Below.refl _ _).drew, hcx⟩ | assumption | exact cfgs_next (by assumption) (by assumption)))
            (first | (go_at_call 13; ((with_reducible refine (HT1.out _ (And.left (by assumption))).mono ?_); intro e w5 hg; obtain ⟨A5, c5, rfl, _, _, hrowx, hbel⟩ := hg.row)) | (go_at_call 13; ((with_reducible refine (HT2.out _ (And.left (by assumption))).mono ?_); intro e w5 hg; obtain ⟨A6, c6, rfl, _, _, hrowc, hbel⟩ := hg.row)) | (go_at_call 12; refine (same_yes _ ds A5 A6 c5 c6 _ rfl (by first | exact hrowx | exact hrowx.later (by assumption)) (by first | exact hrowc | exact hrowc.later (by assumption)) (by omega)).mono ?_; rintro e w7 ⟨rfl, hbel⟩))
          all_goals
            have hS : Below wz.heap.size wz w7 := And.left (by assumption)
            generalize (Value.slice A5 ds.length c5) = s64
            generalize (Value.slice A6 ds.length c6) = s66
            obtain ⟨wf, hwf⟩ : ∃ wf, wf = w7 := ⟨_, rfl⟩
            rw [← hwf] at hS ⊢
            clear hwf
            revert hS; revert s66; revert s64; revert wf
            exact key.get
        · intro w8 s64 s66 hS8
          have HS8 := Lib.hid hS8
          clear hS8 hcx
          go_wp2
          go_loopw [8] (fun ix wr => ∃ k : Nat, 1 ≤ k ∧ k ≤ 18 ∧ ix = .int .i64 k ∧ Below wz.heap.size wz wr) (fun ix _ => 18 - (intOf ix).toNat)
          case atStart => exact ⟨1, by omega, by omega, rfl, HS8.out⟩
          case round =>
            obtain ⟨k, hk1, hk2, rfl, hfz⟩ := hrel
            obtain ⟨wf, hwf⟩ : ∃ wf, wf = wr := ⟨_, rfl⟩
            rw [← hwf]
            rw [← hwf] at hfz
            have hcy : wf.cell? ⟨yb, 0, none⟩ = some (.slice pa parts.length pc) ∧ wf.cell? ⟨yb, 1, none⟩ = some (.slice a2 (chans.length + 1) c2) ∧ wf.cell? ⟨yb, 2, none⟩ = some (.int .i64 len0) ∧ wf.cell? ⟨yb, 3, none⟩ = some (.slice aa win0.length ac) ∧ wf.cell? ⟨yb, 4, none⟩ = some (.int .i64 len1) ∧ wf.cell? ⟨yb, 5, none⟩ = some (.slice ba win1.length bc) ∧ wf.cell? ⟨w.heap.size, 0, none⟩ = some (.slice pa parts.length pc) ∧ wf.cell? ⟨w.heap.size, 1, none⟩ = some (.slice (some ⟨b, o, none⟩) chans.length cc) ∧ wf.cell? ⟨w.heap.size, 2, none⟩ = some (.int .i64 len0) ∧ wf.cell? ⟨w.heap.size, 3, none⟩ = some (.slice aa win0.length ac) ∧ wf.cell? ⟨w.heap.size, 4, none⟩ = some (.int .i64 len1) ∧ wf.cell? ⟨w.heap.size, 5, none⟩ = some (.slice ba win1.length bc) := (cfgs_next ⟨Below.refl _ _, HCY.out⟩ hfz).2
            clear hwf
            by_cases hlt : k ≤ 17
            · by_cases h4 : k = 4
              · subst h4
                have hbq := Below.refl wf.heap.size wf
                go_wp2_with fail
                (with_reducible refine wp_on hbq (by kernel_rfl) (by kernel_rfl) ?_); (repeat (go_big_quiet_step (fail))); (first | with_reducible refine wpQuiet_nil ?_ | refine wpQuiet_nil ?_); intro wq hbq
                have HFQ := Lib.hid (hfz.trans (hbq.mono hfz.size))
                go_wp2
                go_roundw
                case rel => exact ⟨5, by omega, by omega, rfl, HFQ.out⟩
                case measure => simp [intOf]
              · have h4a : ((k : Int) != 4) = true := by simp; omega
                have h4b : (k : Int) ≠ 4 := by omega
                have hlt1 : (k : Int) ≤ 17 := by omega
                obtain ⟨bb, hbb⟩ : ∃ bb, holdsP (⟨parts, chans, len0, win0, len1, win1⟩ : Cfg) (k : Int) = bb := ⟨_, rfl⟩
                have HA := Lib.hid (show ∀ W', Below wz.heap.size wz W' → Calls Try.prog 9 #[.agg #[.slice pa parts.length pc, .slice a2 (chans.length + 1) c2, .int .i64 len0, .slice aa win0.length ac, .int .i64 len1, .slice ba win1.length bc], .int .i64 (k : Int)] W' (fun e w' => e = .returned (.bool bb) ∧ Below W'.heap.size W' w') from fun W' hb => hbb ▸ HH1.out (k : Int) W' hb h4b)
                have HB5 := Lib.hid (show ∀ W', Below wz.heap.size wz W' → Calls Try.prog 9 #[.agg #[.slice pa parts.length pc, .slice (some ⟨b, o, none⟩) chans.length cc, .int .i64 len0, .slice aa win0.length ac, .int .i64 len1, .slice ba win1.length bc], .int .i64 (k : Int)] W' (fun e w' => e = .returned (.bool bb) ∧ Below W'.heap.size W' w') from fun W' hb => hbb ▸ HH2.out (k : Int) W' hb)
                have hbx : (bb != bb) = false := by cases bb <;> rfl
                clear hbb
                go_wp2_with fail
                go_region_held3 (fun W' => Below wf.heap.size wf W' ∧ W'.cell? ⟨yb, 0, none⟩ = some (.slice pa parts.length pc) ∧ W'.cell? ⟨yb, 1, none⟩ = some (.slice a2 (chans.length + 1) c2) ∧ W'.cell? ⟨yb, 2, none⟩ = some (.int .i64 len0) ∧ W'.cell? ⟨yb, 3, none⟩ = some (.slice aa win0.length ac) ∧ W'.cell? ⟨yb, 4, none⟩ = some (.int .i64 len1) ∧ W'.cell? ⟨yb, 5, none⟩ = some (.slice ba win1.length bc) ∧ W'.cell? ⟨w.heap.size, 0, none⟩ = some (.slice pa parts.length pc) ∧ W'.cell? ⟨w.heap.size, 1, none⟩ = some (.slice (some ⟨b, o, none⟩) chans.length cc) ∧ W'.cell? ⟨w.heap.size, 2, none⟩ = some (.int .i64 len0) ∧ W'.cell? ⟨w.heap.size, 3, none⟩ = some (.slice aa win0.length ac) ∧ W'.cell? ⟨w.heap.size, 4, none⟩ = some (.int .i64 len1) ∧ W'.cell? ⟨w.heap.size, 5, none⟩ = some (.slice ba win1.length bc)) ((first | exact ⟨(Below.refl _ _).drew, hcy⟩ | assumption | exact cfgs_next (by assumption) (by assumption)))
                  (first | (go_at_call 9; ((with_reducible refine (HA.out _ (below_two hfz (And.left (by assumption)))).mono ?_); rintro e w7 ⟨rfl, hbel⟩)) | (go_at_call 9; ((with_reducible refine (HB5.out _ (below_two hfz (And.left (by assumption)))).mono ?_); rintro e w7 ⟨rfl, hbel⟩)))
                all_goals
                  have HFQ := Lib.hid (below_two hfz (show Below wf.heap.size wf w7 from And.left (by assumption)))
                  go_wp2
                  go_roundw
                  case rel => exact ⟨k + 1, by omega, by omega, by go_num, HFQ.out⟩
                  case measure => simp [intOf]; omega
            · have hk18 : k = 18 := by omega
              subst hk18
              by_cases h8 : 8 ≤ chans.length
              · have g8 : (8 : Int) ≤ (chans.length : Int) := by omega
                have g9 : decide (8 ≤ chans.length) = true := decide_eq_true (by omega)
                have g10 : decide ((8 : Int) ≤ (chans.length : Int)) = true := decide_eq_true (by omega)
                have HH5 := Lib.hid (HH4.out)
                rw [g9] at HH5
                have HG := Lib.hid g9
                go_wp2_with fail
                go_region_held3 (fun W' => Below wf.heap.size wf W' ∧ W'.cell? ⟨yb, 0, none⟩ = some (.slice pa parts.length pc) ∧ W'.cell? ⟨yb, 1, none⟩ = some (.slice a2 (chans.length + 1) c2) ∧ W'.cell? ⟨yb, 2, none⟩ = some (.int .i64 len0) ∧ W'.cell? ⟨yb, 3, none⟩ = some (.slice aa win0.length ac) ∧ W'.cell? ⟨yb, 4, none⟩ = some (.int .i64 len1) ∧ W'.cell? ⟨yb, 5, none⟩ = some (.slice ba win1.length bc) ∧ W'.cell? ⟨w.heap.size, 0, none⟩ = some (.slice pa parts.length pc) ∧ W'.cell? ⟨w.heap.size, 1, none⟩ = some (.slice (some ⟨b, o, none⟩) chans.length cc) ∧ W'.cell? ⟨w.heap.size, 2, none⟩ = some (.int .i64 len0) ∧ W'.cell? ⟨w.heap.size, 3, none⟩ = some (.slice aa win0.length ac) ∧ W'.cell? ⟨w.heap.size, 4, none⟩ = some (.int .i64 len1) ∧ W'.cell? ⟨w.heap.size, 5, none⟩ = some (.slice ba win1.length bc)) ((first | exact ⟨(Below.refl _ _).drew, hcy⟩ | assumption | exact cfgs_next (by assumption) (by assumption)))
                  (first | (go_at_call 9; ((with_reducible refine (HH5.out _ (below_two hfz (And.left (by assumption)))).mono ?_); rintro e w7 ⟨rfl, hbel⟩)))
                all_goals
                  have hS : Below wf.heap.size wf w7 := And.left (by assumption)
                  have HF := Lib.hid (HF0.out.trans ((hfz.trans (hS.mono hfz.size)).mono HF0.out.size))
                  go_wp2
                  go_ret
                  exact ⟨rfl, HF.out⟩
              · have g8 : ¬ (8 : Int) ≤ (chans.length : Int) := by omega
                have g9 : decide (8 ≤ chans.length) = false := decide_eq_false (by omega)
                have g10 : decide ((8 : Int) ≤ (chans.length : Int)) = false := decide_eq_false (by omega)
                have HH5 := Lib.hid (HH4.out)
                rw [g9] at HH5
                have HG := Lib.hid g9
                go_wp2_with fail
                go_region_held3 (fun W' => Below wf.heap.size wf W' ∧ W'.cell? ⟨yb, 0, none⟩ = some (.slice pa parts.length pc) ∧ W'.cell? ⟨yb, 1, none⟩ = some (.slice a2 (chans.length + 1) c2) ∧ W'.cell? ⟨yb, 2, none⟩ = some (.int .i64 len0) ∧ W'.cell? ⟨yb, 3, none⟩ = some (.slice aa win0.length ac) ∧ W'.cell? ⟨yb, 4, none⟩ = some (.int .i64 len1) ∧ W'.cell? ⟨yb, 5, none⟩ = some (.slice ba win1.length bc) ∧ W'.cell? ⟨w.heap.size, 0, none⟩ = some (.slice pa parts.length pc) ∧ W'.cell? ⟨w.heap.size, 1, none⟩ = some (.slice (some ⟨b, o, none⟩) chans.length cc) ∧ W'.cell? ⟨w.heap.size, 2, none⟩ = some (.int .i64 len0) ∧ W'.cell? ⟨w.heap.size, 3, none⟩ = some (.slice aa win0.length ac) ∧ W'.cell? ⟨w.heap.size, 4, none⟩ = some (.int .i64 len1) ∧ W'.cell? ⟨w.heap.size, 5, none⟩ = some (.slice ba win1.length bc)) ((first | exact ⟨(Below.refl _ _).drew, hcy⟩ | assumption | exact cfgs_next (by assumption) (by assumption)))
                  (first | (go_at_call 9; ((with_reducible refine (HH5.out _ (below_two hfz (And.left (by assumption)))).mono ?_); rintro e w7 ⟨rfl, hbel⟩)))
                all_goals
                  have hS : Below wf.heap.size wf w7 := And.left (by assumption)
                  have HF := Lib.hid (HF0.out.trans ((hfz.trans (hS.mono hfz.size)).mono HF0.out.size))
                  go_wp2
                  go_ret
                  exact ⟨rfl, HF.out⟩
end Go.Proofs.Ytogffilanioejaa
