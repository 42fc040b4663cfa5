/- Texts of the ring, joined, what is used of them. No condition but those in the statements. -/
import Derived.BigQuiet
import Derived.BigRegion
import Derived.Deep.MidRow
import Derived.Deep.RegionHeld3
import Derived.Deep.Upon
import Derived.IntWalk
import Derived.Shelf.Abstract
import Derived.Test.YtmhpcgcloojfbaaGreatQgG
namespace Go.Proofs.YtmhpcgcloojfbaaGreat
open Go.RowKit Go.Sort
set_option linter.unusedVariables false
set_option linter.unusedSimpArgs false
set_option linter.unusedVariables false
set_option linter.unusedSimpArgs false
open Go.Proofs.YtmhpcgcloojfbaaGreat.Simp
set_option maxRecDepth 100000
set_option maxHeartbeats 12800000
/-- The example's steps: the send and the memory behind j of them. -/
def wk:Nat → QS × List Int
  | 0 => (startQ [1] 7,((List.replicate (3 + 1 * (1 + 1)) 0).set 1 7).set (2 + 1 * (1 + 1)) 7)
  | j + 1 => ((qsend (qr2 1 1) (wk j).1 (wk j).2).1,(qsend (qr2 1 1) (wk j).1 (wk j).2).2.1)
def wkS (j:Nat):QS:=(wk j).1
def wkM (j:Nat):List Int:=(wk j).2
theorem wkM_zero:wkM 0 = ((List.replicate (3 + 1 * (1 + 1)) 0).set 1 7).set (2 + 1 * (1 + 1)) 7:=rfl
theorem wk_empty:qrecv (qr2 1 1) (startQ [] 7) (wkM 0) = (⟨[],-1,7,0⟩,wkM 0,⟨true,true,false,2,[]⟩):=by rfl
theorem wk_not:∀ j,j < 4 → (qsend (qr2 1 1) (wkS j) (wkM j)).2.2.done = false:=by
  intro j hj
  match j,hj with
  | 0,_ => decide
  | 1,_ => decide
  | 2,_ => decide
  | 3,_ => decide
theorem wk_step (j:Nat) (hj:j < 4):(qsend (qr2 1 1) (wkS j) (wkM j)).1 = wkS (j + 1) ∧ (qsend (qr2 1 1) (wkS j) (wkM j)).2.1 = wkM (j + 1) ∧ (qsend (qr2 1 1) (wkS j) (wkM j)).2.2.done = false:=⟨rfl,rfl,wk_not j hj⟩
theorem wk_last:(qsend (qr2 1 1) (wkS 4) (wkM 4)).2.2.done = true ∧ (qsend (qr2 1 1) (wkS 4) (wkM 4)).2.2.ring = true:=by decide
theorem wk_next {N D:Nat} (hN:1 = N) (hD:1 = D) (j:Nat) (hj:j < 4):(qsend (qr2 N D) (wkS j) (wkM j)).1 = wkS (j + 1) ∧ (qsend (qr2 N D) (wkS j) (wkM j)).2.1 = wkM (j + 1) ∧ (qsend (qr2 N D) (wkS j) (wkM j)).2.2.done = false:=by subst hN;subst hD;exact wk_step j hj
theorem wk_end {N D:Nat} (hN:1 = N) (hD:1 = D):(qsend (qr2 N D) (wkS 4) (wkM 4)).2.2.done = true ∧ (qsend (qr2 N D) (wkS 4) (wkM 4)).2.2.ring = true:=by subst hN;subst hD;exact wk_last
theorem run_didQ (cd:Int) (mk rg:Bool) (w:World):(Instr.field 56 (.agg #[.bool false,.int .i64 cd,.slice none 0 0,.bool false,.int .i64 0,.bool mk,.bool rg,.bool false,.int .i64 0]) 0).run Tryz.prog w = .ok (.bool false) w:=by kernel_rfl
theorem blk_didQ {X:World} {b:Nat} {dn:Bool} {cd:Int} {v:Value} {mk rg:Bool} (h:X.heap[b]? = some (.cells (qdV dn cd v 0 mk rg) 56 (0,0))) (cs:List Value) (hc:cs.length = 9):(X.setCells b 0 cs).heap[b]? = some (.cells cs.toArray 56 (0,0)):=by
  match cs,hc with
  | [c0,c1,c2,c3,c4,c5,c6,c7,c8],_ =>
    simp [World.setCells,World.setCell,Array.getElem?_modify,h,Addr.add]
section
variable {W w1 w5:World} {E:Nat → Prop} {mb rb bb br be:Nat} {F:Qr} {ws3:List Int} {bs3:List Bool} {os og:Option (Nat × QS)} {vs:List Value}
theorem quoT_a (hd:Quo W w5 W.heap.size (fun k => E k ∨ (w1.heap.size ≤ k ∧ k < w1.heap.size)) mb rb bb br F be ws3 bs3 os og) :
    Quo W ((w5.alloc (.cells (didV false 0 (.slice none 0 0) false false false 0) 56)).setCells w5.heap.size 0 vs) W.heap.size (fun k => E k ∨ k = w5.heap.size) mb rb bb br F be ws3 bs3 os og:=by
  have hx:=Only.sets (S:=fun k => k = w5.heap.size) rfl vs 0 (Only.refl _ (w5.alloc (.cells (didV false 0 (.slice none 0 0) false false false 0) 56)))
  have hax:Only (fun _ => False) w5 (w5.alloc (.cells (didV false 0 (.slice none 0 0) false false false 0) 56)):=(Only.refl _ _).alloc _
  have haz:Only (fun _ => False) w5 ((w5.alloc (.cells (didV false 0 (.slice none 0 0) false false false 0) 56)).setCells w5.heap.size 0 vs):=((hax.mono fun _ _ h => h.elim).trans (hx.mono fun k _ h => Nat.le_of_eq h.symm)).mono (S:=fun k => w5.heap.size ≤ k) (fun k hk h => by omega)
  have hsz:=hx.size
  have hz:=World.size_alloc w5 (.cells (didV false 0 (.slice none 0 0) false false false 0) 56)
  exact (hd.fewer (fun k h => .inl h)).only haz (fun _ _ h => h.elim) (fun k h => h.imp id (fun e => ⟨by omega,by omega⟩))
theorem quoT_b (hd:Quo W w5 W.heap.size (fun k => E k ∨ (w1.heap.size ≤ k ∧ k < (w1.alloc (.cells (didV false 0 (.slice none 0 0) false false false 0) 56)).heap.size)) mb rb bb br F be ws3 bs3 os og) (hW:W.heap.size ≤ w1.heap.size) :
    Quo W (w5.setCells w1.heap.size 0 vs) W.heap.size (fun k => E k ∨ k = w1.heap.size) mb rb bb br F be ws3 bs3 os og:=by
  have hx:=Only.sets (S:=fun k => k = w1.heap.size) rfl vs 0 (Only.refl _ w5)
  have hz:=World.size_alloc w1 (.cells (didV false 0 (.slice none 0 0) false false false 0) 56)
  exact hd.only hx (fun k _ h => ⟨.inr (by omega),by omega⟩) (fun k h => .inl (h.imp id (fun e => by omega)))
end
theorem wakesQ_b (w:World):Calls Tryz.prog 20 #[] w fun e w' => e = .returned (.bool true) ∧ Below w.heap.size w w':=by
  obtain ⟨N,hN⟩:∃ N:Nat,1 = N:=⟨_,rfl⟩
  obtain ⟨D,hD⟩:∃ D:Nat,1 = D:=⟨_,rfl⟩
  have hF:QrOf (cfgQ N D 7) 0 (qr2 N D):=cfgQ_qr (by omega) (by omega) (by omega)
  have hwf:CfgWf (cfgQ N D 7):=cfgQ_wf (i64_of (by omega)) (i64_of (by omega)) (by decide)
  have HTW:Hid (Calls Tryz.prog 42 #[.int .i64 1,.int .i64 1,.int .u32 7] w fun e w' => ∃ x,e = .returned (.agg (cfgCells (cfgQ N D 7) x)) ∧ CfgIn w' w'.heap.size (cfgQ N D 7) x ∧ Below w.heap.size w w'):=Lib.hid (by subst hN;subst hD;exact twoQ_b 1 1 7 w rfl rfl rfl)
  obtain ⟨f1,f2,f3,f4,f5,f6⟩:=cfgQ_len N D 7
  simp only [cfgCells,f1,f2,f3,f4,f5,f6] at HTW
  have HF:=Lib.hid hF;have HWF:=Lib.hid hwf;have HN:=Lib.hid hN;have HD:=Lib.hid hD
  clear hF hwf hN hD
  go_enter Tryz.func20,Tryz.ntmps20
  go_wp2_with fail
  refine HTW.out.mono ?_
  rintro e W ⟨x,rfl,hx,hb1⟩
  have hbg:=beginQ_b N D 7 x W hx (by have:=HN.out;omega) (by have:=HD.out;omega) (by omega)
  simp only [cfgCells,f1,f2,f3,f4,f5,f6] at hbg
  have HBG:=Lib.hid hbg;have HX:=Lib.hid hx;have HB1:=Lib.hid hb1
  have hns:=fun (W':World) (db:Nat) (hb:Below W.heap.size W W') (hd:W'.heap[db]? = some (.cells #[.int .u32 1] 34 (0,0))) => callsIn_wide.1 (newS_in (cfgQ N D 7) x 0 (qr2 N D) 7 [1] db 0 1 W' (hx.later hb) HWF.out (cfgQ_few N D 7) HF.out (by decide) ⟨_,_,hd,(by intro j hj;have hj:j < 1:=hj;obtain rfl:j = 0:=(by omega);rfl)⟩ (by have:=HN.out;show 1 ≤ 1 ∧ 1 ≤ N;omega))
  have hng:=fun (W':World) (hb:Below W.heap.size W W') => newG_b (cfgQ N D 7) x 0 (qr2 N D) 7 W' (hx.later hb) HWF.out (cfgQ_few N D 7) HF.out (by decide)
  simp only [cfgCells,f1,f2,f3,f4,f5,f6] at hns hng
  have HNS0:=Lib.hid hns;have HNG0:=Lib.hid hng
  clear hbg hx hb1 hns hng f1 f2 f3 f4 f5 f6
  go_wp2_with fail
  refine HBG.out.mono ?_
  rintro e v2 ⟨pb,mb,rb,bb,br,rfl,hp⟩
  obtain ⟨bs,hq,-,-⟩:=hp.quo
  obtain ⟨E,hE⟩:∃ E:Nat → Prop,E = fun k => k = pb:=⟨_,rfl⟩
  have hq:Quo W v2 W.heap.size E mb rb bb br (qr2 N D) 1 (wkM 0) bs none none:=by
    have q:Quo W v2 W.heap.size (fun k => k = pb) mb rb bb br (qr2 N D) 1 (((List.replicate (3 + D * (N + 1)) 0).set 1 7).set (2 + D * (N + 1)) 7) bs none none:=hq
    rw [← HN.out,← HD.out] at q ⊢
    rw [hE,wkM_zero];exact q
  have HB2:Hid (v2.heap[pb]? = some (.cells (qpV x mb bb (.pointer none) (.pointer none) 7 7 0 0 0 0 0) 103 (0,0))):=Lib.hid hp.blk
  have HQ2:=Lib.hid hq
  have hpl:pb < v2.heap.size:=(Array.getElem?_eq_some_iff.1 HB2.out).1
  have HPW:=Lib.hid hp.pe.2
  clear hp hq
  go_wp2
  refine wp_region_held_drew (S:=(fun W' => W'.cell? ⟨pb,0,none⟩ = some (.slice x.pa 2 x.pc) ∧ W'.cell? ⟨pb,1,none⟩ = some (.slice x.ca 1 x.cc) ∧ W'.cell? ⟨pb,2,none⟩ = some (.int .i64 1) ∧ W'.cell? ⟨pb,3,none⟩ = some (.slice x.aa 1 x.ac) ∧ W'.cell? ⟨pb,4,none⟩ = some (.int .i64 1) ∧ W'.cell? ⟨pb,5,none⟩ = some (.slice x.ba 1 x.bc))) (by kernel_rfl) (by have hB2:v2.drew.heap[pb]? = _:=HB2.out;exact ⟨cell_blk hB2 rfl,cell_blk hB2 rfl,cell_blk hB2 rfl,cell_blk hB2 rfl,cell_blk hB2 rfl,cell_blk hB2 rfl⟩) (fun hHeld => ?_)
  refine wpAnyH_take (i:=0) rfl (by kernel_rfl) (by kernel_rfl) (by kernel_rfl) (fun _ _ _ h => h) (Or.inl ⟨by rfl,by intro w hSw;(have z0:=hSw.1;have z1:=hSw.2.1;have z2:=hSw.2.2.1;have z3:=hSw.2.2.2.1;have z4:=hSw.2.2.2.2.1;have z5:=hSw.2.2.2.2.2);(go_simp <;> with_reducible rfl)⟩) (by assumption) ?_
  (try simp only [Act.put,List.setIfInBounds_toArray,List.set_cons_zero,List.set_cons_succ,List.getElem_toArray,List.getElem_cons_zero,List.getElem_cons_succ])
  refine wpAnyH_take (i:=1) rfl (by kernel_rfl) (by kernel_rfl) (by kernel_rfl) (fun _ _ _ h => h) (Or.inl ⟨by rfl,by intro w hSw;(have z0:=hSw.1;have z1:=hSw.2.1;have z2:=hSw.2.2.1;have z3:=hSw.2.2.2.1;have z4:=hSw.2.2.2.2.1;have z5:=hSw.2.2.2.2.2);(go_simp <;> with_reducible rfl)⟩) (by assumption) ?_
  (try simp only [Act.put,List.setIfInBounds_toArray,List.set_cons_zero,List.set_cons_succ,List.getElem_toArray,List.getElem_cons_zero,List.getElem_cons_succ])
  refine wpAnyH_take (i:=2) rfl (by kernel_rfl) (by kernel_rfl) (by kernel_rfl) (fun _ _ _ h => h) (Or.inl ⟨by rfl,by intro w hSw;(have z0:=hSw.1;have z1:=hSw.2.1;have z2:=hSw.2.2.1;have z3:=hSw.2.2.2.1;have z4:=hSw.2.2.2.2.1;have z5:=hSw.2.2.2.2.2);(go_simp <;> with_reducible rfl)⟩) (by assumption) ?_
  (try simp only [Act.put,List.setIfInBounds_toArray,List.set_cons_zero,List.set_cons_succ,List.getElem_toArray,List.getElem_cons_zero,List.getElem_cons_succ])
  refine wpAnyH_take (i:=3) rfl (by kernel_rfl) (by kernel_rfl) (by kernel_rfl) (fun _ _ _ h => h) (Or.inl ⟨by rfl,by intro w hSw;(have z0:=hSw.1;have z1:=hSw.2.1;have z2:=hSw.2.2.1;have z3:=hSw.2.2.2.1;have z4:=hSw.2.2.2.2.1;have z5:=hSw.2.2.2.2.2);(go_simp <;> with_reducible rfl)⟩) (by assumption) ?_
  (try simp only [Act.put,List.setIfInBounds_toArray,List.set_cons_zero,List.set_cons_succ,List.getElem_toArray,List.getElem_cons_zero,List.getElem_cons_succ])
  refine wpAnyH_take (i:=6) rfl (by kernel_rfl) (by kernel_rfl) (by kernel_rfl) (fun _ _ _ h => h) (Or.inl ⟨by rfl,by intro w hSw;(have z0:=hSw.1;have z1:=hSw.2.1;have z2:=hSw.2.2.1;have z3:=hSw.2.2.2.1;have z4:=hSw.2.2.2.2.1;have z5:=hSw.2.2.2.2.2);(go_simp <;> with_reducible rfl)⟩) (by assumption) ?_
  (try simp only [Act.put,List.setIfInBounds_toArray,List.set_cons_zero,List.set_cons_succ,List.getElem_toArray,List.getElem_cons_zero,List.getElem_cons_succ])
  refine wpAnyH_take (i:=7) rfl (by kernel_rfl) (by kernel_rfl) (by kernel_rfl) (fun _ _ _ h => h) (Or.inl ⟨by rfl,by intro w hSw;(have z0:=hSw.1;have z1:=hSw.2.1;have z2:=hSw.2.2.1;have z3:=hSw.2.2.2.1;have z4:=hSw.2.2.2.2.1;have z5:=hSw.2.2.2.2.2);(go_simp <;> with_reducible rfl)⟩) (by assumption) ?_
  (try simp only [Act.put,List.setIfInBounds_toArray,List.set_cons_zero,List.set_cons_succ,List.getElem_toArray,List.getElem_cons_zero,List.getElem_cons_succ])
  refine wpAnyH_take (i:=8) rfl (by kernel_rfl) (by kernel_rfl) (by kernel_rfl) (fun _ _ _ h => h) (Or.inl ⟨by rfl,by intro w hSw;(have z0:=hSw.1;have z1:=hSw.2.1;have z2:=hSw.2.2.1;have z3:=hSw.2.2.2.1;have z4:=hSw.2.2.2.2.1;have z5:=hSw.2.2.2.2.2);(go_simp <;> with_reducible rfl)⟩) (by assumption) ?_
  (try simp only [Act.put,List.setIfInBounds_toArray,List.set_cons_zero,List.set_cons_succ,List.getElem_toArray,List.getElem_cons_zero,List.getElem_cons_succ])
  refine wpAnyH_take (i:=9) rfl (by kernel_rfl) (by kernel_rfl) (by kernel_rfl) (fun _ _ _ h => h) (Or.inl ⟨by rfl,by intro w hSw;(have z0:=hSw.1;have z1:=hSw.2.1;have z2:=hSw.2.2.1;have z3:=hSw.2.2.2.1;have z4:=hSw.2.2.2.2.1;have z5:=hSw.2.2.2.2.2);(go_simp <;> with_reducible rfl)⟩) (by assumption) ?_
  (try simp only [Act.put,List.setIfInBounds_toArray,List.set_cons_zero,List.set_cons_succ,List.getElem_toArray,List.getElem_cons_zero,List.getElem_cons_succ])
  refine wpAnyH_ready (rs:=[4]) (by kernel_rfl) (by simp) (AllReadyH.cons rfl (fun K hK => ?_) AllReadyH.nil)
  go_simp
  refine hK.out _ _ (by have hB3:((v2.alloc (.cells #[.int .u32 1] 34)).drew).heap[pb]? = _:=(Below.heap_alloc v2 _ _ hpl).trans HB2.out;exact ⟨cell_blk hB3 rfl,cell_blk hB3 rfl,cell_blk hB3 rfl,cell_blk hB3 rfl,cell_blk hB3 rfl,cell_blk hB3 rfl⟩) (fun hHeld => ?_)
  clear hK K
  (try simp only [Act.put,List.setIfInBounds_toArray,List.set_cons_zero,List.set_cons_succ,List.getElem_toArray,List.getElem_cons_zero,List.getElem_cons_succ])
  obtain ⟨v3,HV3⟩:∃ u,Hid (u = (v2.alloc (.cells #[.int .u32 1] 34)).drew):=⟨_,rfl⟩
  rw [← HV3.out] at hHeld ⊢
  have hb3:Below v2.heap.size v2 v3:=by rw [HV3.out];exact ((Below.refl _ _).alloc (Nat.le_refl _) _).drew
  have hdat:v3.heap[v2.heap.size]? = some (.cells #[.int .u32 1] 34 (0,0)):=by rw [HV3.out];exact heap_alloc_new v2 _
  have HQ3:=Lib.hid (HQ2.out.later hb3)
  have HNS:=Lib.hid (HNS0.out v3 v2.heap.size HQ3.out.below hdat)
  have HB3:=Lib.hid ((hb3.block pb hpl).trans HB2.out)
  have hpl3:pb < v3.heap.size:=(Array.getElem?_eq_some_iff.1 HB3.out).1
  clear hb3 hdat
  refine wpAnyH_ready (rs:=[5]) (by kernel_rfl) (by simp) (AllReadyH.cons rfl (fun K hK => ?_) AllReadyH.nil)
  go_simp
  refine HNS.out.mono ?_
  rintro e v4 ⟨sq,S4,rfl,hat4,hS4,hb4⟩
  have HQ4:=Lib.hid (HQ3.out.newS hat4 hS4 hb4 (show WQ (startQ [1] 7) from ⟨(show W32 [1] from w32_of (fun y hy => by simp at hy;subst hy;decide)),by decide,by decide⟩))
  have HB4:=Lib.hid ((hb4.block pb hpl3).trans HB3.out)
  clear hat4 hS4 hb4
  refine hK.out _ _ (by exact ⟨cell_blk HB4.out rfl,cell_blk HB4.out rfl,cell_blk HB4.out rfl,cell_blk HB4.out rfl,cell_blk HB4.out rfl,cell_blk HB4.out rfl⟩) (fun hHeld => ?_)
  clear hK K
  (try simp only [Act.put,List.setIfInBounds_toArray,List.set_cons_zero,List.set_cons_succ,List.getElem_toArray,List.getElem_cons_zero,List.getElem_cons_succ])
  have HNG:=Lib.hid (HNG0.out v4 HQ4.out.below)
  have hpl4:pb < v4.heap.size:=(Array.getElem?_eq_some_iff.1 HB4.out).1
  refine wpAnyH_ready (rs:=[10]) (by kernel_rfl) (by simp) (AllReadyH.cons rfl (fun K hK => ?_) AllReadyH.nil)
  go_simp
  refine HNG.out.mono ?_
  rintro e v5 ⟨rq,S5,rfl,hat5,hS5,hb5⟩
  have HQ5:=Lib.hid (HQ4.out.newG hat5 hS5 hb5 (show WQ (startQ [] 7) from ⟨w32_nil,by decide,by decide⟩))
  have HB5:=Lib.hid ((hb5.block pb hpl4).trans HB4.out)
  clear hat5 hS5 hb5
  refine hK.out _ _ (by exact ⟨cell_blk HB5.out rfl,cell_blk HB5.out rfl,cell_blk HB5.out rfl,cell_blk HB5.out rfl,cell_blk HB5.out rfl,cell_blk HB5.out rfl⟩) (fun hHeld => ?_)
  clear hK K
  (try simp only [Act.put,List.setIfInBounds_toArray,List.set_cons_zero,List.set_cons_succ,List.getElem_toArray,List.getElem_cons_zero,List.getElem_cons_succ])
  refine wpAnyH_take (i:=11) rfl (by kernel_rfl) (by kernel_rfl) (by kernel_rfl) (fun _ _ _ h => h) (Or.inl ⟨by rfl,by intro w hSw;(have z0:=hSw.1;have z1:=hSw.2.1;have z2:=hSw.2.2.1;have z3:=hSw.2.2.2.1;have z4:=hSw.2.2.2.2.1;have z5:=hSw.2.2.2.2.2);(go_simp <;> with_reducible rfl)⟩) (by assumption) ?_
  (try simp only [Act.put,List.setIfInBounds_toArray,List.set_cons_zero,List.set_cons_succ,List.getElem_toArray,List.getElem_cons_zero,List.getElem_cons_succ])
  refine wpAnyH_take (i:=12) rfl (by kernel_rfl) (by kernel_rfl) (by kernel_rfl) (fun _ _ _ h => h) (Or.inl ⟨by rfl,by intro w hSw;(have z0:=hSw.1;have z1:=hSw.2.1;have z2:=hSw.2.2.1;have z3:=hSw.2.2.2.1;have z4:=hSw.2.2.2.2.1;have z5:=hSw.2.2.2.2.2);(go_simp <;> with_reducible rfl)⟩) (by assumption) ?_
  (try simp only [Act.put,List.setIfInBounds_toArray,List.set_cons_zero,List.set_cons_succ,List.getElem_toArray,List.getElem_cons_zero,List.getElem_cons_succ])
  refine wpAnyH_done (by kernel_rfl) ?_ _
  clear hHeld hpl hpl3 hpl4
  obtain ⟨w1,hw1⟩:∃ u,u = v5:=⟨_,rfl⟩
  rw [← hw1] at HQ5 HB5 ⊢
  have HPB:=HB5
  have HEL:Hid (∀ k,E k → k < w1.drew.heap.size):=Lib.hid (fun k hk => by obtain ⟨_,_,_,_,h3,_⟩:=HQ5.out.two;exact (h3 k hk).2.2.2)
  have HPE:Hid (E pb ∧ pb < w1.drew.heap.size ∧ W.heap.size ≤ w1.drew.heap.size):=Lib.hid ⟨by rw [hE],(Array.getElem?_eq_some_iff.1 HPB.out).1,HQ5.out.below.size⟩
  have HST:=Lib.hid (fun (W':World) (h:Below w1.drew.heap.size w1.drew W') => (HQ5.out.only (T:=fun _ => False) ((Only.refl _ w1).drew.trans (Only.of_below h)) (fun _ _ h => h.elim) (E':=fun k => E k ∨ (w1.drew.heap.size ≤ k ∧ k < W'.heap.size)) (fun k h => h)).stG 0)
  clear hw1
  go_wp2
  refine wp_region_held_drew (S:=(fun W' => W'.cell? ⟨pb,8,none⟩ = some (.pointer none) ∧ W'.cell? ⟨pb,6,none⟩ = some (.pointer (some ⟨mb,0,none⟩)) ∧ W'.cell? ⟨pb,7,none⟩ = some (.pointer (some ⟨bb,0,none⟩)))) (by kernel_rfl) (keepP3 (show w1.drew.heap[pb]? = _ from HPB.out) rfl rfl rfl) (fun hHeld => ?_)
  refine wpAnyH_take (i:=0) rfl (by kernel_rfl) (by kernel_rfl) (by kernel_rfl) (fun _ _ _ h => h) (Or.inl ⟨by rfl,by intro w hSw;(skip);(go_simp <;> with_reducible rfl)⟩) (by assumption) ?_
  (try simp only [Act.put,List.setIfInBounds_toArray,List.set_cons_zero,List.set_cons_succ,List.getElem_toArray,List.getElem_cons_zero,List.getElem_cons_succ])
  refine wpAnyH_take (i:=1) rfl (by kernel_rfl) (by kernel_rfl) (by kernel_rfl) (fun _ _ _ h => h) (Or.inl ⟨by rfl,by intro w hSw;(skip);(go_simp <;> with_reducible rfl)⟩) (by assumption) ?_
  (try simp only [Act.put,List.setIfInBounds_toArray,List.set_cons_zero,List.set_cons_succ,List.getElem_toArray,List.getElem_cons_zero,List.getElem_cons_succ])
  refine wpAnyH_take (i:=2) rfl (by kernel_rfl) (by kernel_rfl) (by kernel_rfl) (fun _ _ _ h => h) (Or.inl ⟨by rfl,by intro w hSw;(skip);(go_simp <;> with_reducible rfl)⟩) (by assumption) ?_
  (try simp only [Act.put,List.setIfInBounds_toArray,List.set_cons_zero,List.set_cons_succ,List.getElem_toArray,List.getElem_cons_zero,List.getElem_cons_succ])
  refine wpAnyH_take (i:=3) rfl (by kernel_rfl) (by kernel_rfl) (by kernel_rfl) (fun _ _ _ h => h) (Or.inl ⟨by rfl,by intro w hSw;(skip);(go_simp <;> with_reducible rfl)⟩) (by assumption) ?_
  (try simp only [Act.put,List.setIfInBounds_toArray,List.set_cons_zero,List.set_cons_succ,List.getElem_toArray,List.getElem_cons_zero,List.getElem_cons_succ])
  refine wpAnyH_take (i:=4) rfl (by kernel_rfl) (by kernel_rfl) (by kernel_rfl) (fun _ _ _ h => h) (Or.inl ⟨by rfl,by intro w hSw;(skip);(go_simp <;> with_reducible rfl)⟩) (by assumption) ?_
  (try simp only [Act.put,List.setIfInBounds_toArray,List.set_cons_zero,List.set_cons_succ,List.getElem_toArray,List.getElem_cons_zero,List.getElem_cons_succ])
  refine wpAnyH_take (i:=5) rfl (by kernel_rfl) (by kernel_rfl) (by kernel_rfl) (fun _ _ _ h => h) (Or.inl ⟨by rfl,by intro w hSw;(skip);(go_simp <;> with_reducible rfl)⟩) (by assumption) ?_
  (try simp only [Act.put,List.setIfInBounds_toArray,List.set_cons_zero,List.set_cons_succ,List.getElem_toArray,List.getElem_cons_zero,List.getElem_cons_succ])
  refine wpAnyH_take (i:=6) rfl (by kernel_rfl) (by kernel_rfl) (by kernel_rfl) (fun _ _ _ h => h) (Or.inl ⟨by rfl,by intro w hSw;(skip);(go_simp <;> with_reducible rfl)⟩) (by assumption) ?_
  (try simp only [Act.put,List.setIfInBounds_toArray,List.set_cons_zero,List.set_cons_succ,List.getElem_toArray,List.getElem_cons_zero,List.getElem_cons_succ])
  refine wpAnyH_take (i:=7) rfl (by kernel_rfl) (by kernel_rfl) (by kernel_rfl) (fun _ _ _ h => h) (Or.inl ⟨by rfl,by intro w hSw;(skip);(go_simp <;> with_reducible rfl)⟩) (by assumption) ?_
  (try simp only [Act.put,List.setIfInBounds_toArray,List.set_cons_zero,List.set_cons_succ,List.getElem_toArray,List.getElem_cons_zero,List.getElem_cons_succ])
  refine wpAnyH_take (i:=8) rfl (by kernel_rfl) (by kernel_rfl) (by kernel_rfl) (fun _ _ _ h => h) (Or.inl ⟨by rfl,by intro w hSw;(skip);(go_simp <;> with_reducible rfl)⟩) (by assumption) ?_
  (try simp only [Act.put,List.setIfInBounds_toArray,List.set_cons_zero,List.set_cons_succ,List.getElem_toArray,List.getElem_cons_zero,List.getElem_cons_succ])
  refine wpAnyH_ready (rs:=[9,10]) (by kernel_rfl) (by simp) (AllReadyH.cons rfl (fun K hK => ?_) (AllReadyH.cons rfl (fun K hK => ?_) AllReadyH.nil))
  go_simp
  refine (HST.out _ (Below.refl _ _)).mono ?_
  rintro e w5 ⟨sa,sc,sn,dn,cd,mk,rg,s3,ws3,rfl,hq,hd5,hd6,hg5,hw5,ho5⟩
  have HQ:=Lib.hid hq;have HW5:=Lib.hid hw5
  have hP5:=ho5.at_ (k:=pb) (show w1.drew.heap[pb]? = _ from HPB.out) (fun h => h.1 (.inl HPE.out.1))
  clear hq hw5
  refine hK.out _ _ (keepP3 hP5 rfl rfl rfl) (fun hHeld => ?_)
  clear hK K
  (try simp only [Act.put,List.setIfInBounds_toArray,List.set_cons_zero,List.set_cons_succ,List.getElem_toArray,List.getElem_cons_zero,List.getElem_cons_succ])
  refine wpAnyH_ready (rs:=[10]) (by kernel_rfl) (by simp) (AllReadyH.cons rfl (fun K hK => ?_) AllReadyH.nil)
  go_simp
  refine hK.out _ _ (keep_alloc3 hHeld) (fun hHeld => ?_)
  clear hK K
  (try simp only [Act.put,List.setIfInBounds_toArray,List.set_cons_zero,List.set_cons_succ,List.getElem_toArray,List.getElem_cons_zero,List.getElem_cons_succ])
  refine wpAnyH_ready (rs:=[11]) (by kernel_rfl) (by simp) (AllReadyH.cons rfl (fun K hK => ?_) AllReadyH.nil)
  have hth:=there_at (show (w5.alloc (.cells (didV false 0 (.slice none 0 0) false false false 0) 56)).heap[w5.heap.size]? = some (.cells (didV false 0 (.slice none 0 0) false false false 0) 56 (0,0)) from heap_alloc_new w5 _) (n:=(qdV dn cd (.slice sa sn sc) 0 mk rg:Array Value).size) rfl
  have hsd:(Tryz.prog.info? 56).map (·.size) = some (qdV dn cd (.slice sa sn sc) 0 mk rg:Array Value).size:=did_size
  rw [if_pos (by rfl)]
  refine wp_store_mid _ _ _ rfl w5.heap.size 0 (qdV dn cd (.slice sa sn sc) 0 mk rg) rfl rfl hth hsd (by kernel_rfl) ?_
  refine hK.out _ _ (keep_box3 hHeld (by have:=ho5.size;have:=HPE.out.2.1;show w5.heap.size ≠ pb;have:w1.drew.heap.size = w1.heap.size:=rfl;omega)) (fun hHeld => ?_)
  clear hK K
  (try simp only [Act.put,List.setIfInBounds_toArray,List.set_cons_zero,List.set_cons_succ,List.getElem_toArray,List.getElem_cons_zero,List.getElem_cons_succ])
  obtain ⟨X,HX⟩:∃ X,Hid (X = (w5.alloc (.cells #[.bool false,.int .i64 0,.slice none 0 0,.bool false,.int .i64 0,.bool false,.bool false,.bool false,.int .i64 0] 56)).setCells w5.heap.size 0 [.bool dn,.int .i64 cd,.slice sa sn sc,.bool false,.int .i64 0,.bool mk,.bool rg,.bool false,.int .i64 0]):=⟨_,rfl⟩
  obtain ⟨tb,htb⟩:∃ t,t = w5.heap.size:=⟨_,rfl⟩
  have HSD:Hid (SteppedQ W w1.drew X E pb mb rb bb br N D ws3 bs (some (sq,wkS 0)) (some (rq,s3)) tb (qdV dn cd (.slice sa sn sc) 0 mk rg)):=Lib.hid (by rw [HX.out,htb];exact SteppedQ.a (w1:=w1.drew) (vs:=[.bool dn,.int .i64 cd,.slice sa sn sc,.bool false,.int .i64 0,.bool mk,.bool rg,.bool false,.int .i64 0]) HEL.out HPE.out.1 hd5 ho5 rfl)
  have HQT:Hid (Quo W X W.heap.size (fun k => E k ∨ k = tb) mb rb bb br (qr2 N D) 1 ws3 bs (some (sq,wkS 0)) (some (rq,s3))):=Lib.hid (by rw [HX.out,htb];exact quoT_a (w1:=w1.drew) hd5)
  refine wpAnyH_done (by kernel_rfl) ?_ _
  rotate_left
  go_simp
  refine hK.out _ _ (keep_alloc3 hHeld) (fun hHeld => ?_)
  clear hK K
  (try simp only [Act.put,List.setIfInBounds_toArray,List.set_cons_zero,List.set_cons_succ,List.getElem_toArray,List.getElem_cons_zero,List.getElem_cons_succ])
  refine wpAnyH_ready (rs:=[9]) (by kernel_rfl) (by simp) (AllReadyH.cons rfl (fun K hK => ?_) AllReadyH.nil)
  go_simp
  refine (HST.out _ ((Below.refl _ _).alloc (Nat.le_refl _) _)).mono ?_
  rintro e w5 ⟨sa,sc,sn,dn,cd,mk,rg,s3,ws3,rfl,hq,hd5,hd6,hg5,hw5,ho5⟩
  have HQ:=Lib.hid hq;have HW5:=Lib.hid hw5
  have hP5:=ho5.at_ (k:=pb) ((Below.heap_alloc w1.drew _ pb HPE.out.2.1).trans (show w1.drew.heap[pb]? = _ from HPB.out)) (fun h => h.1 (.inl HPE.out.1))
  clear hq hw5
  refine hK.out _ _ (keepP3 hP5 rfl rfl rfl) (fun hHeld => ?_)
  clear hK K
  (try simp only [Act.put,List.setIfInBounds_toArray,List.set_cons_zero,List.set_cons_succ,List.getElem_toArray,List.getElem_cons_zero,List.getElem_cons_succ])
  refine wpAnyH_ready (rs:=[11]) (by kernel_rfl) (by simp) (AllReadyH.cons rfl (fun K hK => ?_) AllReadyH.nil)
  have hth:=there_at (show w5.heap[w1.drew.heap.size]? = some (.cells (didV false 0 (.slice none 0 0) false false false 0) 56 (0,0)) from ho5.at_ (heap_alloc_new w1.drew _) (fun h => h.1 (.inr ⟨Nat.le_refl _,Nat.lt_of_lt_of_eq (Nat.lt_succ_self _) (World.size_alloc _ _).symm⟩))) (n:=(qdV dn cd (.slice sa sn sc) 0 mk rg:Array Value).size) rfl
  have hsd:(Tryz.prog.info? 56).map (·.size) = some (qdV dn cd (.slice sa sn sc) 0 mk rg:Array Value).size:=did_size
  rw [if_pos (by rfl)]
  refine wp_store_mid _ _ _ rfl w1.drew.heap.size 0 (qdV dn cd (.slice sa sn sc) 0 mk rg) rfl rfl hth hsd (by kernel_rfl) ?_
  refine hK.out _ _ (keep_box3 hHeld (by have:=HPE.out.2.1;show w1.drew.heap.size ≠ pb;have:w1.drew.heap.size = w1.heap.size:=rfl;omega)) (fun hHeld => ?_)
  clear hK K
  (try simp only [Act.put,List.setIfInBounds_toArray,List.set_cons_zero,List.set_cons_succ,List.getElem_toArray,List.getElem_cons_zero,List.getElem_cons_succ])
  obtain ⟨X,HX⟩:∃ X,Hid (X = (w5).setCells w1.drew.heap.size 0 [.bool dn,.int .i64 cd,.slice sa sn sc,.bool false,.int .i64 0,.bool mk,.bool rg,.bool false,.int .i64 0]):=⟨_,rfl⟩
  obtain ⟨tb,htb⟩:∃ t,t = w1.heap.size:=⟨_,rfl⟩
  have HSD:Hid (SteppedQ W w1.drew X E pb mb rb bb br N D ws3 bs (some (sq,wkS 0)) (some (rq,s3)) tb (qdV dn cd (.slice sa sn sc) 0 mk rg)):=Lib.hid (by rw [HX.out,htb];exact SteppedQ.b (w1:=w1.drew) (vs:=[.bool dn,.int .i64 cd,.slice sa sn sc,.bool false,.int .i64 0,.bool mk,.bool rg,.bool false,.int .i64 0]) HEL.out HPE.out.1 HPE.out.2.2 hd5 ho5 rfl)
  have HQT:Hid (Quo W X W.heap.size (fun k => E k ∨ k = tb) mb rb bb br (qr2 N D) 1 ws3 bs (some (sq,wkS 0)) (some (rq,s3))):=Lib.hid (by rw [HX.out,htb];exact quoT_b (w1:=w1.drew) hd5 HPE.out.2.2)
  refine wpAnyH_done (by kernel_rfl) ?_ _
  all_goals (rw [← HX.out];simp only [← htb])
  · have HXB:Hid (X.heap[pb]? = some (.cells (qpV x mb bb (.pointer none) (.pointer none) 7 7 0 0 0 0 0) 103 (0,0))):=Lib.hid (HSD.out.at_ HPE.out.1 (show w1.drew.heap[pb]? = _ from HPB.out))
    have hne1:tb ≠ pb:=HSD.out.ne.1
    obtain ⟨d,e0,e1,e2,e3,e4,-,-,-⟩:=HQ.out
    have hk:qrecv (qr2 N D) (startQ [] 7) (wkM 0) = (⟨[],-1,7,0⟩,wkM 0,⟨true,true,false,2,[]⟩):=by rw [← HN.out,← HD.out];exact wk_empty
    have hk2:=Prod.mk.inj (e0.symm.trans hk)
    have hk3:=Prod.mk.inj hk2.2
    obtain rfl:dn = true:=e1.trans (by rw [hk3.2])
    obtain rfl:cd = 2:=e2.trans (by rw [hk3.2])
    obtain rfl:ws3 = wkM 0:=hk3.1
    have d0:X.cell? ⟨tb,0,none⟩ = some (.bool true):=cell_blk HSD.out.box rfl
    have d1:X.cell? ⟨tb,1,none⟩ = some (.int .i64 2):=cell_blk HSD.out.box rfl
    have HBO:=Lib.hid HSD.out.box
    clear e0 e1 e2 e3 e4 hk hk2 hk3 HQ htb hHeld hP5 hth hsd
    go_wp2
    go_loopw [45] (fun ix wr => ∃ (j:Nat) (bs2:List Bool),j ≤ 4 ∧ ix = .int .i64 j ∧ wr.heap[pb]? = some (.cells (qpV x mb bb (.pointer none) (.pointer none) 7 7 0 0 0 0 0) 103 (0,0)) ∧ wr.heap[tb]? = some (.cells (qdV true 2 (.slice sa sn sc) 0 mk rg) 56 (0,0)) ∧ Quo W wr W.heap.size (fun k => E k ∨ k = tb) mb rb bb br (qr2 N D) 1 (wkM j) bs2 (some (sq,wkS j)) (some (rq,s3))) (fun ix _ => 4 - (intOf ix).toNat)
    case atStart => exact ⟨0,_,by omega,rfl,HXB.out,HBO.out,HQT.out⟩
    case round =>
      obtain ⟨j,bs2,hj,rfl,hbr,htr,hqr⟩:=hrel
      have HBR:=Lib.hid hbr;have HTR:=Lib.hid htr;have HQR:=Lib.hid hqr;have HJ:=Lib.hid hj
      have HSJ:=Lib.hid ((hqr.only (T:=fun _ => False) (Only.refl _ wr).drew (fun _ _ h => h.elim) (E':=fun k => E k ∨ k = tb) (fun k h => .inl h)).stS 0)
      clear hbr htr hqr d0 d1
      by_cases hj4:j < 4
      · go_wp2
        refine wp_region_held_drew (S:=(fun W' => W'.cell? ⟨pb,8,none⟩ = some (.pointer none) ∧ W'.cell? ⟨pb,6,none⟩ = some (.pointer (some ⟨mb,0,none⟩)) ∧ W'.cell? ⟨pb,7,none⟩ = some (.pointer (some ⟨bb,0,none⟩)))) (by kernel_rfl) (keepP3 (show wr.drew.heap[pb]? = _ from HBR.out) rfl rfl rfl) (fun hHeld => ?_)
        refine wpAnyH_take (i:=0) rfl (by kernel_rfl) (by kernel_rfl) (by kernel_rfl) (fun _ _ _ h => h) (Or.inl ⟨by rfl,by intro w hSw;(skip);(go_simp <;> with_reducible rfl)⟩) (by assumption) ?_
        (try simp only [Act.put,List.setIfInBounds_toArray,List.set_cons_zero,List.set_cons_succ,List.getElem_toArray,List.getElem_cons_zero,List.getElem_cons_succ])
        refine wpAnyH_take (i:=1) rfl (by kernel_rfl) (by kernel_rfl) (by kernel_rfl) (fun _ _ _ h => h) (Or.inl ⟨by rfl,by intro w hSw;(skip);(go_simp <;> with_reducible rfl)⟩) (by assumption) ?_
        (try simp only [Act.put,List.setIfInBounds_toArray,List.set_cons_zero,List.set_cons_succ,List.getElem_toArray,List.getElem_cons_zero,List.getElem_cons_succ])
        refine wpAnyH_take (i:=2) rfl (by kernel_rfl) (by kernel_rfl) (by kernel_rfl) (fun _ _ _ h => h) (Or.inl ⟨by rfl,by intro w hSw;(skip);(go_simp <;> with_reducible rfl)⟩) (by assumption) ?_
        (try simp only [Act.put,List.setIfInBounds_toArray,List.set_cons_zero,List.set_cons_succ,List.getElem_toArray,List.getElem_cons_zero,List.getElem_cons_succ])
        refine wpAnyH_take (i:=3) rfl (by kernel_rfl) (by kernel_rfl) (by kernel_rfl) (fun _ _ _ h => h) (Or.inl ⟨by rfl,by intro w hSw;(skip);(go_simp <;> with_reducible rfl)⟩) (by assumption) ?_
        (try simp only [Act.put,List.setIfInBounds_toArray,List.set_cons_zero,List.set_cons_succ,List.getElem_toArray,List.getElem_cons_zero,List.getElem_cons_succ])
        refine wpAnyH_take (i:=4) rfl (by kernel_rfl) (by kernel_rfl) (by kernel_rfl) (fun _ _ _ h => h) (Or.inl ⟨by rfl,by intro w hSw;(skip);(go_simp <;> with_reducible rfl)⟩) (by assumption) ?_
        (try simp only [Act.put,List.setIfInBounds_toArray,List.set_cons_zero,List.set_cons_succ,List.getElem_toArray,List.getElem_cons_zero,List.getElem_cons_succ])
        refine wpAnyH_take (i:=5) rfl (by kernel_rfl) (by kernel_rfl) (by kernel_rfl) (fun _ _ _ h => h) (Or.inl ⟨by rfl,by intro w hSw;(skip);(go_simp <;> with_reducible rfl)⟩) (by assumption) ?_
        (try simp only [Act.put,List.setIfInBounds_toArray,List.set_cons_zero,List.set_cons_succ,List.getElem_toArray,List.getElem_cons_zero,List.getElem_cons_succ])
        refine wpAnyH_take (i:=6) rfl (by kernel_rfl) (by kernel_rfl) (by kernel_rfl) (fun _ _ _ h => h) (Or.inl ⟨by rfl,by intro w hSw;(skip);(go_simp <;> with_reducible rfl)⟩) (by assumption) ?_
        (try simp only [Act.put,List.setIfInBounds_toArray,List.set_cons_zero,List.set_cons_succ,List.getElem_toArray,List.getElem_cons_zero,List.getElem_cons_succ])
        refine wpAnyH_take (i:=7) rfl (by kernel_rfl) (by kernel_rfl) (by kernel_rfl) (fun _ _ _ h => h) (Or.inl ⟨by rfl,by intro w hSw;(skip);(go_simp <;> with_reducible rfl)⟩) (by assumption) ?_
        (try simp only [Act.put,List.setIfInBounds_toArray,List.set_cons_zero,List.set_cons_succ,List.getElem_toArray,List.getElem_cons_zero,List.getElem_cons_succ])
        refine wpAnyH_take (i:=8) rfl (by kernel_rfl) (by kernel_rfl) (by kernel_rfl) (fun _ _ _ h => h) (Or.inl ⟨by rfl,by intro w hSw;(skip);(go_simp <;> with_reducible rfl)⟩) (by assumption) ?_
        (try simp only [Act.put,List.setIfInBounds_toArray,List.set_cons_zero,List.set_cons_succ,List.getElem_toArray,List.getElem_cons_zero,List.getElem_cons_succ])
        refine wpAnyH_ready (rs:=[9]) (by kernel_rfl) (by simp) (AllReadyH.cons rfl (fun K hK => ?_) AllReadyH.nil)
        go_simp
        refine HSJ.out.mono ?_
        rintro e w5 ⟨dn,cd,mk,rg,s4,ws4,rfl,⟨d4,hd4,hd5,-,-,hd8⟩,hq5,-,ho5⟩
        have hB5:=ho5.at_ (k:=pb) (show wr.drew.heap[pb]? = _ from HBR.out) (fun h => h.1 (.inl (by rw [hE])))
        have hT5:=ho5.at_ (k:=tb) (show wr.drew.heap[tb]? = _ from HTR.out) (fun h => h.1 (.inr rfl))
        refine hK.out _ _ (keepP3 hB5 rfl rfl rfl) (fun hHeld => ?_)
        clear hK K
        (try simp only [Act.put,List.setIfInBounds_toArray,List.set_cons_zero,List.set_cons_succ,List.getElem_toArray,List.getElem_cons_zero,List.getElem_cons_succ])
        have hnx:=wk_next HN.out HD.out j hj4
        rw [hd4] at hnx
        obtain ⟨n1,n2,n3⟩:=hnx
        have n1:s4 = wkS (j + 1):=n1
        have n2:ws4 = wkM (j + 1):=n2
        have n3:d4.done = false:=n3
        obtain rfl:dn = false:=hd5.trans n3
        have N1:=Lib.hid n1;have N2:=Lib.hid n2
        clear n1 n2 n3 hd4 hd5 hd8
        have hfd:=run_didQ cd mk rg
        refine wpAnyH_take (i:=10) rfl (by kernel_rfl) (by kernel_rfl) (by kernel_rfl) (fun _ _ _ h => h) (Or.inl ⟨by rfl,by intro w hSw;(skip);(go_simp <;> with_reducible rfl)⟩) (by assumption) ?_
        (try simp only [Act.put,List.setIfInBounds_toArray,List.set_cons_zero,List.set_cons_succ,List.getElem_toArray,List.getElem_cons_zero,List.getElem_cons_succ])
        refine wpAnyH_done (by kernel_rfl) ?_ _
        have HB5:=Lib.hid hB5;have HT5:=Lib.hid hT5;have HQ6:=Lib.hid hq5
        clear hB5 hT5 hq5 ho5 hHeld hj
        go_wp2
        go_roundw
        case rel => exact ⟨j + 1,_,by omega,by go_num,HB5.out,HT5.out,by have q:=HQ6.out;rw [N1.out,N2.out] at q;exact q⟩
        case measure => simp [intOf];omega
      · obtain rfl:j = 4:=by omega
        go_wp2
        refine wp_region_held_drew (S:=(fun W' => W'.cell? ⟨pb,8,none⟩ = some (.pointer none) ∧ W'.cell? ⟨pb,6,none⟩ = some (.pointer (some ⟨mb,0,none⟩)) ∧ W'.cell? ⟨pb,7,none⟩ = some (.pointer (some ⟨bb,0,none⟩)))) (by kernel_rfl) (keepP3 (show wr.drew.heap[pb]? = _ from HBR.out) rfl rfl rfl) (fun hHeld => ?_)
        refine wpAnyH_take (i:=0) rfl (by kernel_rfl) (by kernel_rfl) (by kernel_rfl) (fun _ _ _ h => h) (Or.inl ⟨by rfl,by intro w hSw;(skip);(go_simp <;> with_reducible rfl)⟩) (by assumption) ?_
        (try simp only [Act.put,List.setIfInBounds_toArray,List.set_cons_zero,List.set_cons_succ,List.getElem_toArray,List.getElem_cons_zero,List.getElem_cons_succ])
        refine wpAnyH_take (i:=1) rfl (by kernel_rfl) (by kernel_rfl) (by kernel_rfl) (fun _ _ _ h => h) (Or.inl ⟨by rfl,by intro w hSw;(skip);(go_simp <;> with_reducible rfl)⟩) (by assumption) ?_
        (try simp only [Act.put,List.setIfInBounds_toArray,List.set_cons_zero,List.set_cons_succ,List.getElem_toArray,List.getElem_cons_zero,List.getElem_cons_succ])
        refine wpAnyH_take (i:=2) rfl (by kernel_rfl) (by kernel_rfl) (by kernel_rfl) (fun _ _ _ h => h) (Or.inl ⟨by rfl,by intro w hSw;(skip);(go_simp <;> with_reducible rfl)⟩) (by assumption) ?_
        (try simp only [Act.put,List.setIfInBounds_toArray,List.set_cons_zero,List.set_cons_succ,List.getElem_toArray,List.getElem_cons_zero,List.getElem_cons_succ])
        refine wpAnyH_take (i:=3) rfl (by kernel_rfl) (by kernel_rfl) (by kernel_rfl) (fun _ _ _ h => h) (Or.inl ⟨by rfl,by intro w hSw;(skip);(go_simp <;> with_reducible rfl)⟩) (by assumption) ?_
        (try simp only [Act.put,List.setIfInBounds_toArray,List.set_cons_zero,List.set_cons_succ,List.getElem_toArray,List.getElem_cons_zero,List.getElem_cons_succ])
        refine wpAnyH_take (i:=4) rfl (by kernel_rfl) (by kernel_rfl) (by kernel_rfl) (fun _ _ _ h => h) (Or.inl ⟨by rfl,by intro w hSw;(skip);(go_simp <;> with_reducible rfl)⟩) (by assumption) ?_
        (try simp only [Act.put,List.setIfInBounds_toArray,List.set_cons_zero,List.set_cons_succ,List.getElem_toArray,List.getElem_cons_zero,List.getElem_cons_succ])
        refine wpAnyH_take (i:=5) rfl (by kernel_rfl) (by kernel_rfl) (by kernel_rfl) (fun _ _ _ h => h) (Or.inl ⟨by rfl,by intro w hSw;(skip);(go_simp <;> with_reducible rfl)⟩) (by assumption) ?_
        (try simp only [Act.put,List.setIfInBounds_toArray,List.set_cons_zero,List.set_cons_succ,List.getElem_toArray,List.getElem_cons_zero,List.getElem_cons_succ])
        refine wpAnyH_take (i:=6) rfl (by kernel_rfl) (by kernel_rfl) (by kernel_rfl) (fun _ _ _ h => h) (Or.inl ⟨by rfl,by intro w hSw;(skip);(go_simp <;> with_reducible rfl)⟩) (by assumption) ?_
        (try simp only [Act.put,List.setIfInBounds_toArray,List.set_cons_zero,List.set_cons_succ,List.getElem_toArray,List.getElem_cons_zero,List.getElem_cons_succ])
        refine wpAnyH_take (i:=7) rfl (by kernel_rfl) (by kernel_rfl) (by kernel_rfl) (fun _ _ _ h => h) (Or.inl ⟨by rfl,by intro w hSw;(skip);(go_simp <;> with_reducible rfl)⟩) (by assumption) ?_
        (try simp only [Act.put,List.setIfInBounds_toArray,List.set_cons_zero,List.set_cons_succ,List.getElem_toArray,List.getElem_cons_zero,List.getElem_cons_succ])
        refine wpAnyH_take (i:=8) rfl (by kernel_rfl) (by kernel_rfl) (by kernel_rfl) (fun _ _ _ h => h) (Or.inl ⟨by rfl,by intro w hSw;(skip);(go_simp <;> with_reducible rfl)⟩) (by assumption) ?_
        (try simp only [Act.put,List.setIfInBounds_toArray,List.set_cons_zero,List.set_cons_succ,List.getElem_toArray,List.getElem_cons_zero,List.getElem_cons_succ])
        refine wpAnyH_ready (rs:=[9]) (by kernel_rfl) (by simp) (AllReadyH.cons rfl (fun K hK => ?_) AllReadyH.nil)
        go_simp
        refine HSJ.out.mono ?_
        rintro e w5 ⟨dn,cd,mk,rg,s4,ws4,rfl,⟨d4,hd4,hd5,-,-,hd8⟩,hq5,-,ho5⟩
        have hB5:=ho5.at_ (k:=pb) (show wr.drew.heap[pb]? = _ from HBR.out) (fun h => h.1 (.inl (by rw [hE])))
        have hT5:=ho5.at_ (k:=tb) (show wr.drew.heap[tb]? = _ from HTR.out) (fun h => h.1 (.inr rfl))
        refine hK.out _ _ (keepP3 hB5 rfl rfl rfl) (fun hHeld => ?_)
        clear hK K
        (try simp only [Act.put,List.setIfInBounds_toArray,List.set_cons_zero,List.set_cons_succ,List.getElem_toArray,List.getElem_cons_zero,List.getElem_cons_succ])
        refine wpAnyH_ready (rs:=[10]) (by kernel_rfl) (by simp) (AllReadyH.cons rfl (fun K hK => ?_) AllReadyH.nil)
        have hth:=there_at hT5 (n:=(qdV dn cd (.slice none 0 0) 0 mk rg:Array Value).size) rfl
        have hsd:(Tryz.prog.info? 56).map (·.size) = some (qdV dn cd (.slice none 0 0) 0 mk rg:Array Value).size:=did_size
        rw [if_pos (by rfl)]
        refine wp_store_mid _ _ _ rfl tb 0 (qdV dn cd (.slice none 0 0) 0 mk rg) rfl rfl hth hsd (by kernel_rfl) ?_
        refine hK.out _ _ (keep_box3 hHeld hne1) (fun hHeld => ?_)
        clear hK K
        (try simp only [Act.put,List.setIfInBounds_toArray,List.set_cons_zero,List.set_cons_succ,List.getElem_toArray,List.getElem_cons_zero,List.getElem_cons_succ])
        refine wpAnyH_done (by kernel_rfl) ?_ _
        have hnx:=wk_end HN.out HD.out
        rw [hd4] at hnx
        obtain rfl:dn = true:=hd5.trans hnx.1
        obtain rfl:rg = true:=hd8.trans hnx.2
        obtain ⟨Y,HY⟩:∃ u,Hid (u = w5.setCells tb 0 [.bool true,.int .i64 cd,.slice none 0 0,.bool false,.int .i64 0,.bool mk,.bool true,.bool false,.int .i64 0]):=⟨_,rfl⟩
        rw [← HY.out]
        have hYt:Y.heap[tb]? = some (.cells ([.bool true,.int .i64 cd,.slice none 0 0,.bool false,.int .i64 0,.bool mk,.bool true,.bool false,.int .i64 0]:List Value).toArray 56 (0,0)):=by rw [HY.out];exact blk_didQ hT5 _ rfl
        have hYO:Only (fun k => k = tb) w5 Y:=by rw [HY.out];exact Only.sets (S:=fun k => k = tb) rfl _ 0 (Only.refl _ w5)
        have y0:Y.cell? ⟨tb,0,none⟩ = some (.bool true):=cell_blk hYt rfl
        have y6:Y.cell? ⟨tb,6,none⟩ = some (.bool true):=cell_blk hYt rfl
        have hbY:=(hq5.only hYO (fun k _ e => ⟨.inr e,by have:=HSD.out.ne.2;have:=HPE.out.2.2;omega⟩) (E':=E) (fun k h => .inl (.inl h))).below
        have HBY:=Lib.hid (HB1.out.trans (hbY.mono HB1.out.size))
        clear hYt hYO hbY hB5 hT5 hq5 ho5 hd4 hd5 hd8 hHeld hj hth hsd
        go_wp2
        go_ret
        exact ⟨rfl,HBY.out⟩
  · have HXB:Hid (X.heap[pb]? = some (.cells (qpV x mb bb (.pointer none) (.pointer none) 7 7 0 0 0 0 0) 103 (0,0))):=Lib.hid (HSD.out.at_ HPE.out.1 (show w1.drew.heap[pb]? = _ from HPB.out))
    have hne1:tb ≠ pb:=HSD.out.ne.1
    obtain ⟨d,e0,e1,e2,e3,e4,-,-,-⟩:=HQ.out
    have hk:qrecv (qr2 N D) (startQ [] 7) (wkM 0) = (⟨[],-1,7,0⟩,wkM 0,⟨true,true,false,2,[]⟩):=by rw [← HN.out,← HD.out];exact wk_empty
    have hk2:=Prod.mk.inj (e0.symm.trans hk)
    have hk3:=Prod.mk.inj hk2.2
    obtain rfl:dn = true:=e1.trans (by rw [hk3.2])
    obtain rfl:cd = 2:=e2.trans (by rw [hk3.2])
    obtain rfl:ws3 = wkM 0:=hk3.1
    have d0:X.cell? ⟨tb,0,none⟩ = some (.bool true):=cell_blk HSD.out.box rfl
    have d1:X.cell? ⟨tb,1,none⟩ = some (.int .i64 2):=cell_blk HSD.out.box rfl
    have HBO:=Lib.hid HSD.out.box
    clear e0 e1 e2 e3 e4 hk hk2 hk3 HQ htb hHeld hP5 hth hsd
    go_wp2
    go_loopw [45] (fun ix wr => ∃ (j:Nat) (bs2:List Bool),j ≤ 4 ∧ ix = .int .i64 j ∧ wr.heap[pb]? = some (.cells (qpV x mb bb (.pointer none) (.pointer none) 7 7 0 0 0 0 0) 103 (0,0)) ∧ wr.heap[tb]? = some (.cells (qdV true 2 (.slice sa sn sc) 0 mk rg) 56 (0,0)) ∧ Quo W wr W.heap.size (fun k => E k ∨ k = tb) mb rb bb br (qr2 N D) 1 (wkM j) bs2 (some (sq,wkS j)) (some (rq,s3))) (fun ix _ => 4 - (intOf ix).toNat)
    case atStart => exact ⟨0,_,by omega,rfl,HXB.out,HBO.out,HQT.out⟩
    case round =>
      obtain ⟨j,bs2,hj,rfl,hbr,htr,hqr⟩:=hrel
      have HBR:=Lib.hid hbr;have HTR:=Lib.hid htr;have HQR:=Lib.hid hqr;have HJ:=Lib.hid hj
      have HSJ:=Lib.hid ((hqr.only (T:=fun _ => False) (Only.refl _ wr).drew (fun _ _ h => h.elim) (E':=fun k => E k ∨ k = tb) (fun k h => .inl h)).stS 0)
      clear hbr htr hqr d0 d1
      by_cases hj4:j < 4
      · go_wp2
        refine wp_region_held_drew (S:=(fun W' => W'.cell? ⟨pb,8,none⟩ = some (.pointer none) ∧ W'.cell? ⟨pb,6,none⟩ = some (.pointer (some ⟨mb,0,none⟩)) ∧ W'.cell? ⟨pb,7,none⟩ = some (.pointer (some ⟨bb,0,none⟩)))) (by kernel_rfl) (keepP3 (show wr.drew.heap[pb]? = _ from HBR.out) rfl rfl rfl) (fun hHeld => ?_)
        refine wpAnyH_take (i:=0) rfl (by kernel_rfl) (by kernel_rfl) (by kernel_rfl) (fun _ _ _ h => h) (Or.inl ⟨by rfl,by intro w hSw;(skip);(go_simp <;> with_reducible rfl)⟩) (by assumption) ?_
        (try simp only [Act.put,List.setIfInBounds_toArray,List.set_cons_zero,List.set_cons_succ,List.getElem_toArray,List.getElem_cons_zero,List.getElem_cons_succ])
        refine wpAnyH_take (i:=1) rfl (by kernel_rfl) (by kernel_rfl) (by kernel_rfl) (fun _ _ _ h => h) (Or.inl ⟨by rfl,by intro w hSw;(skip);(go_simp <;> with_reducible rfl)⟩) (by assumption) ?_
        (try simp only [Act.put,List.setIfInBounds_toArray,List.set_cons_zero,List.set_cons_succ,List.getElem_toArray,List.getElem_cons_zero,List.getElem_cons_succ])
        refine wpAnyH_take (i:=2) rfl (by kernel_rfl) (by kernel_rfl) (by kernel_rfl) (fun _ _ _ h => h) (Or.inl ⟨by rfl,by intro w hSw;(skip);(go_simp <;> with_reducible rfl)⟩) (by assumption) ?_
        (try simp only [Act.put,List.setIfInBounds_toArray,List.set_cons_zero,List.set_cons_succ,List.getElem_toArray,List.getElem_cons_zero,List.getElem_cons_succ])
        refine wpAnyH_take (i:=3) rfl (by kernel_rfl) (by kernel_rfl) (by kernel_rfl) (fun _ _ _ h => h) (Or.inl ⟨by rfl,by intro w hSw;(skip);(go_simp <;> with_reducible rfl)⟩) (by assumption) ?_
        (try simp only [Act.put,List.setIfInBounds_toArray,List.set_cons_zero,List.set_cons_succ,List.getElem_toArray,List.getElem_cons_zero,List.getElem_cons_succ])
        refine wpAnyH_take (i:=4) rfl (by kernel_rfl) (by kernel_rfl) (by kernel_rfl) (fun _ _ _ h => h) (Or.inl ⟨by rfl,by intro w hSw;(skip);(go_simp <;> with_reducible rfl)⟩) (by assumption) ?_
        (try simp only [Act.put,List.setIfInBounds_toArray,List.set_cons_zero,List.set_cons_succ,List.getElem_toArray,List.getElem_cons_zero,List.getElem_cons_succ])
        refine wpAnyH_take (i:=5) rfl (by kernel_rfl) (by kernel_rfl) (by kernel_rfl) (fun _ _ _ h => h) (Or.inl ⟨by rfl,by intro w hSw;(skip);(go_simp <;> with_reducible rfl)⟩) (by assumption) ?_
        (try simp only [Act.put,List.setIfInBounds_toArray,List.set_cons_zero,List.set_cons_succ,List.getElem_toArray,List.getElem_cons_zero,List.getElem_cons_succ])
        refine wpAnyH_take (i:=6) rfl (by kernel_rfl) (by kernel_rfl) (by kernel_rfl) (fun _ _ _ h => h) (Or.inl ⟨by rfl,by intro w hSw;(skip);(go_simp <;> with_reducible rfl)⟩) (by assumption) ?_
        (try simp only [Act.put,List.setIfInBounds_toArray,List.set_cons_zero,List.set_cons_succ,List.getElem_toArray,List.getElem_cons_zero,List.getElem_cons_succ])
        refine wpAnyH_take (i:=7) rfl (by kernel_rfl) (by kernel_rfl) (by kernel_rfl) (fun _ _ _ h => h) (Or.inl ⟨by rfl,by intro w hSw;(skip);(go_simp <;> with_reducible rfl)⟩) (by assumption) ?_
        (try simp only [Act.put,List.setIfInBounds_toArray,List.set_cons_zero,List.set_cons_succ,List.getElem_toArray,List.getElem_cons_zero,List.getElem_cons_succ])
        refine wpAnyH_take (i:=8) rfl (by kernel_rfl) (by kernel_rfl) (by kernel_rfl) (fun _ _ _ h => h) (Or.inl ⟨by rfl,by intro w hSw;(skip);(go_simp <;> with_reducible rfl)⟩) (by assumption) ?_
        (try simp only [Act.put,List.setIfInBounds_toArray,List.set_cons_zero,List.set_cons_succ,List.getElem_toArray,List.getElem_cons_zero,List.getElem_cons_succ])
        refine wpAnyH_ready (rs:=[9]) (by kernel_rfl) (by simp) (AllReadyH.cons rfl (fun K hK => ?_) AllReadyH.nil)
        go_simp
        refine HSJ.out.mono ?_
        rintro e w5 ⟨dn,cd,mk,rg,s4,ws4,rfl,⟨d4,hd4,hd5,-,-,hd8⟩,hq5,-,ho5⟩
        have hB5:=ho5.at_ (k:=pb) (show wr.drew.heap[pb]? = _ from HBR.out) (fun h => h.1 (.inl (by rw [hE])))
        have hT5:=ho5.at_ (k:=tb) (show wr.drew.heap[tb]? = _ from HTR.out) (fun h => h.1 (.inr rfl))
        refine hK.out _ _ (keepP3 hB5 rfl rfl rfl) (fun hHeld => ?_)
        clear hK K
        (try simp only [Act.put,List.setIfInBounds_toArray,List.set_cons_zero,List.set_cons_succ,List.getElem_toArray,List.getElem_cons_zero,List.getElem_cons_succ])
        have hnx:=wk_next HN.out HD.out j hj4
        rw [hd4] at hnx
        obtain ⟨n1,n2,n3⟩:=hnx
        have n1:s4 = wkS (j + 1):=n1
        have n2:ws4 = wkM (j + 1):=n2
        have n3:d4.done = false:=n3
        obtain rfl:dn = false:=hd5.trans n3
        have N1:=Lib.hid n1;have N2:=Lib.hid n2
        clear n1 n2 n3 hd4 hd5 hd8
        have hfd:=run_didQ cd mk rg
        refine wpAnyH_take (i:=10) rfl (by kernel_rfl) (by kernel_rfl) (by kernel_rfl) (fun _ _ _ h => h) (Or.inl ⟨by rfl,by intro w hSw;(skip);(go_simp <;> with_reducible rfl)⟩) (by assumption) ?_
        (try simp only [Act.put,List.setIfInBounds_toArray,List.set_cons_zero,List.set_cons_succ,List.getElem_toArray,List.getElem_cons_zero,List.getElem_cons_succ])
        refine wpAnyH_done (by kernel_rfl) ?_ _
        have HB5:=Lib.hid hB5;have HT5:=Lib.hid hT5;have HQ6:=Lib.hid hq5
        clear hB5 hT5 hq5 ho5 hHeld hj
        go_wp2
        go_roundw
        case rel => exact ⟨j + 1,_,by omega,by go_num,HB5.out,HT5.out,by have q:=HQ6.out;rw [N1.out,N2.out] at q;exact q⟩
        case measure => simp [intOf];omega
      · obtain rfl:j = 4:=by omega
        go_wp2
        refine wp_region_held_drew (S:=(fun W' => W'.cell? ⟨pb,8,none⟩ = some (.pointer none) ∧ W'.cell? ⟨pb,6,none⟩ = some (.pointer (some ⟨mb,0,none⟩)) ∧ W'.cell? ⟨pb,7,none⟩ = some (.pointer (some ⟨bb,0,none⟩)))) (by kernel_rfl) (keepP3 (show wr.drew.heap[pb]? = _ from HBR.out) rfl rfl rfl) (fun hHeld => ?_)
        refine wpAnyH_take (i:=0) rfl (by kernel_rfl) (by kernel_rfl) (by kernel_rfl) (fun _ _ _ h => h) (Or.inl ⟨by rfl,by intro w hSw;(skip);(go_simp <;> with_reducible rfl)⟩) (by assumption) ?_
        (try simp only [Act.put,List.setIfInBounds_toArray,List.set_cons_zero,List.set_cons_succ,List.getElem_toArray,List.getElem_cons_zero,List.getElem_cons_succ])
        refine wpAnyH_take (i:=1) rfl (by kernel_rfl) (by kernel_rfl) (by kernel_rfl) (fun _ _ _ h => h) (Or.inl ⟨by rfl,by intro w hSw;(skip);(go_simp <;> with_reducible rfl)⟩) (by assumption) ?_
        (try simp only [Act.put,List.setIfInBounds_toArray,List.set_cons_zero,List.set_cons_succ,List.getElem_toArray,List.getElem_cons_zero,List.getElem_cons_succ])
        refine wpAnyH_take (i:=2) rfl (by kernel_rfl) (by kernel_rfl) (by kernel_rfl) (fun _ _ _ h => h) (Or.inl ⟨by rfl,by intro w hSw;(skip);(go_simp <;> with_reducible rfl)⟩) (by assumption) ?_
        (try simp only [Act.put,List.setIfInBounds_toArray,List.set_cons_zero,List.set_cons_succ,List.getElem_toArray,List.getElem_cons_zero,List.getElem_cons_succ])
        refine wpAnyH_take (i:=3) rfl (by kernel_rfl) (by kernel_rfl) (by kernel_rfl) (fun _ _ _ h => h) (Or.inl ⟨by rfl,by intro w hSw;(skip);(go_simp <;> with_reducible rfl)⟩) (by assumption) ?_
        (try simp only [Act.put,List.setIfInBounds_toArray,List.set_cons_zero,List.set_cons_succ,List.getElem_toArray,List.getElem_cons_zero,List.getElem_cons_succ])
        refine wpAnyH_take (i:=4) rfl (by kernel_rfl) (by kernel_rfl) (by kernel_rfl) (fun _ _ _ h => h) (Or.inl ⟨by rfl,by intro w hSw;(skip);(go_simp <;> with_reducible rfl)⟩) (by assumption) ?_
        (try simp only [Act.put,List.setIfInBounds_toArray,List.set_cons_zero,List.set_cons_succ,List.getElem_toArray,List.getElem_cons_zero,List.getElem_cons_succ])
        refine wpAnyH_take (i:=5) rfl (by kernel_rfl) (by kernel_rfl) (by kernel_rfl) (fun _ _ _ h => h) (Or.inl ⟨by rfl,by intro w hSw;(skip);(go_simp <;> with_reducible rfl)⟩) (by assumption) ?_
        (try simp only [Act.put,List.setIfInBounds_toArray,List.set_cons_zero,List.set_cons_succ,List.getElem_toArray,List.getElem_cons_zero,List.getElem_cons_succ])
        refine wpAnyH_take (i:=6) rfl (by kernel_rfl) (by kernel_rfl) (by kernel_rfl) (fun _ _ _ h => h) (Or.inl ⟨by rfl,by intro w hSw;(skip);(go_simp <;> with_reducible rfl)⟩) (by assumption) ?_
        (try simp only [Act.put,List.setIfInBounds_toArray,List.set_cons_zero,List.set_cons_succ,List.getElem_toArray,List.getElem_cons_zero,List.getElem_cons_succ])
        refine wpAnyH_take (i:=7) rfl (by kernel_rfl) (by kernel_rfl) (by kernel_rfl) (fun _ _ _ h => h) (Or.inl ⟨by rfl,by intro w hSw;(skip);(go_simp <;> with_reducible rfl)⟩) (by assumption) ?_
        (try simp only [Act.put,List.setIfInBounds_toArray,List.set_cons_zero,List.set_cons_succ,List.getElem_toArray,List.getElem_cons_zero,List.getElem_cons_succ])
        refine wpAnyH_take (i:=8) rfl (by kernel_rfl) (by kernel_rfl) (by kernel_rfl) (fun _ _ _ h => h) (Or.inl ⟨by rfl,by intro w hSw;(skip);(go_simp <;> with_reducible rfl)⟩) (by assumption) ?_
        (try simp only [Act.put,List.setIfInBounds_toArray,List.set_cons_zero,List.set_cons_succ,List.getElem_toArray,List.getElem_cons_zero,List.getElem_cons_succ])
        refine wpAnyH_ready (rs:=[9]) (by kernel_rfl) (by simp) (AllReadyH.cons rfl (fun K hK => ?_) AllReadyH.nil)
        go_simp
        refine HSJ.out.mono ?_
        rintro e w5 ⟨dn,cd,mk,rg,s4,ws4,rfl,⟨d4,hd4,hd5,-,-,hd8⟩,hq5,-,ho5⟩
        have hB5:=ho5.at_ (k:=pb) (show wr.drew.heap[pb]? = _ from HBR.out) (fun h => h.1 (.inl (by rw [hE])))
        have hT5:=ho5.at_ (k:=tb) (show wr.drew.heap[tb]? = _ from HTR.out) (fun h => h.1 (.inr rfl))
        refine hK.out _ _ (keepP3 hB5 rfl rfl rfl) (fun hHeld => ?_)
        clear hK K
        (try simp only [Act.put,List.setIfInBounds_toArray,List.set_cons_zero,List.set_cons_succ,List.getElem_toArray,List.getElem_cons_zero,List.getElem_cons_succ])
        refine wpAnyH_ready (rs:=[10]) (by kernel_rfl) (by simp) (AllReadyH.cons rfl (fun K hK => ?_) AllReadyH.nil)
        have hth:=there_at hT5 (n:=(qdV dn cd (.slice none 0 0) 0 mk rg:Array Value).size) rfl
        have hsd:(Tryz.prog.info? 56).map (·.size) = some (qdV dn cd (.slice none 0 0) 0 mk rg:Array Value).size:=did_size
        rw [if_pos (by rfl)]
        refine wp_store_mid _ _ _ rfl tb 0 (qdV dn cd (.slice none 0 0) 0 mk rg) rfl rfl hth hsd (by kernel_rfl) ?_
        refine hK.out _ _ (keep_box3 hHeld hne1) (fun hHeld => ?_)
        clear hK K
        (try simp only [Act.put,List.setIfInBounds_toArray,List.set_cons_zero,List.set_cons_succ,List.getElem_toArray,List.getElem_cons_zero,List.getElem_cons_succ])
        refine wpAnyH_done (by kernel_rfl) ?_ _
        have hnx:=wk_end HN.out HD.out
        rw [hd4] at hnx
        obtain rfl:dn = true:=hd5.trans hnx.1
        obtain rfl:rg = true:=hd8.trans hnx.2
        obtain ⟨Y,HY⟩:∃ u,Hid (u = w5.setCells tb 0 [.bool true,.int .i64 cd,.slice none 0 0,.bool false,.int .i64 0,.bool mk,.bool true,.bool false,.int .i64 0]):=⟨_,rfl⟩
        rw [← HY.out]
        have hYt:Y.heap[tb]? = some (.cells ([.bool true,.int .i64 cd,.slice none 0 0,.bool false,.int .i64 0,.bool mk,.bool true,.bool false,.int .i64 0]:List Value).toArray 56 (0,0)):=by rw [HY.out];exact blk_didQ hT5 _ rfl
        have hYO:Only (fun k => k = tb) w5 Y:=by rw [HY.out];exact Only.sets (S:=fun k => k = tb) rfl _ 0 (Only.refl _ w5)
        have y0:Y.cell? ⟨tb,0,none⟩ = some (.bool true):=cell_blk hYt rfl
        have y6:Y.cell? ⟨tb,6,none⟩ = some (.bool true):=cell_blk hYt rfl
        have hbY:=(hq5.only hYO (fun k _ e => ⟨.inr e,by have:=HSD.out.ne.2;have:=HPE.out.2.2;omega⟩) (E':=E) (fun k h => .inl (.inl h))).below
        have HBY:=Lib.hid (HB1.out.trans (hbY.mono HB1.out.size))
        clear hYt hYO hbY hB5 hT5 hq5 ho5 hd4 hd5 hd8 hHeld hj hth hsd
        go_wp2
        go_ret
        exact ⟨rfl,HBY.out⟩
end Go.Proofs.YtmhpcgcloojfbaaGreat
