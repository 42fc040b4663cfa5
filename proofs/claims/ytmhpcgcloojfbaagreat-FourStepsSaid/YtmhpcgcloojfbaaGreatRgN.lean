/- Texts of the ring, joined, what is used of them. No condition but those in the statements. -/
import Derived.BigQuiet
import Derived.BigRegion
import Derived.ChangeSlices
import Derived.Deep.Grids
import Derived.Deep.MidRow
import Derived.Deep.RegionHeld3
import Derived.Deep.Upon
import Derived.IntWalk
import Derived.ProofKit
import Derived.Shelf.Abstract
import Derived.Test.YtmhpcgcloojfbaaGreatRGF
import Derived.Test.YtmhpcgcloojfbaaGreatRgT
section
namespace Go.Proofs.YtmhpcgcloojfbaaGreat
open Go.RowKit Go.Sort
set_option linter.unusedVariables false
set_option linter.unusedSimpArgs false
set_option linter.unusedVariables false
set_option linter.unusedSimpArgs false
open Go.Proofs.YtmhpcgcloojfbaaGreat.Simp
open Go.ChangeShapes Go.WideShapes Go.Deep
set_option maxRecDepth 100000
set_option maxHeartbeats 1600000
theorem u8_in11 {n:Int} (h:(Lit.int .u8 n).wf = true):0 ≤ n ∧ n ≤ 255:=by
  simp [Lit.wf,IntKind.min,IntKind.max,IntKind.signed,IntKind.bits] at h;omega
end Go.Proofs.YtmhpcgcloojfbaaGreat
end
section
namespace Go.Proofs.YtmhpcgcloojfbaaGreat
open Go.RowKit Go.Sort
set_option linter.unusedVariables false
set_option linter.unusedSimpArgs false
set_option linter.unusedVariables false
set_option linter.unusedSimpArgs false
open Go.Proofs.YtmhpcgcloojfbaaGreat.Simp
set_option maxRecDepth 100000
set_option maxHeartbeats 3200000
theorem OwnsOff.row32 {w:World} {base:Nat} {A:Option Addr} {n c:Nat} {ds:List Int} (h:OwnsOff w base 34 1 (.slice A n c) n (wcells ds)):n = ds.length ∧ IntRowK .u32 w w.heap.size A ds:=by
  have hl:n = ds.length:=by have:=h.1;simp at this;exact this.symm
  subst hl
  refine ⟨rfl,fun hp => ?_⟩
  obtain ⟨g,off,cap,hv,-,hgl,-,-,-,hc⟩:=h.lies hp
  have hA:A = some ⟨g,off,none⟩:=by simp at hv;exact hv.1
  exact ⟨g,off,hA,hgl,fun i hi => hc i _ (by simp [wcells,List.getElem?_eq_getElem hi,List.getD_eq_getElem?_getD])⟩
theorem blk_over {X:World} {b:Nat} {cs:Array Value} {t:TypeId} (h:X.heap[b]? = some (.cells cs t (0,0))) (hc:cs.size = 9) (vs:List Value) (hv:vs.length = 9):(X.setCells b 0 vs).heap[b]? = some (.cells vs.toArray t (0,0)):=by
  obtain ⟨l⟩:=cs
  match l,hc,vs,hv with
  | [a0,a1,a2,a3,a4,a5,a6,a7,a8],_,[v0,v1,v2,v3,v4,v5,v6,v7,v8],_ =>
    have e:wr11 #[a0,a1,a2,a3,a4,a5,a6,a7,a8] 0 [v0,v1,v2,v3,v4,v5,v6,v7,v8] = #[v0,v1,v2,v3,v4,v5,v6,v7,v8]:=by kernel_rfl
    have q:=blk_sets [v0,v1,v2,v3,v4,v5,v6,v7,v8] 0 X _ h
    rw [e] at q
    exact q
theorem sameAns_eq (cd:Int) (vl:Bool) (ct:Int) (ds:List Int) (A A':Option Addr) (c c':Nat) (w:World) (h1:IntRowK .u32 w w.heap.size A ds) (h2:IntRowK .u32 w w.heap.size A' ds) (hl:ds.length ≤ 1000000) :
    Calls Tryz.prog 40 #[.agg #[.int .i64 cd,.slice A ds.length c,.bool vl,.int .i64 ct],.agg #[.int .i64 cd,.slice A' ds.length c',.bool vl,.int .i64 ct]] w fun e w' => e = .returned (.bool true) ∧ Below w.heap.size w w':=by
  obtain ⟨W,HW⟩:∃ u,Hid (u = (w.alloc (.cells #[.int .i64 cd,.slice A ds.length c,.bool vl,.int .i64 ct] 54)).alloc (.cells #[.int .i64 cd,.slice A' ds.length c',.bool vl,.int .i64 ct] 54)):=⟨_,rfl⟩
  have hB:Below w.heap.size w W:=by rw [HW.out];exact ((Below.refl _ _).alloc (Nat.le_refl _) _).alloc (by simp) _
  have z2:W.heap[w.heap.size]? = some (.cells #[.int .i64 cd,.slice A ds.length c,.bool vl,.int .i64 ct] 54 (0,0)):=by rw [HW.out,Below.heap_alloc _ _ _ (by simp)];exact heap_alloc_new w _
  have z3:W.heap[w.heap.size + 1]? = some (.cells #[.int .i64 cd,.slice A' ds.length c',.bool vl,.int .i64 ct] 54 (0,0)):=by rw [HW.out];exact heap_new_at _ _ (by simp)
  have HZ2:=Lib.hid z2;have HZ3:=Lib.hid z3;have HB:=Lib.hid hB
  have H1:=Lib.hid h1;have H2:=Lib.hid h2
  have a0:=cell_blk z2 (i:=0) rfl
  have a1:=cell_blk z2 (i:=1) rfl
  have a2:=cell_blk z2 (i:=2) rfl
  have a3:=cell_blk z2 (i:=3) rfl
  have b0:=cell_blk z3 (i:=0) rfl
  have b1:=cell_blk z3 (i:=1) rfl
  have b2:=cell_blk z3 (i:=2) rfl
  have b3:=cell_blk z3 (i:=3) rfl
  clear z2 z3 hB h1 h2
  go_enter Tryz.func40,Tryz.ntmps40
  go_wp2_with (rw [← HW.out])
  go_loopw [5] (fun ix wr => ∃ k:Nat,k ≤ ds.length ∧ ix = .int .i64 k ∧ Below W.heap.size W wr) (fun ix _ => ds.length - (intOf ix).toNat)
  case atStart => exact ⟨0,Nat.zero_le _,rfl,Below.refl _ _⟩
  case round =>
    obtain ⟨k,hk,rfl,hb⟩:=hrel
    have y2:=cell_blk ((hb.block _ (Array.getElem?_eq_some_iff.1 HZ2.out).1).trans HZ2.out) (i:=1) rfl
    have y3:=cell_blk ((hb.block _ (Array.getElem?_eq_some_iff.1 HZ3.out).1).trans HZ3.out) (i:=1) rfl
    clear a0 a1 a2 a3 b0 b1 b2 b3
    by_cases hkl:k < ds.length
    · obtain ⟨g,o,rfl,-,e1⟩:=H1.out.at_ hkl
      obtain ⟨g',o',rfl,-,e2⟩:=H2.out.at_ hkl
      have hbw:=HB.out.trans (hb.mono HB.out.size)
      have u1:=e1 wr hbw
      have u2:=e2 wr hbw
      obtain ⟨y,hy⟩:∃ y,ds.getD k 0 = y:=⟨_,rfl⟩
      rw [hy] at u1 u2
      have s1:(k:Int) < (ds.length:Int):=by omega
      have HBR:=Lib.hid hb
      clear e1 e2 hbw hy hb
      go_wp2
      go_region
      go_wp2
      go_roundw
      case rel => exact ⟨k + 1,by omega,by go_num,HBR.out.drew⟩
      case measure => simp [intOf];omega
    · have HBR:=Lib.hid hb
      clear hb
      go_wp2
      go_ret
      exact ⟨rfl,HB.out.trans (HBR.out.mono HB.out.size)⟩
theorem sameDid_eq (dn:Bool) (cd:Int) (vl:Bool) (ct:Int) (mk rg st:Bool) (bf:Int) (ds:List Int) (A A':Option Addr) (c c':Nat) (w:World) (h1:IntRowK .u32 w w.heap.size A ds) (h2:IntRowK .u32 w w.heap.size A' ds) (hl:ds.length ≤ 1000000) :
    Calls Tryz.prog 18 #[.agg #[.bool dn,.int .i64 cd,.slice A ds.length c,.bool vl,.int .i64 ct,.bool mk,.bool rg,.bool st,.int .i64 bf],.agg #[.bool dn,.int .i64 cd,.slice A' ds.length c',.bool vl,.int .i64 ct,.bool mk,.bool rg,.bool st,.int .i64 bf]] w fun e w' => e = .returned (.bool true) ∧ Below w.heap.size w w':=by
  obtain ⟨W,HW⟩:∃ u,Hid (u = (w.alloc (.cells #[.bool dn,.int .i64 cd,.slice A ds.length c,.bool vl,.int .i64 ct,.bool mk,.bool rg,.bool st,.int .i64 bf] 56)).alloc (.cells #[.bool dn,.int .i64 cd,.slice A' ds.length c',.bool vl,.int .i64 ct,.bool mk,.bool rg,.bool st,.int .i64 bf] 56)):=⟨_,rfl⟩
  have hB:Below w.heap.size w W:=by rw [HW.out];exact ((Below.refl _ _).alloc (Nat.le_refl _) _).alloc (by simp) _
  have z2:W.heap[w.heap.size]? = some (.cells #[.bool dn,.int .i64 cd,.slice A ds.length c,.bool vl,.int .i64 ct,.bool mk,.bool rg,.bool st,.int .i64 bf] 56 (0,0)):=by rw [HW.out,Below.heap_alloc _ _ _ (by simp)];exact heap_alloc_new w _
  have z3:W.heap[w.heap.size + 1]? = some (.cells #[.bool dn,.int .i64 cd,.slice A' ds.length c',.bool vl,.int .i64 ct,.bool mk,.bool rg,.bool st,.int .i64 bf] 56 (0,0)):=by rw [HW.out];exact heap_new_at _ _ (by simp)
  have HB:=Lib.hid hB
  have HSA:=Lib.hid (sameAns_eq cd vl ct ds A A' c c' W ((h1.below hB).more hB.size) ((h2.below hB).more hB.size) hl)
  have a0:=cell_blk z2 (i:=0) rfl
  have a1:=cell_blk z2 (i:=1) rfl
  have a2:=cell_blk z2 (i:=2) rfl
  have a3:=cell_blk z2 (i:=3) rfl
  have a4:=cell_blk z2 (i:=4) rfl
  have a5:=cell_blk z2 (i:=5) rfl
  have a6:=cell_blk z2 (i:=6) rfl
  have a7:=cell_blk z2 (i:=7) rfl
  have a8:=cell_blk z2 (i:=8) rfl
  have b0:=cell_blk z3 (i:=0) rfl
  have b1:=cell_blk z3 (i:=1) rfl
  have b2:=cell_blk z3 (i:=2) rfl
  have b3:=cell_blk z3 (i:=3) rfl
  have b4:=cell_blk z3 (i:=4) rfl
  have b5:=cell_blk z3 (i:=5) rfl
  have b6:=cell_blk z3 (i:=6) rfl
  have b7:=cell_blk z3 (i:=7) rfl
  have b8:=cell_blk z3 (i:=8) rfl
  clear z2 z3 hB h1 h2
  go_enter Tryz.func18,Tryz.ntmps18
  go_wp2_with (rw [← HW.out])
  refine HSA.out.mono ?_
  rintro e w1 ⟨rfl,hb1⟩
  have HB1:=Lib.hid (HB.out.trans (hb1.mono HB.out.size))
  clear hb1 a0 a1 a2 a3 a4 a5 a6 a7 a8 b0 b1 b2 b3 b4 b5 b6 b7 b8
  go_wp2
  go_ret
  exact ⟨rfl,HB1.out⟩
end Go.Proofs.YtmhpcgcloojfbaaGreat
end
section
namespace Go.Proofs.YtmhpcgcloojfbaaGreat
open Go.RowKit Go.Sort
set_option linter.unusedVariables false
set_option linter.unusedSimpArgs false
set_option linter.unusedVariables false
set_option linter.unusedSimpArgs false
set_option maxRecDepth 100000
set_option maxHeartbeats 3200000
theorem words_row {w:World} {b:Nat} {ws:List Int} (h:WordsAt w b ws):IntRowK .u32 w w.heap.size (some ⟨b,0,none⟩) ws:=fun _ => ⟨b,0,rfl,h.lt,fun i hi => by rw [Nat.zero_add];exact h.cell hi⟩
theorem same32_b (xs:List Int) (A A':Option Addr) (c c':Nat) (w:World) (hx:IntRowK .u32 w w.heap.size A xs) (hy:IntRowK .u32 w w.heap.size A' xs) (hl:xs.length ≤ 1000000) :
    Calls Tryz.prog 19 #[.slice A xs.length c,.slice A' xs.length c'] w fun e w' => e = .returned (.bool true) ∧ Below w.heap.size w w':=by
  go_enter Tryz.func19,Tryz.ntmps19
  go_wp2
  go_loopw [5] (fun ix wr => ∃ k:Nat,k ≤ xs.length ∧ ix = .int .i64 k ∧ Below w.heap.size w wr) (fun ix _ => xs.length - (intOf ix).toNat)
  case atStart => exact ⟨0,Nat.zero_le _,rfl,Below.refl _ _⟩
  case round =>
    obtain ⟨k,hk,rfl,hbc⟩:=hrel
    by_cases hlt:k < xs.length
    · obtain ⟨b,o,rfl,h1,k0⟩:=hx.at_ hlt
      obtain ⟨b',o',rfl,h2,k1⟩:=hy.at_ hlt
      have k0:=k0 _ hbc
      have k1:=k1 _ hbc
      obtain ⟨x,hxx⟩:∃ x,x = xs.getD k 0:=⟨_,rfl⟩
      rw [← hxx] at k0 k1
      have k0:∀ p:Regrown,(grow (redrawn wr p.d) p.os).cell? ⟨b,o + k,none⟩ = some (.int .u32 x):=fun p => cell_regrown k0 p.d p.os
      have k1:∀ p:Regrown,(grow (redrawn wr p.d) p.os).cell? ⟨b',o' + k,none⟩ = some (.int .u32 x):=fun p => cell_regrown k1 p.d p.os
      have hbr:=Below.refl wr.heap.size wr
      have s1:(k:Int) < (xs.length:Int):=by omega
      clear hxx hx hy h1 h2
      go_wp2_with ((first | with_reducible refine wpList_on hbr ?_ | with_reducible refine wp_on hbr (by kernel_rfl) (by kernel_rfl) ?_);(repeat (go_big_quiet_step (fail)));with_reducible refine wpQuiet_nil ?_;intro wc hbr)
      go_roundw
      case rel => exact ⟨k + 1,by omega,by go_num,hbc.trans (hbr.mono hbc.size)⟩
      case measure => simp [intOf];omega
    · have s1:¬ ((k:Int) < (xs.length:Int)):=by omega
      go_wp2
      go_ret
      exact ⟨rfl,hbc⟩
end Go.Proofs.YtmhpcgcloojfbaaGreat
end
section
namespace Go.Proofs.YtmhpcgcloojfbaaGreat
open Go.RowKit Go.Sort Go.ChangeShapes Go.WideShapes
set_option linter.unusedVariables false
set_option linter.unusedSimpArgs false
set_option linter.unusedVariables false
theorem u32_in11 {n:Int} (h:(Lit.int .u32 n).wf = true):0 ≤ n ∧ n ≤ 4294967295:=by
  simp [Lit.wf,IntKind.min,IntKind.max,IntKind.signed,IntKind.bits] at h;omega
theorem w32_wf {l:List Int} (h:∀ q ∈ l,(Lit.int .u32 q).wf = true):Simp.W32 l:=Simp.w32_of fun q hq => u32_in11 (h q hq)
end Go.Proofs.YtmhpcgcloojfbaaGreat
end
