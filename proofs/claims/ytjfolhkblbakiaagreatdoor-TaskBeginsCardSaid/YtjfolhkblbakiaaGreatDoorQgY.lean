/- Texts of the ring, joined, what is used of them. No condition but those in the statements. -/
import Derived.BigQuiet
import Derived.BigRegion
import Derived.ChangeSlices
import Derived.Deep.Grids
import Derived.Deep.MidRow
import Derived.Deep.RegionHeld3
import Derived.Deep.Upon
import Derived.IntWalk
import Derived.ProofKit
import Derived.Shelf.Abstract
import Derived.Test.YtjfolhkblbakiaaGreatDoorQOffB
import Derived.Test.YtjfolhkblbakiaaGreatDoorQRK
import Derived.Test.YtjfolhkblbakiaaGreatDoorQRSn
import Derived.Test.YtjfolhkblbakiaaGreatDoorQTPu
import Derived.Test.YtjfolhkblbakiaaGreatDoorQgA
import Derived.Test.YtjfolhkblbakiaaGreatDoorQgD
import Derived.Test.YtjfolhkblbakiaaGreatDoorQgO
import Derived.Test.YtjfolhkblbakiaaGreatDoorQgX
section
namespace Go.Proofs.YtjfolhkblbakiaaGreatDoor
open Go.RowKit Go.Sort
set_option linter.unusedVariables false
set_option linter.unusedSimpArgs false
set_option linter.unusedVariables false
set_option linter.unusedSimpArgs false
set_option maxRecDepth 100000
set_option maxHeartbeats 1600000
theorem results_pm {fn:Func} {q p:Tmp} {ty:TypeId} (h:fn.results = #[.tmp q,.cell p ty]) (tmps:Array Value) (w:World) (b:Nat) (cs:List Value) (d:TypeDesc)
    (hp:tmps.getD p undef = .pointer (some ⟨b,0,none⟩)) (hc:w.rangeAt b 0 cs) (hu:Tryz.prog.underlying ty = some d) (hd:d.isRow = true) (hi:(Tryz.prog.info? ty).map (·.size) = some cs.length) {r:Value} (hr:tmps.getD q undef = r) :
    (results fn tmps).run Tryz.prog w = .ok (.tuple #[r,.agg cs.toArray]) w:=by
  have hp':tmps[p]?.getD undef = .pointer (some ⟨b,0,none⟩):=by simpa using hp
  have hr':tmps[q]?.getD undef = r:=by simpa using hr
  simp [results,h,hp',hr',asAddr,run_loadVar_mid w b 0 ty cs d hc hu hd hi]
theorem rhas_b (l:List Int) (A:Option Addr) (n m:Nat) (v:Int) (q:Bool) (w:World) (hn:n = l.length) (hr:IntRowK .i64 w w.heap.size A l) (hl:l.length ≤ 1000000) (h:madeB l v = q) :
    Calls Tryz.prog 48 #[.slice A n m,.int .i64 v] w fun e w' => e = .returned (.bool q) ∧ w = w':=by
  subst hn
  have HR:=Lib.hid hr;have HQ:=Lib.hid h;have HL:=Lib.hid hl
  clear hr h hl
  go_enter Tryz.func48,Tryz.ntmps48
  go_wp2
  go_loopw [5] (fun ix wr => ∃ i:Nat,i ≤ l.length ∧ ix = .int .i64 i ∧ wr = w ∧ ∀ j,j < i → l.getD j 0 ≠ v) (fun ix _ => l.length - (intOf ix).toNat)
  case atStart => exact ⟨0,by omega,rfl,rfl,fun j hj => by omega⟩
  case round =>
    obtain ⟨i,hi,rfl,hwr,hno⟩:=hrel
    subst hwr
    have HNO:=Lib.hid hno
    clear hno
    by_cases hlt:i < l.length
    · have s1:(i:Int) < (l.length:Int):=by omega
      have s0:(0:Int) ≤ (i:Int):=by omega
      obtain ⟨b,o,hA,-,hc⟩:=HR.out (by omega)
      subst hA
      have c0:=hc i hlt
      obtain ⟨z,hz⟩:∃ z,l.getD i 0 = z:=⟨_,rfl⟩
      rw [hz] at c0
      have HZ:=Lib.hid hz
      have hll:=HL.out
      clear hc hz
      by_cases hzv:z = v
      · subst hzv
        have hq:q = true:=HQ.out.symm.trans (made_hit hlt HZ.out)
        subst hq
        go_wp2
        go_ret
        exact ⟨rfl,by trivial⟩
      · have n1:(z == v) = false:=by rw [beq_eq_false_iff_ne];exact hzv
        have n2:decide (z = v) = false:=decide_eq_false hzv
        go_wp2
        go_roundw
        case rel => exact ⟨i + 1,by omega,by go_num,by trivial,fun j hj => by
          rcases Nat.lt_succ_iff_lt_or_eq.1 hj with h | rfl
          · exact HNO.out j h
          · rw [HZ.out];exact hzv⟩
        case measure => simp [intOf];omega
    · have s1:¬ ((i:Int) < (l.length:Int)):=by omega
      have hq:q = false:=HQ.out.symm.trans (made_none (fun j hj => HNO.out j (by omega)))
      subst hq
      go_wp2
      go_ret
      exact ⟨rfl,by trivial⟩
theorem rbegR_b (c:Cfg) (x:CfgAt) (sp:Int) (sn:Bool) (own:Int) (made valid:List Int) (ma va:Option Addr) (mc vc:Nat) (op port ad:Int) (da:Option Addr) (dn dc:Nat) (w:World) (hx:CfgIn w w.heap.size c x) (wx:CfgWf c) (lx:CfgFew c) (hs:SIn w made ma) (hv:SIn w valid va) (hp:(Lit.int .i64 port).wf = true) (had:(Lit.int .u64 ad).wf = true) (hdn:dn ≤ 1000000) (z:Int) (hz:refusedN c sp sn made op port ad dn = z) (h0:z ≠ 0) :
    Calls Tryz.prog 13 #[.agg (cfgCells c x),.agg #[.int .i64 sp,.bool sn,.slice ma made.length mc,.slice va valid.length vc],.int .u32 own,.agg #[.int .i64 op,.int .i64 port,.int .u64 ad,.slice da dn dc]] w fun e w' => e = .returned (.tuple #[.pointer none,.agg #[.int .i64 z,.slice none 0 0,.bool false,.int .i64 0]]) ∧ Below w.heap.size w w':=by
  obtain ⟨Wc,HWc,hBc,hWs,bx⟩:=one_cbox w c x 29
  obtain ⟨pa,pc,ca,cc,aa,ac,ba,bc⟩:=x
  obtain ⟨Ws,HWs,hBs,hWss,sx⟩:=box_new Wc #[.int .i64 sp,.bool sn,.slice ma made.length mc,.slice va valid.length vc] 32
  obtain ⟨Wq,HWq,hBq,hWq,qx⟩:=box_new Ws #[.int .i64 op,.int .i64 port,.int .u64 ad,.slice da dn dc] 36
  obtain ⟨W,HW,hBa,hWa,ax⟩:=box_new Wq #[.int .i64 0,.slice none 0 0,.bool false,.int .i64 0] 42
  have hQ:=hBq.trans (hBa.mono hBq.size)
  have hSQ:=hBs.trans (hQ.mono hBs.size)
  have hB:=hBc.trans (hSQ.mono hBc.size)
  have BX:Hid (∀ w',Below W.heap.size W w' → Below Wc.heap.size Wc w'):=Lib.hid (fun w' h => hSQ.trans (h.mono hSQ.size))
  have SX:Hid (∀ w',Below W.heap.size W w' → w'.heap[Wc.heap.size]? = some (.cells #[.int .i64 sp,.bool sn,.slice ma made.length mc,.slice va valid.length vc] 32 (0,0))):=Lib.hid (fun w' h => sx _ (hQ.trans (h.mono hQ.size)))
  have QX:Hid (∀ w',Below W.heap.size W w' → w'.heap[Ws.heap.size]? = some (.cells #[.int .i64 op,.int .i64 port,.int .u64 ad,.slice da dn dc] 36 (0,0))):=Lib.hid (fun w' h => qx _ (hBa.trans (h.mono hBa.size)))
  have AX:Hid (∀ w',Below W.heap.size W w' → w'.heap[Wq.heap.size]? = some (.cells #[.int .i64 0,.slice none 0 0,.bool false,.int .i64 0] 42 (0,0))):=Lib.hid (fun w' h => ax _ h)
  have hAL:w.heap.size ≤ Wq.heap.size:=(hBc.trans ((hBs.trans (hBq.mono hBs.size)).mono hBc.size)).size
  have hAS:=hWa
  obtain ⟨sb,hsb⟩:∃ n,n = Wc.heap.size:=⟨_,rfl⟩
  obtain ⟨qb,hqb⟩:∃ n,n = Ws.heap.size:=⟨_,rfl⟩
  obtain ⟨ab,hab⟩:∃ n,n = Wq.heap.size:=⟨_,rfl⟩
  rw [← hsb] at SX
  rw [← hqb] at QX
  rw [← hab] at AX hAL hAS
  have HAL:=Lib.hid hAL;have HAS:=Lib.hid hAS
  have HSB:=Lib.hid hsb;have HQB:=Lib.hid hqb;have HAB:=Lib.hid hab;have HB:=Lib.hid hB;have CX:=Lib.hid bx
  have HXW:=Lib.hid (hx.later hB);have HSW:=Lib.hid (hs.later hB);have HVW:=Lib.hid (hv.later hB);skip
  simp only [cfgCells] at HWc ⊢
  clear hBc hWs bx hBs hWss sx hBq hWq qx hBa hWa ax hQ hSQ hB hAL hAS hsb hqb hab hx hs hv
  have HREF:=Lib.hid (rrefused_is c ⟨pa,pc,ca,cc,aa,ac,ba,bc⟩ sp sn made ma mc va valid.length vc (op) port ad da dn dc z W HXW.out wx lx HSW.out hp had hdn hz)
  simp only [cfgCells] at HREF
  obtain ⟨c0,c1,c2,c3,c4,c5⟩:=CX.out _ (BX.out _ (Below.refl _ _))
  have s0:W.cell? ⟨sb,0,none⟩ = some (.int .i64 sp):=cell_blk (SX.out _ (Below.refl _ _)) rfl
  have s1:W.cell? ⟨sb,1,none⟩ = some (.bool sn):=cell_blk (SX.out _ (Below.refl _ _)) rfl
  have s2:W.cell? ⟨sb,2,none⟩ = some (.slice ma made.length mc):=cell_blk (SX.out _ (Below.refl _ _)) rfl
  have s3:W.cell? ⟨sb,3,none⟩ = some (.slice va valid.length vc):=cell_blk (SX.out _ (Below.refl _ _)) rfl
  have q0:W.cell? ⟨qb,0,none⟩ = some (.int .i64 op):=cell_blk (QX.out _ (Below.refl _ _)) rfl
  have q1:W.cell? ⟨qb,1,none⟩ = some (.int .i64 port):=cell_blk (QX.out _ (Below.refl _ _)) rfl
  have q2:W.cell? ⟨qb,2,none⟩ = some (.int .u64 ad):=cell_blk (QX.out _ (Below.refl _ _)) rfl
  have q3:W.cell? ⟨qb,3,none⟩ = some (.slice da dn dc):=cell_blk (QX.out _ (Below.refl _ _)) rfl
  go_enter Tryz.func13,Tryz.ntmps13
  go_wp2_with (first | (rw [← HWc.out]) | (simp only [← HSB.out];rw [← HWs.out]) | (simp only [← HQB.out];rw [← HWq.out]) | (simp only [← HAB.out];rw [← HW.out]))
  refine HREF.out.mono ?_
  rintro e w5 ⟨rfl,hb5⟩
  clear c0 c1 c2 c3 c4 c5 s0 s1 s2 s3 q0 q1 q2 q3
  have HB5:=Lib.hid hb5
  obtain ⟨c0,c1,c2,c3,c4,c5⟩:=CX.out _ (BX.out _ hb5)
  have s0:w5.cell? ⟨sb,0,none⟩ = some (.int .i64 sp):=cell_blk (SX.out _ hb5) rfl
  have s1:w5.cell? ⟨sb,1,none⟩ = some (.bool sn):=cell_blk (SX.out _ hb5) rfl
  have s2:w5.cell? ⟨sb,2,none⟩ = some (.slice ma made.length mc):=cell_blk (SX.out _ hb5) rfl
  have s3:w5.cell? ⟨sb,3,none⟩ = some (.slice va valid.length vc):=cell_blk (SX.out _ hb5) rfl
  have q0:w5.cell? ⟨qb,0,none⟩ = some (.int .i64 op):=cell_blk (QX.out _ hb5) rfl
  have q1:w5.cell? ⟨qb,1,none⟩ = some (.int .i64 port):=cell_blk (QX.out _ hb5) rfl
  have q2:w5.cell? ⟨qb,2,none⟩ = some (.int .u64 ad):=cell_blk (QX.out _ hb5) rfl
  have q3:w5.cell? ⟨qb,3,none⟩ = some (.slice da dn dc):=cell_blk (QX.out _ hb5) rfl
  clear hb5
  have z1:(z != 0) = true:=by simpa using h0
  have z2:decide (z = 0) = false:=decide_eq_false h0
  clear h0 hz
  have hth:=there_blk (W:=w5) (AX.out _ HB5.out) (n:=(#[.int .i64 z,.slice none 0 0,.bool false,.int .i64 0]:Array Value).size) rfl
  have hsz:(Tryz.prog.info? 42).map (·.size) = some (#[.int .i64 z,.slice none 0 0,.bool false,.int .i64 0]:Array Value).size:=ans_size
  go_wp2_with (with_reducible refine wpList_store_mid (by kernel_rfl) _ _ _ rfl ab 0 #[.int .i64 z,.slice none 0 0,.bool false,.int .i64 0] (by kernel_rfl) (by kernel_rfl) hth hsz (by kernel_rfl) ?_)
  have hrg:=World.rangeAt_setCells_same w5 ab 0 (#[.int .i64 z,.slice none 0 0,.bool false,.int .i64 0]:Array Value).toList (by simpa using hth)
  (try simp only [Exit.inBlock,Exit.then])
  refine bodyPost_ret (results_pm rfl _ _ ab (#[.int .i64 z,.slice none 0 0,.bool false,.int .i64 0]:Array Value).toList _ rfl hrg Tryz.underlying42 rfl ans_size rfl) rfl ?_
  exact ⟨rfl,below_setCells _ _ _ (HB.out.trans ((HB5.out).mono HB.out.size)) HAL.out⟩
theorem rbeg1_b (c:Cfg) (x:CfgAt) (sp:Int) (sn:Bool) (own:Int) (made valid:List Int) (ma va:Option Addr) (mc vc:Nat) (port ad:Int) (da:Option Addr) (dn dc:Nat) (w:World) (hx:CfgIn w w.heap.size c x) (wx:CfgWf c) (lx:CfgFew c) (hs:SIn w made ma) (hv:SIn w valid va) (hp:(Lit.int .i64 port).wf = true) (had:(Lit.int .u64 ad).wf = true) (hdn:dn ≤ 1000000) (hz:refusedN c sp sn made 1 port ad dn = 0) :
    Calls Tryz.prog 13 #[.agg (cfgCells c x),.agg #[.int .i64 sp,.bool sn,.slice ma made.length mc,.slice va valid.length vc],.int .u32 own,.agg #[.int .i64 1,.int .i64 port,.int .u64 ad,.slice da dn dc]] w fun e w' => e = .returned (.tuple #[.pointer none,.agg #[.int .i64 0,.slice none 0 0,.bool false,.int .i64 0]]) ∧ Below w.heap.size w w':=by
  obtain ⟨Wc,HWc,hBc,hWs,bx⟩:=one_cbox w c x 29
  obtain ⟨pa,pc,ca,cc,aa,ac,ba,bc⟩:=x
  obtain ⟨Ws,HWs,hBs,hWss,sx⟩:=box_new Wc #[.int .i64 sp,.bool sn,.slice ma made.length mc,.slice va valid.length vc] 32
  obtain ⟨Wq,HWq,hBq,hWq,qx⟩:=box_new Ws #[.int .i64 1,.int .i64 port,.int .u64 ad,.slice da dn dc] 36
  obtain ⟨W,HW,hBa,hWa,ax⟩:=box_new Wq #[.int .i64 0,.slice none 0 0,.bool false,.int .i64 0] 42
  have hQ:=hBq.trans (hBa.mono hBq.size)
  have hSQ:=hBs.trans (hQ.mono hBs.size)
  have hB:=hBc.trans (hSQ.mono hBc.size)
  have BX:Hid (∀ w',Below W.heap.size W w' → Below Wc.heap.size Wc w'):=Lib.hid (fun w' h => hSQ.trans (h.mono hSQ.size))
  have SX:Hid (∀ w',Below W.heap.size W w' → w'.heap[Wc.heap.size]? = some (.cells #[.int .i64 sp,.bool sn,.slice ma made.length mc,.slice va valid.length vc] 32 (0,0))):=Lib.hid (fun w' h => sx _ (hQ.trans (h.mono hQ.size)))
  have QX:Hid (∀ w',Below W.heap.size W w' → w'.heap[Ws.heap.size]? = some (.cells #[.int .i64 1,.int .i64 port,.int .u64 ad,.slice da dn dc] 36 (0,0))):=Lib.hid (fun w' h => qx _ (hBa.trans (h.mono hBa.size)))
  have AX:Hid (∀ w',Below W.heap.size W w' → w'.heap[Wq.heap.size]? = some (.cells #[.int .i64 0,.slice none 0 0,.bool false,.int .i64 0] 42 (0,0))):=Lib.hid (fun w' h => ax _ h)
  have hAL:w.heap.size ≤ Wq.heap.size:=(hBc.trans ((hBs.trans (hBq.mono hBs.size)).mono hBc.size)).size
  have hAS:=hWa
  obtain ⟨sb,hsb⟩:∃ n,n = Wc.heap.size:=⟨_,rfl⟩
  obtain ⟨qb,hqb⟩:∃ n,n = Ws.heap.size:=⟨_,rfl⟩
  obtain ⟨ab,hab⟩:∃ n,n = Wq.heap.size:=⟨_,rfl⟩
  rw [← hsb] at SX
  rw [← hqb] at QX
  rw [← hab] at AX hAL hAS
  have HAL:=Lib.hid hAL;have HAS:=Lib.hid hAS
  have HSB:=Lib.hid hsb;have HQB:=Lib.hid hqb;have HAB:=Lib.hid hab;have HB:=Lib.hid hB;have CX:=Lib.hid bx
  have HXW:=Lib.hid (hx.later hB);have HSW:=Lib.hid (hs.later hB);have HVW:=Lib.hid (hv.later hB);skip
  simp only [cfgCells] at HWc ⊢
  clear hBc hWs bx hBs hWss sx hBq hWq qx hBa hWa ax hQ hSQ hB hAL hAS hsb hqb hab hx hs hv
  have HREF:=Lib.hid (rrefused_is c ⟨pa,pc,ca,cc,aa,ac,ba,bc⟩ sp sn made ma mc va valid.length vc (1) port ad da dn dc 0 W HXW.out wx lx HSW.out hp had hdn hz)
  simp only [cfgCells] at HREF
  obtain ⟨c0,c1,c2,c3,c4,c5⟩:=CX.out _ (BX.out _ (Below.refl _ _))
  have s0:W.cell? ⟨sb,0,none⟩ = some (.int .i64 sp):=cell_blk (SX.out _ (Below.refl _ _)) rfl
  have s1:W.cell? ⟨sb,1,none⟩ = some (.bool sn):=cell_blk (SX.out _ (Below.refl _ _)) rfl
  have s2:W.cell? ⟨sb,2,none⟩ = some (.slice ma made.length mc):=cell_blk (SX.out _ (Below.refl _ _)) rfl
  have s3:W.cell? ⟨sb,3,none⟩ = some (.slice va valid.length vc):=cell_blk (SX.out _ (Below.refl _ _)) rfl
  have q0:W.cell? ⟨qb,0,none⟩ = some (.int .i64 1):=cell_blk (QX.out _ (Below.refl _ _)) rfl
  have q1:W.cell? ⟨qb,1,none⟩ = some (.int .i64 port):=cell_blk (QX.out _ (Below.refl _ _)) rfl
  have q2:W.cell? ⟨qb,2,none⟩ = some (.int .u64 ad):=cell_blk (QX.out _ (Below.refl _ _)) rfl
  have q3:W.cell? ⟨qb,3,none⟩ = some (.slice da dn dc):=cell_blk (QX.out _ (Below.refl _ _)) rfl
  go_enter Tryz.func13,Tryz.ntmps13
  go_wp2_with (first | (rw [← HWc.out]) | (simp only [← HSB.out];rw [← HWs.out]) | (simp only [← HQB.out];rw [← HWq.out]) | (simp only [← HAB.out];rw [← HW.out]))
  refine HREF.out.mono ?_
  rintro e w5 ⟨rfl,hb5⟩
  clear c0 c1 c2 c3 c4 c5 s0 s1 s2 s3 q0 q1 q2 q3
  have HB5:=Lib.hid hb5
  obtain ⟨c0,c1,c2,c3,c4,c5⟩:=CX.out _ (BX.out _ hb5)
  have s0:w5.cell? ⟨sb,0,none⟩ = some (.int .i64 sp):=cell_blk (SX.out _ hb5) rfl
  have s1:w5.cell? ⟨sb,1,none⟩ = some (.bool sn):=cell_blk (SX.out _ hb5) rfl
  have s2:w5.cell? ⟨sb,2,none⟩ = some (.slice ma made.length mc):=cell_blk (SX.out _ hb5) rfl
  have s3:w5.cell? ⟨sb,3,none⟩ = some (.slice va valid.length vc):=cell_blk (SX.out _ hb5) rfl
  have q0:w5.cell? ⟨qb,0,none⟩ = some (.int .i64 1):=cell_blk (QX.out _ hb5) rfl
  have q1:w5.cell? ⟨qb,1,none⟩ = some (.int .i64 port):=cell_blk (QX.out _ hb5) rfl
  have q2:w5.cell? ⟨qb,2,none⟩ = some (.int .u64 ad):=cell_blk (QX.out _ hb5) rfl
  have q3:w5.cell? ⟨qb,3,none⟩ = some (.slice da dn dc):=cell_blk (QX.out _ hb5) rfl
  clear hb5
  clear hz
  obtain ⟨K,hK⟩:∃ K,portK c port = K:=⟨_,rfl⟩
  obtain ⟨P,hP⟩:∃ P,portP c port = P:=⟨_,rfl⟩
  obtain ⟨SS,hSS⟩:∃ S,portS c port = S:=⟨_,rfl⟩
  obtain ⟨OO,hOO⟩:∃ S,portB c port = S:=⟨_,rfl⟩
  obtain ⟨V6,HV6,hb6,hs6,x6⟩:=box_new w5 #[.int .i64 1,.int .i64 port,.int .u64 ad,.slice da dn dc,.pointer none,.pointer none,.bool false,.int .i64 1,.bool false,.int .u32 own] 111
  obtain ⟨xb,hxb⟩:∃ n,n = w5.heap.size:=⟨_,rfl⟩
  rw [← hxb] at x6
  have hW6:=HB5.out.trans (hb6.mono HB5.out.size)
  have HP:=Lib.hid (rport_is c ⟨pa,pc,ca,cc,aa,ac,ba,bc⟩ port K P SS OO V6 (HXW.out.later hW6) wx lx hp ⟨hK,hP,hSS,hOO⟩)
  simp only [cfgCells] at HP
  have HXB:=Lib.hid hxb;have HW6:=Lib.hid hW6;have HX6:=Lib.hid (x6 _ (Below.refl _ _))
  have HKS:=Lib.hid (And.intro hK hSS)
  clear c0 c1 c2 c3 c4 c5 s0 s1 s2 s3 hK hP hSS hOO hb6 hs6 x6 hxb hW6
  obtain ⟨m0,m1,m2,m3,m4,m5⟩:=CX.out _ (BX.out _ HW6.out)
  have p1:V6.cell? ⟨qb,1,none⟩ = some (.int .i64 port):=cell_blk (QX.out _ HW6.out) rfl
  go_wp2_with (first | (simp only [← HXB.out];rw [← HV6.out]))
  refine HP.out.mono ?_
  rintro e w7 ⟨rfl,hb7⟩
  obtain ⟨V8,HV8,hb8,hs8,x8⟩:=box_new w7 #[.int .i64 K,.int .i64 P,.bool SS,.bool OO] 113
  obtain ⟨db,hdb⟩:∃ n,n = w7.heap.size:=⟨_,rfl⟩
  have hd8:V8.heap[db]? = some (.cells #[.int .i64 K,.int .i64 P,.bool SS,.bool OO] 113 (0,0)):=by rw [hdb];exact x8 _ (Below.refl _ _)
  have h68:=hb7.trans (hb8.mono hb7.size)
  have hW8:=HW6.out.trans (h68.mono HW6.out.size)
  have hx8:V8.heap[xb]? = some (.cells #[.int .i64 1,.int .i64 port,.int .u64 ad,.slice da dn dc,.pointer none,.pointer none,.bool false,.int .i64 1,.bool false,.int .u32 own] 111 (0,0)):=(h68.block xb (Array.getElem?_eq_some_iff.1 HX6.out).1).trans HX6.out
  have hlt8:xb < db ∧ db < V8.heap.size ∧ ab < xb ∧ w.heap.size ≤ xb:=by
    have e1:=HXB.out;have e2:=HB5.out.size;have e3:=HAS.out;have e4:=HB.out.size;have e5:=(Array.getElem?_eq_some_iff.1 HX6.out).1;have e6:=hb7.size;have e7:=(Array.getElem?_eq_some_iff.1 hd8).1
    omega
  have d0:V8.cell? ⟨db,0,none⟩ = some (.int .i64 K):=cell_blk hd8 rfl
  have d2:V8.cell? ⟨db,2,none⟩ = some (.bool SS):=cell_blk hd8 rfl
  have HDB:=Lib.hid hdb;have HB8:=Lib.hid hW8;have HX8:=Lib.hid hx8;have HD8:=Lib.hid hd8;have HLT:=Lib.hid hlt8
  clear m0 m1 m2 m3 m4 m5 p1 q0 q1 q2 q3 hb7 hb8 hs8 x8 hdb hd8 h68 hW8 hx8 hlt8
  obtain ⟨c0,c1,c2,c3,c4,c5⟩:=CX.out _ (BX.out _ HB8.out)
  have s0:V8.cell? ⟨sb,0,none⟩ = some (.int .i64 sp):=cell_blk (SX.out _ HB8.out) rfl
  have s1:V8.cell? ⟨sb,1,none⟩ = some (.bool sn):=cell_blk (SX.out _ HB8.out) rfl
  have s2:V8.cell? ⟨sb,2,none⟩ = some (.slice ma made.length mc):=cell_blk (SX.out _ HB8.out) rfl
  have s3:V8.cell? ⟨sb,3,none⟩ = some (.slice va valid.length vc):=cell_blk (SX.out _ HB8.out) rfl
  have q0:V8.cell? ⟨qb,0,none⟩ = some (.int .i64 1):=cell_blk (QX.out _ HB8.out) rfl
  have q1:V8.cell? ⟨qb,1,none⟩ = some (.int .i64 port):=cell_blk (QX.out _ HB8.out) rfl
  have q2:V8.cell? ⟨qb,2,none⟩ = some (.int .u64 ad):=cell_blk (QX.out _ HB8.out) rfl
  have q3:V8.cell? ⟨qb,3,none⟩ = some (.slice da dn dc):=cell_blk (QX.out _ HB8.out) rfl
  clear d0 d2
  have hth:=there_blk (W:=V8) (AX.out _ HB8.out) (n:=(#[.int .i64 0,.slice none 0 0,.bool false,.int .i64 0]:Array Value).size) rfl
  have hsz:(Tryz.prog.info? 42).map (·.size) = some (#[.int .i64 0,.slice none 0 0,.bool false,.int .i64 0]:Array Value).size:=ans_size
  go_wp2_with (first | (simp only [← HDB.out];rw [← HV8.out]) | (with_reducible refine wpList_store_mid (by kernel_rfl) _ _ _ rfl ab 0 #[.int .i64 0,.slice none 0 0,.bool false,.int .i64 0] (by kernel_rfl) (by kernel_rfl) hth hsz (by kernel_rfl) ?_))
  have hrg:=World.rangeAt_setCells_same V8 ab 0 (#[.int .i64 0,.slice none 0 0,.bool false,.int .i64 0]:Array Value).toList (by simpa using hth)
  (try simp only [Exit.inBlock,Exit.then])
  refine bodyPost_ret (results_pm rfl _ _ ab (#[.int .i64 0,.slice none 0 0,.bool false,.int .i64 0]:Array Value).toList _ rfl hrg Tryz.underlying42 rfl ans_size rfl) rfl ?_
  exact ⟨rfl,below_setCells _ _ _ (HB.out.trans ((HB8.out).mono HB.out.size)) HAL.out⟩
theorem rbeg2_b (c:Cfg) (x:CfgAt) (sp:Int) (sn:Bool) (own:Int) (made valid:List Int) (ma va:Option Addr) (mc vc:Nat) (port ad:Int) (da:Option Addr) (dn dc:Nat) (w:World) (hx:CfgIn w w.heap.size c x) (wx:CfgWf c) (lx:CfgFew c) (hs:SIn w made ma) (hv:SIn w valid va) (hp:(Lit.int .i64 port).wf = true) (had:(Lit.int .u64 ad).wf = true) (hdn:dn ≤ 1000000) (hz:refusedN c sp sn made 2 port ad dn = 0) :
    Calls Tryz.prog 13 #[.agg (cfgCells c x),.agg #[.int .i64 sp,.bool sn,.slice ma made.length mc,.slice va valid.length vc],.int .u32 own,.agg #[.int .i64 2,.int .i64 port,.int .u64 ad,.slice da dn dc]] w fun e w' => e = .returned (.tuple #[.pointer none,.agg #[.int .i64 0,.slice none 0 0,.bool false,.int .i64 0]]) ∧ Below w.heap.size w w':=by
  obtain ⟨Wc,HWc,hBc,hWs,bx⟩:=one_cbox w c x 29
  obtain ⟨pa,pc,ca,cc,aa,ac,ba,bc⟩:=x
  obtain ⟨Ws,HWs,hBs,hWss,sx⟩:=box_new Wc #[.int .i64 sp,.bool sn,.slice ma made.length mc,.slice va valid.length vc] 32
  obtain ⟨Wq,HWq,hBq,hWq,qx⟩:=box_new Ws #[.int .i64 2,.int .i64 port,.int .u64 ad,.slice da dn dc] 36
  obtain ⟨W,HW,hBa,hWa,ax⟩:=box_new Wq #[.int .i64 0,.slice none 0 0,.bool false,.int .i64 0] 42
  have hQ:=hBq.trans (hBa.mono hBq.size)
  have hSQ:=hBs.trans (hQ.mono hBs.size)
  have hB:=hBc.trans (hSQ.mono hBc.size)
  have BX:Hid (∀ w',Below W.heap.size W w' → Below Wc.heap.size Wc w'):=Lib.hid (fun w' h => hSQ.trans (h.mono hSQ.size))
  have SX:Hid (∀ w',Below W.heap.size W w' → w'.heap[Wc.heap.size]? = some (.cells #[.int .i64 sp,.bool sn,.slice ma made.length mc,.slice va valid.length vc] 32 (0,0))):=Lib.hid (fun w' h => sx _ (hQ.trans (h.mono hQ.size)))
  have QX:Hid (∀ w',Below W.heap.size W w' → w'.heap[Ws.heap.size]? = some (.cells #[.int .i64 2,.int .i64 port,.int .u64 ad,.slice da dn dc] 36 (0,0))):=Lib.hid (fun w' h => qx _ (hBa.trans (h.mono hBa.size)))
  have AX:Hid (∀ w',Below W.heap.size W w' → w'.heap[Wq.heap.size]? = some (.cells #[.int .i64 0,.slice none 0 0,.bool false,.int .i64 0] 42 (0,0))):=Lib.hid (fun w' h => ax _ h)
  have hAL:w.heap.size ≤ Wq.heap.size:=(hBc.trans ((hBs.trans (hBq.mono hBs.size)).mono hBc.size)).size
  have hAS:=hWa
  obtain ⟨sb,hsb⟩:∃ n,n = Wc.heap.size:=⟨_,rfl⟩
  obtain ⟨qb,hqb⟩:∃ n,n = Ws.heap.size:=⟨_,rfl⟩
  obtain ⟨ab,hab⟩:∃ n,n = Wq.heap.size:=⟨_,rfl⟩
  rw [← hsb] at SX
  rw [← hqb] at QX
  rw [← hab] at AX hAL hAS
  have HAL:=Lib.hid hAL;have HAS:=Lib.hid hAS
  have HSB:=Lib.hid hsb;have HQB:=Lib.hid hqb;have HAB:=Lib.hid hab;have HB:=Lib.hid hB;have CX:=Lib.hid bx
  have HXW:=Lib.hid (hx.later hB);have HSW:=Lib.hid (hs.later hB);have HVW:=Lib.hid (hv.later hB);skip
  simp only [cfgCells] at HWc ⊢
  clear hBc hWs bx hBs hWss sx hBq hWq qx hBa hWa ax hQ hSQ hB hAL hAS hsb hqb hab hx hs hv
  have HREF:=Lib.hid (rrefused_is c ⟨pa,pc,ca,cc,aa,ac,ba,bc⟩ sp sn made ma mc va valid.length vc (2) port ad da dn dc 0 W HXW.out wx lx HSW.out hp had hdn hz)
  simp only [cfgCells] at HREF
  obtain ⟨c0,c1,c2,c3,c4,c5⟩:=CX.out _ (BX.out _ (Below.refl _ _))
  have s0:W.cell? ⟨sb,0,none⟩ = some (.int .i64 sp):=cell_blk (SX.out _ (Below.refl _ _)) rfl
  have s1:W.cell? ⟨sb,1,none⟩ = some (.bool sn):=cell_blk (SX.out _ (Below.refl _ _)) rfl
  have s2:W.cell? ⟨sb,2,none⟩ = some (.slice ma made.length mc):=cell_blk (SX.out _ (Below.refl _ _)) rfl
  have s3:W.cell? ⟨sb,3,none⟩ = some (.slice va valid.length vc):=cell_blk (SX.out _ (Below.refl _ _)) rfl
  have q0:W.cell? ⟨qb,0,none⟩ = some (.int .i64 2):=cell_blk (QX.out _ (Below.refl _ _)) rfl
  have q1:W.cell? ⟨qb,1,none⟩ = some (.int .i64 port):=cell_blk (QX.out _ (Below.refl _ _)) rfl
  have q2:W.cell? ⟨qb,2,none⟩ = some (.int .u64 ad):=cell_blk (QX.out _ (Below.refl _ _)) rfl
  have q3:W.cell? ⟨qb,3,none⟩ = some (.slice da dn dc):=cell_blk (QX.out _ (Below.refl _ _)) rfl
  go_enter Tryz.func13,Tryz.ntmps13
  go_wp2_with (first | (rw [← HWc.out]) | (simp only [← HSB.out];rw [← HWs.out]) | (simp only [← HQB.out];rw [← HWq.out]) | (simp only [← HAB.out];rw [← HW.out]))
  refine HREF.out.mono ?_
  rintro e w5 ⟨rfl,hb5⟩
  clear c0 c1 c2 c3 c4 c5 s0 s1 s2 s3 q0 q1 q2 q3
  have HB5:=Lib.hid hb5
  obtain ⟨c0,c1,c2,c3,c4,c5⟩:=CX.out _ (BX.out _ hb5)
  have s0:w5.cell? ⟨sb,0,none⟩ = some (.int .i64 sp):=cell_blk (SX.out _ hb5) rfl
  have s1:w5.cell? ⟨sb,1,none⟩ = some (.bool sn):=cell_blk (SX.out _ hb5) rfl
  have s2:w5.cell? ⟨sb,2,none⟩ = some (.slice ma made.length mc):=cell_blk (SX.out _ hb5) rfl
  have s3:w5.cell? ⟨sb,3,none⟩ = some (.slice va valid.length vc):=cell_blk (SX.out _ hb5) rfl
  have q0:w5.cell? ⟨qb,0,none⟩ = some (.int .i64 2):=cell_blk (QX.out _ hb5) rfl
  have q1:w5.cell? ⟨qb,1,none⟩ = some (.int .i64 port):=cell_blk (QX.out _ hb5) rfl
  have q2:w5.cell? ⟨qb,2,none⟩ = some (.int .u64 ad):=cell_blk (QX.out _ hb5) rfl
  have q3:w5.cell? ⟨qb,3,none⟩ = some (.slice da dn dc):=cell_blk (QX.out _ hb5) rfl
  clear hb5
  clear hz
  obtain ⟨K,hK⟩:∃ K,portK c port = K:=⟨_,rfl⟩
  obtain ⟨P,hP⟩:∃ P,portP c port = P:=⟨_,rfl⟩
  obtain ⟨SS,hSS⟩:∃ S,portS c port = S:=⟨_,rfl⟩
  obtain ⟨OO,hOO⟩:∃ S,portB c port = S:=⟨_,rfl⟩
  obtain ⟨V6,HV6,hb6,hs6,x6⟩:=box_new w5 #[.int .i64 2,.int .i64 port,.int .u64 ad,.slice da dn dc,.pointer none,.pointer none,.bool false,.int .i64 1,.bool false,.int .u32 own] 111
  obtain ⟨xb,hxb⟩:∃ n,n = w5.heap.size:=⟨_,rfl⟩
  rw [← hxb] at x6
  have hW6:=HB5.out.trans (hb6.mono HB5.out.size)
  have HP:=Lib.hid (rport_is c ⟨pa,pc,ca,cc,aa,ac,ba,bc⟩ port K P SS OO V6 (HXW.out.later hW6) wx lx hp ⟨hK,hP,hSS,hOO⟩)
  simp only [cfgCells] at HP
  have HXB:=Lib.hid hxb;have HW6:=Lib.hid hW6;have HX6:=Lib.hid (x6 _ (Below.refl _ _))
  have HKS:=Lib.hid (And.intro hK hSS)
  clear c0 c1 c2 c3 c4 c5 s0 s1 s2 s3 hK hP hSS hOO hb6 hs6 x6 hxb hW6
  obtain ⟨m0,m1,m2,m3,m4,m5⟩:=CX.out _ (BX.out _ HW6.out)
  have p1:V6.cell? ⟨qb,1,none⟩ = some (.int .i64 port):=cell_blk (QX.out _ HW6.out) rfl
  go_wp2_with (first | (simp only [← HXB.out];rw [← HV6.out]))
  refine HP.out.mono ?_
  rintro e w7 ⟨rfl,hb7⟩
  obtain ⟨V8,HV8,hb8,hs8,x8⟩:=box_new w7 #[.int .i64 K,.int .i64 P,.bool SS,.bool OO] 113
  obtain ⟨db,hdb⟩:∃ n,n = w7.heap.size:=⟨_,rfl⟩
  have hd8:V8.heap[db]? = some (.cells #[.int .i64 K,.int .i64 P,.bool SS,.bool OO] 113 (0,0)):=by rw [hdb];exact x8 _ (Below.refl _ _)
  have h68:=hb7.trans (hb8.mono hb7.size)
  have hW8:=HW6.out.trans (h68.mono HW6.out.size)
  have hx8:V8.heap[xb]? = some (.cells #[.int .i64 2,.int .i64 port,.int .u64 ad,.slice da dn dc,.pointer none,.pointer none,.bool false,.int .i64 1,.bool false,.int .u32 own] 111 (0,0)):=(h68.block xb (Array.getElem?_eq_some_iff.1 HX6.out).1).trans HX6.out
  have hlt8:xb < db ∧ db < V8.heap.size ∧ ab < xb ∧ w.heap.size ≤ xb:=by
    have e1:=HXB.out;have e2:=HB5.out.size;have e3:=HAS.out;have e4:=HB.out.size;have e5:=(Array.getElem?_eq_some_iff.1 HX6.out).1;have e6:=hb7.size;have e7:=(Array.getElem?_eq_some_iff.1 hd8).1
    omega
  have d0:V8.cell? ⟨db,0,none⟩ = some (.int .i64 K):=cell_blk hd8 rfl
  have d2:V8.cell? ⟨db,2,none⟩ = some (.bool SS):=cell_blk hd8 rfl
  have HDB:=Lib.hid hdb;have HB8:=Lib.hid hW8;have HX8:=Lib.hid hx8;have HD8:=Lib.hid hd8;have HLT:=Lib.hid hlt8
  clear m0 m1 m2 m3 m4 m5 p1 q0 q1 q2 q3 hb7 hb8 hs8 x8 hdb hd8 h68 hW8 hx8 hlt8
  obtain ⟨c0,c1,c2,c3,c4,c5⟩:=CX.out _ (BX.out _ HB8.out)
  have s0:V8.cell? ⟨sb,0,none⟩ = some (.int .i64 sp):=cell_blk (SX.out _ HB8.out) rfl
  have s1:V8.cell? ⟨sb,1,none⟩ = some (.bool sn):=cell_blk (SX.out _ HB8.out) rfl
  have s2:V8.cell? ⟨sb,2,none⟩ = some (.slice ma made.length mc):=cell_blk (SX.out _ HB8.out) rfl
  have s3:V8.cell? ⟨sb,3,none⟩ = some (.slice va valid.length vc):=cell_blk (SX.out _ HB8.out) rfl
  have q0:V8.cell? ⟨qb,0,none⟩ = some (.int .i64 2):=cell_blk (QX.out _ HB8.out) rfl
  have q1:V8.cell? ⟨qb,1,none⟩ = some (.int .i64 port):=cell_blk (QX.out _ HB8.out) rfl
  have q2:V8.cell? ⟨qb,2,none⟩ = some (.int .u64 ad):=cell_blk (QX.out _ HB8.out) rfl
  have q3:V8.cell? ⟨qb,3,none⟩ = some (.slice da dn dc):=cell_blk (QX.out _ HB8.out) rfl
  clear d0 d2
  have hth:=there_blk (W:=V8) (AX.out _ HB8.out) (n:=(#[.int .i64 0,.slice none 0 0,.bool false,.int .i64 0]:Array Value).size) rfl
  have hsz:(Tryz.prog.info? 42).map (·.size) = some (#[.int .i64 0,.slice none 0 0,.bool false,.int .i64 0]:Array Value).size:=ans_size
  go_wp2_with (first | (simp only [← HDB.out];rw [← HV8.out]) | (with_reducible refine wpList_store_mid (by kernel_rfl) _ _ _ rfl ab 0 #[.int .i64 0,.slice none 0 0,.bool false,.int .i64 0] (by kernel_rfl) (by kernel_rfl) hth hsz (by kernel_rfl) ?_))
  have hrg:=World.rangeAt_setCells_same V8 ab 0 (#[.int .i64 0,.slice none 0 0,.bool false,.int .i64 0]:Array Value).toList (by simpa using hth)
  (try simp only [Exit.inBlock,Exit.then])
  refine bodyPost_ret (results_pm rfl _ _ ab (#[.int .i64 0,.slice none 0 0,.bool false,.int .i64 0]:Array Value).toList _ rfl hrg Tryz.underlying42 rfl ans_size rfl) rfl ?_
  exact ⟨rfl,below_setCells _ _ _ (HB.out.trans ((HB8.out).mono HB.out.size)) HAL.out⟩
theorem rbeg7s_b (c:Cfg) (x:CfgAt) (sp:Int) (sn:Bool) (own:Int) (made valid:List Int) (ma va:Option Addr) (mc vc:Nat) (port ad:Int) (da:Option Addr) (dn dc:Nat) (w:World) (hx:CfgIn w w.heap.size c x) (wx:CfgWf c) (lx:CfgFew c) (hs:SIn w made ma) (hv:SIn w valid va) (hp:(Lit.int .i64 port).wf = true) (had:(Lit.int .u64 ad).wf = true) (hdn:dn ≤ 1000000) (mv:Bool) (hmv:madeB valid port = mv) (hz:refusedN c sp sn made 7 port ad dn = 0) (hk7:fld (row c.chans (portK c port).toNat) 0 = 1) :
    Calls Tryz.prog 13 #[.agg (cfgCells c x),.agg #[.int .i64 sp,.bool sn,.slice ma made.length mc,.slice va valid.length vc],.int .u32 own,.agg #[.int .i64 7,.int .i64 port,.int .u64 ad,.slice da dn dc]] w fun e w' => e = .returned (.tuple #[.pointer none,.agg #[.int .i64 0,.slice none 0 0,.bool mv,.int .i64 0]]) ∧ Below w.heap.size w w':=by
  obtain ⟨Wc,HWc,hBc,hWs,bx⟩:=one_cbox w c x 29
  obtain ⟨pa,pc,ca,cc,aa,ac,ba,bc⟩:=x
  obtain ⟨Ws,HWs,hBs,hWss,sx⟩:=box_new Wc #[.int .i64 sp,.bool sn,.slice ma made.length mc,.slice va valid.length vc] 32
  obtain ⟨Wq,HWq,hBq,hWq,qx⟩:=box_new Ws #[.int .i64 7,.int .i64 port,.int .u64 ad,.slice da dn dc] 36
  obtain ⟨W,HW,hBa,hWa,ax⟩:=box_new Wq #[.int .i64 0,.slice none 0 0,.bool false,.int .i64 0] 42
  have hQ:=hBq.trans (hBa.mono hBq.size)
  have hSQ:=hBs.trans (hQ.mono hBs.size)
  have hB:=hBc.trans (hSQ.mono hBc.size)
  have BX:Hid (∀ w',Below W.heap.size W w' → Below Wc.heap.size Wc w'):=Lib.hid (fun w' h => hSQ.trans (h.mono hSQ.size))
  have SX:Hid (∀ w',Below W.heap.size W w' → w'.heap[Wc.heap.size]? = some (.cells #[.int .i64 sp,.bool sn,.slice ma made.length mc,.slice va valid.length vc] 32 (0,0))):=Lib.hid (fun w' h => sx _ (hQ.trans (h.mono hQ.size)))
  have QX:Hid (∀ w',Below W.heap.size W w' → w'.heap[Ws.heap.size]? = some (.cells #[.int .i64 7,.int .i64 port,.int .u64 ad,.slice da dn dc] 36 (0,0))):=Lib.hid (fun w' h => qx _ (hBa.trans (h.mono hBa.size)))
  have AX:Hid (∀ w',Below W.heap.size W w' → w'.heap[Wq.heap.size]? = some (.cells #[.int .i64 0,.slice none 0 0,.bool false,.int .i64 0] 42 (0,0))):=Lib.hid (fun w' h => ax _ h)
  have hAL:w.heap.size ≤ Wq.heap.size:=(hBc.trans ((hBs.trans (hBq.mono hBs.size)).mono hBc.size)).size
  have hAS:=hWa
  obtain ⟨sb,hsb⟩:∃ n,n = Wc.heap.size:=⟨_,rfl⟩
  obtain ⟨qb,hqb⟩:∃ n,n = Ws.heap.size:=⟨_,rfl⟩
  obtain ⟨ab,hab⟩:∃ n,n = Wq.heap.size:=⟨_,rfl⟩
  rw [← hsb] at SX
  rw [← hqb] at QX
  rw [← hab] at AX hAL hAS
  have HAL:=Lib.hid hAL;have HAS:=Lib.hid hAS
  have HSB:=Lib.hid hsb;have HQB:=Lib.hid hqb;have HAB:=Lib.hid hab;have HB:=Lib.hid hB;have CX:=Lib.hid bx
  have HXW:=Lib.hid (hx.later hB);have HSW:=Lib.hid (hs.later hB);have HVW:=Lib.hid (hv.later hB);skip
  simp only [cfgCells] at HWc ⊢
  clear hBc hWs bx hBs hWss sx hBq hWq qx hBa hWa ax hQ hSQ hB hAL hAS hsb hqb hab hx hs hv
  have HREF:=Lib.hid (rrefused_is c ⟨pa,pc,ca,cc,aa,ac,ba,bc⟩ sp sn made ma mc va valid.length vc (7) port ad da dn dc 0 W HXW.out wx lx HSW.out hp had hdn hz)
  simp only [cfgCells] at HREF
  obtain ⟨c0,c1,c2,c3,c4,c5⟩:=CX.out _ (BX.out _ (Below.refl _ _))
  have s0:W.cell? ⟨sb,0,none⟩ = some (.int .i64 sp):=cell_blk (SX.out _ (Below.refl _ _)) rfl
  have s1:W.cell? ⟨sb,1,none⟩ = some (.bool sn):=cell_blk (SX.out _ (Below.refl _ _)) rfl
  have s2:W.cell? ⟨sb,2,none⟩ = some (.slice ma made.length mc):=cell_blk (SX.out _ (Below.refl _ _)) rfl
  have s3:W.cell? ⟨sb,3,none⟩ = some (.slice va valid.length vc):=cell_blk (SX.out _ (Below.refl _ _)) rfl
  have q0:W.cell? ⟨qb,0,none⟩ = some (.int .i64 7):=cell_blk (QX.out _ (Below.refl _ _)) rfl
  have q1:W.cell? ⟨qb,1,none⟩ = some (.int .i64 port):=cell_blk (QX.out _ (Below.refl _ _)) rfl
  have q2:W.cell? ⟨qb,2,none⟩ = some (.int .u64 ad):=cell_blk (QX.out _ (Below.refl _ _)) rfl
  have q3:W.cell? ⟨qb,3,none⟩ = some (.slice da dn dc):=cell_blk (QX.out _ (Below.refl _ _)) rfl
  go_enter Tryz.func13,Tryz.ntmps13
  go_wp2_with (first | (rw [← HWc.out]) | (simp only [← HSB.out];rw [← HWs.out]) | (simp only [← HQB.out];rw [← HWq.out]) | (simp only [← HAB.out];rw [← HW.out]))
  refine HREF.out.mono ?_
  rintro e w5 ⟨rfl,hb5⟩
  clear c0 c1 c2 c3 c4 c5 s0 s1 s2 s3 q0 q1 q2 q3
  have HB5:=Lib.hid hb5
  obtain ⟨c0,c1,c2,c3,c4,c5⟩:=CX.out _ (BX.out _ hb5)
  have s0:w5.cell? ⟨sb,0,none⟩ = some (.int .i64 sp):=cell_blk (SX.out _ hb5) rfl
  have s1:w5.cell? ⟨sb,1,none⟩ = some (.bool sn):=cell_blk (SX.out _ hb5) rfl
  have s2:w5.cell? ⟨sb,2,none⟩ = some (.slice ma made.length mc):=cell_blk (SX.out _ hb5) rfl
  have s3:w5.cell? ⟨sb,3,none⟩ = some (.slice va valid.length vc):=cell_blk (SX.out _ hb5) rfl
  have q0:w5.cell? ⟨qb,0,none⟩ = some (.int .i64 7):=cell_blk (QX.out _ hb5) rfl
  have q1:w5.cell? ⟨qb,1,none⟩ = some (.int .i64 port):=cell_blk (QX.out _ hb5) rfl
  have q2:w5.cell? ⟨qb,2,none⟩ = some (.int .u64 ad):=cell_blk (QX.out _ hb5) rfl
  have q3:w5.cell? ⟨qb,3,none⟩ = some (.slice da dn dc):=cell_blk (QX.out _ hb5) rfl
  clear hb5
  obtain ⟨hac,hbd,htk⟩:=req_talk hz (by omega) (by omega)
  obtain ⟨k,hk,hkK⟩:=portK_of hbd
  clear hz hac htk hbd
  obtain ⟨K,hK⟩:∃ K,portK c port = K:=⟨_,rfl⟩
  obtain ⟨P,hP⟩:∃ P,portP c port = P:=⟨_,rfl⟩
  obtain ⟨SS,hSS⟩:∃ S,portS c port = S:=⟨_,rfl⟩
  obtain ⟨OO,hOO⟩:∃ S,portB c port = S:=⟨_,rfl⟩
  obtain ⟨V6,HV6,hb6,hs6,x6⟩:=box_new w5 #[.int .i64 7,.int .i64 port,.int .u64 ad,.slice da dn dc,.pointer none,.pointer none,.bool false,.int .i64 1,.bool false,.int .u32 own] 111
  obtain ⟨xb,hxb⟩:∃ n,n = w5.heap.size:=⟨_,rfl⟩
  rw [← hxb] at x6
  have hW6:=HB5.out.trans (hb6.mono HB5.out.size)
  have HP:=Lib.hid (rport_is c ⟨pa,pc,ca,cc,aa,ac,ba,bc⟩ port K P SS OO V6 (HXW.out.later hW6) wx lx hp ⟨hK,hP,hSS,hOO⟩)
  simp only [cfgCells] at HP
  have HXB:=Lib.hid hxb;have HW6:=Lib.hid hW6;have HX6:=Lib.hid (x6 _ (Below.refl _ _))
  have HKS:=Lib.hid (And.intro hK hSS)
  clear c0 c1 c2 c3 c4 c5 s0 s1 s2 s3 hK hP hSS hOO hb6 hs6 x6 hxb hW6
  obtain ⟨m0,m1,m2,m3,m4,m5⟩:=CX.out _ (BX.out _ HW6.out)
  have p1:V6.cell? ⟨qb,1,none⟩ = some (.int .i64 port):=cell_blk (QX.out _ HW6.out) rfl
  go_wp2_with (first | (simp only [← HXB.out];rw [← HV6.out]))
  refine HP.out.mono ?_
  rintro e w7 ⟨rfl,hb7⟩
  obtain ⟨V8,HV8,hb8,hs8,x8⟩:=box_new w7 #[.int .i64 K,.int .i64 P,.bool SS,.bool OO] 113
  obtain ⟨db,hdb⟩:∃ n,n = w7.heap.size:=⟨_,rfl⟩
  have hd8:V8.heap[db]? = some (.cells #[.int .i64 K,.int .i64 P,.bool SS,.bool OO] 113 (0,0)):=by rw [hdb];exact x8 _ (Below.refl _ _)
  have h68:=hb7.trans (hb8.mono hb7.size)
  have hW8:=HW6.out.trans (h68.mono HW6.out.size)
  have hx8:V8.heap[xb]? = some (.cells #[.int .i64 7,.int .i64 port,.int .u64 ad,.slice da dn dc,.pointer none,.pointer none,.bool false,.int .i64 1,.bool false,.int .u32 own] 111 (0,0)):=(h68.block xb (Array.getElem?_eq_some_iff.1 HX6.out).1).trans HX6.out
  have hlt8:xb < db ∧ db < V8.heap.size ∧ ab < xb ∧ w.heap.size ≤ xb:=by
    have e1:=HXB.out;have e2:=HB5.out.size;have e3:=HAS.out;have e4:=HB.out.size;have e5:=(Array.getElem?_eq_some_iff.1 HX6.out).1;have e6:=hb7.size;have e7:=(Array.getElem?_eq_some_iff.1 hd8).1
    omega
  have d0:V8.cell? ⟨db,0,none⟩ = some (.int .i64 K):=cell_blk hd8 rfl
  have d2:V8.cell? ⟨db,2,none⟩ = some (.bool SS):=cell_blk hd8 rfl
  have HDB:=Lib.hid hdb;have HB8:=Lib.hid hW8;have HX8:=Lib.hid hx8;have HD8:=Lib.hid hd8;have HLT:=Lib.hid hlt8
  clear m0 m1 m2 m3 m4 m5 p1 q0 q1 q2 q3 hb7 hb8 hs8 x8 hdb hd8 h68 hW8 hx8 hlt8
  obtain ⟨c0,c1,c2,c3,c4,c5⟩:=CX.out _ (BX.out _ HB8.out)
  have s0:V8.cell? ⟨sb,0,none⟩ = some (.int .i64 sp):=cell_blk (SX.out _ HB8.out) rfl
  have s1:V8.cell? ⟨sb,1,none⟩ = some (.bool sn):=cell_blk (SX.out _ HB8.out) rfl
  have s2:V8.cell? ⟨sb,2,none⟩ = some (.slice ma made.length mc):=cell_blk (SX.out _ HB8.out) rfl
  have s3:V8.cell? ⟨sb,3,none⟩ = some (.slice va valid.length vc):=cell_blk (SX.out _ HB8.out) rfl
  have q0:V8.cell? ⟨qb,0,none⟩ = some (.int .i64 7):=cell_blk (QX.out _ HB8.out) rfl
  have q1:V8.cell? ⟨qb,1,none⟩ = some (.int .i64 port):=cell_blk (QX.out _ HB8.out) rfl
  have q2:V8.cell? ⟨qb,2,none⟩ = some (.int .u64 ad):=cell_blk (QX.out _ HB8.out) rfl
  have q3:V8.cell? ⟨qb,3,none⟩ = some (.slice da dn dc):=cell_blk (QX.out _ HB8.out) rfl
  have hKk:K = (k:Int):=HKS.out.1.symm.trans hkK
  subst hKk
  obtain ⟨b,o,x0,x1,x2,x3,x4,x5,x6,e0,hbl,e1,-,hrw⟩:=(HXW.out.later HB8.out).rc.at7 wx.wc hk
  rw [hkK,Int.toNat_natCast,row_at e1] at hk7
  obtain rfl:x0 = 1:=hk7
  subst e0
  have i0:(0:Int) ≤ (k:Int):=by omega
  have i1:(k:Int) < (c.chans.length:Int):=by omega
  have y0:=(hrw V8 (Below.refl _ _)).1
  have HCON:=Lib.hid (rhas_b valid va valid.length vc port mv V8 rfl (HVW.out.later HB8.out).1 HVW.out.2 hmv)
  clear e1 hrw hbl hmv hkK
  have hth:=there_blk (W:=V8) (AX.out _ HB8.out) (n:=(#[.int .i64 0,.slice none 0 0,.bool mv,.int .i64 0]:Array Value).size) rfl
  have hsz:(Tryz.prog.info? 42).map (·.size) = some (#[.int .i64 0,.slice none 0 0,.bool mv,.int .i64 0]:Array Value).size:=ans_size
  go_wp2_with (first | (simp only [← HDB.out];rw [← HV8.out]))
  refine HCON.out.mono ?_
  rintro e w9 ⟨rfl,rfl⟩
  go_wp2_with (with_reducible refine wpList_store_mid (by kernel_rfl) _ _ _ rfl ab 0 #[.int .i64 0,.slice none 0 0,.bool mv,.int .i64 0] (by kernel_rfl) (by kernel_rfl) hth hsz (by kernel_rfl) ?_)
  have hrg:=World.rangeAt_setCells_same V8 ab 0 (#[.int .i64 0,.slice none 0 0,.bool mv,.int .i64 0]:Array Value).toList (by simpa using hth)
  (try simp only [Exit.inBlock,Exit.then])
  refine bodyPost_ret (results_pm rfl _ _ ab (#[.int .i64 0,.slice none 0 0,.bool mv,.int .i64 0]:Array Value).toList _ rfl hrg Tryz.underlying42 rfl ans_size rfl) rfl ?_
  exact ⟨rfl,below_setCells _ _ _ (HB.out.trans ((HB8.out).mono HB.out.size)) HAL.out⟩
end Go.Proofs.YtjfolhkblbakiaaGreatDoor
end
section
namespace Go.Proofs.YtjfolhkblbakiaaGreatDoor
open Go.RowKit Go.Sort
set_option linter.unusedVariables false
set_option linter.unusedSimpArgs false
set_option linter.unusedVariables false
set_option linter.unusedSimpArgs false
open Go.Proofs.YtjfolhkblbakiaaGreatDoor.Simp
set_option maxRecDepth 100000
set_option maxHeartbeats 1600000
theorem rbeg8_b (c:Cfg) (x:CfgAt) (sp:Int) (sn:Bool) (own:Int) (made valid:List Int) (ma va:Option Addr) (mc vc:Nat) (port ad:Int) (da:Option Addr) (dn dc:Nat) (w:World) (hx:CfgIn w w.heap.size c x) (wx:CfgWf c) (lx:CfgFew c) (hs:SIn w made ma) (hv:SIn w valid va) (hp:(Lit.int .i64 port).wf = true) (had:(Lit.int .u64 ad).wf = true) (hdn:dn ≤ 1000000) (hz:refusedN c sp sn made 8 port ad dn = 0) :
    Calls Tryz.prog 13 #[.agg (cfgCells c x),.agg #[.int .i64 sp,.bool sn,.slice ma made.length mc,.slice va valid.length vc],.int .u32 own,.agg #[.int .i64 8,.int .i64 port,.int .u64 ad,.slice da dn dc]] w fun e w' => ∃ xb,e = .returned (.tuple #[.pointer (some ⟨xb,0,none⟩),.agg #[.int .i64 0,.slice none 0 0,.bool false,.int .i64 0]]) ∧ w'.heap[xb]? = some (.cells #[.int .i64 8,.int .i64 port,.int .u64 ad,.slice da dn dc,.pointer none,.pointer none,.bool true,.int .i64 1,.bool false,.int .u32 own] 111 (0,0)) ∧ w.heap.size ≤ xb ∧ Below w.heap.size w w':=by
  obtain ⟨Wc,HWc,hBc,hWs,bx⟩:=one_cbox w c x 29
  obtain ⟨pa,pc,ca,cc,aa,ac,ba,bc⟩:=x
  obtain ⟨Ws,HWs,hBs,hWss,sx⟩:=box_new Wc #[.int .i64 sp,.bool sn,.slice ma made.length mc,.slice va valid.length vc] 32
  obtain ⟨Wq,HWq,hBq,hWq,qx⟩:=box_new Ws #[.int .i64 8,.int .i64 port,.int .u64 ad,.slice da dn dc] 36
  obtain ⟨W,HW,hBa,hWa,ax⟩:=box_new Wq #[.int .i64 0,.slice none 0 0,.bool false,.int .i64 0] 42
  have hQ:=hBq.trans (hBa.mono hBq.size)
  have hSQ:=hBs.trans (hQ.mono hBs.size)
  have hB:=hBc.trans (hSQ.mono hBc.size)
  have BX:Hid (∀ w',Below W.heap.size W w' → Below Wc.heap.size Wc w'):=Lib.hid (fun w' h => hSQ.trans (h.mono hSQ.size))
  have SX:Hid (∀ w',Below W.heap.size W w' → w'.heap[Wc.heap.size]? = some (.cells #[.int .i64 sp,.bool sn,.slice ma made.length mc,.slice va valid.length vc] 32 (0,0))):=Lib.hid (fun w' h => sx _ (hQ.trans (h.mono hQ.size)))
  have QX:Hid (∀ w',Below W.heap.size W w' → w'.heap[Ws.heap.size]? = some (.cells #[.int .i64 8,.int .i64 port,.int .u64 ad,.slice da dn dc] 36 (0,0))):=Lib.hid (fun w' h => qx _ (hBa.trans (h.mono hBa.size)))
  have AX:Hid (∀ w',Below W.heap.size W w' → w'.heap[Wq.heap.size]? = some (.cells #[.int .i64 0,.slice none 0 0,.bool false,.int .i64 0] 42 (0,0))):=Lib.hid (fun w' h => ax _ h)
  have hAL:w.heap.size ≤ Wq.heap.size:=(hBc.trans ((hBs.trans (hBq.mono hBs.size)).mono hBc.size)).size
  have hAS:=hWa
  obtain ⟨sb,hsb⟩:∃ n,n = Wc.heap.size:=⟨_,rfl⟩
  obtain ⟨qb,hqb⟩:∃ n,n = Ws.heap.size:=⟨_,rfl⟩
  obtain ⟨ab,hab⟩:∃ n,n = Wq.heap.size:=⟨_,rfl⟩
  rw [← hsb] at SX
  rw [← hqb] at QX
  rw [← hab] at AX hAL hAS
  have HAL:=Lib.hid hAL;have HAS:=Lib.hid hAS
  have HSB:=Lib.hid hsb;have HQB:=Lib.hid hqb;have HAB:=Lib.hid hab;have HB:=Lib.hid hB;have CX:=Lib.hid bx
  have HXW:=Lib.hid (hx.later hB);have HSW:=Lib.hid (hs.later hB);have HVW:=Lib.hid (hv.later hB);skip
  simp only [cfgCells] at HWc ⊢
  clear hBc hWs bx hBs hWss sx hBq hWq qx hBa hWa ax hQ hSQ hB hAL hAS hsb hqb hab hx hs hv
  have HREF:=Lib.hid (rrefused_is c ⟨pa,pc,ca,cc,aa,ac,ba,bc⟩ sp sn made ma mc va valid.length vc (8) port ad da dn dc 0 W HXW.out wx lx HSW.out hp had hdn hz)
  simp only [cfgCells] at HREF
  obtain ⟨c0,c1,c2,c3,c4,c5⟩:=CX.out _ (BX.out _ (Below.refl _ _))
  have s0:W.cell? ⟨sb,0,none⟩ = some (.int .i64 sp):=cell_blk (SX.out _ (Below.refl _ _)) rfl
  have s1:W.cell? ⟨sb,1,none⟩ = some (.bool sn):=cell_blk (SX.out _ (Below.refl _ _)) rfl
  have s2:W.cell? ⟨sb,2,none⟩ = some (.slice ma made.length mc):=cell_blk (SX.out _ (Below.refl _ _)) rfl
  have s3:W.cell? ⟨sb,3,none⟩ = some (.slice va valid.length vc):=cell_blk (SX.out _ (Below.refl _ _)) rfl
  have q0:W.cell? ⟨qb,0,none⟩ = some (.int .i64 8):=cell_blk (QX.out _ (Below.refl _ _)) rfl
  have q1:W.cell? ⟨qb,1,none⟩ = some (.int .i64 port):=cell_blk (QX.out _ (Below.refl _ _)) rfl
  have q2:W.cell? ⟨qb,2,none⟩ = some (.int .u64 ad):=cell_blk (QX.out _ (Below.refl _ _)) rfl
  have q3:W.cell? ⟨qb,3,none⟩ = some (.slice da dn dc):=cell_blk (QX.out _ (Below.refl _ _)) rfl
  go_enter Tryz.func13,Tryz.ntmps13
  go_wp2_with (first | (rw [← HWc.out]) | (simp only [← HSB.out];rw [← HWs.out]) | (simp only [← HQB.out];rw [← HWq.out]) | (simp only [← HAB.out];rw [← HW.out]))
  refine HREF.out.mono ?_
  rintro e w5 ⟨rfl,hb5⟩
  clear c0 c1 c2 c3 c4 c5 s0 s1 s2 s3 q0 q1 q2 q3
  have HB5:=Lib.hid hb5
  obtain ⟨c0,c1,c2,c3,c4,c5⟩:=CX.out _ (BX.out _ hb5)
  have s0:w5.cell? ⟨sb,0,none⟩ = some (.int .i64 sp):=cell_blk (SX.out _ hb5) rfl
  have s1:w5.cell? ⟨sb,1,none⟩ = some (.bool sn):=cell_blk (SX.out _ hb5) rfl
  have s2:w5.cell? ⟨sb,2,none⟩ = some (.slice ma made.length mc):=cell_blk (SX.out _ hb5) rfl
  have s3:w5.cell? ⟨sb,3,none⟩ = some (.slice va valid.length vc):=cell_blk (SX.out _ hb5) rfl
  have q0:w5.cell? ⟨qb,0,none⟩ = some (.int .i64 8):=cell_blk (QX.out _ hb5) rfl
  have q1:w5.cell? ⟨qb,1,none⟩ = some (.int .i64 port):=cell_blk (QX.out _ hb5) rfl
  have q2:w5.cell? ⟨qb,2,none⟩ = some (.int .u64 ad):=cell_blk (QX.out _ hb5) rfl
  have q3:w5.cell? ⟨qb,3,none⟩ = some (.slice da dn dc):=cell_blk (QX.out _ hb5) rfl
  clear hb5
  clear hz
  obtain ⟨K,hK⟩:∃ K,portK c port = K:=⟨_,rfl⟩
  obtain ⟨P,hP⟩:∃ P,portP c port = P:=⟨_,rfl⟩
  obtain ⟨SS,hSS⟩:∃ S,portS c port = S:=⟨_,rfl⟩
  obtain ⟨OO,hOO⟩:∃ S,portB c port = S:=⟨_,rfl⟩
  obtain ⟨V6,HV6,hb6,hs6,x6⟩:=box_new w5 #[.int .i64 8,.int .i64 port,.int .u64 ad,.slice da dn dc,.pointer none,.pointer none,.bool false,.int .i64 1,.bool false,.int .u32 own] 111
  obtain ⟨xb,hxb⟩:∃ n,n = w5.heap.size:=⟨_,rfl⟩
  rw [← hxb] at x6
  have hW6:=HB5.out.trans (hb6.mono HB5.out.size)
  have HP:=Lib.hid (rport_is c ⟨pa,pc,ca,cc,aa,ac,ba,bc⟩ port K P SS OO V6 (HXW.out.later hW6) wx lx hp ⟨hK,hP,hSS,hOO⟩)
  simp only [cfgCells] at HP
  have HXB:=Lib.hid hxb;have HW6:=Lib.hid hW6;have HX6:=Lib.hid (x6 _ (Below.refl _ _))
  have HKS:=Lib.hid (And.intro hK hSS)
  clear c0 c1 c2 c3 c4 c5 s0 s1 s2 s3 hK hP hSS hOO hb6 hs6 x6 hxb hW6
  obtain ⟨m0,m1,m2,m3,m4,m5⟩:=CX.out _ (BX.out _ HW6.out)
  have p1:V6.cell? ⟨qb,1,none⟩ = some (.int .i64 port):=cell_blk (QX.out _ HW6.out) rfl
  go_wp2_with (first | (simp only [← HXB.out];rw [← HV6.out]))
  refine HP.out.mono ?_
  rintro e w7 ⟨rfl,hb7⟩
  obtain ⟨V8,HV8,hb8,hs8,x8⟩:=box_new w7 #[.int .i64 K,.int .i64 P,.bool SS,.bool OO] 113
  obtain ⟨db,hdb⟩:∃ n,n = w7.heap.size:=⟨_,rfl⟩
  have hd8:V8.heap[db]? = some (.cells #[.int .i64 K,.int .i64 P,.bool SS,.bool OO] 113 (0,0)):=by rw [hdb];exact x8 _ (Below.refl _ _)
  have h68:=hb7.trans (hb8.mono hb7.size)
  have hW8:=HW6.out.trans (h68.mono HW6.out.size)
  have hx8:V8.heap[xb]? = some (.cells #[.int .i64 8,.int .i64 port,.int .u64 ad,.slice da dn dc,.pointer none,.pointer none,.bool false,.int .i64 1,.bool false,.int .u32 own] 111 (0,0)):=(h68.block xb (Array.getElem?_eq_some_iff.1 HX6.out).1).trans HX6.out
  have hlt8:xb < db ∧ db < V8.heap.size ∧ ab < xb ∧ w.heap.size ≤ xb:=by
    have e1:=HXB.out;have e2:=HB5.out.size;have e3:=HAS.out;have e4:=HB.out.size;have e5:=(Array.getElem?_eq_some_iff.1 HX6.out).1;have e6:=hb7.size;have e7:=(Array.getElem?_eq_some_iff.1 hd8).1
    omega
  have d0:V8.cell? ⟨db,0,none⟩ = some (.int .i64 K):=cell_blk hd8 rfl
  have d2:V8.cell? ⟨db,2,none⟩ = some (.bool SS):=cell_blk hd8 rfl
  have HDB:=Lib.hid hdb;have HB8:=Lib.hid hW8;have HX8:=Lib.hid hx8;have HD8:=Lib.hid hd8;have HLT:=Lib.hid hlt8
  clear m0 m1 m2 m3 m4 m5 p1 q0 q1 q2 q3 hb7 hb8 hs8 x8 hdb hd8 h68 hW8 hx8 hlt8
  obtain ⟨c0,c1,c2,c3,c4,c5⟩:=CX.out _ (BX.out _ HB8.out)
  have s0:V8.cell? ⟨sb,0,none⟩ = some (.int .i64 sp):=cell_blk (SX.out _ HB8.out) rfl
  have s1:V8.cell? ⟨sb,1,none⟩ = some (.bool sn):=cell_blk (SX.out _ HB8.out) rfl
  have s2:V8.cell? ⟨sb,2,none⟩ = some (.slice ma made.length mc):=cell_blk (SX.out _ HB8.out) rfl
  have s3:V8.cell? ⟨sb,3,none⟩ = some (.slice va valid.length vc):=cell_blk (SX.out _ HB8.out) rfl
  have q0:V8.cell? ⟨qb,0,none⟩ = some (.int .i64 8):=cell_blk (QX.out _ HB8.out) rfl
  have q1:V8.cell? ⟨qb,1,none⟩ = some (.int .i64 port):=cell_blk (QX.out _ HB8.out) rfl
  have q2:V8.cell? ⟨qb,2,none⟩ = some (.int .u64 ad):=cell_blk (QX.out _ HB8.out) rfl
  have q3:V8.cell? ⟨qb,3,none⟩ = some (.slice da dn dc):=cell_blk (QX.out _ HB8.out) rfl
  clear d0 d2 s0 s1 s2 s3 q1 q2 q3 c0 c1 c2 c3 c4 c5
  obtain ⟨Z1,HZ1⟩:∃ u,Hid (u = V8.setCell ⟨xb,6,none⟩ (.bool true)):=⟨_,rfl⟩
  have hoZ:Only (fun k => k = xb) V8 Z1:=by rw [HZ1.out];exact Only.setCell V8 ⟨xb,6,none⟩ _
  have hxZ:Z1.heap[xb]? = some (.cells #[.int .i64 8,.int .i64 port,.int .u64 ad,.slice da dn dc,.pointer none,.pointer none,.bool true,.int .i64 1,.bool false,.int .u32 own] 111 (0,0)):=by rw [HZ1.out];simp [World.setCell,Array.getElem?_modify,HX8.out]
  have f6:V8.frozen? ⟨xb,6,none⟩ = false:=by simp [World.frozen?,HX8.out]
  have g6:V8.cell? ⟨xb,6,none⟩ = some (.bool false):=cell_blk HX8.out rfl
  have hbZ:=HB8.out.trans (hoZ.below HB8.out.size (fun j e => by have:=HLT.out;have:=HAS.out;have:=HXB.out;have:=HB5.out.size;omega))
  have HBZ:=Lib.hid hbZ;have HXZ:=Lib.hid hxZ
  clear hoZ hxZ hbZ
  have hth:=there_blk (W:=Z1) (AX.out _ HBZ.out) (n:=(#[.int .i64 0,.slice none 0 0,.bool false,.int .i64 0]:Array Value).size) rfl
  have hsz:(Tryz.prog.info? 42).map (·.size) = some (#[.int .i64 0,.slice none 0 0,.bool false,.int .i64 0]:Array Value).size:=ans_size
  go_wp2_with (first | (simp only [← HDB.out];rw [← HV8.out]) | (rw [← HZ1.out]) | (with_reducible refine wpList_store_mid (by kernel_rfl) _ _ _ rfl ab 0 #[.int .i64 0,.slice none 0 0,.bool false,.int .i64 0] (by kernel_rfl) (by kernel_rfl) hth hsz (by kernel_rfl) ?_))
  have hrg:=World.rangeAt_setCells_same Z1 ab 0 (#[.int .i64 0,.slice none 0 0,.bool false,.int .i64 0]:Array Value).toList (by simpa using hth)
  (try simp only [Exit.inBlock,Exit.then])
  refine bodyPost_ret (results_pm rfl _ _ ab (#[.int .i64 0,.slice none 0 0,.bool false,.int .i64 0]:Array Value).toList _ rfl hrg Tryz.underlying42 rfl ans_size rfl) rfl ?_
  have ho:=Only.sets (S:=fun j => j = ab) rfl (#[.int .i64 0,.slice none 0 0,.bool false,.int .i64 0]:Array Value).toList 0 (Only.refl _ Z1)
  exact ⟨xb,rfl,ho.at_ HXZ.out (by have:=HLT.out;omega),HLT.out.2.2.2,below_setCells _ _ _ (HB.out.trans (HBZ.out.mono HB.out.size)) HAL.out⟩
theorem rbeg9_b (c:Cfg) (x:CfgAt) (sp:Int) (sn:Bool) (own:Int) (made valid:List Int) (ma va:Option Addr) (mc vc:Nat) (port ad:Int) (da:Option Addr) (dn dc:Nat) (w:World) (hx:CfgIn w w.heap.size c x) (wx:CfgWf c) (lx:CfgFew c) (hs:SIn w made ma) (hv:SIn w valid va) (hp:(Lit.int .i64 port).wf = true) (had:(Lit.int .u64 ad).wf = true) (hdn:dn ≤ 1000000) (hz:refusedN c sp sn made 9 port ad dn = 0) :
    Calls Tryz.prog 13 #[.agg (cfgCells c x),.agg #[.int .i64 sp,.bool sn,.slice ma made.length mc,.slice va valid.length vc],.int .u32 own,.agg #[.int .i64 9,.int .i64 port,.int .u64 ad,.slice da dn dc]] w fun e w' => ∃ xb,e = .returned (.tuple #[.pointer (some ⟨xb,0,none⟩),.agg #[.int .i64 0,.slice none 0 0,.bool false,.int .i64 0]]) ∧ w'.heap[xb]? = some (.cells #[.int .i64 9,.int .i64 port,.int .u64 ad,.slice da dn dc,.pointer none,.pointer none,.bool true,.int .i64 1,.bool false,.int .u32 own] 111 (0,0)) ∧ w.heap.size ≤ xb ∧ Below w.heap.size w w':=by
  obtain ⟨Wc,HWc,hBc,hWs,bx⟩:=one_cbox w c x 29
  obtain ⟨pa,pc,ca,cc,aa,ac,ba,bc⟩:=x
  obtain ⟨Ws,HWs,hBs,hWss,sx⟩:=box_new Wc #[.int .i64 sp,.bool sn,.slice ma made.length mc,.slice va valid.length vc] 32
  obtain ⟨Wq,HWq,hBq,hWq,qx⟩:=box_new Ws #[.int .i64 9,.int .i64 port,.int .u64 ad,.slice da dn dc] 36
  obtain ⟨W,HW,hBa,hWa,ax⟩:=box_new Wq #[.int .i64 0,.slice none 0 0,.bool false,.int .i64 0] 42
  have hQ:=hBq.trans (hBa.mono hBq.size)
  have hSQ:=hBs.trans (hQ.mono hBs.size)
  have hB:=hBc.trans (hSQ.mono hBc.size)
  have BX:Hid (∀ w',Below W.heap.size W w' → Below Wc.heap.size Wc w'):=Lib.hid (fun w' h => hSQ.trans (h.mono hSQ.size))
  have SX:Hid (∀ w',Below W.heap.size W w' → w'.heap[Wc.heap.size]? = some (.cells #[.int .i64 sp,.bool sn,.slice ma made.length mc,.slice va valid.length vc] 32 (0,0))):=Lib.hid (fun w' h => sx _ (hQ.trans (h.mono hQ.size)))
  have QX:Hid (∀ w',Below W.heap.size W w' → w'.heap[Ws.heap.size]? = some (.cells #[.int .i64 9,.int .i64 port,.int .u64 ad,.slice da dn dc] 36 (0,0))):=Lib.hid (fun w' h => qx _ (hBa.trans (h.mono hBa.size)))
  have AX:Hid (∀ w',Below W.heap.size W w' → w'.heap[Wq.heap.size]? = some (.cells #[.int .i64 0,.slice none 0 0,.bool false,.int .i64 0] 42 (0,0))):=Lib.hid (fun w' h => ax _ h)
  have hAL:w.heap.size ≤ Wq.heap.size:=(hBc.trans ((hBs.trans (hBq.mono hBs.size)).mono hBc.size)).size
  have hAS:=hWa
  obtain ⟨sb,hsb⟩:∃ n,n = Wc.heap.size:=⟨_,rfl⟩
  obtain ⟨qb,hqb⟩:∃ n,n = Ws.heap.size:=⟨_,rfl⟩
  obtain ⟨ab,hab⟩:∃ n,n = Wq.heap.size:=⟨_,rfl⟩
  rw [← hsb] at SX
  rw [← hqb] at QX
  rw [← hab] at AX hAL hAS
  have HAL:=Lib.hid hAL;have HAS:=Lib.hid hAS
  have HSB:=Lib.hid hsb;have HQB:=Lib.hid hqb;have HAB:=Lib.hid hab;have HB:=Lib.hid hB;have CX:=Lib.hid bx
  have HXW:=Lib.hid (hx.later hB);have HSW:=Lib.hid (hs.later hB);have HVW:=Lib.hid (hv.later hB);skip
  simp only [cfgCells] at HWc ⊢
  clear hBc hWs bx hBs hWss sx hBq hWq qx hBa hWa ax hQ hSQ hB hAL hAS hsb hqb hab hx hs hv
  have HREF:=Lib.hid (rrefused_is c ⟨pa,pc,ca,cc,aa,ac,ba,bc⟩ sp sn made ma mc va valid.length vc (9) port ad da dn dc 0 W HXW.out wx lx HSW.out hp had hdn hz)
  simp only [cfgCells] at HREF
  obtain ⟨c0,c1,c2,c3,c4,c5⟩:=CX.out _ (BX.out _ (Below.refl _ _))
  have s0:W.cell? ⟨sb,0,none⟩ = some (.int .i64 sp):=cell_blk (SX.out _ (Below.refl _ _)) rfl
  have s1:W.cell? ⟨sb,1,none⟩ = some (.bool sn):=cell_blk (SX.out _ (Below.refl _ _)) rfl
  have s2:W.cell? ⟨sb,2,none⟩ = some (.slice ma made.length mc):=cell_blk (SX.out _ (Below.refl _ _)) rfl
  have s3:W.cell? ⟨sb,3,none⟩ = some (.slice va valid.length vc):=cell_blk (SX.out _ (Below.refl _ _)) rfl
  have q0:W.cell? ⟨qb,0,none⟩ = some (.int .i64 9):=cell_blk (QX.out _ (Below.refl _ _)) rfl
  have q1:W.cell? ⟨qb,1,none⟩ = some (.int .i64 port):=cell_blk (QX.out _ (Below.refl _ _)) rfl
  have q2:W.cell? ⟨qb,2,none⟩ = some (.int .u64 ad):=cell_blk (QX.out _ (Below.refl _ _)) rfl
  have q3:W.cell? ⟨qb,3,none⟩ = some (.slice da dn dc):=cell_blk (QX.out _ (Below.refl _ _)) rfl
  go_enter Tryz.func13,Tryz.ntmps13
  go_wp2_with (first | (rw [← HWc.out]) | (simp only [← HSB.out];rw [← HWs.out]) | (simp only [← HQB.out];rw [← HWq.out]) | (simp only [← HAB.out];rw [← HW.out]))
  refine HREF.out.mono ?_
  rintro e w5 ⟨rfl,hb5⟩
  clear c0 c1 c2 c3 c4 c5 s0 s1 s2 s3 q0 q1 q2 q3
  have HB5:=Lib.hid hb5
  obtain ⟨c0,c1,c2,c3,c4,c5⟩:=CX.out _ (BX.out _ hb5)
  have s0:w5.cell? ⟨sb,0,none⟩ = some (.int .i64 sp):=cell_blk (SX.out _ hb5) rfl
  have s1:w5.cell? ⟨sb,1,none⟩ = some (.bool sn):=cell_blk (SX.out _ hb5) rfl
  have s2:w5.cell? ⟨sb,2,none⟩ = some (.slice ma made.length mc):=cell_blk (SX.out _ hb5) rfl
  have s3:w5.cell? ⟨sb,3,none⟩ = some (.slice va valid.length vc):=cell_blk (SX.out _ hb5) rfl
  have q0:w5.cell? ⟨qb,0,none⟩ = some (.int .i64 9):=cell_blk (QX.out _ hb5) rfl
  have q1:w5.cell? ⟨qb,1,none⟩ = some (.int .i64 port):=cell_blk (QX.out _ hb5) rfl
  have q2:w5.cell? ⟨qb,2,none⟩ = some (.int .u64 ad):=cell_blk (QX.out _ hb5) rfl
  have q3:w5.cell? ⟨qb,3,none⟩ = some (.slice da dn dc):=cell_blk (QX.out _ hb5) rfl
  clear hb5
  clear hz
  obtain ⟨K,hK⟩:∃ K,portK c port = K:=⟨_,rfl⟩
  obtain ⟨P,hP⟩:∃ P,portP c port = P:=⟨_,rfl⟩
  obtain ⟨SS,hSS⟩:∃ S,portS c port = S:=⟨_,rfl⟩
  obtain ⟨OO,hOO⟩:∃ S,portB c port = S:=⟨_,rfl⟩
  obtain ⟨V6,HV6,hb6,hs6,x6⟩:=box_new w5 #[.int .i64 9,.int .i64 port,.int .u64 ad,.slice da dn dc,.pointer none,.pointer none,.bool false,.int .i64 1,.bool false,.int .u32 own] 111
  obtain ⟨xb,hxb⟩:∃ n,n = w5.heap.size:=⟨_,rfl⟩
  rw [← hxb] at x6
  have hW6:=HB5.out.trans (hb6.mono HB5.out.size)
  have HP:=Lib.hid (rport_is c ⟨pa,pc,ca,cc,aa,ac,ba,bc⟩ port K P SS OO V6 (HXW.out.later hW6) wx lx hp ⟨hK,hP,hSS,hOO⟩)
  simp only [cfgCells] at HP
  have HXB:=Lib.hid hxb;have HW6:=Lib.hid hW6;have HX6:=Lib.hid (x6 _ (Below.refl _ _))
  have HKS:=Lib.hid (And.intro hK hSS)
  clear c0 c1 c2 c3 c4 c5 s0 s1 s2 s3 hK hP hSS hOO hb6 hs6 x6 hxb hW6
  obtain ⟨m0,m1,m2,m3,m4,m5⟩:=CX.out _ (BX.out _ HW6.out)
  have p1:V6.cell? ⟨qb,1,none⟩ = some (.int .i64 port):=cell_blk (QX.out _ HW6.out) rfl
  go_wp2_with (first | (simp only [← HXB.out];rw [← HV6.out]))
  refine HP.out.mono ?_
  rintro e w7 ⟨rfl,hb7⟩
  obtain ⟨V8,HV8,hb8,hs8,x8⟩:=box_new w7 #[.int .i64 K,.int .i64 P,.bool SS,.bool OO] 113
  obtain ⟨db,hdb⟩:∃ n,n = w7.heap.size:=⟨_,rfl⟩
  have hd8:V8.heap[db]? = some (.cells #[.int .i64 K,.int .i64 P,.bool SS,.bool OO] 113 (0,0)):=by rw [hdb];exact x8 _ (Below.refl _ _)
  have h68:=hb7.trans (hb8.mono hb7.size)
  have hW8:=HW6.out.trans (h68.mono HW6.out.size)
  have hx8:V8.heap[xb]? = some (.cells #[.int .i64 9,.int .i64 port,.int .u64 ad,.slice da dn dc,.pointer none,.pointer none,.bool false,.int .i64 1,.bool false,.int .u32 own] 111 (0,0)):=(h68.block xb (Array.getElem?_eq_some_iff.1 HX6.out).1).trans HX6.out
  have hlt8:xb < db ∧ db < V8.heap.size ∧ ab < xb ∧ w.heap.size ≤ xb:=by
    have e1:=HXB.out;have e2:=HB5.out.size;have e3:=HAS.out;have e4:=HB.out.size;have e5:=(Array.getElem?_eq_some_iff.1 HX6.out).1;have e6:=hb7.size;have e7:=(Array.getElem?_eq_some_iff.1 hd8).1
    omega
  have d0:V8.cell? ⟨db,0,none⟩ = some (.int .i64 K):=cell_blk hd8 rfl
  have d2:V8.cell? ⟨db,2,none⟩ = some (.bool SS):=cell_blk hd8 rfl
  have HDB:=Lib.hid hdb;have HB8:=Lib.hid hW8;have HX8:=Lib.hid hx8;have HD8:=Lib.hid hd8;have HLT:=Lib.hid hlt8
  clear m0 m1 m2 m3 m4 m5 p1 q0 q1 q2 q3 hb7 hb8 hs8 x8 hdb hd8 h68 hW8 hx8 hlt8
  obtain ⟨c0,c1,c2,c3,c4,c5⟩:=CX.out _ (BX.out _ HB8.out)
  have s0:V8.cell? ⟨sb,0,none⟩ = some (.int .i64 sp):=cell_blk (SX.out _ HB8.out) rfl
  have s1:V8.cell? ⟨sb,1,none⟩ = some (.bool sn):=cell_blk (SX.out _ HB8.out) rfl
  have s2:V8.cell? ⟨sb,2,none⟩ = some (.slice ma made.length mc):=cell_blk (SX.out _ HB8.out) rfl
  have s3:V8.cell? ⟨sb,3,none⟩ = some (.slice va valid.length vc):=cell_blk (SX.out _ HB8.out) rfl
  have q0:V8.cell? ⟨qb,0,none⟩ = some (.int .i64 9):=cell_blk (QX.out _ HB8.out) rfl
  have q1:V8.cell? ⟨qb,1,none⟩ = some (.int .i64 port):=cell_blk (QX.out _ HB8.out) rfl
  have q2:V8.cell? ⟨qb,2,none⟩ = some (.int .u64 ad):=cell_blk (QX.out _ HB8.out) rfl
  have q3:V8.cell? ⟨qb,3,none⟩ = some (.slice da dn dc):=cell_blk (QX.out _ HB8.out) rfl
  clear d0 d2 s0 s1 s2 s3 q1 q2 q3 c0 c1 c2 c3 c4 c5
  obtain ⟨Z1,HZ1⟩:∃ u,Hid (u = V8.setCell ⟨xb,6,none⟩ (.bool true)):=⟨_,rfl⟩
  have hoZ:Only (fun k => k = xb) V8 Z1:=by rw [HZ1.out];exact Only.setCell V8 ⟨xb,6,none⟩ _
  have hxZ:Z1.heap[xb]? = some (.cells #[.int .i64 9,.int .i64 port,.int .u64 ad,.slice da dn dc,.pointer none,.pointer none,.bool true,.int .i64 1,.bool false,.int .u32 own] 111 (0,0)):=by rw [HZ1.out];simp [World.setCell,Array.getElem?_modify,HX8.out]
  have f6:V8.frozen? ⟨xb,6,none⟩ = false:=by simp [World.frozen?,HX8.out]
  have g6:V8.cell? ⟨xb,6,none⟩ = some (.bool false):=cell_blk HX8.out rfl
  have hbZ:=HB8.out.trans (hoZ.below HB8.out.size (fun j e => by have:=HLT.out;have:=HAS.out;have:=HXB.out;have:=HB5.out.size;omega))
  have HBZ:=Lib.hid hbZ;have HXZ:=Lib.hid hxZ
  clear hoZ hxZ hbZ
  have hth:=there_blk (W:=Z1) (AX.out _ HBZ.out) (n:=(#[.int .i64 0,.slice none 0 0,.bool false,.int .i64 0]:Array Value).size) rfl
  have hsz:(Tryz.prog.info? 42).map (·.size) = some (#[.int .i64 0,.slice none 0 0,.bool false,.int .i64 0]:Array Value).size:=ans_size
  go_wp2_with (first | (simp only [← HDB.out];rw [← HV8.out]) | (rw [← HZ1.out]) | (with_reducible refine wpList_store_mid (by kernel_rfl) _ _ _ rfl ab 0 #[.int .i64 0,.slice none 0 0,.bool false,.int .i64 0] (by kernel_rfl) (by kernel_rfl) hth hsz (by kernel_rfl) ?_))
  have hrg:=World.rangeAt_setCells_same Z1 ab 0 (#[.int .i64 0,.slice none 0 0,.bool false,.int .i64 0]:Array Value).toList (by simpa using hth)
  (try simp only [Exit.inBlock,Exit.then])
  refine bodyPost_ret (results_pm rfl _ _ ab (#[.int .i64 0,.slice none 0 0,.bool false,.int .i64 0]:Array Value).toList _ rfl hrg Tryz.underlying42 rfl ans_size rfl) rfl ?_
  have ho:=Only.sets (S:=fun j => j = ab) rfl (#[.int .i64 0,.slice none 0 0,.bool false,.int .i64 0]:Array Value).toList 0 (Only.refl _ Z1)
  exact ⟨xb,rfl,ho.at_ HXZ.out (by have:=HLT.out;omega),HLT.out.2.2.2,below_setCells _ _ _ (HB.out.trans (HBZ.out.mono HB.out.size)) HAL.out⟩
theorem rbeg4_b (c:Cfg) (x:CfgAt) (sp:Int) (sn:Bool) (own:Int) (made valid:List Int) (ma va:Option Addr) (mc vc:Nat) (port ad:Int) (da:Option Addr) (dn dc:Nat) (w:World) (hx:CfgIn w w.heap.size c x) (wx:CfgWf c) (lx:CfgFew c) (hs:SIn w made ma) (hv:SIn w valid va) (hp:(Lit.int .i64 port).wf = true) (had:(Lit.int .u64 ad).wf = true) (hdn:dn ≤ 1000000) (hz:refusedN c sp sn made 4 port ad dn = 0) (k:Nat) (hk:k < c.chans.length) (hkK:portK c port = (k:Int)) (SS:Bool) (hSq:portS c port = SS) :
    Calls Tryz.prog 13 #[.agg (cfgCells c x),.agg #[.int .i64 sp,.bool sn,.slice ma made.length mc,.slice va valid.length vc],.int .u32 own,.agg #[.int .i64 4,.int .i64 port,.int .u64 ad,.slice da dn dc]] w fun e w' => ∃ xb vb,e = .returned (.tuple #[.pointer (some ⟨xb,0,none⟩),.agg #[.int .i64 0,.slice none 0 0,.bool false,.int .i64 0]]) ∧ w'.heap[xb]? = some (.cells #[.int .i64 4,.int .i64 port,.int .u64 ad,.slice da dn dc,.pointer (some ⟨vb,0,none⟩),.pointer none,.bool false,.int .i64 1,.bool false,.int .u32 own] 111 (0,0)) ∧ w'.heap[vb]? = some (.cells #[.slice x.pa c.parts.length x.pc,.slice x.ca c.chans.length x.cc,.int .i64 c.len0,.slice x.aa c.win0.length x.ac,.int .i64 c.len1,.slice x.ba c.win1.length x.bc,.int .i64 (k:Int),.bool false,.slice none 0 0,.int .i64 0,.int .i64 0,.int .i64 0,.int .i64 0,.int .i64 0,.bool false] 116 (0,0)) ∧ w.heap.size ≤ xb ∧ xb < vb ∧ Below w.heap.size w w':=by
  obtain ⟨Wc,HWc,hBc,hWs,bx⟩:=one_cbox w c x 29
  obtain ⟨pa,pc,ca,cc,aa,ac,ba,bc⟩:=x
  obtain ⟨Ws,HWs,hBs,hWss,sx⟩:=box_new Wc #[.int .i64 sp,.bool sn,.slice ma made.length mc,.slice va valid.length vc] 32
  obtain ⟨Wq,HWq,hBq,hWq,qx⟩:=box_new Ws #[.int .i64 4,.int .i64 port,.int .u64 ad,.slice da dn dc] 36
  obtain ⟨W,HW,hBa,hWa,ax⟩:=box_new Wq #[.int .i64 0,.slice none 0 0,.bool false,.int .i64 0] 42
  have hQ:=hBq.trans (hBa.mono hBq.size)
  have hSQ:=hBs.trans (hQ.mono hBs.size)
  have hB:=hBc.trans (hSQ.mono hBc.size)
  have BX:Hid (∀ w',Below W.heap.size W w' → Below Wc.heap.size Wc w'):=Lib.hid (fun w' h => hSQ.trans (h.mono hSQ.size))
  have SX:Hid (∀ w',Below W.heap.size W w' → w'.heap[Wc.heap.size]? = some (.cells #[.int .i64 sp,.bool sn,.slice ma made.length mc,.slice va valid.length vc] 32 (0,0))):=Lib.hid (fun w' h => sx _ (hQ.trans (h.mono hQ.size)))
  have QX:Hid (∀ w',Below W.heap.size W w' → w'.heap[Ws.heap.size]? = some (.cells #[.int .i64 4,.int .i64 port,.int .u64 ad,.slice da dn dc] 36 (0,0))):=Lib.hid (fun w' h => qx _ (hBa.trans (h.mono hBa.size)))
  have AX:Hid (∀ w',Below W.heap.size W w' → w'.heap[Wq.heap.size]? = some (.cells #[.int .i64 0,.slice none 0 0,.bool false,.int .i64 0] 42 (0,0))):=Lib.hid (fun w' h => ax _ h)
  have hAL:w.heap.size ≤ Wq.heap.size:=(hBc.trans ((hBs.trans (hBq.mono hBs.size)).mono hBc.size)).size
  have hAS:=hWa
  obtain ⟨sb,hsb⟩:∃ n,n = Wc.heap.size:=⟨_,rfl⟩
  obtain ⟨qb,hqb⟩:∃ n,n = Ws.heap.size:=⟨_,rfl⟩
  obtain ⟨ab,hab⟩:∃ n,n = Wq.heap.size:=⟨_,rfl⟩
  rw [← hsb] at SX
  rw [← hqb] at QX
  rw [← hab] at AX hAL hAS
  have HAL:=Lib.hid hAL;have HAS:=Lib.hid hAS
  have HSB:=Lib.hid hsb;have HQB:=Lib.hid hqb;have HAB:=Lib.hid hab;have HB:=Lib.hid hB;have CX:=Lib.hid bx
  have HXW:=Lib.hid (hx.later hB);have HSW:=Lib.hid (hs.later hB);have HVW:=Lib.hid (hv.later hB);skip
  simp only [cfgCells] at HWc ⊢
  clear hBc hWs bx hBs hWss sx hBq hWq qx hBa hWa ax hQ hSQ hB hAL hAS hsb hqb hab hx hs hv
  have HREF:=Lib.hid (rrefused_is c ⟨pa,pc,ca,cc,aa,ac,ba,bc⟩ sp sn made ma mc va valid.length vc (4) port ad da dn dc 0 W HXW.out wx lx HSW.out hp had hdn hz)
  simp only [cfgCells] at HREF
  obtain ⟨c0,c1,c2,c3,c4,c5⟩:=CX.out _ (BX.out _ (Below.refl _ _))
  have s0:W.cell? ⟨sb,0,none⟩ = some (.int .i64 sp):=cell_blk (SX.out _ (Below.refl _ _)) rfl
  have s1:W.cell? ⟨sb,1,none⟩ = some (.bool sn):=cell_blk (SX.out _ (Below.refl _ _)) rfl
  have s2:W.cell? ⟨sb,2,none⟩ = some (.slice ma made.length mc):=cell_blk (SX.out _ (Below.refl _ _)) rfl
  have s3:W.cell? ⟨sb,3,none⟩ = some (.slice va valid.length vc):=cell_blk (SX.out _ (Below.refl _ _)) rfl
  have q0:W.cell? ⟨qb,0,none⟩ = some (.int .i64 4):=cell_blk (QX.out _ (Below.refl _ _)) rfl
  have q1:W.cell? ⟨qb,1,none⟩ = some (.int .i64 port):=cell_blk (QX.out _ (Below.refl _ _)) rfl
  have q2:W.cell? ⟨qb,2,none⟩ = some (.int .u64 ad):=cell_blk (QX.out _ (Below.refl _ _)) rfl
  have q3:W.cell? ⟨qb,3,none⟩ = some (.slice da dn dc):=cell_blk (QX.out _ (Below.refl _ _)) rfl
  go_enter Tryz.func13,Tryz.ntmps13
  go_wp2_with (first | (rw [← HWc.out]) | (simp only [← HSB.out];rw [← HWs.out]) | (simp only [← HQB.out];rw [← HWq.out]) | (simp only [← HAB.out];rw [← HW.out]))
  refine HREF.out.mono ?_
  rintro e w5 ⟨rfl,hb5⟩
  clear c0 c1 c2 c3 c4 c5 s0 s1 s2 s3 q0 q1 q2 q3
  have HB5:=Lib.hid hb5
  obtain ⟨c0,c1,c2,c3,c4,c5⟩:=CX.out _ (BX.out _ hb5)
  have s0:w5.cell? ⟨sb,0,none⟩ = some (.int .i64 sp):=cell_blk (SX.out _ hb5) rfl
  have s1:w5.cell? ⟨sb,1,none⟩ = some (.bool sn):=cell_blk (SX.out _ hb5) rfl
  have s2:w5.cell? ⟨sb,2,none⟩ = some (.slice ma made.length mc):=cell_blk (SX.out _ hb5) rfl
  have s3:w5.cell? ⟨sb,3,none⟩ = some (.slice va valid.length vc):=cell_blk (SX.out _ hb5) rfl
  have q0:w5.cell? ⟨qb,0,none⟩ = some (.int .i64 4):=cell_blk (QX.out _ hb5) rfl
  have q1:w5.cell? ⟨qb,1,none⟩ = some (.int .i64 port):=cell_blk (QX.out _ hb5) rfl
  have q2:w5.cell? ⟨qb,2,none⟩ = some (.int .u64 ad):=cell_blk (QX.out _ hb5) rfl
  have q3:w5.cell? ⟨qb,3,none⟩ = some (.slice da dn dc):=cell_blk (QX.out _ hb5) rfl
  clear hb5
  clear hz
  obtain ⟨K,hK⟩:∃ K,portK c port = K:=⟨_,rfl⟩
  obtain ⟨P,hP⟩:∃ P,portP c port = P:=⟨_,rfl⟩
  obtain ⟨SS,hSS⟩:∃ S,portS c port = S:=⟨_,rfl⟩
  obtain ⟨OO,hOO⟩:∃ S,portB c port = S:=⟨_,rfl⟩
  obtain ⟨V6,HV6,hb6,hs6,x6⟩:=box_new w5 #[.int .i64 4,.int .i64 port,.int .u64 ad,.slice da dn dc,.pointer none,.pointer none,.bool false,.int .i64 1,.bool false,.int .u32 own] 111
  obtain ⟨xb,hxb⟩:∃ n,n = w5.heap.size:=⟨_,rfl⟩
  rw [← hxb] at x6
  have hW6:=HB5.out.trans (hb6.mono HB5.out.size)
  have HP:=Lib.hid (rport_is c ⟨pa,pc,ca,cc,aa,ac,ba,bc⟩ port K P SS OO V6 (HXW.out.later hW6) wx lx hp ⟨hK,hP,hSS,hOO⟩)
  simp only [cfgCells] at HP
  have HXB:=Lib.hid hxb;have HW6:=Lib.hid hW6;have HX6:=Lib.hid (x6 _ (Below.refl _ _))
  have HKS:=Lib.hid (And.intro hK hSS)
  clear c0 c1 c2 c3 c4 c5 s0 s1 s2 s3 hK hP hSS hOO hb6 hs6 x6 hxb hW6
  obtain ⟨m0,m1,m2,m3,m4,m5⟩:=CX.out _ (BX.out _ HW6.out)
  have p1:V6.cell? ⟨qb,1,none⟩ = some (.int .i64 port):=cell_blk (QX.out _ HW6.out) rfl
  go_wp2_with (first | (simp only [← HXB.out];rw [← HV6.out]))
  refine HP.out.mono ?_
  rintro e w7 ⟨rfl,hb7⟩
  obtain ⟨V8,HV8,hb8,hs8,x8⟩:=box_new w7 #[.int .i64 K,.int .i64 P,.bool SS,.bool OO] 113
  obtain ⟨db,hdb⟩:∃ n,n = w7.heap.size:=⟨_,rfl⟩
  have hd8:V8.heap[db]? = some (.cells #[.int .i64 K,.int .i64 P,.bool SS,.bool OO] 113 (0,0)):=by rw [hdb];exact x8 _ (Below.refl _ _)
  have h68:=hb7.trans (hb8.mono hb7.size)
  have hW8:=HW6.out.trans (h68.mono HW6.out.size)
  have hx8:V8.heap[xb]? = some (.cells #[.int .i64 4,.int .i64 port,.int .u64 ad,.slice da dn dc,.pointer none,.pointer none,.bool false,.int .i64 1,.bool false,.int .u32 own] 111 (0,0)):=(h68.block xb (Array.getElem?_eq_some_iff.1 HX6.out).1).trans HX6.out
  have hlt8:xb < db ∧ db < V8.heap.size ∧ ab < xb ∧ w.heap.size ≤ xb:=by
    have e1:=HXB.out;have e2:=HB5.out.size;have e3:=HAS.out;have e4:=HB.out.size;have e5:=(Array.getElem?_eq_some_iff.1 HX6.out).1;have e6:=hb7.size;have e7:=(Array.getElem?_eq_some_iff.1 hd8).1
    omega
  have d0:V8.cell? ⟨db,0,none⟩ = some (.int .i64 K):=cell_blk hd8 rfl
  have d2:V8.cell? ⟨db,2,none⟩ = some (.bool SS):=cell_blk hd8 rfl
  have HDB:=Lib.hid hdb;have HB8:=Lib.hid hW8;have HX8:=Lib.hid hx8;have HD8:=Lib.hid hd8;have HLT:=Lib.hid hlt8
  clear m0 m1 m2 m3 m4 m5 p1 q0 q1 q2 q3 hb7 hb8 hs8 x8 hdb hd8 h68 hW8 hx8 hlt8
  obtain ⟨c0,c1,c2,c3,c4,c5⟩:=CX.out _ (BX.out _ HB8.out)
  have s0:V8.cell? ⟨sb,0,none⟩ = some (.int .i64 sp):=cell_blk (SX.out _ HB8.out) rfl
  have s1:V8.cell? ⟨sb,1,none⟩ = some (.bool sn):=cell_blk (SX.out _ HB8.out) rfl
  have s2:V8.cell? ⟨sb,2,none⟩ = some (.slice ma made.length mc):=cell_blk (SX.out _ HB8.out) rfl
  have s3:V8.cell? ⟨sb,3,none⟩ = some (.slice va valid.length vc):=cell_blk (SX.out _ HB8.out) rfl
  have q0:V8.cell? ⟨qb,0,none⟩ = some (.int .i64 4):=cell_blk (QX.out _ HB8.out) rfl
  have q1:V8.cell? ⟨qb,1,none⟩ = some (.int .i64 port):=cell_blk (QX.out _ HB8.out) rfl
  have q2:V8.cell? ⟨qb,2,none⟩ = some (.int .u64 ad):=cell_blk (QX.out _ HB8.out) rfl
  have q3:V8.cell? ⟨qb,3,none⟩ = some (.slice da dn dc):=cell_blk (QX.out _ HB8.out) rfl
  have hKk:K = (k:Int):=HKS.out.1.symm.trans hkK
  subst hKk
  have hSs:=HKS.out.2.symm.trans hSq
  subst hSs
  clear s0 s1 s2 s3 q1 q2
  clear q3
  obtain ⟨V9,HV9,hb9,hs9,x9⟩:=box_new V8 #[.slice pa c.parts.length pc,.slice ca c.chans.length cc,.int .i64 c.len0,.slice aa c.win0.length ac,.int .i64 c.len1,.slice ba c.win1.length bc,.int .i64 (k:Int),.bool false,.slice none 0 0,.int .i64 0,.int .i64 0,.int .i64 0,.int .i64 0,.int .i64 0,.bool false] 116
  obtain ⟨vb,hvb⟩:∃ n,n = V8.heap.size:=⟨_,rfl⟩
  have hv9:V9.heap[vb]? = some (.cells #[.slice pa c.parts.length pc,.slice ca c.chans.length cc,.int .i64 c.len0,.slice aa c.win0.length ac,.int .i64 c.len1,.slice ba c.win1.length bc,.int .i64 (k:Int),.bool false,.slice none 0 0,.int .i64 0,.int .i64 0,.int .i64 0,.int .i64 0,.int .i64 0,.bool false] 116 (0,0)):=by rw [hvb];exact x9 _ (Below.refl _ _)
  have hx9:V9.heap[xb]? = some (.cells #[.int .i64 4,.int .i64 port,.int .u64 ad,.slice da dn dc,.pointer none,.pointer none,.bool false,.int .i64 1,.bool false,.int .u32 own] 111 (0,0)):=(hb9.block xb (Array.getElem?_eq_some_iff.1 HX8.out).1).trans HX8.out
  obtain ⟨Z1,HZ1⟩:∃ u,Hid (u = V9.setCell ⟨xb,4,none⟩ (.pointer (some ⟨vb,0,none⟩))):=⟨_,rfl⟩
  have hoZ:Only (fun k => k = xb) V9 Z1:=by rw [HZ1.out];exact Only.setCell V9 ⟨xb,4,none⟩ _
  have hlt:xb < vb ∧ ab < xb ∧ w.heap.size ≤ xb ∧ W.heap.size ≤ xb ∧ V8.heap.size = vb:=by
    have e1:=HLT.out;have e2:=HAS.out;have e3:=HXB.out;have e4:=HB5.out.size
    omega
  have hvZ:Z1.heap[vb]? = some (.cells #[.slice pa c.parts.length pc,.slice ca c.chans.length cc,.int .i64 c.len0,.slice aa c.win0.length ac,.int .i64 c.len1,.slice ba c.win1.length bc,.int .i64 (k:Int),.bool false,.slice none 0 0,.int .i64 0,.int .i64 0,.int .i64 0,.int .i64 0,.int .i64 0,.bool false] 116 (0,0)):=hoZ.at_ hv9 (by omega)
  have hxZ:Z1.heap[xb]? = some (.cells #[.int .i64 4,.int .i64 port,.int .u64 ad,.slice da dn dc,.pointer (some ⟨vb,0,none⟩),.pointer none,.bool false,.int .i64 1,.bool false,.int .u32 own] 111 (0,0)):=by rw [HZ1.out];simp [World.setCell,Array.getElem?_modify,hx9]
  have fx:V9.frozen? ⟨xb,4,none⟩ = false:=by simp [World.frozen?,hx9]
  have gx:V9.cell? ⟨xb,4,none⟩ = some (.pointer none):=cell_blk hx9 rfl
  have hb89:=HB8.out.trans (hb9.mono HB8.out.size)
  have hbZ:=hb89.trans (hoZ.below hb89.size (fun j e => by omega))
  have z0:Z1.cell? ⟨qb,0,none⟩ = some (.int .i64 4):=cell_blk (QX.out _ hbZ) rfl
  have HBZ:=Lib.hid hbZ;have HXZ:=Lib.hid hxZ;have HVZ:=Lib.hid hvZ;have HVB:=Lib.hid hvb;have HLV:=Lib.hid hlt
  clear hb9 hs9 x9 hvb hv9 hx9 hoZ hlt hvZ hxZ hb89 hbZ
  have hth:=there_blk (W:=Z1) (AX.out _ HBZ.out) (n:=(#[.int .i64 0,.slice none 0 0,.bool false,.int .i64 0]:Array Value).size) rfl
  have hsz:(Tryz.prog.info? 42).map (·.size) = some (#[.int .i64 0,.slice none 0 0,.bool false,.int .i64 0]:Array Value).size:=ans_size
  go_wp2_with (first | (simp only [← HDB.out];rw [← HV8.out]) | (simp only [← HVB.out];rw [← HV9.out]) | (rw [← HZ1.out]) | (with_reducible refine wpList_store_mid (by kernel_rfl) _ _ _ rfl ab 0 #[.int .i64 0,.slice none 0 0,.bool false,.int .i64 0] (by kernel_rfl) (by kernel_rfl) hth hsz (by kernel_rfl) ?_))
  have hrg:=World.rangeAt_setCells_same Z1 ab 0 (#[.int .i64 0,.slice none 0 0,.bool false,.int .i64 0]:Array Value).toList (by simpa using hth)
  (try simp only [Exit.inBlock,Exit.then])
  refine bodyPost_ret (results_pm rfl _ _ ab (#[.int .i64 0,.slice none 0 0,.bool false,.int .i64 0]:Array Value).toList _ rfl hrg Tryz.underlying42 rfl ans_size rfl) rfl ?_
  have ho:=Only.sets (S:=fun j => j = ab) rfl (#[.int .i64 0,.slice none 0 0,.bool false,.int .i64 0]:Array Value).toList 0 (Only.refl _ Z1)
  exact ⟨xb,vb,rfl,ho.at_ HXZ.out (by have:=HLV.out;omega),ho.at_ HVZ.out (by have:=HLV.out;omega),HLV.out.2.2.1,HLV.out.1,below_setCells _ _ _ (HB.out.trans (HBZ.out.mono HB.out.size)) HAL.out⟩
theorem rbeg6_b (c:Cfg) (x:CfgAt) (sp:Int) (sn:Bool) (own:Int) (made valid:List Int) (ma va:Option Addr) (mc vc:Nat) (port ad:Int) (da:Option Addr) (dn dc:Nat) (w:World) (hx:CfgIn w w.heap.size c x) (wx:CfgWf c) (lx:CfgFew c) (hs:SIn w made ma) (hv:SIn w valid va) (hp:(Lit.int .i64 port).wf = true) (had:(Lit.int .u64 ad).wf = true) (hdn:dn ≤ 1000000) (hz:refusedN c sp sn made 6 port ad dn = 0) (k:Nat) (hk:k < c.chans.length) (hkK:portK c port = (k:Int)) (SS:Bool) (hSq:portS c port = SS) (hk7:fld (row c.chans k) 0 = 2) :
    Calls Tryz.prog 13 #[.agg (cfgCells c x),.agg #[.int .i64 sp,.bool sn,.slice ma made.length mc,.slice va valid.length vc],.int .u32 own,.agg #[.int .i64 6,.int .i64 port,.int .u64 ad,.slice da dn dc]] w fun e w' => ∃ xb vb,e = .returned (.tuple #[.pointer (some ⟨xb,0,none⟩),.agg #[.int .i64 0,.slice none 0 0,.bool false,.int .i64 0]]) ∧ w'.heap[xb]? = some (.cells #[.int .i64 6,.int .i64 port,.int .u64 ad,.slice da dn dc,.pointer none,.pointer (some ⟨vb,0,none⟩),.bool false,.int .i64 1,.bool false,.int .u32 own] 111 (0,0)) ∧ w'.heap[vb]? = some (.cells #[.slice x.pa c.parts.length x.pc,.slice x.ca c.chans.length x.cc,.int .i64 c.len0,.slice x.aa c.win0.length x.ac,.int .i64 c.len1,.slice x.ba c.win1.length x.bc,.int .i64 (k:Int),.int .i64 6,.int .u32 own,.bool SS,.slice none 0 0,.int .i64 0,.int .i64 0] 119 (0,0)) ∧ w.heap.size ≤ xb ∧ xb < vb ∧ Below w.heap.size w w':=by
  obtain ⟨Wc,HWc,hBc,hWs,bx⟩:=one_cbox w c x 29
  obtain ⟨pa,pc,ca,cc,aa,ac,ba,bc⟩:=x
  obtain ⟨Ws,HWs,hBs,hWss,sx⟩:=box_new Wc #[.int .i64 sp,.bool sn,.slice ma made.length mc,.slice va valid.length vc] 32
  obtain ⟨Wq,HWq,hBq,hWq,qx⟩:=box_new Ws #[.int .i64 6,.int .i64 port,.int .u64 ad,.slice da dn dc] 36
  obtain ⟨W,HW,hBa,hWa,ax⟩:=box_new Wq #[.int .i64 0,.slice none 0 0,.bool false,.int .i64 0] 42
  have hQ:=hBq.trans (hBa.mono hBq.size)
  have hSQ:=hBs.trans (hQ.mono hBs.size)
  have hB:=hBc.trans (hSQ.mono hBc.size)
  have BX:Hid (∀ w',Below W.heap.size W w' → Below Wc.heap.size Wc w'):=Lib.hid (fun w' h => hSQ.trans (h.mono hSQ.size))
  have SX:Hid (∀ w',Below W.heap.size W w' → w'.heap[Wc.heap.size]? = some (.cells #[.int .i64 sp,.bool sn,.slice ma made.length mc,.slice va valid.length vc] 32 (0,0))):=Lib.hid (fun w' h => sx _ (hQ.trans (h.mono hQ.size)))
  have QX:Hid (∀ w',Below W.heap.size W w' → w'.heap[Ws.heap.size]? = some (.cells #[.int .i64 6,.int .i64 port,.int .u64 ad,.slice da dn dc] 36 (0,0))):=Lib.hid (fun w' h => qx _ (hBa.trans (h.mono hBa.size)))
  have AX:Hid (∀ w',Below W.heap.size W w' → w'.heap[Wq.heap.size]? = some (.cells #[.int .i64 0,.slice none 0 0,.bool false,.int .i64 0] 42 (0,0))):=Lib.hid (fun w' h => ax _ h)
  have hAL:w.heap.size ≤ Wq.heap.size:=(hBc.trans ((hBs.trans (hBq.mono hBs.size)).mono hBc.size)).size
  have hAS:=hWa
  obtain ⟨sb,hsb⟩:∃ n,n = Wc.heap.size:=⟨_,rfl⟩
  obtain ⟨qb,hqb⟩:∃ n,n = Ws.heap.size:=⟨_,rfl⟩
  obtain ⟨ab,hab⟩:∃ n,n = Wq.heap.size:=⟨_,rfl⟩
  rw [← hsb] at SX
  rw [← hqb] at QX
  rw [← hab] at AX hAL hAS
  have HAL:=Lib.hid hAL;have HAS:=Lib.hid hAS
  have HSB:=Lib.hid hsb;have HQB:=Lib.hid hqb;have HAB:=Lib.hid hab;have HB:=Lib.hid hB;have CX:=Lib.hid bx
  have HXW:=Lib.hid (hx.later hB);have HSW:=Lib.hid (hs.later hB);have HVW:=Lib.hid (hv.later hB);skip
  simp only [cfgCells] at HWc ⊢
  clear hBc hWs bx hBs hWss sx hBq hWq qx hBa hWa ax hQ hSQ hB hAL hAS hsb hqb hab hx hs hv
  have HREF:=Lib.hid (rrefused_is c ⟨pa,pc,ca,cc,aa,ac,ba,bc⟩ sp sn made ma mc va valid.length vc (6) port ad da dn dc 0 W HXW.out wx lx HSW.out hp had hdn hz)
  simp only [cfgCells] at HREF
  obtain ⟨c0,c1,c2,c3,c4,c5⟩:=CX.out _ (BX.out _ (Below.refl _ _))
  have s0:W.cell? ⟨sb,0,none⟩ = some (.int .i64 sp):=cell_blk (SX.out _ (Below.refl _ _)) rfl
  have s1:W.cell? ⟨sb,1,none⟩ = some (.bool sn):=cell_blk (SX.out _ (Below.refl _ _)) rfl
  have s2:W.cell? ⟨sb,2,none⟩ = some (.slice ma made.length mc):=cell_blk (SX.out _ (Below.refl _ _)) rfl
  have s3:W.cell? ⟨sb,3,none⟩ = some (.slice va valid.length vc):=cell_blk (SX.out _ (Below.refl _ _)) rfl
  have q0:W.cell? ⟨qb,0,none⟩ = some (.int .i64 6):=cell_blk (QX.out _ (Below.refl _ _)) rfl
  have q1:W.cell? ⟨qb,1,none⟩ = some (.int .i64 port):=cell_blk (QX.out _ (Below.refl _ _)) rfl
  have q2:W.cell? ⟨qb,2,none⟩ = some (.int .u64 ad):=cell_blk (QX.out _ (Below.refl _ _)) rfl
  have q3:W.cell? ⟨qb,3,none⟩ = some (.slice da dn dc):=cell_blk (QX.out _ (Below.refl _ _)) rfl
  go_enter Tryz.func13,Tryz.ntmps13
  go_wp2_with (first | (rw [← HWc.out]) | (simp only [← HSB.out];rw [← HWs.out]) | (simp only [← HQB.out];rw [← HWq.out]) | (simp only [← HAB.out];rw [← HW.out]))
  refine HREF.out.mono ?_
  rintro e w5 ⟨rfl,hb5⟩
  clear c0 c1 c2 c3 c4 c5 s0 s1 s2 s3 q0 q1 q2 q3
  have HB5:=Lib.hid hb5
  obtain ⟨c0,c1,c2,c3,c4,c5⟩:=CX.out _ (BX.out _ hb5)
  have s0:w5.cell? ⟨sb,0,none⟩ = some (.int .i64 sp):=cell_blk (SX.out _ hb5) rfl
  have s1:w5.cell? ⟨sb,1,none⟩ = some (.bool sn):=cell_blk (SX.out _ hb5) rfl
  have s2:w5.cell? ⟨sb,2,none⟩ = some (.slice ma made.length mc):=cell_blk (SX.out _ hb5) rfl
  have s3:w5.cell? ⟨sb,3,none⟩ = some (.slice va valid.length vc):=cell_blk (SX.out _ hb5) rfl
  have q0:w5.cell? ⟨qb,0,none⟩ = some (.int .i64 6):=cell_blk (QX.out _ hb5) rfl
  have q1:w5.cell? ⟨qb,1,none⟩ = some (.int .i64 port):=cell_blk (QX.out _ hb5) rfl
  have q2:w5.cell? ⟨qb,2,none⟩ = some (.int .u64 ad):=cell_blk (QX.out _ hb5) rfl
  have q3:w5.cell? ⟨qb,3,none⟩ = some (.slice da dn dc):=cell_blk (QX.out _ hb5) rfl
  clear hb5
  clear hz
  obtain ⟨K,hK⟩:∃ K,portK c port = K:=⟨_,rfl⟩
  obtain ⟨P,hP⟩:∃ P,portP c port = P:=⟨_,rfl⟩
  obtain ⟨SS,hSS⟩:∃ S,portS c port = S:=⟨_,rfl⟩
  obtain ⟨OO,hOO⟩:∃ S,portB c port = S:=⟨_,rfl⟩
  obtain ⟨V6,HV6,hb6,hs6,x6⟩:=box_new w5 #[.int .i64 6,.int .i64 port,.int .u64 ad,.slice da dn dc,.pointer none,.pointer none,.bool false,.int .i64 1,.bool false,.int .u32 own] 111
  obtain ⟨xb,hxb⟩:∃ n,n = w5.heap.size:=⟨_,rfl⟩
  rw [← hxb] at x6
  have hW6:=HB5.out.trans (hb6.mono HB5.out.size)
  have HP:=Lib.hid (rport_is c ⟨pa,pc,ca,cc,aa,ac,ba,bc⟩ port K P SS OO V6 (HXW.out.later hW6) wx lx hp ⟨hK,hP,hSS,hOO⟩)
  simp only [cfgCells] at HP
  have HXB:=Lib.hid hxb;have HW6:=Lib.hid hW6;have HX6:=Lib.hid (x6 _ (Below.refl _ _))
  have HKS:=Lib.hid (And.intro hK hSS)
  clear c0 c1 c2 c3 c4 c5 s0 s1 s2 s3 hK hP hSS hOO hb6 hs6 x6 hxb hW6
  obtain ⟨m0,m1,m2,m3,m4,m5⟩:=CX.out _ (BX.out _ HW6.out)
  have p1:V6.cell? ⟨qb,1,none⟩ = some (.int .i64 port):=cell_blk (QX.out _ HW6.out) rfl
  go_wp2_with (first | (simp only [← HXB.out];rw [← HV6.out]))
  refine HP.out.mono ?_
  rintro e w7 ⟨rfl,hb7⟩
  obtain ⟨V8,HV8,hb8,hs8,x8⟩:=box_new w7 #[.int .i64 K,.int .i64 P,.bool SS,.bool OO] 113
  obtain ⟨db,hdb⟩:∃ n,n = w7.heap.size:=⟨_,rfl⟩
  have hd8:V8.heap[db]? = some (.cells #[.int .i64 K,.int .i64 P,.bool SS,.bool OO] 113 (0,0)):=by rw [hdb];exact x8 _ (Below.refl _ _)
  have h68:=hb7.trans (hb8.mono hb7.size)
  have hW8:=HW6.out.trans (h68.mono HW6.out.size)
  have hx8:V8.heap[xb]? = some (.cells #[.int .i64 6,.int .i64 port,.int .u64 ad,.slice da dn dc,.pointer none,.pointer none,.bool false,.int .i64 1,.bool false,.int .u32 own] 111 (0,0)):=(h68.block xb (Array.getElem?_eq_some_iff.1 HX6.out).1).trans HX6.out
  have hlt8:xb < db ∧ db < V8.heap.size ∧ ab < xb ∧ w.heap.size ≤ xb:=by
    have e1:=HXB.out;have e2:=HB5.out.size;have e3:=HAS.out;have e4:=HB.out.size;have e5:=(Array.getElem?_eq_some_iff.1 HX6.out).1;have e6:=hb7.size;have e7:=(Array.getElem?_eq_some_iff.1 hd8).1
    omega
  have d0:V8.cell? ⟨db,0,none⟩ = some (.int .i64 K):=cell_blk hd8 rfl
  have d2:V8.cell? ⟨db,2,none⟩ = some (.bool SS):=cell_blk hd8 rfl
  have HDB:=Lib.hid hdb;have HB8:=Lib.hid hW8;have HX8:=Lib.hid hx8;have HD8:=Lib.hid hd8;have HLT:=Lib.hid hlt8
  clear m0 m1 m2 m3 m4 m5 p1 q0 q1 q2 q3 hb7 hb8 hs8 x8 hdb hd8 h68 hW8 hx8 hlt8
  obtain ⟨c0,c1,c2,c3,c4,c5⟩:=CX.out _ (BX.out _ HB8.out)
  have s0:V8.cell? ⟨sb,0,none⟩ = some (.int .i64 sp):=cell_blk (SX.out _ HB8.out) rfl
  have s1:V8.cell? ⟨sb,1,none⟩ = some (.bool sn):=cell_blk (SX.out _ HB8.out) rfl
  have s2:V8.cell? ⟨sb,2,none⟩ = some (.slice ma made.length mc):=cell_blk (SX.out _ HB8.out) rfl
  have s3:V8.cell? ⟨sb,3,none⟩ = some (.slice va valid.length vc):=cell_blk (SX.out _ HB8.out) rfl
  have q0:V8.cell? ⟨qb,0,none⟩ = some (.int .i64 6):=cell_blk (QX.out _ HB8.out) rfl
  have q1:V8.cell? ⟨qb,1,none⟩ = some (.int .i64 port):=cell_blk (QX.out _ HB8.out) rfl
  have q2:V8.cell? ⟨qb,2,none⟩ = some (.int .u64 ad):=cell_blk (QX.out _ HB8.out) rfl
  have q3:V8.cell? ⟨qb,3,none⟩ = some (.slice da dn dc):=cell_blk (QX.out _ HB8.out) rfl
  have hKk:K = (k:Int):=HKS.out.1.symm.trans hkK
  subst hKk
  have hSs:=HKS.out.2.symm.trans hSq
  subst hSs
  clear s0 s1 s2 s3 q1 q2
  clear q3
  obtain ⟨b,o,x0,x1,x2,x3,x4,x5,x6,e0,hbl,e1,-,hrw⟩:=(HXW.out.later HB8.out).rc.at7 wx.wc hk
  rw [row_at e1] at hk7
  obtain rfl:x0 = 2:=hk7
  have i0:(0:Int) ≤ (k:Int):=by omega
  have i1:(k:Int) < (c.chans.length:Int):=by omega
  have y0:=(hrw V8 (Below.refl _ _)).1
  subst e0
  clear e1 hrw hbl
  obtain ⟨V9,HV9,hb9,hs9,x9⟩:=box_new V8 #[.slice pa c.parts.length pc,.slice (some ⟨b,o,none⟩) c.chans.length cc,.int .i64 c.len0,.slice aa c.win0.length ac,.int .i64 c.len1,.slice ba c.win1.length bc,.int .i64 (k:Int),.int .i64 6,.int .u32 own,.bool SS,.slice none 0 0,.int .i64 0,.int .i64 0] 119
  obtain ⟨vb,hvb⟩:∃ n,n = V8.heap.size:=⟨_,rfl⟩
  have hv9:V9.heap[vb]? = some (.cells #[.slice pa c.parts.length pc,.slice (some ⟨b,o,none⟩) c.chans.length cc,.int .i64 c.len0,.slice aa c.win0.length ac,.int .i64 c.len1,.slice ba c.win1.length bc,.int .i64 (k:Int),.int .i64 6,.int .u32 own,.bool SS,.slice none 0 0,.int .i64 0,.int .i64 0] 119 (0,0)):=by rw [hvb];exact x9 _ (Below.refl _ _)
  have hx9:V9.heap[xb]? = some (.cells #[.int .i64 6,.int .i64 port,.int .u64 ad,.slice da dn dc,.pointer none,.pointer none,.bool false,.int .i64 1,.bool false,.int .u32 own] 111 (0,0)):=(hb9.block xb (Array.getElem?_eq_some_iff.1 HX8.out).1).trans HX8.out
  obtain ⟨Z1,HZ1⟩:∃ u,Hid (u = V9.setCell ⟨xb,5,none⟩ (.pointer (some ⟨vb,0,none⟩))):=⟨_,rfl⟩
  have hoZ:Only (fun k => k = xb) V9 Z1:=by rw [HZ1.out];exact Only.setCell V9 ⟨xb,5,none⟩ _
  have hlt:xb < vb ∧ ab < xb ∧ w.heap.size ≤ xb ∧ W.heap.size ≤ xb ∧ V8.heap.size = vb:=by
    have e1:=HLT.out;have e2:=HAS.out;have e3:=HXB.out;have e4:=HB5.out.size
    omega
  have hvZ:Z1.heap[vb]? = some (.cells #[.slice pa c.parts.length pc,.slice (some ⟨b,o,none⟩) c.chans.length cc,.int .i64 c.len0,.slice aa c.win0.length ac,.int .i64 c.len1,.slice ba c.win1.length bc,.int .i64 (k:Int),.int .i64 6,.int .u32 own,.bool SS,.slice none 0 0,.int .i64 0,.int .i64 0] 119 (0,0)):=hoZ.at_ hv9 (by omega)
  have hxZ:Z1.heap[xb]? = some (.cells #[.int .i64 6,.int .i64 port,.int .u64 ad,.slice da dn dc,.pointer none,.pointer (some ⟨vb,0,none⟩),.bool false,.int .i64 1,.bool false,.int .u32 own] 111 (0,0)):=by rw [HZ1.out];simp [World.setCell,Array.getElem?_modify,hx9]
  have fx:V9.frozen? ⟨xb,5,none⟩ = false:=by simp [World.frozen?,hx9]
  have gx:V9.cell? ⟨xb,5,none⟩ = some (.pointer none):=cell_blk hx9 rfl
  have hb89:=HB8.out.trans (hb9.mono HB8.out.size)
  have hbZ:=hb89.trans (hoZ.below hb89.size (fun j e => by omega))
  have z0:Z1.cell? ⟨qb,0,none⟩ = some (.int .i64 6):=cell_blk (QX.out _ hbZ) rfl
  have HBZ:=Lib.hid hbZ;have HXZ:=Lib.hid hxZ;have HVZ:=Lib.hid hvZ;have HVB:=Lib.hid hvb;have HLV:=Lib.hid hlt
  clear hb9 hs9 x9 hvb hv9 hx9 hoZ hlt hvZ hxZ hb89 hbZ
  have hth:=there_blk (W:=Z1) (AX.out _ HBZ.out) (n:=(#[.int .i64 0,.slice none 0 0,.bool false,.int .i64 0]:Array Value).size) rfl
  have hsz:(Tryz.prog.info? 42).map (·.size) = some (#[.int .i64 0,.slice none 0 0,.bool false,.int .i64 0]:Array Value).size:=ans_size
  go_wp2_with (first | (simp only [← HDB.out];rw [← HV8.out]) | (simp only [← HVB.out];rw [← HV9.out]) | (rw [← HZ1.out]) | (with_reducible refine wpList_store_mid (by kernel_rfl) _ _ _ rfl ab 0 #[.int .i64 0,.slice none 0 0,.bool false,.int .i64 0] (by kernel_rfl) (by kernel_rfl) hth hsz (by kernel_rfl) ?_))
  have hrg:=World.rangeAt_setCells_same Z1 ab 0 (#[.int .i64 0,.slice none 0 0,.bool false,.int .i64 0]:Array Value).toList (by simpa using hth)
  (try simp only [Exit.inBlock,Exit.then])
  refine bodyPost_ret (results_pm rfl _ _ ab (#[.int .i64 0,.slice none 0 0,.bool false,.int .i64 0]:Array Value).toList _ rfl hrg Tryz.underlying42 rfl ans_size rfl) rfl ?_
  have ho:=Only.sets (S:=fun j => j = ab) rfl (#[.int .i64 0,.slice none 0 0,.bool false,.int .i64 0]:Array Value).toList 0 (Only.refl _ Z1)
  exact ⟨xb,vb,rfl,ho.at_ HXZ.out (by have:=HLV.out;omega),ho.at_ HVZ.out (by have:=HLV.out;omega),HLV.out.2.2.1,HLV.out.1,below_setCells _ _ _ (HB.out.trans (HBZ.out.mono HB.out.size)) HAL.out⟩
theorem rbeg7q_b (c:Cfg) (x:CfgAt) (sp:Int) (sn:Bool) (own:Int) (made valid:List Int) (ma va:Option Addr) (mc vc:Nat) (port ad:Int) (da:Option Addr) (dn dc:Nat) (w:World) (hx:CfgIn w w.heap.size c x) (wx:CfgWf c) (lx:CfgFew c) (hs:SIn w made ma) (hv:SIn w valid va) (hp:(Lit.int .i64 port).wf = true) (had:(Lit.int .u64 ad).wf = true) (hdn:dn ≤ 1000000) (hz:refusedN c sp sn made 7 port ad dn = 0) (k:Nat) (hk:k < c.chans.length) (hkK:portK c port = (k:Int)) (SS:Bool) (hSq:portS c port = SS) (hk7:fld (row c.chans k) 0 = 2) :
    Calls Tryz.prog 13 #[.agg (cfgCells c x),.agg #[.int .i64 sp,.bool sn,.slice ma made.length mc,.slice va valid.length vc],.int .u32 own,.agg #[.int .i64 7,.int .i64 port,.int .u64 ad,.slice da dn dc]] w fun e w' => ∃ xb vb,e = .returned (.tuple #[.pointer (some ⟨xb,0,none⟩),.agg #[.int .i64 0,.slice none 0 0,.bool false,.int .i64 0]]) ∧ w'.heap[xb]? = some (.cells #[.int .i64 7,.int .i64 port,.int .u64 ad,.slice da dn dc,.pointer none,.pointer (some ⟨vb,0,none⟩),.bool false,.int .i64 1,.bool false,.int .u32 own] 111 (0,0)) ∧ w'.heap[vb]? = some (.cells #[.slice x.pa c.parts.length x.pc,.slice x.ca c.chans.length x.cc,.int .i64 c.len0,.slice x.aa c.win0.length x.ac,.int .i64 c.len1,.slice x.ba c.win1.length x.bc,.int .i64 (k:Int),.int .i64 7,.int .u32 own,.bool SS,.slice none 0 0,.int .i64 0,.int .i64 0] 119 (0,0)) ∧ w.heap.size ≤ xb ∧ xb < vb ∧ Below w.heap.size w w':=by
  obtain ⟨Wc,HWc,hBc,hWs,bx⟩:=one_cbox w c x 29
  obtain ⟨pa,pc,ca,cc,aa,ac,ba,bc⟩:=x
  obtain ⟨Ws,HWs,hBs,hWss,sx⟩:=box_new Wc #[.int .i64 sp,.bool sn,.slice ma made.length mc,.slice va valid.length vc] 32
  obtain ⟨Wq,HWq,hBq,hWq,qx⟩:=box_new Ws #[.int .i64 7,.int .i64 port,.int .u64 ad,.slice da dn dc] 36
  obtain ⟨W,HW,hBa,hWa,ax⟩:=box_new Wq #[.int .i64 0,.slice none 0 0,.bool false,.int .i64 0] 42
  have hQ:=hBq.trans (hBa.mono hBq.size)
  have hSQ:=hBs.trans (hQ.mono hBs.size)
  have hB:=hBc.trans (hSQ.mono hBc.size)
  have BX:Hid (∀ w',Below W.heap.size W w' → Below Wc.heap.size Wc w'):=Lib.hid (fun w' h => hSQ.trans (h.mono hSQ.size))
  have SX:Hid (∀ w',Below W.heap.size W w' → w'.heap[Wc.heap.size]? = some (.cells #[.int .i64 sp,.bool sn,.slice ma made.length mc,.slice va valid.length vc] 32 (0,0))):=Lib.hid (fun w' h => sx _ (hQ.trans (h.mono hQ.size)))
  have QX:Hid (∀ w',Below W.heap.size W w' → w'.heap[Ws.heap.size]? = some (.cells #[.int .i64 7,.int .i64 port,.int .u64 ad,.slice da dn dc] 36 (0,0))):=Lib.hid (fun w' h => qx _ (hBa.trans (h.mono hBa.size)))
  have AX:Hid (∀ w',Below W.heap.size W w' → w'.heap[Wq.heap.size]? = some (.cells #[.int .i64 0,.slice none 0 0,.bool false,.int .i64 0] 42 (0,0))):=Lib.hid (fun w' h => ax _ h)
  have hAL:w.heap.size ≤ Wq.heap.size:=(hBc.trans ((hBs.trans (hBq.mono hBs.size)).mono hBc.size)).size
  have hAS:=hWa
  obtain ⟨sb,hsb⟩:∃ n,n = Wc.heap.size:=⟨_,rfl⟩
  obtain ⟨qb,hqb⟩:∃ n,n = Ws.heap.size:=⟨_,rfl⟩
  obtain ⟨ab,hab⟩:∃ n,n = Wq.heap.size:=⟨_,rfl⟩
  rw [← hsb] at SX
  rw [← hqb] at QX
  rw [← hab] at AX hAL hAS
  have HAL:=Lib.hid hAL;have HAS:=Lib.hid hAS
  have HSB:=Lib.hid hsb;have HQB:=Lib.hid hqb;have HAB:=Lib.hid hab;have HB:=Lib.hid hB;have CX:=Lib.hid bx
  have HXW:=Lib.hid (hx.later hB);have HSW:=Lib.hid (hs.later hB);have HVW:=Lib.hid (hv.later hB);skip
  simp only [cfgCells] at HWc ⊢
  clear hBc hWs bx hBs hWss sx hBq hWq qx hBa hWa ax hQ hSQ hB hAL hAS hsb hqb hab hx hs hv
  have HREF:=Lib.hid (rrefused_is c ⟨pa,pc,ca,cc,aa,ac,ba,bc⟩ sp sn made ma mc va valid.length vc (7) port ad da dn dc 0 W HXW.out wx lx HSW.out hp had hdn hz)
  simp only [cfgCells] at HREF
  obtain ⟨c0,c1,c2,c3,c4,c5⟩:=CX.out _ (BX.out _ (Below.refl _ _))
  have s0:W.cell? ⟨sb,0,none⟩ = some (.int .i64 sp):=cell_blk (SX.out _ (Below.refl _ _)) rfl
  have s1:W.cell? ⟨sb,1,none⟩ = some (.bool sn):=cell_blk (SX.out _ (Below.refl _ _)) rfl
  have s2:W.cell? ⟨sb,2,none⟩ = some (.slice ma made.length mc):=cell_blk (SX.out _ (Below.refl _ _)) rfl
  have s3:W.cell? ⟨sb,3,none⟩ = some (.slice va valid.length vc):=cell_blk (SX.out _ (Below.refl _ _)) rfl
  have q0:W.cell? ⟨qb,0,none⟩ = some (.int .i64 7):=cell_blk (QX.out _ (Below.refl _ _)) rfl
  have q1:W.cell? ⟨qb,1,none⟩ = some (.int .i64 port):=cell_blk (QX.out _ (Below.refl _ _)) rfl
  have q2:W.cell? ⟨qb,2,none⟩ = some (.int .u64 ad):=cell_blk (QX.out _ (Below.refl _ _)) rfl
  have q3:W.cell? ⟨qb,3,none⟩ = some (.slice da dn dc):=cell_blk (QX.out _ (Below.refl _ _)) rfl
  go_enter Tryz.func13,Tryz.ntmps13
  go_wp2_with (first | (rw [← HWc.out]) | (simp only [← HSB.out];rw [← HWs.out]) | (simp only [← HQB.out];rw [← HWq.out]) | (simp only [← HAB.out];rw [← HW.out]))
  refine HREF.out.mono ?_
  rintro e w5 ⟨rfl,hb5⟩
  clear c0 c1 c2 c3 c4 c5 s0 s1 s2 s3 q0 q1 q2 q3
  have HB5:=Lib.hid hb5
  obtain ⟨c0,c1,c2,c3,c4,c5⟩:=CX.out _ (BX.out _ hb5)
  have s0:w5.cell? ⟨sb,0,none⟩ = some (.int .i64 sp):=cell_blk (SX.out _ hb5) rfl
  have s1:w5.cell? ⟨sb,1,none⟩ = some (.bool sn):=cell_blk (SX.out _ hb5) rfl
  have s2:w5.cell? ⟨sb,2,none⟩ = some (.slice ma made.length mc):=cell_blk (SX.out _ hb5) rfl
  have s3:w5.cell? ⟨sb,3,none⟩ = some (.slice va valid.length vc):=cell_blk (SX.out _ hb5) rfl
  have q0:w5.cell? ⟨qb,0,none⟩ = some (.int .i64 7):=cell_blk (QX.out _ hb5) rfl
  have q1:w5.cell? ⟨qb,1,none⟩ = some (.int .i64 port):=cell_blk (QX.out _ hb5) rfl
  have q2:w5.cell? ⟨qb,2,none⟩ = some (.int .u64 ad):=cell_blk (QX.out _ hb5) rfl
  have q3:w5.cell? ⟨qb,3,none⟩ = some (.slice da dn dc):=cell_blk (QX.out _ hb5) rfl
  clear hb5
  clear hz
  obtain ⟨K,hK⟩:∃ K,portK c port = K:=⟨_,rfl⟩
  obtain ⟨P,hP⟩:∃ P,portP c port = P:=⟨_,rfl⟩
  obtain ⟨SS,hSS⟩:∃ S,portS c port = S:=⟨_,rfl⟩
  obtain ⟨OO,hOO⟩:∃ S,portB c port = S:=⟨_,rfl⟩
  obtain ⟨V6,HV6,hb6,hs6,x6⟩:=box_new w5 #[.int .i64 7,.int .i64 port,.int .u64 ad,.slice da dn dc,.pointer none,.pointer none,.bool false,.int .i64 1,.bool false,.int .u32 own] 111
  obtain ⟨xb,hxb⟩:∃ n,n = w5.heap.size:=⟨_,rfl⟩
  rw [← hxb] at x6
  have hW6:=HB5.out.trans (hb6.mono HB5.out.size)
  have HP:=Lib.hid (rport_is c ⟨pa,pc,ca,cc,aa,ac,ba,bc⟩ port K P SS OO V6 (HXW.out.later hW6) wx lx hp ⟨hK,hP,hSS,hOO⟩)
  simp only [cfgCells] at HP
  have HXB:=Lib.hid hxb;have HW6:=Lib.hid hW6;have HX6:=Lib.hid (x6 _ (Below.refl _ _))
  have HKS:=Lib.hid (And.intro hK hSS)
  clear c0 c1 c2 c3 c4 c5 s0 s1 s2 s3 hK hP hSS hOO hb6 hs6 x6 hxb hW6
  obtain ⟨m0,m1,m2,m3,m4,m5⟩:=CX.out _ (BX.out _ HW6.out)
  have p1:V6.cell? ⟨qb,1,none⟩ = some (.int .i64 port):=cell_blk (QX.out _ HW6.out) rfl
  go_wp2_with (first | (simp only [← HXB.out];rw [← HV6.out]))
  refine HP.out.mono ?_
  rintro e w7 ⟨rfl,hb7⟩
  obtain ⟨V8,HV8,hb8,hs8,x8⟩:=box_new w7 #[.int .i64 K,.int .i64 P,.bool SS,.bool OO] 113
  obtain ⟨db,hdb⟩:∃ n,n = w7.heap.size:=⟨_,rfl⟩
  have hd8:V8.heap[db]? = some (.cells #[.int .i64 K,.int .i64 P,.bool SS,.bool OO] 113 (0,0)):=by rw [hdb];exact x8 _ (Below.refl _ _)
  have h68:=hb7.trans (hb8.mono hb7.size)
  have hW8:=HW6.out.trans (h68.mono HW6.out.size)
  have hx8:V8.heap[xb]? = some (.cells #[.int .i64 7,.int .i64 port,.int .u64 ad,.slice da dn dc,.pointer none,.pointer none,.bool false,.int .i64 1,.bool false,.int .u32 own] 111 (0,0)):=(h68.block xb (Array.getElem?_eq_some_iff.1 HX6.out).1).trans HX6.out
  have hlt8:xb < db ∧ db < V8.heap.size ∧ ab < xb ∧ w.heap.size ≤ xb:=by
    have e1:=HXB.out;have e2:=HB5.out.size;have e3:=HAS.out;have e4:=HB.out.size;have e5:=(Array.getElem?_eq_some_iff.1 HX6.out).1;have e6:=hb7.size;have e7:=(Array.getElem?_eq_some_iff.1 hd8).1
    omega
  have d0:V8.cell? ⟨db,0,none⟩ = some (.int .i64 K):=cell_blk hd8 rfl
  have d2:V8.cell? ⟨db,2,none⟩ = some (.bool SS):=cell_blk hd8 rfl
  have HDB:=Lib.hid hdb;have HB8:=Lib.hid hW8;have HX8:=Lib.hid hx8;have HD8:=Lib.hid hd8;have HLT:=Lib.hid hlt8
  clear m0 m1 m2 m3 m4 m5 p1 q0 q1 q2 q3 hb7 hb8 hs8 x8 hdb hd8 h68 hW8 hx8 hlt8
  obtain ⟨c0,c1,c2,c3,c4,c5⟩:=CX.out _ (BX.out _ HB8.out)
  have s0:V8.cell? ⟨sb,0,none⟩ = some (.int .i64 sp):=cell_blk (SX.out _ HB8.out) rfl
  have s1:V8.cell? ⟨sb,1,none⟩ = some (.bool sn):=cell_blk (SX.out _ HB8.out) rfl
  have s2:V8.cell? ⟨sb,2,none⟩ = some (.slice ma made.length mc):=cell_blk (SX.out _ HB8.out) rfl
  have s3:V8.cell? ⟨sb,3,none⟩ = some (.slice va valid.length vc):=cell_blk (SX.out _ HB8.out) rfl
  have q0:V8.cell? ⟨qb,0,none⟩ = some (.int .i64 7):=cell_blk (QX.out _ HB8.out) rfl
  have q1:V8.cell? ⟨qb,1,none⟩ = some (.int .i64 port):=cell_blk (QX.out _ HB8.out) rfl
  have q2:V8.cell? ⟨qb,2,none⟩ = some (.int .u64 ad):=cell_blk (QX.out _ HB8.out) rfl
  have q3:V8.cell? ⟨qb,3,none⟩ = some (.slice da dn dc):=cell_blk (QX.out _ HB8.out) rfl
  have hKk:K = (k:Int):=HKS.out.1.symm.trans hkK
  subst hKk
  have hSs:=HKS.out.2.symm.trans hSq
  subst hSs
  clear s0 s1 s2 s3 q1 q2
  clear q3
  obtain ⟨b,o,x0,x1,x2,x3,x4,x5,x6,e0,hbl,e1,-,hrw⟩:=(HXW.out.later HB8.out).rc.at7 wx.wc hk
  rw [row_at e1] at hk7
  obtain rfl:x0 = 2:=hk7
  have i0:(0:Int) ≤ (k:Int):=by omega
  have i1:(k:Int) < (c.chans.length:Int):=by omega
  have y0:=(hrw V8 (Below.refl _ _)).1
  subst e0
  clear e1 hrw hbl
  obtain ⟨V9,HV9,hb9,hs9,x9⟩:=box_new V8 #[.slice pa c.parts.length pc,.slice (some ⟨b,o,none⟩) c.chans.length cc,.int .i64 c.len0,.slice aa c.win0.length ac,.int .i64 c.len1,.slice ba c.win1.length bc,.int .i64 (k:Int),.int .i64 7,.int .u32 own,.bool SS,.slice none 0 0,.int .i64 0,.int .i64 0] 119
  obtain ⟨vb,hvb⟩:∃ n,n = V8.heap.size:=⟨_,rfl⟩
  have hv9:V9.heap[vb]? = some (.cells #[.slice pa c.parts.length pc,.slice (some ⟨b,o,none⟩) c.chans.length cc,.int .i64 c.len0,.slice aa c.win0.length ac,.int .i64 c.len1,.slice ba c.win1.length bc,.int .i64 (k:Int),.int .i64 7,.int .u32 own,.bool SS,.slice none 0 0,.int .i64 0,.int .i64 0] 119 (0,0)):=by rw [hvb];exact x9 _ (Below.refl _ _)
  have hx9:V9.heap[xb]? = some (.cells #[.int .i64 7,.int .i64 port,.int .u64 ad,.slice da dn dc,.pointer none,.pointer none,.bool false,.int .i64 1,.bool false,.int .u32 own] 111 (0,0)):=(hb9.block xb (Array.getElem?_eq_some_iff.1 HX8.out).1).trans HX8.out
  obtain ⟨Z1,HZ1⟩:∃ u,Hid (u = V9.setCell ⟨xb,5,none⟩ (.pointer (some ⟨vb,0,none⟩))):=⟨_,rfl⟩
  have hoZ:Only (fun k => k = xb) V9 Z1:=by rw [HZ1.out];exact Only.setCell V9 ⟨xb,5,none⟩ _
  have hlt:xb < vb ∧ ab < xb ∧ w.heap.size ≤ xb ∧ W.heap.size ≤ xb ∧ V8.heap.size = vb:=by
    have e1:=HLT.out;have e2:=HAS.out;have e3:=HXB.out;have e4:=HB5.out.size
    omega
  have hvZ:Z1.heap[vb]? = some (.cells #[.slice pa c.parts.length pc,.slice (some ⟨b,o,none⟩) c.chans.length cc,.int .i64 c.len0,.slice aa c.win0.length ac,.int .i64 c.len1,.slice ba c.win1.length bc,.int .i64 (k:Int),.int .i64 7,.int .u32 own,.bool SS,.slice none 0 0,.int .i64 0,.int .i64 0] 119 (0,0)):=hoZ.at_ hv9 (by omega)
  have hxZ:Z1.heap[xb]? = some (.cells #[.int .i64 7,.int .i64 port,.int .u64 ad,.slice da dn dc,.pointer none,.pointer (some ⟨vb,0,none⟩),.bool false,.int .i64 1,.bool false,.int .u32 own] 111 (0,0)):=by rw [HZ1.out];simp [World.setCell,Array.getElem?_modify,hx9]
  have fx:V9.frozen? ⟨xb,5,none⟩ = false:=by simp [World.frozen?,hx9]
  have gx:V9.cell? ⟨xb,5,none⟩ = some (.pointer none):=cell_blk hx9 rfl
  have hb89:=HB8.out.trans (hb9.mono HB8.out.size)
  have hbZ:=hb89.trans (hoZ.below hb89.size (fun j e => by omega))
  have z0:Z1.cell? ⟨qb,0,none⟩ = some (.int .i64 7):=cell_blk (QX.out _ hbZ) rfl
  have HBZ:=Lib.hid hbZ;have HXZ:=Lib.hid hxZ;have HVZ:=Lib.hid hvZ;have HVB:=Lib.hid hvb;have HLV:=Lib.hid hlt
  clear hb9 hs9 x9 hvb hv9 hx9 hoZ hlt hvZ hxZ hb89 hbZ
  have hth:=there_blk (W:=Z1) (AX.out _ HBZ.out) (n:=(#[.int .i64 0,.slice none 0 0,.bool false,.int .i64 0]:Array Value).size) rfl
  have hsz:(Tryz.prog.info? 42).map (·.size) = some (#[.int .i64 0,.slice none 0 0,.bool false,.int .i64 0]:Array Value).size:=ans_size
  go_wp2_with (first | (simp only [← HDB.out];rw [← HV8.out]) | (simp only [← HVB.out];rw [← HV9.out]) | (rw [← HZ1.out]) | (with_reducible refine wpList_store_mid (by kernel_rfl) _ _ _ rfl ab 0 #[.int .i64 0,.slice none 0 0,.bool false,.int .i64 0] (by kernel_rfl) (by kernel_rfl) hth hsz (by kernel_rfl) ?_))
  have hrg:=World.rangeAt_setCells_same Z1 ab 0 (#[.int .i64 0,.slice none 0 0,.bool false,.int .i64 0]:Array Value).toList (by simpa using hth)
  (try simp only [Exit.inBlock,Exit.then])
  refine bodyPost_ret (results_pm rfl _ _ ab (#[.int .i64 0,.slice none 0 0,.bool false,.int .i64 0]:Array Value).toList _ rfl hrg Tryz.underlying42 rfl ans_size rfl) rfl ?_
  have ho:=Only.sets (S:=fun j => j = ab) rfl (#[.int .i64 0,.slice none 0 0,.bool false,.int .i64 0]:Array Value).toList 0 (Only.refl _ Z1)
  exact ⟨xb,vb,rfl,ho.at_ HXZ.out (by have:=HLV.out;omega),ho.at_ HVZ.out (by have:=HLV.out;omega),HLV.out.2.2.1,HLV.out.1,below_setCells _ _ _ (HB.out.trans (HBZ.out.mono HB.out.size)) HAL.out⟩
theorem rbeg3_b (c:Cfg) (x:CfgAt) (sp:Int) (sn:Bool) (own:Int) (made valid:List Int) (ma va:Option Addr) (mc vc:Nat) (port ad:Int) (da:Option Addr) (dn dc:Nat) (w:World) (hx:CfgIn w w.heap.size c x) (wx:CfgWf c) (lx:CfgFew c) (hs:SIn w made ma) (hv:SIn w valid va) (hp:(Lit.int .i64 port).wf = true) (had:(Lit.int .u64 ad).wf = true) (hdn:dn ≤ 1000000) (hz:refusedN c sp sn made 3 port ad dn = 0) (k:Nat) (hk:k < c.chans.length) (hkK:portK c port = (k:Int)) (SS:Bool) (hSq:portS c port = SS) (ds:List Int) (hdl:dn = ds.length) (hdr:IntRowK .u32 w w.heap.size da ds) (hn:1 ≤ ds.length ∧ ds.length ≤ 100) :
    Calls Tryz.prog 13 #[.agg (cfgCells c x),.agg #[.int .i64 sp,.bool sn,.slice ma made.length mc,.slice va valid.length vc],.int .u32 own,.agg #[.int .i64 3,.int .i64 port,.int .u64 ad,.slice da dn dc]] w fun e w' => ∃ xb vb dv,e = .returned (.tuple #[.pointer (some ⟨xb,0,none⟩),.agg #[.int .i64 0,.slice none 0 0,.bool false,.int .i64 0]]) ∧ w'.heap[xb]? = some (.cells #[.int .i64 3,.int .i64 port,.int .u64 ad,.slice da dn dc,.pointer (some ⟨vb,0,none⟩),.pointer none,.bool false,.int .i64 1,.bool false,.int .u32 own] 111 (0,0)) ∧ w'.heap[vb]? = some (.cells #[.slice x.pa c.parts.length x.pc,.slice x.ca c.chans.length x.cc,.int .i64 c.len0,.slice x.aa c.win0.length x.ac,.int .i64 c.len1,.slice x.ba c.win1.length x.bc,.int .i64 (k:Int),.bool true,dv,.int .i64 0,.int .i64 0,.int .i64 0,.int .i64 0,.int .i64 0,.bool false] 116 (0,0)) ∧ OwnsOff w' 0 45 1 dv ds.length (wcells ds) ∧ (∀ j,Value.ownBlock dv = some j → w.heap.size ≤ j ∧ j ≠ vb ∧ j ≠ xb) ∧ w.heap.size ≤ xb ∧ xb < vb ∧ Below w.heap.size w w':=by
  subst hdl
  obtain ⟨g,off,hda,hgl,hgc⟩:=hdr (by omega)
  subst hda
  obtain ⟨Wc,HWc,hBc,hWs,bx⟩:=one_cbox w c x 29
  obtain ⟨pa,pc,ca,cc,aa,ac,ba,bc⟩:=x
  obtain ⟨Ws,HWs,hBs,hWss,sx⟩:=box_new Wc #[.int .i64 sp,.bool sn,.slice ma made.length mc,.slice va valid.length vc] 32
  obtain ⟨Wq,HWq,hBq,hWq,qx⟩:=box_new Ws #[.int .i64 3,.int .i64 port,.int .u64 ad,.slice (some ⟨g,off,none⟩) ds.length dc] 36
  obtain ⟨W,HW,hBa,hWa,ax⟩:=box_new Wq #[.int .i64 0,.slice none 0 0,.bool false,.int .i64 0] 42
  have hQ:=hBq.trans (hBa.mono hBq.size)
  have hSQ:=hBs.trans (hQ.mono hBs.size)
  have hB:=hBc.trans (hSQ.mono hBc.size)
  have BX:Hid (∀ w',Below W.heap.size W w' → Below Wc.heap.size Wc w'):=Lib.hid (fun w' h => hSQ.trans (h.mono hSQ.size))
  have SX:Hid (∀ w',Below W.heap.size W w' → w'.heap[Wc.heap.size]? = some (.cells #[.int .i64 sp,.bool sn,.slice ma made.length mc,.slice va valid.length vc] 32 (0,0))):=Lib.hid (fun w' h => sx _ (hQ.trans (h.mono hQ.size)))
  have QX:Hid (∀ w',Below W.heap.size W w' → w'.heap[Ws.heap.size]? = some (.cells #[.int .i64 3,.int .i64 port,.int .u64 ad,.slice (some ⟨g,off,none⟩) ds.length dc] 36 (0,0))):=Lib.hid (fun w' h => qx _ (hBa.trans (h.mono hBa.size)))
  have AX:Hid (∀ w',Below W.heap.size W w' → w'.heap[Wq.heap.size]? = some (.cells #[.int .i64 0,.slice none 0 0,.bool false,.int .i64 0] 42 (0,0))):=Lib.hid (fun w' h => ax _ h)
  have hAL:w.heap.size ≤ Wq.heap.size:=(hBc.trans ((hBs.trans (hBq.mono hBs.size)).mono hBc.size)).size
  have hAS:=hWa
  obtain ⟨sb,hsb⟩:∃ n,n = Wc.heap.size:=⟨_,rfl⟩
  obtain ⟨qb,hqb⟩:∃ n,n = Ws.heap.size:=⟨_,rfl⟩
  obtain ⟨ab,hab⟩:∃ n,n = Wq.heap.size:=⟨_,rfl⟩
  rw [← hsb] at SX
  rw [← hqb] at QX
  rw [← hab] at AX hAL hAS
  have HAL:=Lib.hid hAL;have HAS:=Lib.hid hAS
  have HSB:=Lib.hid hsb;have HQB:=Lib.hid hqb;have HAB:=Lib.hid hab;have HB:=Lib.hid hB;have CX:=Lib.hid bx
  have HXW:=Lib.hid (hx.later hB);have HSW:=Lib.hid (hs.later hB);have HVW:=Lib.hid (hv.later hB);skip
  simp only [cfgCells] at HWc ⊢
  clear hBc hWs bx hBs hWss sx hBq hWq qx hBa hWa ax hQ hSQ hB hAL hAS hsb hqb hab hx hs hv
  have HREF:=Lib.hid (rrefused_is c ⟨pa,pc,ca,cc,aa,ac,ba,bc⟩ sp sn made ma mc va valid.length vc (3) port ad (some ⟨g,off,none⟩) ds.length dc 0 W HXW.out wx lx HSW.out hp had hdn hz)
  simp only [cfgCells] at HREF
  obtain ⟨c0,c1,c2,c3,c4,c5⟩:=CX.out _ (BX.out _ (Below.refl _ _))
  have s0:W.cell? ⟨sb,0,none⟩ = some (.int .i64 sp):=cell_blk (SX.out _ (Below.refl _ _)) rfl
  have s1:W.cell? ⟨sb,1,none⟩ = some (.bool sn):=cell_blk (SX.out _ (Below.refl _ _)) rfl
  have s2:W.cell? ⟨sb,2,none⟩ = some (.slice ma made.length mc):=cell_blk (SX.out _ (Below.refl _ _)) rfl
  have s3:W.cell? ⟨sb,3,none⟩ = some (.slice va valid.length vc):=cell_blk (SX.out _ (Below.refl _ _)) rfl
  have q0:W.cell? ⟨qb,0,none⟩ = some (.int .i64 3):=cell_blk (QX.out _ (Below.refl _ _)) rfl
  have q1:W.cell? ⟨qb,1,none⟩ = some (.int .i64 port):=cell_blk (QX.out _ (Below.refl _ _)) rfl
  have q2:W.cell? ⟨qb,2,none⟩ = some (.int .u64 ad):=cell_blk (QX.out _ (Below.refl _ _)) rfl
  have q3:W.cell? ⟨qb,3,none⟩ = some (.slice (some ⟨g,off,none⟩) ds.length dc):=cell_blk (QX.out _ (Below.refl _ _)) rfl
  go_enter Tryz.func13,Tryz.ntmps13
  go_wp2_with (first | (rw [← HWc.out]) | (simp only [← HSB.out];rw [← HWs.out]) | (simp only [← HQB.out];rw [← HWq.out]) | (simp only [← HAB.out];rw [← HW.out]))
  refine HREF.out.mono ?_
  rintro e w5 ⟨rfl,hb5⟩
  clear c0 c1 c2 c3 c4 c5 s0 s1 s2 s3 q0 q1 q2 q3
  have HB5:=Lib.hid hb5
  obtain ⟨c0,c1,c2,c3,c4,c5⟩:=CX.out _ (BX.out _ hb5)
  have s0:w5.cell? ⟨sb,0,none⟩ = some (.int .i64 sp):=cell_blk (SX.out _ hb5) rfl
  have s1:w5.cell? ⟨sb,1,none⟩ = some (.bool sn):=cell_blk (SX.out _ hb5) rfl
  have s2:w5.cell? ⟨sb,2,none⟩ = some (.slice ma made.length mc):=cell_blk (SX.out _ hb5) rfl
  have s3:w5.cell? ⟨sb,3,none⟩ = some (.slice va valid.length vc):=cell_blk (SX.out _ hb5) rfl
  have q0:w5.cell? ⟨qb,0,none⟩ = some (.int .i64 3):=cell_blk (QX.out _ hb5) rfl
  have q1:w5.cell? ⟨qb,1,none⟩ = some (.int .i64 port):=cell_blk (QX.out _ hb5) rfl
  have q2:w5.cell? ⟨qb,2,none⟩ = some (.int .u64 ad):=cell_blk (QX.out _ hb5) rfl
  have q3:w5.cell? ⟨qb,3,none⟩ = some (.slice (some ⟨g,off,none⟩) ds.length dc):=cell_blk (QX.out _ hb5) rfl
  clear hb5
  clear hz
  obtain ⟨K,hK⟩:∃ K,portK c port = K:=⟨_,rfl⟩
  obtain ⟨P,hP⟩:∃ P,portP c port = P:=⟨_,rfl⟩
  obtain ⟨SS,hSS⟩:∃ S,portS c port = S:=⟨_,rfl⟩
  obtain ⟨OO,hOO⟩:∃ S,portB c port = S:=⟨_,rfl⟩
  obtain ⟨V6,HV6,hb6,hs6,x6⟩:=box_new w5 #[.int .i64 3,.int .i64 port,.int .u64 ad,.slice (some ⟨g,off,none⟩) ds.length dc,.pointer none,.pointer none,.bool false,.int .i64 1,.bool false,.int .u32 own] 111
  obtain ⟨xb,hxb⟩:∃ n,n = w5.heap.size:=⟨_,rfl⟩
  rw [← hxb] at x6
  have hW6:=HB5.out.trans (hb6.mono HB5.out.size)
  have HP:=Lib.hid (rport_is c ⟨pa,pc,ca,cc,aa,ac,ba,bc⟩ port K P SS OO V6 (HXW.out.later hW6) wx lx hp ⟨hK,hP,hSS,hOO⟩)
  simp only [cfgCells] at HP
  have HXB:=Lib.hid hxb;have HW6:=Lib.hid hW6;have HX6:=Lib.hid (x6 _ (Below.refl _ _))
  have HKS:=Lib.hid (And.intro hK hSS)
  clear c0 c1 c2 c3 c4 c5 s0 s1 s2 s3 hK hP hSS hOO hb6 hs6 x6 hxb hW6
  obtain ⟨m0,m1,m2,m3,m4,m5⟩:=CX.out _ (BX.out _ HW6.out)
  have p1:V6.cell? ⟨qb,1,none⟩ = some (.int .i64 port):=cell_blk (QX.out _ HW6.out) rfl
  go_wp2_with (first | (simp only [← HXB.out];rw [← HV6.out]))
  refine HP.out.mono ?_
  rintro e w7 ⟨rfl,hb7⟩
  obtain ⟨V8,HV8,hb8,hs8,x8⟩:=box_new w7 #[.int .i64 K,.int .i64 P,.bool SS,.bool OO] 113
  obtain ⟨db,hdb⟩:∃ n,n = w7.heap.size:=⟨_,rfl⟩
  have hd8:V8.heap[db]? = some (.cells #[.int .i64 K,.int .i64 P,.bool SS,.bool OO] 113 (0,0)):=by rw [hdb];exact x8 _ (Below.refl _ _)
  have h68:=hb7.trans (hb8.mono hb7.size)
  have hW8:=HW6.out.trans (h68.mono HW6.out.size)
  have hx8:V8.heap[xb]? = some (.cells #[.int .i64 3,.int .i64 port,.int .u64 ad,.slice (some ⟨g,off,none⟩) ds.length dc,.pointer none,.pointer none,.bool false,.int .i64 1,.bool false,.int .u32 own] 111 (0,0)):=(h68.block xb (Array.getElem?_eq_some_iff.1 HX6.out).1).trans HX6.out
  have hlt8:xb < db ∧ db < V8.heap.size ∧ ab < xb ∧ w.heap.size ≤ xb:=by
    have e1:=HXB.out;have e2:=HB5.out.size;have e3:=HAS.out;have e4:=HB.out.size;have e5:=(Array.getElem?_eq_some_iff.1 HX6.out).1;have e6:=hb7.size;have e7:=(Array.getElem?_eq_some_iff.1 hd8).1
    omega
  have d0:V8.cell? ⟨db,0,none⟩ = some (.int .i64 K):=cell_blk hd8 rfl
  have d2:V8.cell? ⟨db,2,none⟩ = some (.bool SS):=cell_blk hd8 rfl
  have HDB:=Lib.hid hdb;have HB8:=Lib.hid hW8;have HX8:=Lib.hid hx8;have HD8:=Lib.hid hd8;have HLT:=Lib.hid hlt8
  clear m0 m1 m2 m3 m4 m5 p1 q0 q1 q2 q3 hb7 hb8 hs8 x8 hdb hd8 h68 hW8 hx8 hlt8
  obtain ⟨c0,c1,c2,c3,c4,c5⟩:=CX.out _ (BX.out _ HB8.out)
  have s0:V8.cell? ⟨sb,0,none⟩ = some (.int .i64 sp):=cell_blk (SX.out _ HB8.out) rfl
  have s1:V8.cell? ⟨sb,1,none⟩ = some (.bool sn):=cell_blk (SX.out _ HB8.out) rfl
  have s2:V8.cell? ⟨sb,2,none⟩ = some (.slice ma made.length mc):=cell_blk (SX.out _ HB8.out) rfl
  have s3:V8.cell? ⟨sb,3,none⟩ = some (.slice va valid.length vc):=cell_blk (SX.out _ HB8.out) rfl
  have q0:V8.cell? ⟨qb,0,none⟩ = some (.int .i64 3):=cell_blk (QX.out _ HB8.out) rfl
  have q1:V8.cell? ⟨qb,1,none⟩ = some (.int .i64 port):=cell_blk (QX.out _ HB8.out) rfl
  have q2:V8.cell? ⟨qb,2,none⟩ = some (.int .u64 ad):=cell_blk (QX.out _ HB8.out) rfl
  have q3:V8.cell? ⟨qb,3,none⟩ = some (.slice (some ⟨g,off,none⟩) ds.length dc):=cell_blk (QX.out _ HB8.out) rfl
  have hKk:K = (k:Int):=HKS.out.1.symm.trans hkK
  subst hKk
  have hSs:=HKS.out.2.symm.trans hSq
  subst hSs
  clear s0 s1 s2 s3 q1 q2
  obtain ⟨V9,HV9,hb9,hs9,x9⟩:=box_new V8 #[.slice pa c.parts.length pc,.slice ca c.chans.length cc,.int .i64 c.len0,.slice aa c.win0.length ac,.int .i64 c.len1,.slice ba c.win1.length bc,.int .i64 (k:Int),.bool true,.slice none 0 0,.int .i64 0,.int .i64 0,.int .i64 0,.int .i64 0,.int .i64 0,.bool false] 116
  obtain ⟨vb,hvb⟩:∃ n,n = V8.heap.size:=⟨_,rfl⟩
  have hv9:V9.heap[vb]? = some (.cells #[.slice pa c.parts.length pc,.slice ca c.chans.length cc,.int .i64 c.len0,.slice aa c.win0.length ac,.int .i64 c.len1,.slice ba c.win1.length bc,.int .i64 (k:Int),.bool true,.slice none 0 0,.int .i64 0,.int .i64 0,.int .i64 0,.int .i64 0,.int .i64 0,.bool false] 116 (0,0)):=by rw [hvb];exact x9 _ (Below.refl _ _)
  have hx9:V9.heap[xb]? = some (.cells #[.int .i64 3,.int .i64 port,.int .u64 ad,.slice (some ⟨g,off,none⟩) ds.length dc,.pointer none,.pointer none,.bool false,.int .i64 1,.bool false,.int .u32 own] 111 (0,0)):=(hb9.block xb (Array.getElem?_eq_some_iff.1 HX8.out).1).trans HX8.out
  obtain ⟨Z1,HZ1⟩:∃ u,Hid (u = V9.setCell ⟨xb,4,none⟩ (.pointer (some ⟨vb,0,none⟩))):=⟨_,rfl⟩
  have hoZ:Only (fun k => k = xb) V9 Z1:=by rw [HZ1.out];exact Only.setCell V9 ⟨xb,4,none⟩ _
  have hlt:xb < vb ∧ ab < xb ∧ w.heap.size ≤ xb ∧ W.heap.size ≤ xb ∧ V8.heap.size = vb:=by
    have e1:=HLT.out;have e2:=HAS.out;have e3:=HXB.out;have e4:=HB5.out.size
    omega
  have hvZ:Z1.heap[vb]? = some (.cells #[.slice pa c.parts.length pc,.slice ca c.chans.length cc,.int .i64 c.len0,.slice aa c.win0.length ac,.int .i64 c.len1,.slice ba c.win1.length bc,.int .i64 (k:Int),.bool true,.slice none 0 0,.int .i64 0,.int .i64 0,.int .i64 0,.int .i64 0,.int .i64 0,.bool false] 116 (0,0)):=hoZ.at_ hv9 (by omega)
  have hxZ:Z1.heap[xb]? = some (.cells #[.int .i64 3,.int .i64 port,.int .u64 ad,.slice (some ⟨g,off,none⟩) ds.length dc,.pointer (some ⟨vb,0,none⟩),.pointer none,.bool false,.int .i64 1,.bool false,.int .u32 own] 111 (0,0)):=by rw [HZ1.out];simp [World.setCell,Array.getElem?_modify,hx9]
  have fx:V9.frozen? ⟨xb,4,none⟩ = false:=by simp [World.frozen?,hx9]
  have gx:V9.cell? ⟨xb,4,none⟩ = some (.pointer none):=cell_blk hx9 rfl
  have hb89:=HB8.out.trans (hb9.mono HB8.out.size)
  have hbZ:=hb89.trans (hoZ.below hb89.size (fun j e => by omega))
  have z0:Z1.cell? ⟨qb,0,none⟩ = some (.int .i64 3):=cell_blk (QX.out _ hbZ) rfl
  have HBZ:=Lib.hid hbZ;have HXZ:=Lib.hid hxZ;have HVZ:=Lib.hid hvZ;have HVB:=Lib.hid hvb;have HLV:=Lib.hid hlt
  have HGC:=Lib.hid (fun (V:World) (hb:Below W.heap.size W V) (j:Nat) (hj:j < ds.length) => ((HB.out.trans (hb.mono HB.out.size)).cell (p:=⟨g,off + j,none⟩) hgl).trans (hgc j hj))
  have z3:Z1.cell? ⟨qb,3,none⟩ = some (.slice (some ⟨g,off,none⟩) ds.length dc):=cell_blk (QX.out _ hbZ) rfl
  have zx:Z1.cell? ⟨xb,4,none⟩ = some (.pointer (some ⟨vb,0,none⟩)):=cell_blk hxZ rfl
  have zv:Z1.cell? ⟨vb,8,none⟩ = some (.slice none 0 0):=cell_blk hvZ rfl
  obtain ⟨i0_,hi0,hz0,hz1,hz2⟩:=info_parts Tryz.infoW
  clear hb9 hs9 x9 hvb hv9 hx9 hoZ hlt hvZ hxZ hb89 hbZ hgc q3
  go_wp2_with (first | (simp only [← HDB.out];rw [← HV8.out]) | (simp only [← HVB.out];rw [← HV9.out]) | (rw [← HZ1.out]))
  refine wp_region_till (fun W' => W'.cell? ⟨xb,4,none⟩ = some (.pointer (some ⟨vb,0,none⟩)) ∧ W'.cell? ⟨vb,8,none⟩ = some (.slice none 0 0) ∧ W'.cell? ⟨qb,3,none⟩ = some (.slice (some ⟨g,off,none⟩) ds.length dc)) 16 (by kernel_rfl) (by exact ⟨zx,zv,z3⟩) (fun hHeld => ?_)
  refine till_take (i:=0) rfl (by kernel_rfl) (by kernel_rfl) (by kernel_rfl) (fun _ _ _ h => h) (by kernel_rfl) (Or.inl ⟨by rfl,by intro w _;(go_simp <;> with_reducible rfl)⟩) (by assumption) ?_
  (try simp only [Act.put,List.setIfInBounds_toArray,List.set_cons_zero,List.set_cons_succ,List.getElem_toArray,List.getElem_cons_zero,List.getElem_cons_succ])
  refine till_take (i:=1) rfl (by kernel_rfl) (by kernel_rfl) (by kernel_rfl) (fun _ _ _ h => h) (by kernel_rfl) (Or.inl ⟨by rfl,by intro w _;(go_simp <;> with_reducible rfl)⟩) (by assumption) ?_
  (try simp only [Act.put,List.setIfInBounds_toArray,List.set_cons_zero,List.set_cons_succ,List.getElem_toArray,List.getElem_cons_zero,List.getElem_cons_succ])
  refine till_take (i:=2) rfl (by kernel_rfl) (by kernel_rfl) (by kernel_rfl) (fun _ _ _ h => h) (by kernel_rfl) (Or.inl ⟨by rfl,by intro w _;(go_simp <;> with_reducible rfl)⟩) (by assumption) ?_
  (try simp only [Act.put,List.setIfInBounds_toArray,List.set_cons_zero,List.set_cons_succ,List.getElem_toArray,List.getElem_cons_zero,List.getElem_cons_succ])
  refine till_load (i:=3) rfl (by kernel_rfl) (by kernel_rfl) (by kernel_rfl) (fun _ _ _ h => h) (by kernel_rfl) (by kernel_rfl) (by kernel_rfl) (Or.inl ⟨by rfl,by intro w hSw;(have y0_:=hSw.1;have y1_:=hSw.2.1;have y2_:=hSw.2.2);(go_simp <;> with_reducible rfl)⟩) (by assumption) ?_
  (try simp only [Act.put,List.setIfInBounds_toArray,List.set_cons_zero,List.set_cons_succ,List.getElem_toArray,List.getElem_cons_zero,List.getElem_cons_succ])
  refine till_take (i:=4) rfl (by kernel_rfl) (by kernel_rfl) (by kernel_rfl) (fun _ _ _ h => h) (by kernel_rfl) (Or.inl ⟨by rfl,by intro w _;(go_simp <;> with_reducible rfl)⟩) (by assumption) ?_
  (try simp only [Act.put,List.setIfInBounds_toArray,List.set_cons_zero,List.set_cons_succ,List.getElem_toArray,List.getElem_cons_zero,List.getElem_cons_succ])
  refine till_take (i:=5) rfl (by kernel_rfl) (by kernel_rfl) (by kernel_rfl) (fun _ _ _ h => h) (by kernel_rfl) (Or.inl ⟨by rfl,by intro w _;(go_simp <;> with_reducible rfl)⟩) (by assumption) ?_
  (try simp only [Act.put,List.setIfInBounds_toArray,List.set_cons_zero,List.set_cons_succ,List.getElem_toArray,List.getElem_cons_zero,List.getElem_cons_succ])
  refine till_take (i:=6) rfl (by kernel_rfl) (by kernel_rfl) (by kernel_rfl) (fun _ _ _ h => h) (by kernel_rfl) (Or.inl ⟨by rfl,by intro w _;(go_simp <;> with_reducible rfl)⟩) (by assumption) ?_
  (try simp only [Act.put,List.setIfInBounds_toArray,List.set_cons_zero,List.set_cons_succ,List.getElem_toArray,List.getElem_cons_zero,List.getElem_cons_succ])
  refine till_load (i:=7) rfl (by kernel_rfl) (by kernel_rfl) (by kernel_rfl) (fun _ _ _ h => h) (by kernel_rfl) (by kernel_rfl) (by kernel_rfl) (Or.inl ⟨by rfl,by intro w hSw;(have y0_:=hSw.1;have y1_:=hSw.2.1;have y2_:=hSw.2.2);(go_simp <;> with_reducible rfl)⟩) (by assumption) ?_
  (try simp only [Act.put,List.setIfInBounds_toArray,List.set_cons_zero,List.set_cons_succ,List.getElem_toArray,List.getElem_cons_zero,List.getElem_cons_succ])
  refine till_take (i:=8) rfl (by kernel_rfl) (by kernel_rfl) (by kernel_rfl) (fun _ _ _ h => h) (by kernel_rfl) (Or.inl ⟨by rfl,by intro w _;(go_simp <;> with_reducible rfl)⟩) (by assumption) ?_
  (try simp only [Act.put,List.setIfInBounds_toArray,List.set_cons_zero,List.set_cons_succ,List.getElem_toArray,List.getElem_cons_zero,List.getElem_cons_succ])
  refine till_take (i:=9) rfl (by kernel_rfl) (by kernel_rfl) (by kernel_rfl) (fun _ _ _ h => h) (by kernel_rfl) (Or.inl ⟨by rfl,by intro w _;(go_simp <;> with_reducible rfl)⟩) (by assumption) ?_
  (try simp only [Act.put,List.setIfInBounds_toArray,List.set_cons_zero,List.set_cons_succ,List.getElem_toArray,List.getElem_cons_zero,List.getElem_cons_succ])
  refine till_load (i:=10) rfl (by kernel_rfl) (by kernel_rfl) (by kernel_rfl) (fun _ _ _ h => h) (by kernel_rfl) (by kernel_rfl) (by kernel_rfl) (Or.inl ⟨by rfl,by intro w hSw;(have y0_:=hSw.1;have y1_:=hSw.2.1;have y2_:=hSw.2.2);(go_simp <;> with_reducible rfl)⟩) (by assumption) ?_
  (try simp only [Act.put,List.setIfInBounds_toArray,List.set_cons_zero,List.set_cons_succ,List.getElem_toArray,List.getElem_cons_zero,List.getElem_cons_succ])
  refine till_take (i:=11) rfl (by kernel_rfl) (by kernel_rfl) (by kernel_rfl) (fun _ _ _ h => h) (by kernel_rfl) (Or.inl ⟨by rfl,by intro w _;(go_simp <;> with_reducible rfl)⟩) (by assumption) ?_
  (try simp only [Act.put,List.setIfInBounds_toArray,List.set_cons_zero,List.set_cons_succ,List.getElem_toArray,List.getElem_cons_zero,List.getElem_cons_succ])
  refine till_load (i:=12) rfl (by kernel_rfl) (by kernel_rfl) (by kernel_rfl) (fun _ _ _ h => h) (by kernel_rfl) (by kernel_rfl) (by kernel_rfl) (Or.inl ⟨by rfl,by intro w hSw;(have y0_:=hSw.1;have y1_:=hSw.2.1;have y2_:=hSw.2.2);(go_simp <;> with_reducible rfl)⟩) (by assumption) ?_
  (try simp only [Act.put,List.setIfInBounds_toArray,List.set_cons_zero,List.set_cons_succ,List.getElem_toArray,List.getElem_cons_zero,List.getElem_cons_succ])
  refine till_one (i:=13) (by kernel_rfl) rfl (fun K hK => ?_)
  refine step_append_off rfl _ _ 34 rfl 0 45 i0_ (.int .u32 0) 1 4 Tryz.underlying34 hi0 hz0 hz1 hz2 rfl (by decide) _ 0 [] rfl (OwnsOff.nil _ 0 45 1) ⟨g,off,none⟩ ds.length dc (wcells ds) rfl (by simp [wcells]) ?hnews (by intro u hu;simp [wcells] at hu;obtain ⟨z,-,rfl⟩:=hu;rfl) (by unfold maxLen;omega) (by omega) (Nat.zero_le _) ?_
  case hnews =>
    intro j u hu
    simp [wcells] at hu
    obtain ⟨z,hz,rfl⟩:=hu
    rw [Addr.add_lit]
    have hj:=(List.getElem?_eq_some_iff.1 hz).1
    exact (HGC.out Z1 HBZ.out j hj).trans (by rw [List.getD_eq_getElem?_getD,hz];rfl)
  intro v' w6 hown' hgr hfr
  have HO6:=Lib.hid (Only.of_grown hgr)
  have hown2:OwnsOff w6 0 45 1 v' ds.length (wcells ds):=by have q:=hown';rw [List.nil_append,Nat.zero_add] at q;exact q
  have HOW:=Lib.hid hown2;have HFR:=Lib.hid hfr
  obtain ⟨a',cp',rfl,-,-⟩:=hown2.slice
  have hv6:=HO6.out.at_ (k:=vb) HVZ.out (fun h => by cases h)
  have HV6_:=Lib.hid hv6;have HX6_:=Lib.hid (HO6.out.at_ (k:=xb) HXZ.out (fun h => by cases h))
  have u0:w6.cell? ⟨xb,4,none⟩ = some (.pointer (some ⟨vb,0,none⟩)):=cell_blk HX6_.out rfl
  have u1:w6.cell? ⟨vb,8,none⟩ = some (.slice none 0 0):=cell_blk hv6 rfl
  have u2:w6.cell? ⟨qb,3,none⟩ = some (.slice (some ⟨g,off,none⟩) ds.length dc):=cell_of_blk z3 (HO6.out.block qb (World.block_lt_of_cell? _ _ z3) (fun h => by cases h))
  have fv:w6.frozen? ⟨vb,8,none⟩ = false:=by simp [World.frozen?,hv6]
  clear hown' hown2 hgr hfr hv6
  refine hK.out _ _ (by exact ⟨u0,u1,u2⟩) (fun hHeld => ?_)
  clear hK K
  (try simp only [Act.put,List.setIfInBounds_toArray,List.set_cons_zero,List.set_cons_succ,List.getElem_toArray,List.getElem_cons_zero,List.getElem_cons_succ])
  refine till_take (i:=14) rfl (by kernel_rfl) (by kernel_rfl) (by kernel_rfl) (fun _ _ _ h => h) (by kernel_rfl) (Or.inl ⟨by rfl,by intro w _;(go_simp <;> with_reducible rfl)⟩) (by assumption) ?_
  (try simp only [Act.put,List.setIfInBounds_toArray,List.set_cons_zero,List.set_cons_succ,List.getElem_toArray,List.getElem_cons_zero,List.getElem_cons_succ])
  refine till_take (i:=15) rfl (by kernel_rfl) (by kernel_rfl) (by kernel_rfl) (fun _ _ _ h => h) (by kernel_rfl) (Or.inl ⟨by rfl,by intro w _;(go_simp <;> with_reducible rfl)⟩) (by assumption) ?_
  (try simp only [Act.put,List.setIfInBounds_toArray,List.set_cons_zero,List.set_cons_succ,List.getElem_toArray,List.getElem_cons_zero,List.getElem_cons_succ])
  clear hHeld
  refine till_last (by kernel_rfl) rfl (fun K hK => ?_)
  go_simp
  refine hK.out _ _ ?_
  clear hK K
  (try simp only [Act.put,List.setIfInBounds_toArray,List.set_cons_zero,List.set_cons_succ,List.getElem_toArray,List.getElem_cons_zero,List.getElem_cons_succ])
  refine till_done (by kernel_rfl) ?_ _
  obtain ⟨Z2,HZ2⟩:∃ u,Hid (u = w6.setCell ⟨vb,8,none⟩ (.slice a' ds.length cp')):=⟨_,rfl⟩
  rw [← HZ2.out]
  have ho2:Only (fun k => k = vb) w6 Z2:=by rw [HZ2.out];exact Only.setCell w6 ⟨vb,8,none⟩ _
  have hv2:Z2.heap[vb]? = some (.cells #[.slice pa c.parts.length pc,.slice ca c.chans.length cc,.int .i64 c.len0,.slice aa c.win0.length ac,.int .i64 c.len1,.slice ba c.win1.length bc,.int .i64 (k:Int),.bool true,.slice a' ds.length cp',.int .i64 0,.int .i64 0,.int .i64 0,.int .i64 0,.int .i64 0,.bool false] 116 (0,0)):=by rw [HZ2.out];simp [World.setCell,Array.getElem?_modify,HV6_.out]
  have hx2:=ho2.at_ HX6_.out (by have:=HLV.out;omega)
  have hb6:=HBZ.out.drew.trans (HO6.out.below (show W.heap.size ≤ Z1.drew.heap.size from HBZ.out.size) (fun j h => by cases h))
  have hbZ2:=hb6.trans (ho2.below hb6.size (fun j e => by have:=HLV.out;omega))
  have how2:OwnsOff Z2 0 45 1 (.slice a' ds.length cp') ds.length (wcells ds):=HOW.out.kept ho2 (fun j hj e => by
    subst e
    obtain ⟨cs,hc⟩:=HOW.out.typed _ hj
    have q:=HV6_.out
    rw [hc] at q;injection q with q3;injection q3 with q4 q5;exact absurd q5 (by decide))
  have hfr2:∀ j,Value.ownBlock (.slice a' ds.length cp') = some j → Z1.heap.size ≤ j:=fun j hj => (HFR.out j hj).elim (fun h => by cases h) id
  have HB2:=Lib.hid hbZ2;have HX2:=Lib.hid hx2;have HV2:=Lib.hid hv2;have HOW2:=Lib.hid how2;have HFR2:=Lib.hid hfr2
  clear u0 u1 u2 fv ho2 hv2 hx2 hb6 hbZ2 how2 hfr2 z3 zx zv
  have hth:=there_blk (W:=Z2) (AX.out _ HB2.out) (n:=(#[.int .i64 0,.slice none 0 0,.bool false,.int .i64 0]:Array Value).size) rfl
  have hsz:(Tryz.prog.info? 42).map (·.size) = some (#[.int .i64 0,.slice none 0 0,.bool false,.int .i64 0]:Array Value).size:=ans_size
  go_wp2_with (with_reducible refine wpList_store_mid (by kernel_rfl) _ _ _ rfl ab 0 #[.int .i64 0,.slice none 0 0,.bool false,.int .i64 0] (by kernel_rfl) (by kernel_rfl) hth hsz (by kernel_rfl) ?_)
  have hrg:=World.rangeAt_setCells_same Z2 ab 0 (#[.int .i64 0,.slice none 0 0,.bool false,.int .i64 0]:Array Value).toList (by simpa using hth)
  (try simp only [Exit.inBlock,Exit.then])
  refine bodyPost_ret (results_pm rfl _ _ ab (#[.int .i64 0,.slice none 0 0,.bool false,.int .i64 0]:Array Value).toList _ rfl hrg Tryz.underlying42 rfl ans_size rfl) rfl ?_
  have ho:=Only.sets (S:=fun j => j = ab) rfl (#[.int .i64 0,.slice none 0 0,.bool false,.int .i64 0]:Array Value).toList 0 (Only.refl _ Z2)
  have hz1:=HBZ.out.size
  have hal:=HAS.out
  exact ⟨xb,vb,.slice a' ds.length cp',rfl,ho.at_ HX2.out (by have:=HLV.out;omega),ho.at_ HV2.out (by have:=HLV.out;omega),HOW2.out.kept ho (fun j hj e => by have:=HFR2.out j hj;omega),fun j hj => by have:=HFR2.out j hj;have:=HB.out.size;have:=(Array.getElem?_eq_some_iff.1 HVZ.out).1;have:=(Array.getElem?_eq_some_iff.1 HXZ.out).1;exact ⟨by omega,by omega,by omega⟩,HLV.out.2.2.1,HLV.out.1,below_setCells _ _ _ (HB.out.trans (HB2.out.mono HB.out.size)) HAL.out⟩
theorem rbeg5_b (c:Cfg) (x:CfgAt) (sp:Int) (sn:Bool) (own:Int) (made valid:List Int) (ma va:Option Addr) (mc vc:Nat) (port ad:Int) (da:Option Addr) (dn dc:Nat) (w:World) (hx:CfgIn w w.heap.size c x) (wx:CfgWf c) (lx:CfgFew c) (hs:SIn w made ma) (hv:SIn w valid va) (hp:(Lit.int .i64 port).wf = true) (had:(Lit.int .u64 ad).wf = true) (hdn:dn ≤ 1000000) (hz:refusedN c sp sn made 5 port ad dn = 0) (k:Nat) (hk:k < c.chans.length) (hkK:portK c port = (k:Int)) (SS:Bool) (hSq:portS c port = SS) (hk7:fld (row c.chans k) 0 = 2) (ds:List Int) (hdl:dn = ds.length) (hdr:IntRowK .u32 w w.heap.size da ds) (hn:1 ≤ ds.length ∧ ds.length ≤ 100) :
    Calls Tryz.prog 13 #[.agg (cfgCells c x),.agg #[.int .i64 sp,.bool sn,.slice ma made.length mc,.slice va valid.length vc],.int .u32 own,.agg #[.int .i64 5,.int .i64 port,.int .u64 ad,.slice da dn dc]] w fun e w' => ∃ xb vb dv,e = .returned (.tuple #[.pointer (some ⟨xb,0,none⟩),.agg #[.int .i64 0,.slice none 0 0,.bool false,.int .i64 0]]) ∧ w'.heap[xb]? = some (.cells #[.int .i64 5,.int .i64 port,.int .u64 ad,.slice da dn dc,.pointer none,.pointer (some ⟨vb,0,none⟩),.bool false,.int .i64 1,.bool false,.int .u32 own] 111 (0,0)) ∧ w'.heap[vb]? = some (.cells #[.slice x.pa c.parts.length x.pc,.slice x.ca c.chans.length x.cc,.int .i64 c.len0,.slice x.aa c.win0.length x.ac,.int .i64 c.len1,.slice x.ba c.win1.length x.bc,.int .i64 (k:Int),.int .i64 5,.int .u32 own,.bool SS,dv,.int .i64 0,.int .i64 0] 119 (0,0)) ∧ OwnsOff w' 0 45 1 dv ds.length (wcells ds) ∧ (∀ j,Value.ownBlock dv = some j → w.heap.size ≤ j ∧ j ≠ vb ∧ j ≠ xb) ∧ w.heap.size ≤ xb ∧ xb < vb ∧ Below w.heap.size w w':=by
  subst hdl
  obtain ⟨g,off,hda,hgl,hgc⟩:=hdr (by omega)
  subst hda
  obtain ⟨Wc,HWc,hBc,hWs,bx⟩:=one_cbox w c x 29
  obtain ⟨pa,pc,ca,cc,aa,ac,ba,bc⟩:=x
  obtain ⟨Ws,HWs,hBs,hWss,sx⟩:=box_new Wc #[.int .i64 sp,.bool sn,.slice ma made.length mc,.slice va valid.length vc] 32
  obtain ⟨Wq,HWq,hBq,hWq,qx⟩:=box_new Ws #[.int .i64 5,.int .i64 port,.int .u64 ad,.slice (some ⟨g,off,none⟩) ds.length dc] 36
  obtain ⟨W,HW,hBa,hWa,ax⟩:=box_new Wq #[.int .i64 0,.slice none 0 0,.bool false,.int .i64 0] 42
  have hQ:=hBq.trans (hBa.mono hBq.size)
  have hSQ:=hBs.trans (hQ.mono hBs.size)
  have hB:=hBc.trans (hSQ.mono hBc.size)
  have BX:Hid (∀ w',Below W.heap.size W w' → Below Wc.heap.size Wc w'):=Lib.hid (fun w' h => hSQ.trans (h.mono hSQ.size))
  have SX:Hid (∀ w',Below W.heap.size W w' → w'.heap[Wc.heap.size]? = some (.cells #[.int .i64 sp,.bool sn,.slice ma made.length mc,.slice va valid.length vc] 32 (0,0))):=Lib.hid (fun w' h => sx _ (hQ.trans (h.mono hQ.size)))
  have QX:Hid (∀ w',Below W.heap.size W w' → w'.heap[Ws.heap.size]? = some (.cells #[.int .i64 5,.int .i64 port,.int .u64 ad,.slice (some ⟨g,off,none⟩) ds.length dc] 36 (0,0))):=Lib.hid (fun w' h => qx _ (hBa.trans (h.mono hBa.size)))
  have AX:Hid (∀ w',Below W.heap.size W w' → w'.heap[Wq.heap.size]? = some (.cells #[.int .i64 0,.slice none 0 0,.bool false,.int .i64 0] 42 (0,0))):=Lib.hid (fun w' h => ax _ h)
  have hAL:w.heap.size ≤ Wq.heap.size:=(hBc.trans ((hBs.trans (hBq.mono hBs.size)).mono hBc.size)).size
  have hAS:=hWa
  obtain ⟨sb,hsb⟩:∃ n,n = Wc.heap.size:=⟨_,rfl⟩
  obtain ⟨qb,hqb⟩:∃ n,n = Ws.heap.size:=⟨_,rfl⟩
  obtain ⟨ab,hab⟩:∃ n,n = Wq.heap.size:=⟨_,rfl⟩
  rw [← hsb] at SX
  rw [← hqb] at QX
  rw [← hab] at AX hAL hAS
  have HAL:=Lib.hid hAL;have HAS:=Lib.hid hAS
  have HSB:=Lib.hid hsb;have HQB:=Lib.hid hqb;have HAB:=Lib.hid hab;have HB:=Lib.hid hB;have CX:=Lib.hid bx
  have HXW:=Lib.hid (hx.later hB);have HSW:=Lib.hid (hs.later hB);have HVW:=Lib.hid (hv.later hB);skip
  simp only [cfgCells] at HWc ⊢
  clear hBc hWs bx hBs hWss sx hBq hWq qx hBa hWa ax hQ hSQ hB hAL hAS hsb hqb hab hx hs hv
  have HREF:=Lib.hid (rrefused_is c ⟨pa,pc,ca,cc,aa,ac,ba,bc⟩ sp sn made ma mc va valid.length vc (5) port ad (some ⟨g,off,none⟩) ds.length dc 0 W HXW.out wx lx HSW.out hp had hdn hz)
  simp only [cfgCells] at HREF
  obtain ⟨c0,c1,c2,c3,c4,c5⟩:=CX.out _ (BX.out _ (Below.refl _ _))
  have s0:W.cell? ⟨sb,0,none⟩ = some (.int .i64 sp):=cell_blk (SX.out _ (Below.refl _ _)) rfl
  have s1:W.cell? ⟨sb,1,none⟩ = some (.bool sn):=cell_blk (SX.out _ (Below.refl _ _)) rfl
  have s2:W.cell? ⟨sb,2,none⟩ = some (.slice ma made.length mc):=cell_blk (SX.out _ (Below.refl _ _)) rfl
  have s3:W.cell? ⟨sb,3,none⟩ = some (.slice va valid.length vc):=cell_blk (SX.out _ (Below.refl _ _)) rfl
  have q0:W.cell? ⟨qb,0,none⟩ = some (.int .i64 5):=cell_blk (QX.out _ (Below.refl _ _)) rfl
  have q1:W.cell? ⟨qb,1,none⟩ = some (.int .i64 port):=cell_blk (QX.out _ (Below.refl _ _)) rfl
  have q2:W.cell? ⟨qb,2,none⟩ = some (.int .u64 ad):=cell_blk (QX.out _ (Below.refl _ _)) rfl
  have q3:W.cell? ⟨qb,3,none⟩ = some (.slice (some ⟨g,off,none⟩) ds.length dc):=cell_blk (QX.out _ (Below.refl _ _)) rfl
  go_enter Tryz.func13,Tryz.ntmps13
  go_wp2_with (first | (rw [← HWc.out]) | (simp only [← HSB.out];rw [← HWs.out]) | (simp only [← HQB.out];rw [← HWq.out]) | (simp only [← HAB.out];rw [← HW.out]))
  refine HREF.out.mono ?_
  rintro e w5 ⟨rfl,hb5⟩
  clear c0 c1 c2 c3 c4 c5 s0 s1 s2 s3 q0 q1 q2 q3
  have HB5:=Lib.hid hb5
  obtain ⟨c0,c1,c2,c3,c4,c5⟩:=CX.out _ (BX.out _ hb5)
  have s0:w5.cell? ⟨sb,0,none⟩ = some (.int .i64 sp):=cell_blk (SX.out _ hb5) rfl
  have s1:w5.cell? ⟨sb,1,none⟩ = some (.bool sn):=cell_blk (SX.out _ hb5) rfl
  have s2:w5.cell? ⟨sb,2,none⟩ = some (.slice ma made.length mc):=cell_blk (SX.out _ hb5) rfl
  have s3:w5.cell? ⟨sb,3,none⟩ = some (.slice va valid.length vc):=cell_blk (SX.out _ hb5) rfl
  have q0:w5.cell? ⟨qb,0,none⟩ = some (.int .i64 5):=cell_blk (QX.out _ hb5) rfl
  have q1:w5.cell? ⟨qb,1,none⟩ = some (.int .i64 port):=cell_blk (QX.out _ hb5) rfl
  have q2:w5.cell? ⟨qb,2,none⟩ = some (.int .u64 ad):=cell_blk (QX.out _ hb5) rfl
  have q3:w5.cell? ⟨qb,3,none⟩ = some (.slice (some ⟨g,off,none⟩) ds.length dc):=cell_blk (QX.out _ hb5) rfl
  clear hb5
  clear hz
  obtain ⟨K,hK⟩:∃ K,portK c port = K:=⟨_,rfl⟩
  obtain ⟨P,hP⟩:∃ P,portP c port = P:=⟨_,rfl⟩
  obtain ⟨SS,hSS⟩:∃ S,portS c port = S:=⟨_,rfl⟩
  obtain ⟨OO,hOO⟩:∃ S,portB c port = S:=⟨_,rfl⟩
  obtain ⟨V6,HV6,hb6,hs6,x6⟩:=box_new w5 #[.int .i64 5,.int .i64 port,.int .u64 ad,.slice (some ⟨g,off,none⟩) ds.length dc,.pointer none,.pointer none,.bool false,.int .i64 1,.bool false,.int .u32 own] 111
  obtain ⟨xb,hxb⟩:∃ n,n = w5.heap.size:=⟨_,rfl⟩
  rw [← hxb] at x6
  have hW6:=HB5.out.trans (hb6.mono HB5.out.size)
  have HP:=Lib.hid (rport_is c ⟨pa,pc,ca,cc,aa,ac,ba,bc⟩ port K P SS OO V6 (HXW.out.later hW6) wx lx hp ⟨hK,hP,hSS,hOO⟩)
  simp only [cfgCells] at HP
  have HXB:=Lib.hid hxb;have HW6:=Lib.hid hW6;have HX6:=Lib.hid (x6 _ (Below.refl _ _))
  have HKS:=Lib.hid (And.intro hK hSS)
  clear c0 c1 c2 c3 c4 c5 s0 s1 s2 s3 hK hP hSS hOO hb6 hs6 x6 hxb hW6
  obtain ⟨m0,m1,m2,m3,m4,m5⟩:=CX.out _ (BX.out _ HW6.out)
  have p1:V6.cell? ⟨qb,1,none⟩ = some (.int .i64 port):=cell_blk (QX.out _ HW6.out) rfl
  go_wp2_with (first | (simp only [← HXB.out];rw [← HV6.out]))
  refine HP.out.mono ?_
  rintro e w7 ⟨rfl,hb7⟩
  obtain ⟨V8,HV8,hb8,hs8,x8⟩:=box_new w7 #[.int .i64 K,.int .i64 P,.bool SS,.bool OO] 113
  obtain ⟨db,hdb⟩:∃ n,n = w7.heap.size:=⟨_,rfl⟩
  have hd8:V8.heap[db]? = some (.cells #[.int .i64 K,.int .i64 P,.bool SS,.bool OO] 113 (0,0)):=by rw [hdb];exact x8 _ (Below.refl _ _)
  have h68:=hb7.trans (hb8.mono hb7.size)
  have hW8:=HW6.out.trans (h68.mono HW6.out.size)
  have hx8:V8.heap[xb]? = some (.cells #[.int .i64 5,.int .i64 port,.int .u64 ad,.slice (some ⟨g,off,none⟩) ds.length dc,.pointer none,.pointer none,.bool false,.int .i64 1,.bool false,.int .u32 own] 111 (0,0)):=(h68.block xb (Array.getElem?_eq_some_iff.1 HX6.out).1).trans HX6.out
  have hlt8:xb < db ∧ db < V8.heap.size ∧ ab < xb ∧ w.heap.size ≤ xb:=by
    have e1:=HXB.out;have e2:=HB5.out.size;have e3:=HAS.out;have e4:=HB.out.size;have e5:=(Array.getElem?_eq_some_iff.1 HX6.out).1;have e6:=hb7.size;have e7:=(Array.getElem?_eq_some_iff.1 hd8).1
    omega
  have d0:V8.cell? ⟨db,0,none⟩ = some (.int .i64 K):=cell_blk hd8 rfl
  have d2:V8.cell? ⟨db,2,none⟩ = some (.bool SS):=cell_blk hd8 rfl
  have HDB:=Lib.hid hdb;have HB8:=Lib.hid hW8;have HX8:=Lib.hid hx8;have HD8:=Lib.hid hd8;have HLT:=Lib.hid hlt8
  clear m0 m1 m2 m3 m4 m5 p1 q0 q1 q2 q3 hb7 hb8 hs8 x8 hdb hd8 h68 hW8 hx8 hlt8
  obtain ⟨c0,c1,c2,c3,c4,c5⟩:=CX.out _ (BX.out _ HB8.out)
  have s0:V8.cell? ⟨sb,0,none⟩ = some (.int .i64 sp):=cell_blk (SX.out _ HB8.out) rfl
  have s1:V8.cell? ⟨sb,1,none⟩ = some (.bool sn):=cell_blk (SX.out _ HB8.out) rfl
  have s2:V8.cell? ⟨sb,2,none⟩ = some (.slice ma made.length mc):=cell_blk (SX.out _ HB8.out) rfl
  have s3:V8.cell? ⟨sb,3,none⟩ = some (.slice va valid.length vc):=cell_blk (SX.out _ HB8.out) rfl
  have q0:V8.cell? ⟨qb,0,none⟩ = some (.int .i64 5):=cell_blk (QX.out _ HB8.out) rfl
  have q1:V8.cell? ⟨qb,1,none⟩ = some (.int .i64 port):=cell_blk (QX.out _ HB8.out) rfl
  have q2:V8.cell? ⟨qb,2,none⟩ = some (.int .u64 ad):=cell_blk (QX.out _ HB8.out) rfl
  have q3:V8.cell? ⟨qb,3,none⟩ = some (.slice (some ⟨g,off,none⟩) ds.length dc):=cell_blk (QX.out _ HB8.out) rfl
  have hKk:K = (k:Int):=HKS.out.1.symm.trans hkK
  subst hKk
  have hSs:=HKS.out.2.symm.trans hSq
  subst hSs
  clear s0 s1 s2 s3 q1 q2
  obtain ⟨b,o,x0,x1,x2,x3,x4,x5,x6,e0,hbl,e1,-,hrw⟩:=(HXW.out.later HB8.out).rc.at7 wx.wc hk
  rw [row_at e1] at hk7
  obtain rfl:x0 = 2:=hk7
  have i0:(0:Int) ≤ (k:Int):=by omega
  have i1:(k:Int) < (c.chans.length:Int):=by omega
  have y0:=(hrw V8 (Below.refl _ _)).1
  subst e0
  clear e1 hrw hbl
  obtain ⟨V9,HV9,hb9,hs9,x9⟩:=box_new V8 #[.slice pa c.parts.length pc,.slice (some ⟨b,o,none⟩) c.chans.length cc,.int .i64 c.len0,.slice aa c.win0.length ac,.int .i64 c.len1,.slice ba c.win1.length bc,.int .i64 (k:Int),.int .i64 5,.int .u32 own,.bool SS,.slice none 0 0,.int .i64 0,.int .i64 0] 119
  obtain ⟨vb,hvb⟩:∃ n,n = V8.heap.size:=⟨_,rfl⟩
  have hv9:V9.heap[vb]? = some (.cells #[.slice pa c.parts.length pc,.slice (some ⟨b,o,none⟩) c.chans.length cc,.int .i64 c.len0,.slice aa c.win0.length ac,.int .i64 c.len1,.slice ba c.win1.length bc,.int .i64 (k:Int),.int .i64 5,.int .u32 own,.bool SS,.slice none 0 0,.int .i64 0,.int .i64 0] 119 (0,0)):=by rw [hvb];exact x9 _ (Below.refl _ _)
  have hx9:V9.heap[xb]? = some (.cells #[.int .i64 5,.int .i64 port,.int .u64 ad,.slice (some ⟨g,off,none⟩) ds.length dc,.pointer none,.pointer none,.bool false,.int .i64 1,.bool false,.int .u32 own] 111 (0,0)):=(hb9.block xb (Array.getElem?_eq_some_iff.1 HX8.out).1).trans HX8.out
  obtain ⟨Z1,HZ1⟩:∃ u,Hid (u = V9.setCell ⟨xb,5,none⟩ (.pointer (some ⟨vb,0,none⟩))):=⟨_,rfl⟩
  have hoZ:Only (fun k => k = xb) V9 Z1:=by rw [HZ1.out];exact Only.setCell V9 ⟨xb,5,none⟩ _
  have hlt:xb < vb ∧ ab < xb ∧ w.heap.size ≤ xb ∧ W.heap.size ≤ xb ∧ V8.heap.size = vb:=by
    have e1:=HLT.out;have e2:=HAS.out;have e3:=HXB.out;have e4:=HB5.out.size
    omega
  have hvZ:Z1.heap[vb]? = some (.cells #[.slice pa c.parts.length pc,.slice (some ⟨b,o,none⟩) c.chans.length cc,.int .i64 c.len0,.slice aa c.win0.length ac,.int .i64 c.len1,.slice ba c.win1.length bc,.int .i64 (k:Int),.int .i64 5,.int .u32 own,.bool SS,.slice none 0 0,.int .i64 0,.int .i64 0] 119 (0,0)):=hoZ.at_ hv9 (by omega)
  have hxZ:Z1.heap[xb]? = some (.cells #[.int .i64 5,.int .i64 port,.int .u64 ad,.slice (some ⟨g,off,none⟩) ds.length dc,.pointer none,.pointer (some ⟨vb,0,none⟩),.bool false,.int .i64 1,.bool false,.int .u32 own] 111 (0,0)):=by rw [HZ1.out];simp [World.setCell,Array.getElem?_modify,hx9]
  have fx:V9.frozen? ⟨xb,5,none⟩ = false:=by simp [World.frozen?,hx9]
  have gx:V9.cell? ⟨xb,5,none⟩ = some (.pointer none):=cell_blk hx9 rfl
  have hb89:=HB8.out.trans (hb9.mono HB8.out.size)
  have hbZ:=hb89.trans (hoZ.below hb89.size (fun j e => by omega))
  have z0:Z1.cell? ⟨qb,0,none⟩ = some (.int .i64 5):=cell_blk (QX.out _ hbZ) rfl
  have HBZ:=Lib.hid hbZ;have HXZ:=Lib.hid hxZ;have HVZ:=Lib.hid hvZ;have HVB:=Lib.hid hvb;have HLV:=Lib.hid hlt
  have HGC:=Lib.hid (fun (V:World) (hb:Below W.heap.size W V) (j:Nat) (hj:j < ds.length) => ((HB.out.trans (hb.mono HB.out.size)).cell (p:=⟨g,off + j,none⟩) hgl).trans (hgc j hj))
  have z3:Z1.cell? ⟨qb,3,none⟩ = some (.slice (some ⟨g,off,none⟩) ds.length dc):=cell_blk (QX.out _ hbZ) rfl
  have zx:Z1.cell? ⟨xb,5,none⟩ = some (.pointer (some ⟨vb,0,none⟩)):=cell_blk hxZ rfl
  have zv:Z1.cell? ⟨vb,10,none⟩ = some (.slice none 0 0):=cell_blk hvZ rfl
  obtain ⟨i0_,hi0,hz0,hz1,hz2⟩:=info_parts Tryz.infoW
  clear hb9 hs9 x9 hvb hv9 hx9 hoZ hlt hvZ hxZ hb89 hbZ hgc q3
  go_wp2_with (first | (simp only [← HDB.out];rw [← HV8.out]) | (simp only [← HVB.out];rw [← HV9.out]) | (rw [← HZ1.out]))
  refine wp_region_till (fun W' => W'.cell? ⟨xb,5,none⟩ = some (.pointer (some ⟨vb,0,none⟩)) ∧ W'.cell? ⟨vb,10,none⟩ = some (.slice none 0 0) ∧ W'.cell? ⟨qb,3,none⟩ = some (.slice (some ⟨g,off,none⟩) ds.length dc)) 16 (by kernel_rfl) (by exact ⟨zx,zv,z3⟩) (fun hHeld => ?_)
  refine till_take (i:=0) rfl (by kernel_rfl) (by kernel_rfl) (by kernel_rfl) (fun _ _ _ h => h) (by kernel_rfl) (Or.inl ⟨by rfl,by intro w _;(go_simp <;> with_reducible rfl)⟩) (by assumption) ?_
  (try simp only [Act.put,List.setIfInBounds_toArray,List.set_cons_zero,List.set_cons_succ,List.getElem_toArray,List.getElem_cons_zero,List.getElem_cons_succ])
  refine till_take (i:=1) rfl (by kernel_rfl) (by kernel_rfl) (by kernel_rfl) (fun _ _ _ h => h) (by kernel_rfl) (Or.inl ⟨by rfl,by intro w _;(go_simp <;> with_reducible rfl)⟩) (by assumption) ?_
  (try simp only [Act.put,List.setIfInBounds_toArray,List.set_cons_zero,List.set_cons_succ,List.getElem_toArray,List.getElem_cons_zero,List.getElem_cons_succ])
  refine till_take (i:=2) rfl (by kernel_rfl) (by kernel_rfl) (by kernel_rfl) (fun _ _ _ h => h) (by kernel_rfl) (Or.inl ⟨by rfl,by intro w _;(go_simp <;> with_reducible rfl)⟩) (by assumption) ?_
  (try simp only [Act.put,List.setIfInBounds_toArray,List.set_cons_zero,List.set_cons_succ,List.getElem_toArray,List.getElem_cons_zero,List.getElem_cons_succ])
  refine till_load (i:=3) rfl (by kernel_rfl) (by kernel_rfl) (by kernel_rfl) (fun _ _ _ h => h) (by kernel_rfl) (by kernel_rfl) (by kernel_rfl) (Or.inl ⟨by rfl,by intro w hSw;(have y0_:=hSw.1;have y1_:=hSw.2.1;have y2_:=hSw.2.2);(go_simp <;> with_reducible rfl)⟩) (by assumption) ?_
  (try simp only [Act.put,List.setIfInBounds_toArray,List.set_cons_zero,List.set_cons_succ,List.getElem_toArray,List.getElem_cons_zero,List.getElem_cons_succ])
  refine till_take (i:=4) rfl (by kernel_rfl) (by kernel_rfl) (by kernel_rfl) (fun _ _ _ h => h) (by kernel_rfl) (Or.inl ⟨by rfl,by intro w _;(go_simp <;> with_reducible rfl)⟩) (by assumption) ?_
  (try simp only [Act.put,List.setIfInBounds_toArray,List.set_cons_zero,List.set_cons_succ,List.getElem_toArray,List.getElem_cons_zero,List.getElem_cons_succ])
  refine till_take (i:=5) rfl (by kernel_rfl) (by kernel_rfl) (by kernel_rfl) (fun _ _ _ h => h) (by kernel_rfl) (Or.inl ⟨by rfl,by intro w _;(go_simp <;> with_reducible rfl)⟩) (by assumption) ?_
  (try simp only [Act.put,List.setIfInBounds_toArray,List.set_cons_zero,List.set_cons_succ,List.getElem_toArray,List.getElem_cons_zero,List.getElem_cons_succ])
  refine till_take (i:=6) rfl (by kernel_rfl) (by kernel_rfl) (by kernel_rfl) (fun _ _ _ h => h) (by kernel_rfl) (Or.inl ⟨by rfl,by intro w _;(go_simp <;> with_reducible rfl)⟩) (by assumption) ?_
  (try simp only [Act.put,List.setIfInBounds_toArray,List.set_cons_zero,List.set_cons_succ,List.getElem_toArray,List.getElem_cons_zero,List.getElem_cons_succ])
  refine till_load (i:=7) rfl (by kernel_rfl) (by kernel_rfl) (by kernel_rfl) (fun _ _ _ h => h) (by kernel_rfl) (by kernel_rfl) (by kernel_rfl) (Or.inl ⟨by rfl,by intro w hSw;(have y0_:=hSw.1;have y1_:=hSw.2.1;have y2_:=hSw.2.2);(go_simp <;> with_reducible rfl)⟩) (by assumption) ?_
  (try simp only [Act.put,List.setIfInBounds_toArray,List.set_cons_zero,List.set_cons_succ,List.getElem_toArray,List.getElem_cons_zero,List.getElem_cons_succ])
  refine till_take (i:=8) rfl (by kernel_rfl) (by kernel_rfl) (by kernel_rfl) (fun _ _ _ h => h) (by kernel_rfl) (Or.inl ⟨by rfl,by intro w _;(go_simp <;> with_reducible rfl)⟩) (by assumption) ?_
  (try simp only [Act.put,List.setIfInBounds_toArray,List.set_cons_zero,List.set_cons_succ,List.getElem_toArray,List.getElem_cons_zero,List.getElem_cons_succ])
  refine till_take (i:=9) rfl (by kernel_rfl) (by kernel_rfl) (by kernel_rfl) (fun _ _ _ h => h) (by kernel_rfl) (Or.inl ⟨by rfl,by intro w _;(go_simp <;> with_reducible rfl)⟩) (by assumption) ?_
  (try simp only [Act.put,List.setIfInBounds_toArray,List.set_cons_zero,List.set_cons_succ,List.getElem_toArray,List.getElem_cons_zero,List.getElem_cons_succ])
  refine till_load (i:=10) rfl (by kernel_rfl) (by kernel_rfl) (by kernel_rfl) (fun _ _ _ h => h) (by kernel_rfl) (by kernel_rfl) (by kernel_rfl) (Or.inl ⟨by rfl,by intro w hSw;(have y0_:=hSw.1;have y1_:=hSw.2.1;have y2_:=hSw.2.2);(go_simp <;> with_reducible rfl)⟩) (by assumption) ?_
  (try simp only [Act.put,List.setIfInBounds_toArray,List.set_cons_zero,List.set_cons_succ,List.getElem_toArray,List.getElem_cons_zero,List.getElem_cons_succ])
  refine till_take (i:=11) rfl (by kernel_rfl) (by kernel_rfl) (by kernel_rfl) (fun _ _ _ h => h) (by kernel_rfl) (Or.inl ⟨by rfl,by intro w _;(go_simp <;> with_reducible rfl)⟩) (by assumption) ?_
  (try simp only [Act.put,List.setIfInBounds_toArray,List.set_cons_zero,List.set_cons_succ,List.getElem_toArray,List.getElem_cons_zero,List.getElem_cons_succ])
  refine till_load (i:=12) rfl (by kernel_rfl) (by kernel_rfl) (by kernel_rfl) (fun _ _ _ h => h) (by kernel_rfl) (by kernel_rfl) (by kernel_rfl) (Or.inl ⟨by rfl,by intro w hSw;(have y0_:=hSw.1;have y1_:=hSw.2.1;have y2_:=hSw.2.2);(go_simp <;> with_reducible rfl)⟩) (by assumption) ?_
  (try simp only [Act.put,List.setIfInBounds_toArray,List.set_cons_zero,List.set_cons_succ,List.getElem_toArray,List.getElem_cons_zero,List.getElem_cons_succ])
  refine till_one (i:=13) (by kernel_rfl) rfl (fun K hK => ?_)
  refine step_append_off rfl _ _ 34 rfl 0 45 i0_ (.int .u32 0) 1 4 Tryz.underlying34 hi0 hz0 hz1 hz2 rfl (by decide) _ 0 [] rfl (OwnsOff.nil _ 0 45 1) ⟨g,off,none⟩ ds.length dc (wcells ds) rfl (by simp [wcells]) ?hnews (by intro u hu;simp [wcells] at hu;obtain ⟨z,-,rfl⟩:=hu;rfl) (by unfold maxLen;omega) (by omega) (Nat.zero_le _) ?_
  case hnews =>
    intro j u hu
    simp [wcells] at hu
    obtain ⟨z,hz,rfl⟩:=hu
    rw [Addr.add_lit]
    have hj:=(List.getElem?_eq_some_iff.1 hz).1
    exact (HGC.out Z1 HBZ.out j hj).trans (by rw [List.getD_eq_getElem?_getD,hz];rfl)
  intro v' w6 hown' hgr hfr
  have HO6:=Lib.hid (Only.of_grown hgr)
  have hown2:OwnsOff w6 0 45 1 v' ds.length (wcells ds):=by have q:=hown';rw [List.nil_append,Nat.zero_add] at q;exact q
  have HOW:=Lib.hid hown2;have HFR:=Lib.hid hfr
  obtain ⟨a',cp',rfl,-,-⟩:=hown2.slice
  have hv6:=HO6.out.at_ (k:=vb) HVZ.out (fun h => by cases h)
  have HV6_:=Lib.hid hv6;have HX6_:=Lib.hid (HO6.out.at_ (k:=xb) HXZ.out (fun h => by cases h))
  have u0:w6.cell? ⟨xb,5,none⟩ = some (.pointer (some ⟨vb,0,none⟩)):=cell_blk HX6_.out rfl
  have u1:w6.cell? ⟨vb,10,none⟩ = some (.slice none 0 0):=cell_blk hv6 rfl
  have u2:w6.cell? ⟨qb,3,none⟩ = some (.slice (some ⟨g,off,none⟩) ds.length dc):=cell_of_blk z3 (HO6.out.block qb (World.block_lt_of_cell? _ _ z3) (fun h => by cases h))
  have fv:w6.frozen? ⟨vb,10,none⟩ = false:=by simp [World.frozen?,hv6]
  clear hown' hown2 hgr hfr hv6
  refine hK.out _ _ (by exact ⟨u0,u1,u2⟩) (fun hHeld => ?_)
  clear hK K
  (try simp only [Act.put,List.setIfInBounds_toArray,List.set_cons_zero,List.set_cons_succ,List.getElem_toArray,List.getElem_cons_zero,List.getElem_cons_succ])
  refine till_take (i:=14) rfl (by kernel_rfl) (by kernel_rfl) (by kernel_rfl) (fun _ _ _ h => h) (by kernel_rfl) (Or.inl ⟨by rfl,by intro w _;(go_simp <;> with_reducible rfl)⟩) (by assumption) ?_
  (try simp only [Act.put,List.setIfInBounds_toArray,List.set_cons_zero,List.set_cons_succ,List.getElem_toArray,List.getElem_cons_zero,List.getElem_cons_succ])
  refine till_take (i:=15) rfl (by kernel_rfl) (by kernel_rfl) (by kernel_rfl) (fun _ _ _ h => h) (by kernel_rfl) (Or.inl ⟨by rfl,by intro w _;(go_simp <;> with_reducible rfl)⟩) (by assumption) ?_
  (try simp only [Act.put,List.setIfInBounds_toArray,List.set_cons_zero,List.set_cons_succ,List.getElem_toArray,List.getElem_cons_zero,List.getElem_cons_succ])
  clear hHeld
  refine till_last (by kernel_rfl) rfl (fun K hK => ?_)
  go_simp
  refine hK.out _ _ ?_
  clear hK K
  (try simp only [Act.put,List.setIfInBounds_toArray,List.set_cons_zero,List.set_cons_succ,List.getElem_toArray,List.getElem_cons_zero,List.getElem_cons_succ])
  refine till_done (by kernel_rfl) ?_ _
  obtain ⟨Z2,HZ2⟩:∃ u,Hid (u = w6.setCell ⟨vb,10,none⟩ (.slice a' ds.length cp')):=⟨_,rfl⟩
  rw [← HZ2.out]
  have ho2:Only (fun k => k = vb) w6 Z2:=by rw [HZ2.out];exact Only.setCell w6 ⟨vb,10,none⟩ _
  have hv2:Z2.heap[vb]? = some (.cells #[.slice pa c.parts.length pc,.slice (some ⟨b,o,none⟩) c.chans.length cc,.int .i64 c.len0,.slice aa c.win0.length ac,.int .i64 c.len1,.slice ba c.win1.length bc,.int .i64 (k:Int),.int .i64 5,.int .u32 own,.bool SS,.slice a' ds.length cp',.int .i64 0,.int .i64 0] 119 (0,0)):=by rw [HZ2.out];simp [World.setCell,Array.getElem?_modify,HV6_.out]
  have hx2:=ho2.at_ HX6_.out (by have:=HLV.out;omega)
  have hb6:=HBZ.out.drew.trans (HO6.out.below (show W.heap.size ≤ Z1.drew.heap.size from HBZ.out.size) (fun j h => by cases h))
  have hbZ2:=hb6.trans (ho2.below hb6.size (fun j e => by have:=HLV.out;omega))
  have how2:OwnsOff Z2 0 45 1 (.slice a' ds.length cp') ds.length (wcells ds):=HOW.out.kept ho2 (fun j hj e => by
    subst e
    obtain ⟨cs,hc⟩:=HOW.out.typed _ hj
    have q:=HV6_.out
    rw [hc] at q;injection q with q3;injection q3 with q4 q5;exact absurd q5 (by decide))
  have hfr2:∀ j,Value.ownBlock (.slice a' ds.length cp') = some j → Z1.heap.size ≤ j:=fun j hj => (HFR.out j hj).elim (fun h => by cases h) id
  have HB2:=Lib.hid hbZ2;have HX2:=Lib.hid hx2;have HV2:=Lib.hid hv2;have HOW2:=Lib.hid how2;have HFR2:=Lib.hid hfr2
  clear u0 u1 u2 fv ho2 hv2 hx2 hb6 hbZ2 how2 hfr2 z3 zx zv
  have hth:=there_blk (W:=Z2) (AX.out _ HB2.out) (n:=(#[.int .i64 0,.slice none 0 0,.bool false,.int .i64 0]:Array Value).size) rfl
  have hsz:(Tryz.prog.info? 42).map (·.size) = some (#[.int .i64 0,.slice none 0 0,.bool false,.int .i64 0]:Array Value).size:=ans_size
  go_wp2_with (with_reducible refine wpList_store_mid (by kernel_rfl) _ _ _ rfl ab 0 #[.int .i64 0,.slice none 0 0,.bool false,.int .i64 0] (by kernel_rfl) (by kernel_rfl) hth hsz (by kernel_rfl) ?_)
  have hrg:=World.rangeAt_setCells_same Z2 ab 0 (#[.int .i64 0,.slice none 0 0,.bool false,.int .i64 0]:Array Value).toList (by simpa using hth)
  (try simp only [Exit.inBlock,Exit.then])
  refine bodyPost_ret (results_pm rfl _ _ ab (#[.int .i64 0,.slice none 0 0,.bool false,.int .i64 0]:Array Value).toList _ rfl hrg Tryz.underlying42 rfl ans_size rfl) rfl ?_
  have ho:=Only.sets (S:=fun j => j = ab) rfl (#[.int .i64 0,.slice none 0 0,.bool false,.int .i64 0]:Array Value).toList 0 (Only.refl _ Z2)
  have hz1:=HBZ.out.size
  have hal:=HAS.out
  exact ⟨xb,vb,.slice a' ds.length cp',rfl,ho.at_ HX2.out (by have:=HLV.out;omega),ho.at_ HV2.out (by have:=HLV.out;omega),HOW2.out.kept ho (fun j hj e => by have:=HFR2.out j hj;omega),fun j hj => by have:=HFR2.out j hj;have:=HB.out.size;have:=(Array.getElem?_eq_some_iff.1 HVZ.out).1;have:=(Array.getElem?_eq_some_iff.1 HXZ.out).1;exact ⟨by omega,by omega,by omega⟩,HLV.out.2.2.1,HLV.out.1,below_setCells _ _ _ (HB.out.trans (HB2.out.mono HB.out.size)) HAL.out⟩
end Go.Proofs.YtjfolhkblbakiaaGreatDoor
end
section
namespace Go.Proofs.YtjfolhkblbakiaaGreatDoor
open Go.RowKit Go.Sort
set_option linter.unusedVariables false
set_option linter.unusedSimpArgs false
set_option linter.unusedVariables false
set_option linter.unusedSimpArgs false
open Go.Proofs.YtjfolhkblbakiaaGreatDoor.Simp
set_option maxRecDepth 100000
set_option maxHeartbeats 1600000
theorem rbegin_some (c:Cfg) (x:CfgAt) (sp:Int) (sn:Bool) (own:Int) (made valid:List Int) (ma va:Option Addr) (mc vc:Nat) (op port ad:Int) (da:Option Addr) (dn dc:Nat) (w:World) (hx:CfgIn w w.heap.size c x) (wx:CfgWf c) (lx:CfgFew c) (hs:SIn w made ma) (hv:SIn w valid va) (hp:(Lit.int .i64 port).wf = true) (had:(Lit.int .u64 ad).wf = true) (hdn:dn ≤ 1000000) (z:Int) (mv:Bool) (h:onceN c sp sn made valid op port ad dn = some (z,mv)) :
    Calls Tryz.prog 13 #[.agg (cfgCells c x),.agg #[.int .i64 sp,.bool sn,.slice ma made.length mc,.slice va valid.length vc],.int .u32 own,.agg #[.int .i64 op,.int .i64 port,.int .u64 ad,.slice da dn dc]] w fun e w' => e = .returned (.tuple #[.pointer none,.agg #[.int .i64 z,.slice none 0 0,.bool mv,.int .i64 0]]) ∧ Below w.heap.size w w':=by
  rcases once_some h with ⟨h1,rfl,h3⟩ | ⟨rfl,h2,⟨rfl,rfl | rfl⟩ | ⟨rfl,h3,h4⟩⟩
  · exact rbegR_b c x sp sn own made valid ma va mc vc op port ad da dn dc w hx wx lx hs hv hp had hdn z h3 h1
  · exact rbeg1_b c x sp sn own made valid ma va mc vc port ad da dn dc w hx wx lx hs hv hp had hdn h2
  · exact rbeg2_b c x sp sn own made valid ma va mc vc port ad da dn dc w hx wx lx hs hv hp had hdn h2
  · exact rbeg7s_b c x sp sn own made valid ma va mc vc port ad da dn dc w hx wx lx hs hv hp had hdn mv h4 h2 h3
/-- That it goes on,and no more. -/
theorem rbegin_none (c:Cfg) (x:CfgAt) (sp:Int) (sn:Bool) (own:Int) (made valid:List Int) (ma va:Option Addr) (mc vc:Nat) (op port ad:Int) (da:Option Addr) (dn dc:Nat) (w:World) (hx:CfgIn w w.heap.size c x) (wx:CfgWf c) (lx:CfgFew c) (hs:SIn w made ma) (hv:SIn w valid va) (hp:(Lit.int .i64 port).wf = true) (had:(Lit.int .u64 ad).wf = true) (hdn:dn ≤ 1000000) (ds:List Int) (hdl:dn = ds.length) (hdr:IntRowK .u32 w w.heap.size da ds) (hd100:dn ≤ 100) (h:onceN c sp sn made valid op port ad dn = none) :
    Calls Tryz.prog 13 #[.agg (cfgCells c x),.agg #[.int .i64 sp,.bool sn,.slice ma made.length mc,.slice va valid.length vc],.int .u32 own,.agg #[.int .i64 op,.int .i64 port,.int .u64 ad,.slice da dn dc]] w fun e w' => ∃ xb,e = .returned (.tuple #[.pointer (some ⟨xb,0,none⟩),.agg #[.int .i64 0,.slice none 0 0,.bool false,.int .i64 0]]) ∧ Below w.heap.size w w':=by
  obtain ⟨hz,h3,h9,hs7⟩:=once_none h
  have hr:op = 3 ∨ op = 4 ∨ op = 5 ∨ op = 6 ∨ op = 7 ∨ op = 8 ∨ op = 9:=by omega
  rcases hr with rfl | rfl | rfl | rfl | rfl | rfl | rfl
  · obtain ⟨ha,k,hk,hkK,f1,f2,f3,f5⟩:=req_goes h (by omega)
    refine (rbeg3_b c x sp sn own made valid ma va mc vc port ad da dn dc w hx wx lx hs hv hp had hdn hz k hk hkK _ rfl ds hdl hdr (by rw [← hdl];exact ⟨(f3 rfl).1,hd100⟩)).mono ?_
    rintro e w' ⟨xb,vb,dv,h1,_,_,_,_,_,_,h4⟩
    exact ⟨xb,h1,h4⟩
  · obtain ⟨ha,k,hk,hkK,f1,f2,f3,f5⟩:=req_goes h (by omega)
    refine (rbeg4_b c x sp sn own made valid ma va mc vc port ad da dn dc w hx wx lx hs hv hp had hdn hz k hk hkK _ rfl).mono ?_
    rintro e w' ⟨xb,vb,h1,_,_,_,_,h4⟩
    exact ⟨xb,h1,h4⟩
  · obtain ⟨ha,k,hk,hkK,f1,f2,f3,f5⟩:=req_goes h (by omega)
    refine (rbeg5_b c x sp sn own made valid ma va mc vc port ad da dn dc w hx wx lx hs hv hp had hdn hz k hk hkK _ rfl (f2 (by omega)).1 ds hdl hdr (by rw [← hdl];exact ⟨(f5 rfl).1,hd100⟩)).mono ?_
    rintro e w' ⟨xb,vb,dv,h1,_,_,_,_,_,_,h4⟩
    exact ⟨xb,h1,h4⟩
  · obtain ⟨ha,k,hk,hkK,f1,f2,f3,f5⟩:=req_goes h (by omega)
    refine (rbeg6_b c x sp sn own made valid ma va mc vc port ad da dn dc w hx wx lx hs hv hp had hdn hz k hk hkK _ rfl (f2 (by omega)).1).mono ?_
    rintro e w' ⟨xb,vb,h1,_,_,_,_,h4⟩
    exact ⟨xb,h1,h4⟩
  · obtain ⟨ha,k,hk,hkK,f1,f2,f3,f5⟩:=req_goes h (by omega)
    refine (rbeg7q_b c x sp sn own made valid ma va mc vc port ad da dn dc w hx wx lx hs hv hp had hdn hz k hk hkK _ rfl (f2 (by omega)).1).mono ?_
    rintro e w' ⟨xb,vb,h1,_,_,_,_,h4⟩
    exact ⟨xb,h1,h4⟩
  · refine (rbeg8_b c x sp sn own made valid ma va mc vc port ad da dn dc w hx wx lx hs hv hp had hdn hz).mono ?_
    rintro e w' ⟨xb,h1,_,_,h4⟩
    exact ⟨xb,h1,h4⟩
  · refine (rbeg9_b c x sp sn own made valid ma va mc vc port ad da dn dc w hx wx lx hs hv hp had hdn hz).mono ?_
    rintro e w' ⟨xb,h1,_,_,h4⟩
    exact ⟨xb,h1,h4⟩
end Go.Proofs.YtjfolhkblbakiaaGreatDoor
end
