/- Texts of the ring, joined, what is used of them. No condition but those in the statements. -/
import Derived.BigQuiet
import Derived.BigRegion
import Derived.Deep.MidRow
import Derived.Deep.RegionHeld3
import Derived.Deep.Upon
import Derived.IntWalk
import Derived.Test.YtjfolhkblbakiaaGreatDoorQTBg
import Derived.Test.YtjfolhkblbakiaaGreatDoorQTC
import Derived.Test.YtjfolhkblbakiaaGreatDoorQgN
import Derived.Test.YtjfolhkblbakiaaGreatDoorQgY
import Derived.Test.YtjfolhkblbakiaaGreatDoorQgZ
namespace Go.Proofs.YtjfolhkblbakiaaGreatDoor
open Go.RowKit Go.Sort
set_option linter.unusedVariables false
set_option linter.unusedSimpArgs false
set_option linter.unusedVariables false
set_option linter.unusedSimpArgs false
open Go.Proofs.YtjfolhkblbakiaaGreatDoor.Simp
set_option maxRecDepth 100000
set_option maxHeartbeats 3200000
theorem wk0_own (c:Cfg) (op port ad own:Int) (ds:List Int):(wk0 c op port ad own ds).own = own:=by
  unfold wk0
  repeat' split
  all_goals rfl
theorem tbegins_b (c:Cfg) (x:CfgAt) (sp:Int) (sn:Bool) (made valid:List Int) (ma va:Option Addr) (mc vc:Nat) (op port ad:Int) (ds:List Int) (da:Option Addr) (dc:Nat) (w:World) (hT:TabsAt w) (hx:CfgIn w w.heap.size c x) (wx:CfgWf c) (hsp:(Lit.int .i64 sp).wf = true) (hmr:IntRowK .i64 w w.heap.size ma made) (hvr:IntRowK .i64 w w.heap.size va valid) (how:(Lit.int .i64 op).wf = true) (hp:(Lit.int .i64 port).wf = true) (had:(Lit.int .u64 ad).wf = true) (hdr:IntRowK .u32 w w.heap.size da ds) (hdw:∀ q ∈ ds,(Lit.int .u32 q).wf = true):Calls Tryz.prog 3 #[.agg (cfgCells c x),.agg #[.int .i64 sp,.bool sn,.slice ma made.length mc,.slice va valid.length vc],.agg #[.int .i64 op,.int .i64 port,.int .u64 ad,.slice da ds.length dc]] w fun e w' => e = .returned (.bool true) ∧ Below w.heap.size w w':=by
  have HMR0:Hid (∀ V,Below w.heap.size w V → IntRowK .i64 V V.heap.size ma made):=Lib.hid (fun V hb => (hmr.below hb).more hb.size)
  have HVR0:Hid (∀ V,Below w.heap.size w V → IntRowK .i64 V V.heap.size va valid):=Lib.hid (fun V hb => (hvr.below hb).more hb.size)
  have HDR0:Hid (∀ V,Below w.heap.size w V → IntRowK .u32 V V.heap.size da ds):=Lib.hid (fun V hb => (hdr.below hb).more hb.size)
  clear hmr hvr hdr
  obtain ⟨Wc,HWc,hBc,hWs,bx⟩:=one_cbox w c x 29
  obtain ⟨pa,pc,ca,cc,aa,ac,ba,bc⟩:=x
  obtain ⟨Ws,HWs,hBs,hWss,sx⟩:=box_new Wc #[.int .i64 sp,.bool sn,.slice ma made.length mc,.slice va valid.length vc] 32
  obtain ⟨W,HW,hBq,hWq,qx⟩:=box_new Ws #[.int .i64 op,.int .i64 port,.int .u64 ad,.slice da ds.length dc] 36
  have hSQ:=hBs.trans (hBq.mono hBs.size)
  have hB:=hBc.trans (hSQ.mono hBc.size)
  have BX:Hid (∀ w',Below W.heap.size W w' → Below Wc.heap.size Wc w'):=Lib.hid (fun w' h => hSQ.trans (h.mono hSQ.size))
  have SX:Hid (∀ w',Below W.heap.size W w' → w'.heap[Wc.heap.size]? = some (.cells #[.int .i64 sp,.bool sn,.slice ma made.length mc,.slice va valid.length vc] 32 (0,0))):=Lib.hid (fun w' h => sx _ (hBq.trans (h.mono hBq.size)))
  have QX:Hid (∀ w',Below W.heap.size W w' → w'.heap[Ws.heap.size]? = some (.cells #[.int .i64 op,.int .i64 port,.int .u64 ad,.slice da ds.length dc] 36 (0,0))):=Lib.hid (fun w' h => qx _ h)
  obtain ⟨sb,hsb⟩:∃ n,n = Wc.heap.size:=⟨_,rfl⟩
  obtain ⟨qb,hqb⟩:∃ n,n = Ws.heap.size:=⟨_,rfl⟩
  rw [← hsb] at SX
  rw [← hqb] at QX
  have HSB:=Lib.hid hsb;have HQB:=Lib.hid hqb;have HB:=Lib.hid hB;have CX:=Lib.hid bx
  have HXW:=Lib.hid (hx.later hB)
  simp only [cfgCells] at HWc ⊢
  clear hBc hWs bx hBs hWss sx hBq hWq qx hSQ hB hsb hqb hx
  have HT:=Lib.hid (hT.later HB.out)
  have HMR1:Hid (∀ V,Below W.heap.size W V → IntRowK .i64 V V.heap.size ma made):=Lib.hid (fun V hb => HMR0.out V (HB.out.trans (hb.mono HB.out.size)))
  have HVR1:Hid (∀ V,Below W.heap.size W V → IntRowK .i64 V V.heap.size va valid):=Lib.hid (fun V hb => HVR0.out V (HB.out.trans (hb.mono HB.out.size)))
  have HDR:Hid (∀ V,Below W.heap.size W V → IntRowK .u32 V V.heap.size da ds):=Lib.hid (fun V hb => HDR0.out V (HB.out.trans (hb.mono HB.out.size)))
  clear hT HMR0 HVR0 HDR0
  go_enter Tryz.func3,Tryz.ntmps3
  go_wp2_with (first | (rw [← HWc.out]) | (simp only [← HSB.out];rw [← HWs.out]) | (simp only [← HQB.out];rw [← HW.out]))
  refine (wakesT_b W HT.out).mono ?_
  rintro e w1 ⟨rfl,hb1⟩
  have HB1:=Lib.hid hb1
  obtain ⟨c0,c1,c2,c3,c4,c5⟩:=CX.out _ (BX.out _ hb1)
  have s0:w1.cell? ⟨sb,0,none⟩ = some (.int .i64 sp):=cell_blk (SX.out _ hb1) rfl
  have s1:w1.cell? ⟨sb,1,none⟩ = some (.bool sn):=cell_blk (SX.out _ hb1) rfl
  have s2:w1.cell? ⟨sb,2,none⟩ = some (.slice ma made.length mc):=cell_blk (SX.out _ hb1) rfl
  have s3:w1.cell? ⟨sb,3,none⟩ = some (.slice va valid.length vc):=cell_blk (SX.out _ hb1) rfl
  have q0:w1.cell? ⟨qb,0,none⟩ = some (.int .i64 op):=cell_blk (QX.out _ hb1) rfl
  have q1:w1.cell? ⟨qb,1,none⟩ = some (.int .i64 port):=cell_blk (QX.out _ hb1) rfl
  have q2:w1.cell? ⟨qb,2,none⟩ = some (.int .u64 ad):=cell_blk (QX.out _ hb1) rfl
  have q3:w1.cell? ⟨qb,3,none⟩ = some (.slice da ds.length dc):=cell_blk (QX.out _ hb1) rfl
  have HG:=Lib.hid (great13_b c ⟨pa,pc,ca,cc,aa,ac,ba,bc⟩ sp sn made valid ma va mc vc op port ad ds da dc w1 (HXW.out.later hb1) wx)
  simp only [cfgCells] at HG
  clear hb1
  go_wp2_with fail
  refine HG.out.mono ?_
  rintro e w2 ⟨q,rfl,hq,hb2⟩
  have HB2:=Lib.hid (HB1.out.trans (hb2.mono HB1.out.size))
  clear hb2
  clear c0 c1 c2 c3 c4 c5 s0 s1 s2 s3 q0 q1 q2 q3
  obtain ⟨c0,c1,c2,c3,c4,c5⟩:=CX.out _ (BX.out _ HB2.out)
  have s0:w2.cell? ⟨sb,0,none⟩ = some (.int .i64 sp):=cell_blk (SX.out _ HB2.out) rfl
  have s1:w2.cell? ⟨sb,1,none⟩ = some (.bool sn):=cell_blk (SX.out _ HB2.out) rfl
  have s2:w2.cell? ⟨sb,2,none⟩ = some (.slice ma made.length mc):=cell_blk (SX.out _ HB2.out) rfl
  have s3:w2.cell? ⟨sb,3,none⟩ = some (.slice va valid.length vc):=cell_blk (SX.out _ HB2.out) rfl
  have q0:w2.cell? ⟨qb,0,none⟩ = some (.int .i64 op):=cell_blk (QX.out _ HB2.out) rfl
  have q1:w2.cell? ⟨qb,1,none⟩ = some (.int .i64 port):=cell_blk (QX.out _ HB2.out) rfl
  have q2:w2.cell? ⟨qb,2,none⟩ = some (.int .u64 ad):=cell_blk (QX.out _ HB2.out) rfl
  have q3:w2.cell? ⟨qb,3,none⟩ = some (.slice da ds.length dc):=cell_blk (QX.out _ HB2.out) rfl
  cases q with
  | true =>
    have HF:=Lib.hid (HB.out.trans (HB2.out.mono HB.out.size))
    go_wp2
    go_ret
    exact ⟨rfl,HF.out⟩
  | false =>
    have HSM:=Lib.hid (hq rfl)
    clear hq
    have HMR:Hid (∀ V,Below W.heap.size W V → SIn V made ma):=Lib.hid (fun V hb => ⟨HMR1.out V hb,by have:=HSM.out.2;omega⟩)
    have HVR:Hid (∀ V,Below W.heap.size W V → SIn V valid va):=Lib.hid (fun V hb => ⟨HVR1.out V hb,by have:=HSM.out.2;omega⟩)
    cases hon:onceN c sp sn made valid op port ad ds.length with
    | some zm =>
      obtain ⟨z,mv⟩:=zm
      have HON:=Lib.hid hon
      have HPB:=Lib.hid (pbegin_some c ⟨pa,pc,ca,cc,aa,ac,ba,bc⟩ sp sn 9 made valid ma va mc vc op port ad da ds.length dc w2 (HXW.out.later HB2.out) wx HSM.out.1 (HMR.out w2 HB2.out) (HVR.out w2 HB2.out) hp had (by have:=HSM.out.2;omega) (HT.out.later HB2.out) z mv hon)
      simp only [cfgCells] at HPB
      clear hon
      go_wp2_with fail
      refine HPB.out.mono ?_
      rintro e w3 ⟨rfl,hb3⟩
      have HB3:=Lib.hid (HB2.out.trans (hb3.mono HB2.out.size))
      clear hb3
      obtain ⟨Y11,HY11,hbY11,hsY11,yx1⟩:=box_new w3 #[.int .i64 0,.slice none 0 0,.bool false,.int .i64 0] 42
      obtain ⟨lb1,hlb1⟩:∃ k,k = w3.heap.size:=⟨_,rfl⟩
      have hth1:=there_blk (W:=Y11) (yx1 _ (Below.refl _ _)) (n:=(#[.int .i64 z,.slice none 0 0,.bool mv,.int .i64 0]:Array Value).size) rfl
      have hsz1:(Tryz.prog.info? 42).map (·.size) = some (#[.int .i64 z,.slice none 0 0,.bool mv,.int .i64 0]:Array Value).size:=ans_size
      obtain ⟨Y12,HY12⟩:∃ u,Hid (u = Y11.setCells w3.heap.size 0 [.int .i64 z,.slice none 0 0,.bool mv,.int .i64 0]):=⟨_,rfl⟩
      have hy1:Y12.heap[w3.heap.size]? = some (.cells #[.int .i64 z,.slice none 0 0,.bool mv,.int .i64 0] 42 (0,0)):=by rw [HY12.out];exact block_setCells (yx1 _ (Below.refl _ _)) _ rfl
      have hbP1:Below w3.heap.size w3 Y12:=by rw [HY12.out];exact below_setCells _ _ _ hbY11 (Nat.le_refl _)
      have hbA1:=(HB3.out).trans (hbP1.mono (HB3.out).size)
      rw [← hlb1] at hth1 hy1
      have HLB1:=Lib.hid hlb1;have HA1:=Lib.hid hbA1;have HP1:=Lib.hid hbP1;have HYB1:=Lib.hid hy1
      clear hbY11 hsY11 yx1 hlb1 hbP1 hbA1 hy1
      clear c0 c1 c2 c3 c4 c5 s0 s1 s2 s3 q0 q1 q2 q3
      obtain ⟨c0,c1,c2,c3,c4,c5⟩:=CX.out _ (BX.out _ HA1.out)
      have s0:Y12.cell? ⟨sb,0,none⟩ = some (.int .i64 sp):=cell_blk (SX.out _ HA1.out) rfl
      have s1:Y12.cell? ⟨sb,1,none⟩ = some (.bool sn):=cell_blk (SX.out _ HA1.out) rfl
      have s2:Y12.cell? ⟨sb,2,none⟩ = some (.slice ma made.length mc):=cell_blk (SX.out _ HA1.out) rfl
      have s3:Y12.cell? ⟨sb,3,none⟩ = some (.slice va valid.length vc):=cell_blk (SX.out _ HA1.out) rfl
      have q0:Y12.cell? ⟨qb,0,none⟩ = some (.int .i64 op):=cell_blk (QX.out _ HA1.out) rfl
      have q1:Y12.cell? ⟨qb,1,none⟩ = some (.int .i64 port):=cell_blk (QX.out _ HA1.out) rfl
      have q2:Y12.cell? ⟨qb,2,none⟩ = some (.int .u64 ad):=cell_blk (QX.out _ HA1.out) rfl
      have q3:Y12.cell? ⟨qb,3,none⟩ = some (.slice da ds.length dc):=cell_blk (QX.out _ HA1.out) rfl
      have HRB:=Lib.hid (rbegin_some c ⟨pa,pc,ca,cc,aa,ac,ba,bc⟩ sp sn 9 made valid ma va mc vc op port ad da ds.length dc Y12 (HXW.out.later HA1.out) wx HSM.out.1 (HMR.out Y12 HA1.out) (HVR.out Y12 HA1.out) hp had (by have:=HSM.out.2;omega) z mv HON.out)
      simp only [cfgCells] at HRB
      go_wp2_with (first | (simp only [← HLB1.out];rw [← HY11.out]) | (with_reducible refine wpList_store_mid (by kernel_rfl) _ _ _ rfl lb1 0 #[.int .i64 z,.slice none 0 0,.bool mv,.int .i64 0] (by kernel_rfl) (by kernel_rfl) hth1 hsz1 (by kernel_rfl) ?_) | (simp only [HLB1.out];rw [← HY12.out];simp only [← HLB1.out]))
      refine HRB.out.mono ?_
      rintro e w4 ⟨rfl,hb4⟩
      have hb4':=HA1.out.trans (hb4.mono HA1.out.size)
      obtain ⟨Y21,HY21,hbY21,hsY21,yx2⟩:=box_new w4 #[.int .i64 0,.slice none 0 0,.bool false,.int .i64 0] 42
      obtain ⟨lb2,hlb2⟩:∃ k,k = w4.heap.size:=⟨_,rfl⟩
      have hth2:=there_blk (W:=Y21) (yx2 _ (Below.refl _ _)) (n:=(#[.int .i64 z,.slice none 0 0,.bool mv,.int .i64 0]:Array Value).size) rfl
      have hsz2:(Tryz.prog.info? 42).map (·.size) = some (#[.int .i64 z,.slice none 0 0,.bool mv,.int .i64 0]:Array Value).size:=ans_size
      obtain ⟨Y22,HY22⟩:∃ u,Hid (u = Y21.setCells w4.heap.size 0 [.int .i64 z,.slice none 0 0,.bool mv,.int .i64 0]):=⟨_,rfl⟩
      have hy2:Y22.heap[w4.heap.size]? = some (.cells #[.int .i64 z,.slice none 0 0,.bool mv,.int .i64 0] 42 (0,0)):=by rw [HY22.out];exact block_setCells (yx2 _ (Below.refl _ _)) _ rfl
      have hbP2:Below w4.heap.size w4 Y22:=by rw [HY22.out];exact below_setCells _ _ _ hbY21 (Nat.le_refl _)
      have hbA2:=(hb4').trans (hbP2.mono (hb4').size)
      rw [← hlb2] at hth2 hy2
      have HLB2:=Lib.hid hlb2;have HA2:=Lib.hid hbA2;have HP2:=Lib.hid hbP2;have HYB2:=Lib.hid hy2
      clear hbY21 hsY21 yx2 hlb2 hbP2 hbA2 hy2
      have h42:=hb4.trans (HP2.out.mono hb4.size)
      have hl1:Y22.heap[lb1]? = some (.cells #[.int .i64 z,.slice none 0 0,.bool mv,.int .i64 0] 42 (0,0)):=(h42.block lb1 (Array.getElem?_eq_some_iff.1 HYB1.out).1).trans HYB1.out
      have l0:Y22.cell? ⟨lb1,0,none⟩ = some (.int .i64 z):=cell_blk hl1 rfl
      have l1:Y22.cell? ⟨lb1,1,none⟩ = some (.slice none 0 0):=cell_blk hl1 rfl
      have l2:Y22.cell? ⟨lb1,2,none⟩ = some (.bool mv):=cell_blk hl1 rfl
      have l3:Y22.cell? ⟨lb1,3,none⟩ = some (.int .i64 0):=cell_blk hl1 rfl
      have k0:Y22.cell? ⟨lb2,0,none⟩ = some (.int .i64 z):=cell_blk HYB2.out rfl
      have k1:Y22.cell? ⟨lb2,1,none⟩ = some (.slice none 0 0):=cell_blk HYB2.out rfl
      have k2:Y22.cell? ⟨lb2,2,none⟩ = some (.bool mv):=cell_blk HYB2.out rfl
      have k3:Y22.cell? ⟨lb2,3,none⟩ = some (.int .i64 0):=cell_blk HYB2.out rfl
      have HSA:=Lib.hid (sameAns_eq z mv 0 [] none none 0 0 Y22 (fun h => absurd h (by simp)) (fun h => absurd h (by simp)) (by simp))
      simp only [List.length_nil] at HSA
      clear c0 c1 c2 c3 c4 c5 s0 s1 s2 s3 q0 q1 q2 q3
      clear hb4 hb4' h42 hl1 hth1 hsz1
      go_wp2_with (first | (simp only [← HLB2.out];rw [← HY21.out]) | (with_reducible refine wpList_store_mid (by kernel_rfl) _ _ _ rfl lb2 0 #[.int .i64 z,.slice none 0 0,.bool mv,.int .i64 0] (by kernel_rfl) (by kernel_rfl) hth2 hsz2 (by kernel_rfl) ?_) | (simp only [HLB2.out];rw [← HY22.out];simp only [← HLB2.out]))
      refine HSA.out.mono ?_
      rintro e w5 ⟨rfl,hb5⟩
      have HF:=Lib.hid (HB.out.trans ((HA2.out.trans (hb5.mono HA2.out.size)).mono HB.out.size))
      clear hb5 l0 l1 l2 l3 k0 k1 k2 k3
      go_wp2
      go_ret
      exact ⟨rfl,HF.out⟩
    | none =>
      have HON:=Lib.hid hon
      have HPB:=Lib.hid (pbegin_none c ⟨pa,pc,ca,cc,aa,ac,ba,bc⟩ sp sn 9 made valid ma va mc vc op port ad da ds.length dc w2 (HXW.out.later HB2.out) wx HSM.out.1 (HMR.out w2 HB2.out) (HVR.out w2 HB2.out) hp had (by have:=HSM.out.2;omega) (HT.out.later HB2.out) ds rfl (HDR.out w2 HB2.out) (by omega) hon)
      simp only [cfgCells] at HPB
      clear hon
      go_wp2_with fail
      refine HPB.out.mono ?_
      rintro e w3 ⟨tb,S,T,v,rfl,htb,hat,-,-,-,hb3⟩
      have HB3:=Lib.hid (HB2.out.trans (hb3.mono HB2.out.size))
      have HTB0:=Lib.hid htb;have HAT0:=Lib.hid hat
      clear hb3 htb hat
      obtain ⟨Y11,HY11,hbY11,hsY11,yx1⟩:=box_new w3 #[.int .i64 0,.slice none 0 0,.bool false,.int .i64 0] 42
      obtain ⟨lb1,hlb1⟩:∃ k,k = w3.heap.size:=⟨_,rfl⟩
      have hth1:=there_blk (W:=Y11) (yx1 _ (Below.refl _ _)) (n:=(#[.int .i64 0,.slice none 0 0,.bool false,.int .i64 0]:Array Value).size) rfl
      have hsz1:(Tryz.prog.info? 42).map (·.size) = some (#[.int .i64 0,.slice none 0 0,.bool false,.int .i64 0]:Array Value).size:=ans_size
      obtain ⟨Y12,HY12⟩:∃ u,Hid (u = Y11.setCells w3.heap.size 0 [.int .i64 0,.slice none 0 0,.bool false,.int .i64 0]):=⟨_,rfl⟩
      have hy1:Y12.heap[w3.heap.size]? = some (.cells #[.int .i64 0,.slice none 0 0,.bool false,.int .i64 0] 42 (0,0)):=by rw [HY12.out];exact block_setCells (yx1 _ (Below.refl _ _)) _ rfl
      have hbP1:Below w3.heap.size w3 Y12:=by rw [HY12.out];exact below_setCells _ _ _ hbY11 (Nat.le_refl _)
      have hbA1:=(HB3.out).trans (hbP1.mono (HB3.out).size)
      rw [← hlb1] at hth1 hy1
      have HLB1:=Lib.hid hlb1;have HA1:=Lib.hid hbA1;have HP1:=Lib.hid hbP1;have HYB1:=Lib.hid hy1
      clear hbY11 hsY11 yx1 hlb1 hbP1 hbA1 hy1
      have HTB1:=Lib.hid ((HP1.out.block tb (Array.getElem?_eq_some_iff.1 HTB0.out).1).trans HTB0.out);have HTBL:=Lib.hid (Nat.lt_of_lt_of_le (Array.getElem?_eq_some_iff.1 HTB0.out).1 HP1.out.size);have HAT1:Hid (WkAt Y12 S T v (wk0 c op port ad 9 ds)):=Lib.hid (HAT0.out.only (Only.of_below (S:=fun _ => False) HP1.out) (fun _ _ h => h))
      clear c0 c1 c2 c3 c4 c5 s0 s1 s2 s3 q0 q1 q2 q3
      obtain ⟨c0,c1,c2,c3,c4,c5⟩:=CX.out _ (BX.out _ HA1.out)
      have s0:Y12.cell? ⟨sb,0,none⟩ = some (.int .i64 sp):=cell_blk (SX.out _ HA1.out) rfl
      have s1:Y12.cell? ⟨sb,1,none⟩ = some (.bool sn):=cell_blk (SX.out _ HA1.out) rfl
      have s2:Y12.cell? ⟨sb,2,none⟩ = some (.slice ma made.length mc):=cell_blk (SX.out _ HA1.out) rfl
      have s3:Y12.cell? ⟨sb,3,none⟩ = some (.slice va valid.length vc):=cell_blk (SX.out _ HA1.out) rfl
      have q0:Y12.cell? ⟨qb,0,none⟩ = some (.int .i64 op):=cell_blk (QX.out _ HA1.out) rfl
      have q1:Y12.cell? ⟨qb,1,none⟩ = some (.int .i64 port):=cell_blk (QX.out _ HA1.out) rfl
      have q2:Y12.cell? ⟨qb,2,none⟩ = some (.int .u64 ad):=cell_blk (QX.out _ HA1.out) rfl
      have q3:Y12.cell? ⟨qb,3,none⟩ = some (.slice da ds.length dc):=cell_blk (QX.out _ HA1.out) rfl
      have HRB:=Lib.hid (rbegin_none c ⟨pa,pc,ca,cc,aa,ac,ba,bc⟩ sp sn 9 made valid ma va mc vc op port ad da ds.length dc Y12 (HXW.out.later HA1.out) wx HSM.out.1 (HMR.out Y12 HA1.out) (HVR.out Y12 HA1.out) hp had (by have:=HSM.out.2;omega) ds rfl (HDR.out Y12 HA1.out) (by have:=HSM.out.2;omega) HON.out)
      simp only [cfgCells] at HRB
      go_wp2_with (first | (simp only [← HLB1.out];rw [← HY11.out]) | (with_reducible refine wpList_store_mid (by kernel_rfl) _ _ _ rfl lb1 0 #[.int .i64 0,.slice none 0 0,.bool false,.int .i64 0] (by kernel_rfl) (by kernel_rfl) hth1 hsz1 (by kernel_rfl) ?_) | (simp only [HLB1.out];rw [← HY12.out];simp only [← HLB1.out]))
      refine HRB.out.mono ?_
      rintro e w4 ⟨xb,rfl,hb4⟩
      have hb4':=HA1.out.trans (hb4.mono HA1.out.size)
      obtain ⟨Y21,HY21,hbY21,hsY21,yx2⟩:=box_new w4 #[.int .i64 0,.slice none 0 0,.bool false,.int .i64 0] 42
      obtain ⟨lb2,hlb2⟩:∃ k,k = w4.heap.size:=⟨_,rfl⟩
      have hth2:=there_blk (W:=Y21) (yx2 _ (Below.refl _ _)) (n:=(#[.int .i64 0,.slice none 0 0,.bool false,.int .i64 0]:Array Value).size) rfl
      have hsz2:(Tryz.prog.info? 42).map (·.size) = some (#[.int .i64 0,.slice none 0 0,.bool false,.int .i64 0]:Array Value).size:=ans_size
      obtain ⟨Y22,HY22⟩:∃ u,Hid (u = Y21.setCells w4.heap.size 0 [.int .i64 0,.slice none 0 0,.bool false,.int .i64 0]):=⟨_,rfl⟩
      have hy2:Y22.heap[w4.heap.size]? = some (.cells #[.int .i64 0,.slice none 0 0,.bool false,.int .i64 0] 42 (0,0)):=by rw [HY22.out];exact block_setCells (yx2 _ (Below.refl _ _)) _ rfl
      have hbP2:Below w4.heap.size w4 Y22:=by rw [HY22.out];exact below_setCells _ _ _ hbY21 (Nat.le_refl _)
      have hbA2:=(hb4').trans (hbP2.mono (hb4').size)
      rw [← hlb2] at hth2 hy2
      have HLB2:=Lib.hid hlb2;have HA2:=Lib.hid hbA2;have HP2:=Lib.hid hbP2;have HYB2:=Lib.hid hy2
      clear hbY21 hsY21 yx2 hlb2 hbP2 hbA2 hy2
      have h42:=hb4.trans (HP2.out.mono hb4.size)
      have hl1:Y22.heap[lb1]? = some (.cells #[.int .i64 0,.slice none 0 0,.bool false,.int .i64 0] 42 (0,0)):=(h42.block lb1 (Array.getElem?_eq_some_iff.1 HYB1.out).1).trans HYB1.out
      have l0:Y22.cell? ⟨lb1,0,none⟩ = some (.int .i64 0):=cell_blk hl1 rfl
      have l1:Y22.cell? ⟨lb1,1,none⟩ = some (.slice none 0 0):=cell_blk hl1 rfl
      have l2:Y22.cell? ⟨lb1,2,none⟩ = some (.bool false):=cell_blk hl1 rfl
      have l3:Y22.cell? ⟨lb1,3,none⟩ = some (.int .i64 0):=cell_blk hl1 rfl
      have k0:Y22.cell? ⟨lb2,0,none⟩ = some (.int .i64 0):=cell_blk HYB2.out rfl
      have k1:Y22.cell? ⟨lb2,1,none⟩ = some (.slice none 0 0):=cell_blk HYB2.out rfl
      have k2:Y22.cell? ⟨lb2,2,none⟩ = some (.bool false):=cell_blk HYB2.out rfl
      have k3:Y22.cell? ⟨lb2,3,none⟩ = some (.int .i64 0):=cell_blk HYB2.out rfl
      have HSA:=Lib.hid (sameAns_eq 0 false 0 [] none none 0 0 Y22 (fun h => absurd h (by simp)) (fun h => absurd h (by simp)) (by simp))
      simp only [List.length_nil] at HSA
      have htY:Y22.heap[tb]? = some (.cells #[.iface T (v),.int .i64 1,.bool false] 106 (0,0)):=(h42.block tb (HTBL.out)).trans HTB1.out
      have hatY:WkAt Y22 S T v (wk0 c op port ad 9 ds):=HAT1.out.only (Only.of_below (S:=fun _ => False) h42) (fun _ _ h => h)
      have HTY:=Lib.hid htY;have HAY:=Lib.hid hatY
      clear htY hatY
      clear c0 c1 c2 c3 c4 c5 s0 s1 s2 s3 q0 q1 q2 q3
      clear hb4 hb4' h42 hl1 hth1 hsz1
      go_wp2_with (first | (simp only [← HLB2.out];rw [← HY21.out]) | (with_reducible refine wpList_store_mid (by kernel_rfl) _ _ _ rfl lb2 0 #[.int .i64 0,.slice none 0 0,.bool false,.int .i64 0] (by kernel_rfl) (by kernel_rfl) hth2 hsz2 (by kernel_rfl) ?_) | (simp only [HLB2.out];rw [← HY22.out];simp only [← HLB2.out]))
      refine HSA.out.mono ?_
      rintro e w5 ⟨rfl,hb5⟩
      have HF:=Lib.hid (HB.out.trans ((HA2.out.trans (hb5.mono HA2.out.size)).mono HB.out.size))
      have ht5:w5.heap[tb]? = some (.cells #[.iface T (v),.int .i64 1,.bool false] 106 (0,0)):=(hb5.block tb (Array.getElem?_eq_some_iff.1 HTY.out).1).trans HTY.out
      have hat5:WkAt w5 S T v (wk0 c op port ad 9 ds):=HAY.out.only (Only.of_below (S:=fun _ => False) hb5) (fun _ _ h => h)
      have how9:=wk0_own c op port ad 9 ds
      have HST:=Lib.hid (steps_b tb T v 1 false w5 ht5)
      have HOW:=Lib.hid (own13_b tb T v 1 false _ S w5 ht5 hat5)
      rw [how9] at HOW
      clear hb5 l0 l1 l2 l3 k0 k1 k2 k3 ht5 hat5 how9
      go_wp2_with fail
      refine HST.out.mono ?_
      rintro e w6 ⟨rfl,rfl⟩
      go_wp2_with fail
      refine HOW.out.mono ?_
      rintro e w7 ⟨rfl,rfl⟩
      go_wp2
      go_ret
      exact ⟨rfl,HF.out⟩
end Go.Proofs.YtjfolhkblbakiaaGreatDoor
