/- Texts of the ring, joined, what is used of them. No condition but those in the statements. -/
import Derived.BigQuiet
import Derived.BigRegion
import Derived.Deep.MidRow
import Derived.Deep.RegionHeld3
import Derived.Deep.Upon
import Derived.IntWalk
import Derived.Test.YtjfolhkblbakiaaGreatDoorQTA
import Derived.Test.YtjfolhkblbakiaaGreatDoorQgX
namespace Go.Proofs.YtjfolhkblbakiaaGreatDoor
open Go.RowKit Go.Sort
set_option linter.unusedVariables false
set_option linter.unusedSimpArgs false
set_option linter.unusedVariables false
set_option linter.unusedSimpArgs false
open Go.Proofs.YtjfolhkblbakiaaGreatDoor.Simp
set_option maxRecDepth 100000
set_option maxHeartbeats 1600000
theorem furth3_b (c:Cfg) (x:CfgAt) (own:Int) (port ad:Int) (da:Option Addr) (dn dc:Nat) (w:World) (hx:CfgIn w w.heap.size c x) (wx:CfgWf c) (lx:CfgFew c) (hp:(Lit.int .i64 port).wf = true) (k:Nat) (hk:portK c port = (k:Int)) (ds:List Int) (hdl:dn = ds.length) (hdr:IntRowK .u32 w w.heap.size da ds) (hF:FrOf c k (frN c k)) (hn:1 ≤ ds.length ∧ ds.length ≤ (frN c k).n) :
    Calls Tryz.prog 45 #[.agg (cfgCells c x),.int .u32 own,.agg #[.int .i64 3,.int .i64 port,.int .u64 ad,.slice da dn dc]] w (GivesWk w (wk0 c 3 port ad own ds)):=by
  subst hdl
  obtain ⟨g,off,hda,hgl,hgc⟩:=hdr (by omega)
  subst hda
  obtain ⟨Wc,HWc,hBc,hWs,bx⟩:=one_cbox w c x 29
  obtain ⟨pa,pc,ca,cc,aa,ac,ba,bc⟩:=x
  obtain ⟨W,HW,hBq,hWq,qx⟩:=box_new Wc #[.int .i64 3,.int .i64 port,.int .u64 ad,.slice (some ⟨g,off,none⟩) ds.length dc] 36
  have hB:=hBc.trans (hBq.mono hBc.size)
  have BX:Hid (∀ w',Below W.heap.size W w' → Below Wc.heap.size Wc w'):=Lib.hid (fun w' h => hBq.trans (h.mono hBq.size))
  have QX:Hid (∀ w',Below W.heap.size W w' → w'.heap[Wc.heap.size]? = some (.cells #[.int .i64 3,.int .i64 port,.int .u64 ad,.slice (some ⟨g,off,none⟩) ds.length dc] 36 (0,0))):=Lib.hid (fun w' h => qx _ h)
  obtain ⟨qb,hqb⟩:∃ n,n = Wc.heap.size:=⟨_,rfl⟩
  rw [← hqb] at QX
  have HQB:=Lib.hid hqb;have HB:=Lib.hid hB;have CX:=Lib.hid bx
  have HXW:=Lib.hid (hx.later hB)
  simp only [cfgCells] at HWc ⊢
  clear hBc hWs bx hBq hWq qx hB hqb hx
  obtain ⟨P,hP⟩:∃ P,portP c port = P:=⟨_,rfl⟩
  obtain ⟨SS,hSS⟩:∃ S,portS c port = S:=⟨_,rfl⟩
  obtain ⟨OO,hOO⟩:∃ S,portB c port = S:=⟨_,rfl⟩
  have HP:=Lib.hid (pport_is c ⟨pa,pc,ca,cc,aa,ac,ba,bc⟩ port (k:Int) P SS OO W HXW.out wx lx hp ⟨hk,hP,hSS,hOO⟩)
  have HGC:=Lib.hid (fun (V:World) (hb:Below W.heap.size W V) (j:Nat) (hj:j < ds.length) => ((HB.out.trans (hb.mono HB.out.size)).cell (p:=⟨g,off + j,none⟩) hgl).trans (hgc j hj))
  clear hgc
  have HCO:=Lib.hid (fun (V:World) (hb:Below W.heap.size W V) => newW_b c ⟨pa,pc,ca,cc,aa,ac,ba,bc⟩ k (frN c k) ds g off dc V (HXW.out.later hb) wx lx hF (fun j z hz => (HGC.out V hb j (List.getElem?_eq_some_iff.1 hz).1).trans (by rw [List.getD_eq_getElem?_getD,hz];rfl)) hn)
  have HKE:=Lib.hid (show (portK c port).toNat = k ∧ portS c port = SS from ⟨by omega,hSS⟩)
  simp only [cfgCells] at HP HCO
  clear hk hP hSS hOO
  obtain ⟨c0,c1,c2,c3,c4,c5⟩:=CX.out _ (BX.out _ (Below.refl _ _))
  have q0:W.cell? ⟨qb,0,none⟩ = some (.int .i64 3):=cell_blk (QX.out _ (Below.refl _ _)) rfl
  have q1:W.cell? ⟨qb,1,none⟩ = some (.int .i64 port):=cell_blk (QX.out _ (Below.refl _ _)) rfl
  have q2:W.cell? ⟨qb,2,none⟩ = some (.int .u64 ad):=cell_blk (QX.out _ (Below.refl _ _)) rfl
  have q3:W.cell? ⟨qb,3,none⟩ = some (.slice (some ⟨g,off,none⟩) ds.length dc):=cell_blk (QX.out _ (Below.refl _ _)) rfl
  go_enter Tryz.func45,Tryz.ntmps45
  go_wp2_with (first | (rw [← HWc.out]) | (simp only [← HQB.out];rw [← HW.out]))
  refine HP.out.mono ?_
  rintro e w5 ⟨rfl,hb5⟩
  clear c0 c1 c2 c3 c4 c5 q0 q1 q2 q3
  have HB5:=Lib.hid hb5
  obtain ⟨c0,c1,c2,c3,c4,c5⟩:=CX.out _ (BX.out _ hb5)
  have q0:w5.cell? ⟨qb,0,none⟩ = some (.int .i64 3):=cell_blk (QX.out _ hb5) rfl
  have q1:w5.cell? ⟨qb,1,none⟩ = some (.int .i64 port):=cell_blk (QX.out _ hb5) rfl
  have q2:w5.cell? ⟨qb,2,none⟩ = some (.int .u64 ad):=cell_blk (QX.out _ hb5) rfl
  have q3:w5.cell? ⟨qb,3,none⟩ = some (.slice (some ⟨g,off,none⟩) ds.length dc):=cell_blk (QX.out _ hb5) rfl
  clear hb5
  go_wp2_with fail
  refine (HCO.out w5 HB5.out).mono ?_
  rintro e w6 ⟨b,S,rfl,hat,hlo,hb6⟩
  have HAT:=Lib.hid hat;have HLO:=Lib.hid hlo;have HB6:=Lib.hid hb6
  clear hat hlo hb6
  go_wp2
  go_ret
  refine ⟨S,_,_,rfl,?_,fun j hj => Nat.le_trans (Nat.le_trans HB.out.size HB5.out.size) (HLO.out j hj),HB.out.trans ((HB5.out.trans (HB6.out.mono HB5.out.size)).mono HB.out.size)⟩
  have hK:=HKE.out
  simp only [wk0,hK.1,hK.2]
  exact ⟨b,rfl,rfl,HAT.out⟩
theorem furth4_b (c:Cfg) (x:CfgAt) (own:Int) (port ad:Int) (da:Option Addr) (dn dc:Nat) (w:World) (hx:CfgIn w w.heap.size c x) (wx:CfgWf c) (lx:CfgFew c) (hp:(Lit.int .i64 port).wf = true) (k:Nat) (hk:portK c port = (k:Int)) (hF:FrOf c k (frN c k)) :
    Calls Tryz.prog 45 #[.agg (cfgCells c x),.int .u32 own,.agg #[.int .i64 4,.int .i64 port,.int .u64 ad,.slice da dn dc]] w (GivesWk w (wk0 c 4 port ad own [])):=by
  obtain ⟨Wc,HWc,hBc,hWs,bx⟩:=one_cbox w c x 29
  obtain ⟨pa,pc,ca,cc,aa,ac,ba,bc⟩:=x
  obtain ⟨W,HW,hBq,hWq,qx⟩:=box_new Wc #[.int .i64 4,.int .i64 port,.int .u64 ad,.slice da dn dc] 36
  have hB:=hBc.trans (hBq.mono hBc.size)
  have BX:Hid (∀ w',Below W.heap.size W w' → Below Wc.heap.size Wc w'):=Lib.hid (fun w' h => hBq.trans (h.mono hBq.size))
  have QX:Hid (∀ w',Below W.heap.size W w' → w'.heap[Wc.heap.size]? = some (.cells #[.int .i64 4,.int .i64 port,.int .u64 ad,.slice da dn dc] 36 (0,0))):=Lib.hid (fun w' h => qx _ h)
  obtain ⟨qb,hqb⟩:∃ n,n = Wc.heap.size:=⟨_,rfl⟩
  rw [← hqb] at QX
  have HQB:=Lib.hid hqb;have HB:=Lib.hid hB;have CX:=Lib.hid bx
  have HXW:=Lib.hid (hx.later hB)
  simp only [cfgCells] at HWc ⊢
  clear hBc hWs bx hBq hWq qx hB hqb hx
  obtain ⟨P,hP⟩:∃ P,portP c port = P:=⟨_,rfl⟩
  obtain ⟨SS,hSS⟩:∃ S,portS c port = S:=⟨_,rfl⟩
  obtain ⟨OO,hOO⟩:∃ S,portB c port = S:=⟨_,rfl⟩
  have HP:=Lib.hid (pport_is c ⟨pa,pc,ca,cc,aa,ac,ba,bc⟩ port (k:Int) P SS OO W HXW.out wx lx hp ⟨hk,hP,hSS,hOO⟩)

  have HCO:=Lib.hid (fun (V:World) (hb:Below W.heap.size W V) => newR_b c ⟨pa,pc,ca,cc,aa,ac,ba,bc⟩ k (frN c k) V (HXW.out.later hb) wx lx hF)
  have HKE:=Lib.hid (show (portK c port).toNat = k ∧ portS c port = SS from ⟨by omega,hSS⟩)
  simp only [cfgCells] at HP HCO
  clear hk hP hSS hOO
  obtain ⟨c0,c1,c2,c3,c4,c5⟩:=CX.out _ (BX.out _ (Below.refl _ _))
  have q0:W.cell? ⟨qb,0,none⟩ = some (.int .i64 4):=cell_blk (QX.out _ (Below.refl _ _)) rfl
  have q1:W.cell? ⟨qb,1,none⟩ = some (.int .i64 port):=cell_blk (QX.out _ (Below.refl _ _)) rfl
  have q2:W.cell? ⟨qb,2,none⟩ = some (.int .u64 ad):=cell_blk (QX.out _ (Below.refl _ _)) rfl
  have q3:W.cell? ⟨qb,3,none⟩ = some (.slice da dn dc):=cell_blk (QX.out _ (Below.refl _ _)) rfl
  go_enter Tryz.func45,Tryz.ntmps45
  go_wp2_with (first | (rw [← HWc.out]) | (simp only [← HQB.out];rw [← HW.out]))
  refine HP.out.mono ?_
  rintro e w5 ⟨rfl,hb5⟩
  clear c0 c1 c2 c3 c4 c5 q0 q1 q2 q3
  have HB5:=Lib.hid hb5
  obtain ⟨c0,c1,c2,c3,c4,c5⟩:=CX.out _ (BX.out _ hb5)
  have q0:w5.cell? ⟨qb,0,none⟩ = some (.int .i64 4):=cell_blk (QX.out _ hb5) rfl
  have q1:w5.cell? ⟨qb,1,none⟩ = some (.int .i64 port):=cell_blk (QX.out _ hb5) rfl
  have q2:w5.cell? ⟨qb,2,none⟩ = some (.int .u64 ad):=cell_blk (QX.out _ hb5) rfl
  have q3:w5.cell? ⟨qb,3,none⟩ = some (.slice da dn dc):=cell_blk (QX.out _ hb5) rfl
  clear hb5
  go_wp2_with fail
  refine (HCO.out w5 HB5.out).mono ?_
  rintro e w6 ⟨b,S,rfl,hat,hlo,hb6⟩
  have HAT:=Lib.hid hat;have HLO:=Lib.hid hlo;have HB6:=Lib.hid hb6
  clear hat hlo hb6
  go_wp2
  go_ret
  refine ⟨S,_,_,rfl,?_,fun j hj => Nat.le_trans (Nat.le_trans HB.out.size HB5.out.size) (HLO.out j hj),HB.out.trans ((HB5.out.trans (HB6.out.mono HB5.out.size)).mono HB.out.size)⟩
  have hK:=HKE.out
  simp only [wk0,hK.1,hK.2]
  exact ⟨b,rfl,rfl,HAT.out⟩
theorem furth6_b (c:Cfg) (x:CfgAt) (own:Int) (port ad:Int) (da:Option Addr) (dn dc:Nat) (w:World) (hx:CfgIn w w.heap.size c x) (wx:CfgWf c) (lx:CfgFew c) (hp:(Lit.int .i64 port).wf = true) (k:Nat) (hk:portK c port = (k:Int)) (hF:QrOf c k (qrOfN c k)) (h0:0 ≤ own ∧ own ≤ 4294967295) :
    Calls Tryz.prog 45 #[.agg (cfgCells c x),.int .u32 own,.agg #[.int .i64 6,.int .i64 port,.int .u64 ad,.slice da dn dc]] w (GivesWk w (wk0 c 6 port ad own [])):=by
  obtain ⟨Wc,HWc,hBc,hWs,bx⟩:=one_cbox w c x 29
  obtain ⟨pa,pc,ca,cc,aa,ac,ba,bc⟩:=x
  obtain ⟨W,HW,hBq,hWq,qx⟩:=box_new Wc #[.int .i64 6,.int .i64 port,.int .u64 ad,.slice da dn dc] 36
  have hB:=hBc.trans (hBq.mono hBc.size)
  have BX:Hid (∀ w',Below W.heap.size W w' → Below Wc.heap.size Wc w'):=Lib.hid (fun w' h => hBq.trans (h.mono hBq.size))
  have QX:Hid (∀ w',Below W.heap.size W w' → w'.heap[Wc.heap.size]? = some (.cells #[.int .i64 6,.int .i64 port,.int .u64 ad,.slice da dn dc] 36 (0,0))):=Lib.hid (fun w' h => qx _ h)
  obtain ⟨qb,hqb⟩:∃ n,n = Wc.heap.size:=⟨_,rfl⟩
  rw [← hqb] at QX
  have HQB:=Lib.hid hqb;have HB:=Lib.hid hB;have CX:=Lib.hid bx
  have HXW:=Lib.hid (hx.later hB)
  simp only [cfgCells] at HWc ⊢
  clear hBc hWs bx hBq hWq qx hB hqb hx
  obtain ⟨P,hP⟩:∃ P,portP c port = P:=⟨_,rfl⟩
  obtain ⟨SS,hSS⟩:∃ S,portS c port = S:=⟨_,rfl⟩
  obtain ⟨OO,hOO⟩:∃ S,portB c port = S:=⟨_,rfl⟩
  have HP:=Lib.hid (pport_is c ⟨pa,pc,ca,cc,aa,ac,ba,bc⟩ port (k:Int) P SS OO W HXW.out wx lx hp ⟨hk,hP,hSS,hOO⟩)

  have HCO:=Lib.hid (fun (V:World) (hb:Below W.heap.size W V) => newG_b c ⟨pa,pc,ca,cc,aa,ac,ba,bc⟩ k (qrOfN c k) own V (HXW.out.later hb) wx lx hF h0)
  have HKE:=Lib.hid (show (portK c port).toNat = k ∧ portS c port = SS from ⟨by omega,hSS⟩)
  simp only [cfgCells] at HP HCO
  clear hk hP hSS hOO
  obtain ⟨c0,c1,c2,c3,c4,c5⟩:=CX.out _ (BX.out _ (Below.refl _ _))
  have q0:W.cell? ⟨qb,0,none⟩ = some (.int .i64 6):=cell_blk (QX.out _ (Below.refl _ _)) rfl
  have q1:W.cell? ⟨qb,1,none⟩ = some (.int .i64 port):=cell_blk (QX.out _ (Below.refl _ _)) rfl
  have q2:W.cell? ⟨qb,2,none⟩ = some (.int .u64 ad):=cell_blk (QX.out _ (Below.refl _ _)) rfl
  have q3:W.cell? ⟨qb,3,none⟩ = some (.slice da dn dc):=cell_blk (QX.out _ (Below.refl _ _)) rfl
  go_enter Tryz.func45,Tryz.ntmps45
  go_wp2_with (first | (rw [← HWc.out]) | (simp only [← HQB.out];rw [← HW.out]))
  refine HP.out.mono ?_
  rintro e w5 ⟨rfl,hb5⟩
  clear c0 c1 c2 c3 c4 c5 q0 q1 q2 q3
  have HB5:=Lib.hid hb5
  obtain ⟨c0,c1,c2,c3,c4,c5⟩:=CX.out _ (BX.out _ hb5)
  have q0:w5.cell? ⟨qb,0,none⟩ = some (.int .i64 6):=cell_blk (QX.out _ hb5) rfl
  have q1:w5.cell? ⟨qb,1,none⟩ = some (.int .i64 port):=cell_blk (QX.out _ hb5) rfl
  have q2:w5.cell? ⟨qb,2,none⟩ = some (.int .u64 ad):=cell_blk (QX.out _ hb5) rfl
  have q3:w5.cell? ⟨qb,3,none⟩ = some (.slice da dn dc):=cell_blk (QX.out _ hb5) rfl
  clear hb5
  go_wp2_with fail
  refine (HCO.out w5 HB5.out).mono ?_
  rintro e w6 ⟨b,S,rfl,hat,hlo,hb6⟩
  have HAT:=Lib.hid hat;have HLO:=Lib.hid hlo;have HB6:=Lib.hid hb6
  clear hat hlo hb6
  go_wp2
  go_ret
  refine ⟨S,_,_,rfl,?_,fun j hj => Nat.le_trans (Nat.le_trans HB.out.size HB5.out.size) (HLO.out j hj),HB.out.trans ((HB5.out.trans (HB6.out.mono HB5.out.size)).mono HB.out.size)⟩
  have hK:=HKE.out
  simp only [wk0,hK.1,hK.2]
  exact ⟨b,rfl,rfl,HAT.out⟩
theorem furth7_b (c:Cfg) (x:CfgAt) (own:Int) (port ad:Int) (da:Option Addr) (dn dc:Nat) (w:World) (hx:CfgIn w w.heap.size c x) (wx:CfgWf c) (lx:CfgFew c) (hp:(Lit.int .i64 port).wf = true) (k:Nat) (hk:portK c port = (k:Int)) (hF:QrOf c k (qrOfN c k)) (h0:0 ≤ own ∧ own ≤ 4294967295) :
    Calls Tryz.prog 45 #[.agg (cfgCells c x),.int .u32 own,.agg #[.int .i64 7,.int .i64 port,.int .u64 ad,.slice da dn dc]] w (GivesWk w (wk0 c 7 port ad own [])):=by
  obtain ⟨Wc,HWc,hBc,hWs,bx⟩:=one_cbox w c x 29
  obtain ⟨pa,pc,ca,cc,aa,ac,ba,bc⟩:=x
  obtain ⟨W,HW,hBq,hWq,qx⟩:=box_new Wc #[.int .i64 7,.int .i64 port,.int .u64 ad,.slice da dn dc] 36
  have hB:=hBc.trans (hBq.mono hBc.size)
  have BX:Hid (∀ w',Below W.heap.size W w' → Below Wc.heap.size Wc w'):=Lib.hid (fun w' h => hBq.trans (h.mono hBq.size))
  have QX:Hid (∀ w',Below W.heap.size W w' → w'.heap[Wc.heap.size]? = some (.cells #[.int .i64 7,.int .i64 port,.int .u64 ad,.slice da dn dc] 36 (0,0))):=Lib.hid (fun w' h => qx _ h)
  obtain ⟨qb,hqb⟩:∃ n,n = Wc.heap.size:=⟨_,rfl⟩
  rw [← hqb] at QX
  have HQB:=Lib.hid hqb;have HB:=Lib.hid hB;have CX:=Lib.hid bx
  have HXW:=Lib.hid (hx.later hB)
  simp only [cfgCells] at HWc ⊢
  clear hBc hWs bx hBq hWq qx hB hqb hx
  obtain ⟨P,hP⟩:∃ P,portP c port = P:=⟨_,rfl⟩
  obtain ⟨SS,hSS⟩:∃ S,portS c port = S:=⟨_,rfl⟩
  obtain ⟨OO,hOO⟩:∃ S,portB c port = S:=⟨_,rfl⟩
  have HP:=Lib.hid (pport_is c ⟨pa,pc,ca,cc,aa,ac,ba,bc⟩ port (k:Int) P SS OO W HXW.out wx lx hp ⟨hk,hP,hSS,hOO⟩)

  have HCO:=Lib.hid (fun (V:World) (hb:Below W.heap.size W V) => newC_b c ⟨pa,pc,ca,cc,aa,ac,ba,bc⟩ k (qrOfN c k) own SS V (HXW.out.later hb) wx lx hF h0)
  have HKE:=Lib.hid (show (portK c port).toNat = k ∧ portS c port = SS from ⟨by omega,hSS⟩)
  simp only [cfgCells] at HP HCO
  clear hk hP hSS hOO
  obtain ⟨c0,c1,c2,c3,c4,c5⟩:=CX.out _ (BX.out _ (Below.refl _ _))
  have q0:W.cell? ⟨qb,0,none⟩ = some (.int .i64 7):=cell_blk (QX.out _ (Below.refl _ _)) rfl
  have q1:W.cell? ⟨qb,1,none⟩ = some (.int .i64 port):=cell_blk (QX.out _ (Below.refl _ _)) rfl
  have q2:W.cell? ⟨qb,2,none⟩ = some (.int .u64 ad):=cell_blk (QX.out _ (Below.refl _ _)) rfl
  have q3:W.cell? ⟨qb,3,none⟩ = some (.slice da dn dc):=cell_blk (QX.out _ (Below.refl _ _)) rfl
  go_enter Tryz.func45,Tryz.ntmps45
  go_wp2_with (first | (rw [← HWc.out]) | (simp only [← HQB.out];rw [← HW.out]))
  refine HP.out.mono ?_
  rintro e w5 ⟨rfl,hb5⟩
  clear c0 c1 c2 c3 c4 c5 q0 q1 q2 q3
  have HB5:=Lib.hid hb5
  obtain ⟨c0,c1,c2,c3,c4,c5⟩:=CX.out _ (BX.out _ hb5)
  have q0:w5.cell? ⟨qb,0,none⟩ = some (.int .i64 7):=cell_blk (QX.out _ hb5) rfl
  have q1:w5.cell? ⟨qb,1,none⟩ = some (.int .i64 port):=cell_blk (QX.out _ hb5) rfl
  have q2:w5.cell? ⟨qb,2,none⟩ = some (.int .u64 ad):=cell_blk (QX.out _ hb5) rfl
  have q3:w5.cell? ⟨qb,3,none⟩ = some (.slice da dn dc):=cell_blk (QX.out _ hb5) rfl
  clear hb5
  go_wp2_with fail
  refine (HCO.out w5 HB5.out).mono ?_
  rintro e w6 ⟨b,S,rfl,hat,hlo,hb6⟩
  have HAT:=Lib.hid hat;have HLO:=Lib.hid hlo;have HB6:=Lib.hid hb6
  clear hat hlo hb6
  go_wp2
  go_ret
  refine ⟨S,_,_,rfl,?_,fun j hj => Nat.le_trans (Nat.le_trans HB.out.size HB5.out.size) (HLO.out j hj),HB.out.trans ((HB5.out.trans (HB6.out.mono HB5.out.size)).mono HB.out.size)⟩
  have hK:=HKE.out
  simp only [wk0,hK.1,hK.2]
  exact ⟨b,rfl,rfl,HAT.out⟩
theorem row_blk {w:World} {db dof:Nat} {ds:List Int} (hn:0 < ds.length) (h:∀ j,j < ds.length → w.cell? ⟨db,dof + j,none⟩ = some (.int .u32 (ds.getD j 0))):∃ cs ty mm,w.heap[db]? = some (.cells cs ty mm) ∧ ∀ j,j < ds.length → cs[dof + j]? = some (.int .u32 (ds.getD j 0)):=by
  have h0:=h 0 hn
  unfold World.cell? at h0
  cases hb:w.heap[db]? with
  | none => rw [hb] at h0;cases h0
  | some o =>
    cases o with
    | cells cs ty mm =>
      refine ⟨cs,ty,mm,rfl,fun j hj => ?_⟩
      have:=h j hj
      unfold World.cell? at this
      rw [hb] at this
      simpa using this
    | _ => rw [hb] at h0;cases h0
theorem furth5_b (c:Cfg) (x:CfgAt) (own:Int) (port ad:Int) (da:Option Addr) (dn dc:Nat) (w:World) (hx:CfgIn w w.heap.size c x) (wx:CfgWf c) (lx:CfgFew c) (hp:(Lit.int .i64 port).wf = true) (k:Nat) (hk:portK c port = (k:Int)) (ds:List Int) (hdl:dn = ds.length) (hdr:IntRowK .u32 w w.heap.size da ds) (hF:QrOf c k (qrOfN c k)) (h0:0 ≤ own ∧ own ≤ 4294967295) (hn:1 ≤ ds.length ∧ ds.length ≤ (qrOfN c k).n) :
    Calls Tryz.prog 45 #[.agg (cfgCells c x),.int .u32 own,.agg #[.int .i64 5,.int .i64 port,.int .u64 ad,.slice da dn dc]] w (GivesWk w (wk0 c 5 port ad own ds)):=by
  subst hdl
  obtain ⟨g,off,hda,hgl,hgc⟩:=hdr (by omega)
  subst hda
  obtain ⟨Wc,HWc,hBc,hWs,bx⟩:=one_cbox w c x 29
  obtain ⟨pa,pc,ca,cc,aa,ac,ba,bc⟩:=x
  obtain ⟨W,HW,hBq,hWq,qx⟩:=box_new Wc #[.int .i64 5,.int .i64 port,.int .u64 ad,.slice (some ⟨g,off,none⟩) ds.length dc] 36
  have hB:=hBc.trans (hBq.mono hBc.size)
  have BX:Hid (∀ w',Below W.heap.size W w' → Below Wc.heap.size Wc w'):=Lib.hid (fun w' h => hBq.trans (h.mono hBq.size))
  have QX:Hid (∀ w',Below W.heap.size W w' → w'.heap[Wc.heap.size]? = some (.cells #[.int .i64 5,.int .i64 port,.int .u64 ad,.slice (some ⟨g,off,none⟩) ds.length dc] 36 (0,0))):=Lib.hid (fun w' h => qx _ h)
  obtain ⟨qb,hqb⟩:∃ n,n = Wc.heap.size:=⟨_,rfl⟩
  rw [← hqb] at QX
  have HQB:=Lib.hid hqb;have HB:=Lib.hid hB;have CX:=Lib.hid bx
  have HXW:=Lib.hid (hx.later hB)
  simp only [cfgCells] at HWc ⊢
  clear hBc hWs bx hBq hWq qx hB hqb hx
  obtain ⟨P,hP⟩:∃ P,portP c port = P:=⟨_,rfl⟩
  obtain ⟨SS,hSS⟩:∃ S,portS c port = S:=⟨_,rfl⟩
  obtain ⟨OO,hOO⟩:∃ S,portB c port = S:=⟨_,rfl⟩
  have HP:=Lib.hid (pport_is c ⟨pa,pc,ca,cc,aa,ac,ba,bc⟩ port (k:Int) P SS OO W HXW.out wx lx hp ⟨hk,hP,hSS,hOO⟩)
  have HGC:=Lib.hid (fun (V:World) (hb:Below W.heap.size W V) (j:Nat) (hj:j < ds.length) => ((HB.out.trans (hb.mono HB.out.size)).cell (p:=⟨g,off + j,none⟩) hgl).trans (hgc j hj))
  clear hgc
  have HCO:=Lib.hid (fun (V:World) (hb:Below W.heap.size W V) => callsIn_wide.1 (newSt_in c ⟨pa,pc,ca,cc,aa,ac,ba,bc⟩ k (qrOfN c k) own ds g off dc V (HXW.out.later hb) wx lx hF h0 (row_blk (by omega) (fun j hj => HGC.out V hb j hj)) hn))
  have HKE:=Lib.hid (show (portK c port).toNat = k ∧ portS c port = SS from ⟨by omega,hSS⟩)
  simp only [cfgCells] at HP HCO
  clear hk hP hSS hOO
  obtain ⟨c0,c1,c2,c3,c4,c5⟩:=CX.out _ (BX.out _ (Below.refl _ _))
  have q0:W.cell? ⟨qb,0,none⟩ = some (.int .i64 5):=cell_blk (QX.out _ (Below.refl _ _)) rfl
  have q1:W.cell? ⟨qb,1,none⟩ = some (.int .i64 port):=cell_blk (QX.out _ (Below.refl _ _)) rfl
  have q2:W.cell? ⟨qb,2,none⟩ = some (.int .u64 ad):=cell_blk (QX.out _ (Below.refl _ _)) rfl
  have q3:W.cell? ⟨qb,3,none⟩ = some (.slice (some ⟨g,off,none⟩) ds.length dc):=cell_blk (QX.out _ (Below.refl _ _)) rfl
  go_enter Tryz.func45,Tryz.ntmps45
  go_wp2_with (first | (rw [← HWc.out]) | (simp only [← HQB.out];rw [← HW.out]))
  refine HP.out.mono ?_
  rintro e w5 ⟨rfl,hb5⟩
  clear c0 c1 c2 c3 c4 c5 q0 q1 q2 q3
  have HB5:=Lib.hid hb5
  obtain ⟨c0,c1,c2,c3,c4,c5⟩:=CX.out _ (BX.out _ hb5)
  have q0:w5.cell? ⟨qb,0,none⟩ = some (.int .i64 5):=cell_blk (QX.out _ hb5) rfl
  have q1:w5.cell? ⟨qb,1,none⟩ = some (.int .i64 port):=cell_blk (QX.out _ hb5) rfl
  have q2:w5.cell? ⟨qb,2,none⟩ = some (.int .u64 ad):=cell_blk (QX.out _ hb5) rfl
  have q3:w5.cell? ⟨qb,3,none⟩ = some (.slice (some ⟨g,off,none⟩) ds.length dc):=cell_blk (QX.out _ hb5) rfl
  clear hb5
  go_wp2_with fail
  refine (HCO.out w5 HB5.out).mono ?_
  rintro e w6 ⟨b,S,rfl,hat,hlo,hb6⟩
  have HAT:=Lib.hid hat;have HLO:=Lib.hid hlo;have HB6:=Lib.hid hb6
  clear hat hlo hb6
  go_wp2
  go_ret
  refine ⟨S,_,_,rfl,?_,fun j hj => Nat.le_trans (Nat.le_trans HB.out.size HB5.out.size) (HLO.out j hj),HB.out.trans ((HB5.out.trans (HB6.out.mono HB5.out.size)).mono HB.out.size)⟩
  have hK:=HKE.out
  simp only [wk0,hK.1,hK.2]
  exact ⟨b,rfl,rfl,HAT.out⟩
end Go.Proofs.YtjfolhkblbakiaaGreatDoor
