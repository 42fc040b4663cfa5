/- Texts of the ring, joined, what is used of them. No condition but those in the statements. -/
import Derived.BigQuiet
import Derived.BigRegion
import Derived.Deep.MidRow
import Derived.Deep.RegionHeld3
import Derived.Deep.Upon
import Derived.IntWalk
import Derived.Test.YtjfolhkblbakiaaGreatDoorQRK
import Derived.Test.YtjfolhkblbakiaaGreatDoorQTA
import Derived.Test.YtjfolhkblbakiaaGreatDoorQgX
section
namespace Go.Proofs.YtjfolhkblbakiaaGreatDoor
open Go.RowKit Go.Sort
set_option linter.unusedVariables false
set_option linter.unusedSimpArgs false
set_option linter.unusedVariables false
set_option linter.unusedSimpArgs false
open Go.Proofs.YtjfolhkblbakiaaGreatDoor.Simp
set_option maxRecDepth 100000
set_option maxHeartbeats 1600000
theorem stillown_b (o:Int) (w:World):Calls Tryz.prog 249 #[.int .u32 o] w fun e w' => e = .returned (.int .u32 o) ∧ w = w':=by
  go_enter Tryz.func249,Tryz.ntmps249
  go_wp2
  go_ret
  exact ⟨rfl,rfl⟩
theorem opown13_b (ob:Nat) (o:Int) (w:World) (h:w.cell? ⟨ob,0,none⟩ = some (.int .u32 o)):Calls Tryz.prog 254 #[.pointer (some ⟨ob,0,none⟩)] w fun e w' => e = .returned (.int .u32 o) ∧ w = w':=by
  go_enter Tryz.func254,Tryz.ntmps254
  go_wp2
  go_ret
  exact ⟨rfl,rfl⟩
theorem own_in (tb:Nat) (T:TypeId) (v:Value) (n:Int) (d:Bool) (o:Int) (f:FuncId) (rcv:Value) (w:World) (hb:w.heap[tb]? = some (.cells #[.iface T (v),.int .i64 n,.bool d] 106 (0,0))) (hm:∀ w:World,(method 396 T v "Own").run Tryz.prog w = .ok (f,rcv) w) (eg:∀ args w,(callFunc f args).run Tryz.prog w = .ok (.enter f args) w)
    (hc:Calls Tryz.prog f #[rcv] w fun e w' => e = .returned (.int .u32 o) ∧ w = w'):Calls Tryz.prog 16 #[.pointer (some ⟨tb,0,none⟩)] w fun e w' => e = .returned (.int .u32 o) ∧ w = w':=by
  have e0:w.cell? ⟨tb,0,none⟩ = some (.iface T v):=cell_blk hb rfl
  have HC:=Lib.hid hc
  clear hb hc
  go_enter Tryz.func16,Tryz.ntmps16
  go_wp2_with fail
  refine HC.out.mono ?_
  rintro e w' ⟨rfl,rfl⟩
  go_wp2
  go_ret
  exact ⟨rfl,rfl⟩
theorem own13_b (tb:Nat) (T:TypeId) (v:Value) (n:Int) (d:Bool) (K:Wk) (S:Nat → Prop) (w:World) (hb:w.heap[tb]? = some (.cells #[.iface T (v),.int .i64 n,.bool d] 106 (0,0))) (hat:WkAt w S T v K):Calls Tryz.prog 16 #[.pointer (some ⟨tb,0,none⟩)] w fun e w' => e = .returned (.int .u32 K.own) ∧ w = w':=by
  cases K with
  | w F s own => obtain ⟨b,rfl,rfl,_⟩:=hat;exact own_in tb _ _ n d own 249 (.int .u32 own) w hb (fun _ => by kernel_rfl) (enters_of Tryz.func249 (by kernel_rfl) rfl) (stillown_b own w)
  | r F s own => obtain ⟨b,rfl,rfl,_⟩:=hat;exact own_in tb _ _ n d own 249 (.int .u32 own) w hb (fun _ => by kernel_rfl) (enters_of Tryz.func249 (by kernel_rfl) rfl) (stillown_b own w)
  | s F be q => obtain ⟨b,rfl,rfl,_,_,_,_,h⟩:=hat;exact own_in tb _ _ n d q.own 254 (.pointer (some ⟨b,0,none⟩)) w hb (fun _ => by kernel_rfl) (enters_of Tryz.func254 (by kernel_rfl) rfl) (opown13_b b q.own w (h.blk.cell rfl))
  | g F be q => obtain ⟨b,rfl,rfl,_,_,_,_,h⟩:=hat;exact own_in tb _ _ n d q.own 254 (.pointer (some ⟨b,0,none⟩)) w hb (fun _ => by kernel_rfl) (enters_of Tryz.func254 (by kernel_rfl) rfl) (opown13_b b q.own w (h.blk.cell rfl))
  | c F be own src no => obtain ⟨b,rfl,rfl,_,_,_,_,h,_⟩:=hat;exact own_in tb _ _ n d own 254 (.pointer (some ⟨b,0,none⟩)) w hb (fun _ => by kernel_rfl) (enters_of Tryz.func254 (by kernel_rfl) rfl) (opown13_b b own w (h.cell rfl))
  | p own a => obtain ⟨rfl,rfl,_⟩:=hat;exact own_in tb _ _ n d own 249 (.int .u32 own) w hb (fun _ => by kernel_rfl) (enters_of Tryz.func249 (by kernel_rfl) rfl) (stillown_b own w)
  | o own a z => obtain ⟨rfl,rfl,_⟩:=hat;exact own_in tb _ _ n d own 249 (.int .u32 own) w hb (fun _ => by kernel_rfl) (enters_of Tryz.func249 (by kernel_rfl) rfl) (stillown_b own w)
end Go.Proofs.YtjfolhkblbakiaaGreatDoor
end
section
namespace Go.Proofs.YtjfolhkblbakiaaGreatDoor
open Go.RowKit Go.Sort
set_option linter.unusedVariables false
set_option linter.unusedSimpArgs false
set_option linter.unusedVariables false
set_option linter.unusedSimpArgs false
set_option maxRecDepth 100000
set_option maxHeartbeats 1600000
/-- What a configuration,a standing and a request are that aren't too great. -/
def Small13 (c:Cfg) (made valid:List Int) (n:Nat):Prop:=CfgFew c ∧ acceptsB c = true ∧ made.length ≤ 60 ∧ valid.length ≤ 60 ∧ n ≤ 100
theorem great13_b (c:Cfg) (x:CfgAt) (sp:Int) (sn:Bool) (made valid:List Int) (ma va:Option Addr) (mc vc:Nat) (op port ad:Int) (ds:List Int) (da:Option Addr) (dc:Nat) (w:World) (hx:CfgIn w w.heap.size c x) (wx:CfgWf c) :
    Calls Tryz.prog 11 #[.agg (cfgCells c x),.agg #[.int .i64 sp,.bool sn,.slice ma made.length mc,.slice va valid.length vc],.agg #[.int .i64 op,.int .i64 port,.int .u64 ad,.slice da ds.length dc]] w fun e w' => ∃ q:Bool,e = .returned (.bool q) ∧ (q = false → Small13 c made valid ds.length) ∧ Below w.heap.size w w':=by
  obtain ⟨Wc,HWc,hBc,hWs,bx⟩:=one_cbox w c x 29
  obtain ⟨pa,pc,ca,cc,aa,ac,ba,bc⟩:=x
  obtain ⟨Ws,HWs,hBs,hWss,sx⟩:=box_new Wc #[.int .i64 sp,.bool sn,.slice ma made.length mc,.slice va valid.length vc] 32
  obtain ⟨W,HW,hBq,hWq,qx⟩:=box_new Ws #[.int .i64 op,.int .i64 port,.int .u64 ad,.slice da ds.length dc] 36
  have hSQ:=hBs.trans (hBq.mono hBs.size)
  have hB:=hBc.trans (hSQ.mono hBc.size)
  have BX:Hid (∀ w',Below W.heap.size W w' → Below Wc.heap.size Wc w'):=Lib.hid (fun w' h => hSQ.trans (h.mono hSQ.size))
  have SX:Hid (∀ w',Below W.heap.size W w' → w'.heap[Wc.heap.size]? = some (.cells #[.int .i64 sp,.bool sn,.slice ma made.length mc,.slice va valid.length vc] 32 (0,0))):=Lib.hid (fun w' h => sx _ (hBq.trans (h.mono hBq.size)))
  have QX:Hid (∀ w',Below W.heap.size W w' → w'.heap[Ws.heap.size]? = some (.cells #[.int .i64 op,.int .i64 port,.int .u64 ad,.slice da ds.length dc] 36 (0,0))):=Lib.hid (fun w' h => qx _ h)
  obtain ⟨sb,hsb⟩:∃ n,n = Wc.heap.size:=⟨_,rfl⟩
  obtain ⟨qb,hqb⟩:∃ n,n = Ws.heap.size:=⟨_,rfl⟩
  rw [← hsb] at SX
  rw [← hqb] at QX
  have HSB:=Lib.hid hsb;have HQB:=Lib.hid hqb;have HB:=Lib.hid hB;have CX:=Lib.hid bx
  have HXW:=Lib.hid (hx.later hB)
  simp only [cfgCells] at HWc ⊢
  clear hBc hWs bx hBs hWss sx hBq hWq qx hSQ hB hsb hqb hx
  obtain ⟨c0,c1,c2,c3,c4,c5⟩:=CX.out _ (BX.out _ (Below.refl _ _))
  have s0:W.cell? ⟨sb,0,none⟩ = some (.int .i64 sp):=cell_blk (SX.out _ (Below.refl _ _)) rfl
  have s1:W.cell? ⟨sb,1,none⟩ = some (.bool sn):=cell_blk (SX.out _ (Below.refl _ _)) rfl
  have s2:W.cell? ⟨sb,2,none⟩ = some (.slice ma made.length mc):=cell_blk (SX.out _ (Below.refl _ _)) rfl
  have s3:W.cell? ⟨sb,3,none⟩ = some (.slice va valid.length vc):=cell_blk (SX.out _ (Below.refl _ _)) rfl
  have q0:W.cell? ⟨qb,0,none⟩ = some (.int .i64 op):=cell_blk (QX.out _ (Below.refl _ _)) rfl
  have q1:W.cell? ⟨qb,1,none⟩ = some (.int .i64 port):=cell_blk (QX.out _ (Below.refl _ _)) rfl
  have q2:W.cell? ⟨qb,2,none⟩ = some (.int .u64 ad):=cell_blk (QX.out _ (Below.refl _ _)) rfl
  have q3:W.cell? ⟨qb,3,none⟩ = some (.slice da ds.length dc):=cell_blk (QX.out _ (Below.refl _ _)) rfl
  go_enter Tryz.func11,Tryz.ntmps11
  by_cases hg:cfgLe 100 c = true
  case neg =>
    have HG:=Lib.hid (great_is c ⟨pa,pc,ca,cc,aa,ac,ba,bc⟩ true W (by rw [Bool.not_eq_true] at hg;rw [hg];rfl))
    simp only [cfgCells] at HG
    clear hg
    go_wp2_with (first | (rw [← HWc.out]) | (simp only [← HSB.out];rw [← HWs.out]) | (simp only [← HQB.out];rw [← HW.out]))
    refine HG.out.mono ?_
    rintro e w2 ⟨rfl,hb2⟩
    clear c0 c1 c2 c3 c4 c5 s0 s1 s2 s3 q0 q1 q2 q3
    have HF:=Lib.hid (HB.out.trans (hb2.mono HB.out.size))
    clear hb2
    go_wp2
    go_ret
    exact ⟨true,rfl,(fun h => by cases h),HF.out⟩
  have lx:=cfgLe_few hg (by omega)
  have HG:=Lib.hid (great_is c ⟨pa,pc,ca,cc,aa,ac,ba,bc⟩ false W (by rw [hg];rfl))
  simp only [cfgCells] at HG
  clear hg
  go_wp2_with (first | (rw [← HWc.out]) | (simp only [← HSB.out];rw [← HWs.out]) | (simp only [← HQB.out];rw [← HW.out]))
  refine HG.out.mono ?_
  rintro e w2 ⟨rfl,hb2⟩
  clear c0 c1 c2 c3 c4 c5 s0 s1 s2 s3 q0 q1 q2 q3
  have H2:=Lib.hid hb2
  obtain ⟨ac_,hac⟩:∃ q,acceptsB c = q:=⟨_,rfl⟩
  have HA:=Lib.hid (racc_b c ⟨pa,pc,ca,cc,aa,ac,ba,bc⟩ ac_ w2 (HXW.out.later hb2) wx lx hac)
  have HAC:=Lib.hid hac;have HLX:=Lib.hid lx
  simp only [cfgCells] at HA
  obtain ⟨c0,c1,c2,c3,c4,c5⟩:=CX.out _ (BX.out _ hb2)
  have s0:w2.cell? ⟨sb,0,none⟩ = some (.int .i64 sp):=cell_blk (SX.out _ hb2) rfl
  have s1:w2.cell? ⟨sb,1,none⟩ = some (.bool sn):=cell_blk (SX.out _ hb2) rfl
  have s2:w2.cell? ⟨sb,2,none⟩ = some (.slice ma made.length mc):=cell_blk (SX.out _ hb2) rfl
  have s3:w2.cell? ⟨sb,3,none⟩ = some (.slice va valid.length vc):=cell_blk (SX.out _ hb2) rfl
  have q0:w2.cell? ⟨qb,0,none⟩ = some (.int .i64 op):=cell_blk (QX.out _ hb2) rfl
  have q1:w2.cell? ⟨qb,1,none⟩ = some (.int .i64 port):=cell_blk (QX.out _ hb2) rfl
  have q2:w2.cell? ⟨qb,2,none⟩ = some (.int .u64 ad):=cell_blk (QX.out _ hb2) rfl
  have q3:w2.cell? ⟨qb,3,none⟩ = some (.slice da ds.length dc):=cell_blk (QX.out _ hb2) rfl
  clear hb2 hac lx
  go_wp2_with fail
  refine HA.out.mono ?_
  rintro e w3 ⟨rfl,hb3⟩
  have H3:=Lib.hid (H2.out.trans (hb3.mono H2.out.size))
  clear c0 c1 c2 c3 c4 c5 s0 s1 s2 s3 q0 q1 q2 q3
  obtain ⟨c0,c1,c2,c3,c4,c5⟩:=CX.out _ (BX.out _ H3.out)
  have s0:w3.cell? ⟨sb,0,none⟩ = some (.int .i64 sp):=cell_blk (SX.out _ H3.out) rfl
  have s1:w3.cell? ⟨sb,1,none⟩ = some (.bool sn):=cell_blk (SX.out _ H3.out) rfl
  have s2:w3.cell? ⟨sb,2,none⟩ = some (.slice ma made.length mc):=cell_blk (SX.out _ H3.out) rfl
  have s3:w3.cell? ⟨sb,3,none⟩ = some (.slice va valid.length vc):=cell_blk (SX.out _ H3.out) rfl
  have q0:w3.cell? ⟨qb,0,none⟩ = some (.int .i64 op):=cell_blk (QX.out _ H3.out) rfl
  have q1:w3.cell? ⟨qb,1,none⟩ = some (.int .i64 port):=cell_blk (QX.out _ H3.out) rfl
  have q2:w3.cell? ⟨qb,2,none⟩ = some (.int .u64 ad):=cell_blk (QX.out _ H3.out) rfl
  have q3:w3.cell? ⟨qb,3,none⟩ = some (.slice da ds.length dc):=cell_blk (QX.out _ H3.out) rfl
  clear hb3
  have HF:=Lib.hid (HB.out.trans (H3.out.mono HB.out.size))
  cases ac_ with
  | false =>
    go_wp2
    go_ret
    exact ⟨true,rfl,(fun h => by cases h),HF.out⟩
  | true =>
    by_cases g1:(60:Int) < (made.length:Int)
    · go_wp2
      go_ret
      exact ⟨true,rfl,(fun h => by cases h),HF.out⟩
    have g1d:decide ((60:Int) < (made.length:Int)) = false:=decide_eq_false g1
    by_cases g2:(60:Int) < (valid.length:Int)
    · go_wp2
      go_ret
      exact ⟨true,rfl,(fun h => by cases h),HF.out⟩
    have g2d:decide ((60:Int) < (valid.length:Int)) = false:=decide_eq_false g2
    by_cases g3:(100:Int) < (ds.length:Int)
    · go_wp2
      go_ret
      exact ⟨true,rfl,(fun h => by cases h),HF.out⟩
    have g3d:decide ((100:Int) < (ds.length:Int)) = false:=decide_eq_false g3
    have HSM:Hid (Small13 c made valid ds.length):=Lib.hid ⟨HLX.out,HAC.out,by omega,by omega,by omega⟩
    go_wp2
    go_ret
    exact ⟨false,rfl,(fun _ => HSM.out),HF.out⟩
end Go.Proofs.YtjfolhkblbakiaaGreatDoor
end
