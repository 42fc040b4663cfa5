/- Texts of the ring, joined, what is used of them. No condition but those in the statements. -/
import Derived.BigQuiet
import Derived.BigRegion
import Derived.Deep.MidRow
import Derived.Deep.RegionHeld3
import Derived.Deep.RegionWith
import Derived.Deep.Upon
import Derived.IntWalk
import Derived.Maps.OwnOps
import Derived.Test.YtheeiklgblcjfaaGreatDoorRMDo
import Derived.Test.YtheeiklgblcjfaaGreatDoorRPSg
import Derived.Test.YtheeiklgblcjfaaGreatDoorRgb
import Derived.Test.YtheeiklgblcjfaaGreatDoorRgl
import Derived.Test.YtheeiklgblcjfaaGreatDoorRgn
section
namespace Go.Proofs.YtheeiklgblcjfaaGreatDoor
open Go.RowKit Go.Sort
set_option linter.unusedVariables false
set_option linter.unusedSimpArgs false
set_option linter.unusedVariables false
set_option linter.unusedSimpArgs false
set_option maxRecDepth 100000
set_option maxRecDepth 100000
set_option maxHeartbeats 3200000
theorem cfg_size14:(Tryz.prog.info? 29).map (·.size) = some 6:=by kernel_rfl
theorem blkP_put {W:World} {a o:Nat} {cs cs':Array Value} {v:Value} {t:TypeId} {m:Nat × Nat} (h:W.heap[a]? = some (.cells cs t m)) (e:cs.setIfInBounds o v = cs'):(W.setCell ⟨a,o,none⟩ v).heap[a]? = some (.cells cs' t m):=by
  subst e;simp [World.setCell,Array.getElem?_modify,h]
theorem RowN.onlyP {ks:List IntKind} {w w':World} {B:Nat} {A:Option Addr} {l:List (List Int)} {S:Nat → Prop} (h:RowN ks w B A l) (hB:B ≤ w.heap.size) (ho:Only S w w') (hA:0 < l.length → ∀ a,A = some a → ¬ S a.block):RowN ks w' B A l:=fun hn => by
  obtain ⟨b,o,rfl,hlt,hc⟩:=h hn
  refine ⟨b,o,rfl,hlt,fun i x hx j v hv => ?_⟩
  rw [← hc i x hx j v hv]
  simp [World.cell?,ho.block b (by omega) (hA hn _ rfl)]
/-- Rows that came later than block n. -/
def NewRow (n:Nat) (A:Option Addr) (len:Nat):Prop:=0 < len → ∀ a,A = some a → n ≤ a.block
/-- A configuration's copy: its rows are the call's own. -/
structure CfgOwn (n:Nat) (c:Cfg) (x:CfgAt):Prop where
  p:NewRow n x.pa c.parts.length
  k:NewRow n x.ca c.chans.length
  a:NewRow n x.aa c.win0.length
  b:NewRow n x.ba c.win1.length
def GivesCfgOf (w:World) (c:Cfg) (e:Ending) (w':World):Prop:=∃ x,e = .returned (.agg (cfgCells c x)) ∧ CfgIn w' w'.heap.size c x ∧ CfgOwn w.heap.size c x ∧ Below w.heap.size w w'
theorem old_off {ks:List IntKind} {w:World} {b:Nat} {A:Option Addr} {l:List (List Int)} (h:RowN ks w w.heap.size A l) (hb:w.heap.size ≤ b):0 < l.length → ∀ a,A = some a → a.block ≠ b:=fun hp a ha e => by
  obtain ⟨g,o,e2,hlt,_⟩:=h hp
  have:=e2.symm.trans ha
  cases this
  have e:g = b:=e
  omega
/-- A row that lies apart from block b,with its capacity. -/
structure RowC (ks:List IntKind) (w:World) (b:Nat) (A:Option Addr) (c:Nat) (l:List (List Int)):Prop where
  row:RowN ks w w.heap.size A l
  off:0 < l.length → ∀ a,A = some a → a.block ≠ b
  cap:l.length ≤ c ∧ c ≤ maxLen ∧ (A = none → l = [])
theorem RowC.later {ks:List IntKind} {w w':World} {b:Nat} {A:Option Addr} {c:Nat} {l:List (List Int)} (h:RowC ks w b A c l) (hb:Below w.heap.size w w'):RowC ks w' b A c l:=⟨h.row.later hb,h.off,h.cap⟩
theorem RowC.put {ks:List IntKind} {w:World} {b o:Nat} {A:Option Addr} {c:Nat} {l:List (List Int)} (h:RowC ks w b A c l) (v:Value):RowC ks (w.setCell ⟨b,o,none⟩ v) b A c l:=
  ⟨by rw [show (w.setCell ⟨b,o,none⟩ v).heap.size = w.heap.size by simp [World.setCell]];exact h.row.onlyP (Nat.le_refl _) (Only.setCell w ⟨b,o,none⟩ v) h.off,h.off,h.cap⟩
theorem GivesRowN.rowC {ks:List IntKind} {w w':World} {l:List (List Int)} {A:Option Addr} {c b n:Nat} (hr:RowN ks w' w'.heap.size A l) (hn:0 < l.length → ∀ a,A = some a → w.heap.size ≤ a.block) (hq:l.length ≤ c ∧ c ≤ maxLen ∧ (A = none → l = [])) (hb:b < w.heap.size) (hm:n ≤ w.heap.size):RowC ks w' b A c l ∧ NewRow n A l.length:=
  ⟨⟨hr,fun hp a ha e => by have:=hn hp a ha;omega,hq⟩,fun hp a ha => Nat.le_trans hm (hn hp a ha)⟩
theorem configOf_b (c:Cfg) (x:CfgAt) (w:World) (hx:CfgIn w w.heap.size c x) (hc:CfgWf c) (hl:CfgFew c):Calls Tryz.prog 30 #[.agg (cfgCells c x)] w (GivesCfgOf w c):=by
  obtain ⟨pa,pc,ca,cc,aa,ac,ba,bc⟩:=x
  obtain ⟨xb,hxb⟩:∃ k,k = w.heap.size:=⟨_,rfl⟩
  obtain ⟨W1,HW1,hB1,hs1,bx⟩:=box_new w (#[.slice pa c.parts.length pc,.slice ca c.chans.length cc,.int .i64 c.len0,.slice aa c.win0.length ac,.int .i64 c.len1,.slice ba c.win1.length bc]) 29
  obtain ⟨W,HW,hB2,hs2,rx⟩:=box_new W1 #[.slice none 0 0,.slice none 0 0,.int .i64 0,.slice none 0 0,.int .i64 0,.slice none 0 0] 29
  have hsz1:W1.heap.size = xb + 1:=by rw [HW1.out,hxb];simp
  have hsz2:W.heap.size = xb + 2:=by rw [HW.out];simp [hsz1]
  rw [← hxb] at bx hB1
  rw [hsz1] at rx
  have hBW:Below xb w W:=hB1.trans (hB2.mono (by omega))
  have hxW:CfgIn W W.heap.size c ⟨pa,pc,ca,cc,aa,ac,ba,bc⟩:=hx.later (by rw [← hxb];exact hBW)
  have HXI:=Lib.hid hx
  have HXW:Hid (W.heap[xb]? = some (.cells (#[.slice pa c.parts.length pc,.slice ca c.chans.length cc,.int .i64 c.len0,.slice aa c.win0.length ac,.int .i64 c.len1,.slice ba c.win1.length bc]) 29 (0,0))):=Lib.hid (bx W hB2)
  have HRW:Hid (W.heap[xb + 1]? = some (.cells #[.slice none 0 0,.slice none 0 0,.int .i64 0,.slice none 0 0,.int .i64 0,.slice none 0 0] 29 (0,0))):=Lib.hid (rx W (Below.refl _ _))
  have HL2:Hid (xb < W.heap.size ∧ xb + 1 < W.heap.size ∧ W.heap.size = xb + 2):=Lib.hid (by omega)
  have HCP:=Lib.hid (fun V (hb:Below W.heap.size W V) => cloneP_b pa pc c.parts V (hxW.later hb).rp hc.wp (rowP_none hxW.rp) hl.1)
  have HCC:=Lib.hid (fun V (hb:Below W.heap.size W V) => cloneC_b ca cc c.chans V (hxW.later hb).rc hc.wc (rowP_none hxW.rc) hl.2.1)
  have HRA:Hid (RowC [.i64,.i64,.i64] W xb aa ac c.win0):=Lib.hid ⟨hxW.ra,old_off hx.ra (by omega),hxW.la⟩
  have HRB:Hid (RowC [.i64,.i64,.i64] W xb ba bc c.win1):=Lib.hid ⟨hxW.rb,old_off hx.rb (by omega),hxW.lb⟩
  have HXC:=Lib.hid hxW;have HWF:=Lib.hid hc;have HFW:=Lib.hid hl;have HBW:=Lib.hid hBW;have HXB:=Lib.hid hxb;have HS1:=Lib.hid hsz1
  have c0:W.cell? ⟨xb,0,none⟩ = some (.slice pa c.parts.length pc):=cell_blk HXW.out (i:=0) rfl
  have cz0:W.frozen? ⟨xb,0,none⟩ = false:=(by simp [World.frozen?,HXW.out])
  have c1:W.cell? ⟨xb,1,none⟩ = some (.slice ca c.chans.length cc):=cell_blk HXW.out (i:=1) rfl
  have cz1:W.frozen? ⟨xb,1,none⟩ = false:=(by simp [World.frozen?,HXW.out])
  have c2:W.cell? ⟨xb,2,none⟩ = some (.int .i64 c.len0):=cell_blk HXW.out (i:=2) rfl
  have cz2:W.frozen? ⟨xb,2,none⟩ = false:=(by simp [World.frozen?,HXW.out])
  have c3:W.cell? ⟨xb,3,none⟩ = some (.slice aa c.win0.length ac):=cell_blk HXW.out (i:=3) rfl
  have cz3:W.frozen? ⟨xb,3,none⟩ = false:=(by simp [World.frozen?,HXW.out])
  have c4:W.cell? ⟨xb,4,none⟩ = some (.int .i64 c.len1):=cell_blk HXW.out (i:=4) rfl
  have cz4:W.frozen? ⟨xb,4,none⟩ = false:=(by simp [World.frozen?,HXW.out])
  have c5:W.cell? ⟨xb,5,none⟩ = some (.slice ba c.win1.length bc):=cell_blk HXW.out (i:=5) rfl
  have cz5:W.frozen? ⟨xb,5,none⟩ = false:=(by simp [World.frozen?,HXW.out])
  simp only [cfgCells]
  clear hxW hx hc hl hBW hB1 hB2 bx rx hs1 hs2 hsz1 hsz2 hxb
  go_enter Tryz.func30,Tryz.ntmps30
  go_wp2_with (first | (rw [← HW1.out];(try simp only [← HXB.out])) | (rw [← HW.out];(try simp only [HS1.out])))
  try simp only [← HXB.out,HS1.out]
  apply cutP
  rotate_left
  intro key
  · go_region_with (first | (go_at_call 58;((with_reducible refine (HCP.out _ ?_).mono ?_);(first | exact (Below.refl _ _).drew | exact Below.refl _ _);rintro e w5 ⟨A5,q5,rfl,hr5,hn5,hq5,hb5o⟩;have hb5:=(Below.refl W.heap.size W).drew.trans hb5o;clear hb5o;have k5:=(hb5.block _ HL2.out.1).trans HXW.out;have d0:w5.cell? ⟨xb,0,none⟩ = some (.slice pa c.parts.length pc):=cell_blk k5 (i:=0) rfl;have dz0:w5.frozen? ⟨xb,0,none⟩ = false:=(by simp [World.frozen?,k5]);have d1:w5.cell? ⟨xb,1,none⟩ = some (.slice ca c.chans.length cc):=cell_blk k5 (i:=1) rfl;have dz1:w5.frozen? ⟨xb,1,none⟩ = false:=(by simp [World.frozen?,k5]);have d2:w5.cell? ⟨xb,2,none⟩ = some (.int .i64 c.len0):=cell_blk k5 (i:=2) rfl;have dz2:w5.frozen? ⟨xb,2,none⟩ = false:=(by simp [World.frozen?,k5]);have d3:w5.cell? ⟨xb,3,none⟩ = some (.slice aa c.win0.length ac):=cell_blk k5 (i:=3) rfl;have dz3:w5.frozen? ⟨xb,3,none⟩ = false:=(by simp [World.frozen?,k5]);have d4:w5.cell? ⟨xb,4,none⟩ = some (.int .i64 c.len1):=cell_blk k5 (i:=4) rfl;have dz4:w5.frozen? ⟨xb,4,none⟩ = false:=(by simp [World.frozen?,k5]);have d5:w5.cell? ⟨xb,5,none⟩ = some (.slice ba c.win1.length bc):=cell_blk k5 (i:=5) rfl;have dz5:w5.frozen? ⟨xb,5,none⟩ = false:=(by simp [World.frozen?,k5]))) | (go_at_call 59;((with_reducible refine (HCC.out _ hb5).mono ?_);rintro e w6 ⟨A6,q6,rfl,hr6,hn6,hq6,hb6⟩;have k6:=(hb6.block _ (Nat.lt_of_lt_of_le HL2.out.1 hb5.size)).trans k5;have g0:w6.cell? ⟨xb,0,none⟩ = some (.slice pa c.parts.length pc):=cell_blk k6 (i:=0) rfl;have gz0:w6.frozen? ⟨xb,0,none⟩ = false:=(by simp [World.frozen?,k6]);have g1:w6.cell? ⟨xb,1,none⟩ = some (.slice ca c.chans.length cc):=cell_blk k6 (i:=1) rfl;have gz1:w6.frozen? ⟨xb,1,none⟩ = false:=(by simp [World.frozen?,k6]);have g2:w6.cell? ⟨xb,2,none⟩ = some (.int .i64 c.len0):=cell_blk k6 (i:=2) rfl;have gz2:w6.frozen? ⟨xb,2,none⟩ = false:=(by simp [World.frozen?,k6]);have g3:w6.cell? ⟨xb,3,none⟩ = some (.slice aa c.win0.length ac):=cell_blk k6 (i:=3) rfl;have gz3:w6.frozen? ⟨xb,3,none⟩ = false:=(by simp [World.frozen?,k6]);have g4:w6.cell? ⟨xb,4,none⟩ = some (.int .i64 c.len1):=cell_blk k6 (i:=4) rfl;have gz4:w6.frozen? ⟨xb,4,none⟩ = false:=(by simp [World.frozen?,k6]);have g5:w6.cell? ⟨xb,5,none⟩ = some (.slice ba c.win1.length bc):=cell_blk k6 (i:=5) rfl;have gz5:w6.frozen? ⟨xb,5,none⟩ = false:=(by simp [World.frozen?,k6]))))
    all_goals
      obtain ⟨X,hX⟩:∃ u,Hid (u = (w6.setCell ⟨xb,0,none⟩ (.slice A5 c.parts.length q5)).setCell ⟨xb,1,none⟩ (.slice A6 c.chans.length q6)):=⟨_,rfl⟩
      rw [← hX.out]
      have hl5:xb < w5.heap.size:=Nat.lt_of_lt_of_le HL2.out.1 hb5.size
      have hb6':=hb5.trans (hb6.mono hb5.size)
      obtain ⟨r5,n5⟩:=GivesRowN.rowC (b:=xb) (n:=xb + 2) hr5 hn5 hq5 HL2.out.1 (by show xb + 2 ≤ W.heap.size;have:=HL2.out;omega)
      obtain ⟨r6,n6⟩:=GivesRowN.rowC (b:=xb) (n:=xb + 2) hr6 hn6 hq6 hl5 (by have:=hb5.size;have:=HL2.out;omega)
      have e1:X.heap[xb]? = some (.cells (#[.slice A5 c.parts.length q5,.slice A6 c.chans.length q6,.int .i64 c.len0,.slice aa c.win0.length ac,.int .i64 c.len1,.slice ba c.win1.length bc]) 29 (0,0)):=by rw [hX.out];exact blkP_put (blkP_put k6 rfl) rfl
      have e2:X.heap[xb + 1]? = some (.cells #[.slice none 0 0,.slice none 0 0,.int .i64 0,.slice none 0 0,.int .i64 0,.slice none 0 0] 29 (0,0)):=by rw [hX.out];exact (Below.heap_setCell _ _ _ _ (by show xb + 1 ≠ xb;omega)).trans ((Below.heap_setCell _ _ _ _ (by show xb + 1 ≠ xb;omega)).trans ((hb6'.block _ HL2.out.2.1).trans HRW.out))
      have e3:RowC [.i64,.i64] X xb A5 q5 c.parts:=by rw [hX.out];exact ((r5.later hb6).put _).put _
      have e4:RowC [.i64,.i64,.i64,.i64,.i64,.i64,.u32] X xb A6 q6 c.chans:=by rw [hX.out];exact (r6.put _).put _
      have e5:RowC [.i64,.i64,.i64] X xb aa ac c.win0:=by rw [hX.out];exact ((HRA.out.later hb6').put _).put _
      have e6:RowC [.i64,.i64,.i64] X xb ba bc c.win1:=by rw [hX.out];exact ((HRB.out.later hb6').put _).put _
      have e7:Below xb w X:=by rw [hX.out];exact ((HBW.out.trans (hb6'.mono (by have:=HL2.out;omega))).setCell (p:=⟨xb,0,none⟩) (Nat.le_refl _) _).setCell (p:=⟨xb,1,none⟩) (Nat.le_refl _) _
      clear hX r5 r6 hr5 hn5 hq5 hr6 hn6 hq6 hl5 hb5 hb6 hb6' k5 k6 d0 dz0 g0 gz0 d1 dz1 g1 gz1 d2 dz2 g2 gz2 d3 dz3 g3 gz3 d4 dz4 g4 gz4 d5 dz5 g5 gz5
      clear w5 w6
      revert e7;revert e6;revert e5;revert e4;revert e3;revert e2;revert e1;revert n6;revert n5
      revert X;revert q6;revert A6;revert q5;revert A5
      exact key.get
  intro A5 q5 A6 q6 X n5 n6 e1 e2 e3 e4 e5 e6 e7
  have HN56:=Lib.hid (And.intro n5 n6)
  have HE1:=Lib.hid e1;have HE2:=Lib.hid e2;have HE3:=Lib.hid e3;have HE4:=Lib.hid e4;have HE5:=Lib.hid e5;have HE6:=Lib.hid e6;have HE7:=Lib.hid e7
  clear n5 n6 e1 e2 e3 e4 e5 e6 e7 c0 cz0 c1 cz1 c2 cz2 c3 cz3 c4 cz4 c5 cz5
  go_wp2_with fail
  go_loopw [12] (fun ix wr => ∃ (k:Nat) (aa:Option Addr) (ac:Nat) (ba:Option Addr) (bc:Nat),k ≤ 2 ∧ ix = .int .i64 k ∧ wr.heap[xb]? = some (.cells (#[.slice A5 c.parts.length q5,.slice A6 c.chans.length q6,.int .i64 c.len0,.slice aa c.win0.length ac,.int .i64 c.len1,.slice ba c.win1.length bc]) 29 (0,0)) ∧ wr.heap[xb + 1]? = some (.cells #[.slice none 0 0,.slice none 0 0,.int .i64 0,.slice none 0 0,.int .i64 0,.slice none 0 0] 29 (0,0)) ∧
    RowC [.i64,.i64] wr xb A5 q5 c.parts ∧ RowC [.i64,.i64,.i64,.i64,.i64,.i64,.u32] wr xb A6 q6 c.chans ∧ RowC [.i64,.i64,.i64] wr xb aa ac c.win0 ∧ RowC [.i64,.i64,.i64] wr xb ba bc c.win1 ∧ ((1 ≤ k → NewRow (xb + 2) aa c.win0.length) ∧ (2 ≤ k → NewRow (xb + 2) ba c.win1.length)) ∧ Below xb w wr) (fun ix _ => (2 - intOf ix).toNat)
  case atStart => exact ⟨0,aa,ac,ba,bc,by omega,rfl,HE1.out,HE2.out,HE3.out,HE4.out,HE5.out,HE6.out,⟨fun h => by omega,fun h => by omega⟩,HE7.out⟩
  case round =>
    clear HE1 HE2 HE3 HE4 HE5 HE6 HE7
    obtain ⟨k,aa,ac,ba,bc,hk,rfl,hbx,hrs,hp,hcc,ha,hb,hnw,hbc⟩:=hrel
    rcases (show k = 0 ∨ k = 1 ∨ k = 2 by omega) with rfl | rfl | rfl
    · have HCL:=Lib.hid (cloneW_b aa ac c.win0 wr ha.row HWF.out.wa (rowP_none ha.row) HFW.out.2.2.1)
      have c0:wr.cell? ⟨xb,0,none⟩ = some (.slice A5 c.parts.length q5):=cell_blk hbx (i:=0) rfl
      have c1:wr.cell? ⟨xb,1,none⟩ = some (.slice A6 c.chans.length q6):=cell_blk hbx (i:=1) rfl
      have c2:wr.cell? ⟨xb,2,none⟩ = some (.int .i64 c.len0):=cell_blk hbx (i:=2) rfl
      have c3:wr.cell? ⟨xb,3,none⟩ = some (.slice aa c.win0.length ac):=cell_blk hbx (i:=3) rfl
      have c4:wr.cell? ⟨xb,4,none⟩ = some (.int .i64 c.len1):=cell_blk hbx (i:=4) rfl
      have c5:wr.cell? ⟨xb,5,none⟩ = some (.slice ba c.win1.length bc):=cell_blk hbx (i:=5) rfl
      have hxl:xb < wr.heap.size:=(Array.getElem?_eq_some_iff.1 hbx).1
      have hrl:xb + 1 < wr.heap.size:=(Array.getElem?_eq_some_iff.1 hrs).1
      have HL:=Lib.hid (And.intro hxl hrl)
      have HBC:=Lib.hid hbc;have HBX:=Lib.hid hbx;have HRS:=Lib.hid hrs;have HP:=Lib.hid hp;have HC:=Lib.hid hcc;have HA:=Lib.hid ha;have HB:=Lib.hid hb;have HNW:=Lib.hid hnw
      clear hbc hbx hrs hp hcc ha hb hnw
      go_wp2_with fail
      refine HCL.out.mono ?_
      rintro e w5 ⟨A',c',rfl,hr5,hn5,hq5,hb5⟩
      have k5:=(hb5.block _ HL.out.1).trans HBX.out
      have d3:w5.cell? ⟨xb,3,none⟩ = some (.slice aa c.win0.length ac):=cell_blk k5 (i:=3) rfl
      have f5:w5.frozen? ⟨xb,3,none⟩ = false:=by simp [World.frozen?,k5]
      obtain ⟨w6,hw6⟩:∃ u,Hid (u = w5.setCell ⟨xb,3,none⟩ (.slice A' c.win0.length c')):=⟨_,rfl⟩
      have HK6:Hid (w6.heap[xb]? = some (.cells (#[.slice A5 c.parts.length q5,.slice A6 c.chans.length q6,.int .i64 c.len0,.slice A' c.win0.length c',.int .i64 c.len1,.slice ba c.win1.length bc]) 29 (0,0))):=Lib.hid (by rw [hw6.out];exact blkP_put k5 rfl)
      have HR6:Hid (w6.heap[xb + 1]? = some (.cells #[.slice none 0 0,.slice none 0 0,.int .i64 0,.slice none 0 0,.int .i64 0,.slice none 0 0] 29 (0,0))):=Lib.hid (by rw [hw6.out];exact (Below.heap_setCell _ _ _ _ (by show xb + 1 ≠ xb;omega)).trans ((hb5.block _ HL.out.2).trans HRS.out))
      obtain ⟨hrc,hnn⟩:=GivesRowN.rowC (b:=xb) (n:=xb + 2) hr5 hn5 hq5 HL.out.1 HL.out.2
      have HN6:Hid (RowC [.i64,.i64,.i64] w6 xb A' c' c.win0):=Lib.hid (by rw [hw6.out];exact hrc.put _)
      have HP6:Hid (RowC [.i64,.i64] w6 xb A5 q5 c.parts):=Lib.hid (by rw [hw6.out];exact (HP.out.later hb5).put _)
      have HC6:Hid (RowC [.i64,.i64,.i64,.i64,.i64,.i64,.u32] w6 xb A6 q6 c.chans):=Lib.hid (by rw [hw6.out];exact (HC.out.later hb5).put _)
      have HO6:Hid (RowC [.i64,.i64,.i64] w6 xb ba bc c.win1):=Lib.hid (by rw [hw6.out];exact (HB.out.later hb5).put _)
      have HB6:Hid (Below xb w w6):=Lib.hid (by rw [hw6.out];exact (HBC.out.trans (hb5.mono (by have:=HL.out.1;omega))).setCell (p:=⟨xb,3,none⟩) (Nat.le_refl _) _)
      have HNN:=Lib.hid hnn
      clear hrc hnn hr5 hn5 hq5 hb5 k5 c0 c1 c2 c3 c4 c5
      go_wp2_with (rw [← hw6.out])
      go_roundw
      case rel => exact ⟨1,A',c',ba,bc,by omega,rfl,HK6.out,HR6.out,HP6.out,HC6.out,HN6.out,HO6.out,⟨fun _ => HNN.out,fun h => by omega⟩,HB6.out⟩
      case measure => simp [intOf]
    · have HCL:=Lib.hid (cloneW_b ba bc c.win1 wr hb.row HWF.out.wb (rowP_none hb.row) HFW.out.2.2.2)
      have c0:wr.cell? ⟨xb,0,none⟩ = some (.slice A5 c.parts.length q5):=cell_blk hbx (i:=0) rfl
      have c1:wr.cell? ⟨xb,1,none⟩ = some (.slice A6 c.chans.length q6):=cell_blk hbx (i:=1) rfl
      have c2:wr.cell? ⟨xb,2,none⟩ = some (.int .i64 c.len0):=cell_blk hbx (i:=2) rfl
      have c3:wr.cell? ⟨xb,3,none⟩ = some (.slice aa c.win0.length ac):=cell_blk hbx (i:=3) rfl
      have c4:wr.cell? ⟨xb,4,none⟩ = some (.int .i64 c.len1):=cell_blk hbx (i:=4) rfl
      have c5:wr.cell? ⟨xb,5,none⟩ = some (.slice ba c.win1.length bc):=cell_blk hbx (i:=5) rfl
      have hxl:xb < wr.heap.size:=(Array.getElem?_eq_some_iff.1 hbx).1
      have hrl:xb + 1 < wr.heap.size:=(Array.getElem?_eq_some_iff.1 hrs).1
      have HL:=Lib.hid (And.intro hxl hrl)
      have HBC:=Lib.hid hbc;have HBX:=Lib.hid hbx;have HRS:=Lib.hid hrs;have HP:=Lib.hid hp;have HC:=Lib.hid hcc;have HA:=Lib.hid ha;have HB:=Lib.hid hb;have HNW:=Lib.hid hnw
      clear hbc hbx hrs hp hcc ha hb hnw
      go_wp2_with fail
      refine HCL.out.mono ?_
      rintro e w5 ⟨A',c',rfl,hr5,hn5,hq5,hb5⟩
      have k5:=(hb5.block _ HL.out.1).trans HBX.out
      have d5:w5.cell? ⟨xb,5,none⟩ = some (.slice ba c.win1.length bc):=cell_blk k5 (i:=5) rfl
      have f5:w5.frozen? ⟨xb,5,none⟩ = false:=by simp [World.frozen?,k5]
      obtain ⟨w6,hw6⟩:∃ u,Hid (u = w5.setCell ⟨xb,5,none⟩ (.slice A' c.win1.length c')):=⟨_,rfl⟩
      have HK6:Hid (w6.heap[xb]? = some (.cells (#[.slice A5 c.parts.length q5,.slice A6 c.chans.length q6,.int .i64 c.len0,.slice aa c.win0.length ac,.int .i64 c.len1,.slice A' c.win1.length c']) 29 (0,0))):=Lib.hid (by rw [hw6.out];exact blkP_put k5 rfl)
      have HR6:Hid (w6.heap[xb + 1]? = some (.cells #[.slice none 0 0,.slice none 0 0,.int .i64 0,.slice none 0 0,.int .i64 0,.slice none 0 0] 29 (0,0))):=Lib.hid (by rw [hw6.out];exact (Below.heap_setCell _ _ _ _ (by show xb + 1 ≠ xb;omega)).trans ((hb5.block _ HL.out.2).trans HRS.out))
      obtain ⟨hrc,hnn⟩:=GivesRowN.rowC (b:=xb) (n:=xb + 2) hr5 hn5 hq5 HL.out.1 HL.out.2
      have HN6:Hid (RowC [.i64,.i64,.i64] w6 xb A' c' c.win1):=Lib.hid (by rw [hw6.out];exact hrc.put _)
      have HP6:Hid (RowC [.i64,.i64] w6 xb A5 q5 c.parts):=Lib.hid (by rw [hw6.out];exact (HP.out.later hb5).put _)
      have HC6:Hid (RowC [.i64,.i64,.i64,.i64,.i64,.i64,.u32] w6 xb A6 q6 c.chans):=Lib.hid (by rw [hw6.out];exact (HC.out.later hb5).put _)
      have HO6:Hid (RowC [.i64,.i64,.i64] w6 xb aa ac c.win0):=Lib.hid (by rw [hw6.out];exact (HA.out.later hb5).put _)
      have HB6:Hid (Below xb w w6):=Lib.hid (by rw [hw6.out];exact (HBC.out.trans (hb5.mono (by have:=HL.out.1;omega))).setCell (p:=⟨xb,5,none⟩) (Nat.le_refl _) _)
      have HNN:=Lib.hid hnn
      clear hrc hnn hr5 hn5 hq5 hb5 k5 c0 c1 c2 c3 c4 c5
      go_wp2_with (rw [← hw6.out])
      go_roundw
      case rel => exact ⟨2,aa,ac,A',c',by omega,rfl,HK6.out,HR6.out,HP6.out,HC6.out,HO6.out,HN6.out,⟨fun _ => HNW.out.1 (by omega),fun _ => HNN.out⟩,HB6.out⟩
      case measure => simp [intOf]
    · have c0:wr.cell? ⟨xb,0,none⟩ = some (.slice A5 c.parts.length q5):=cell_blk hbx (i:=0) rfl
      have c1:wr.cell? ⟨xb,1,none⟩ = some (.slice A6 c.chans.length q6):=cell_blk hbx (i:=1) rfl
      have c2:wr.cell? ⟨xb,2,none⟩ = some (.int .i64 c.len0):=cell_blk hbx (i:=2) rfl
      have c3:wr.cell? ⟨xb,3,none⟩ = some (.slice aa c.win0.length ac):=cell_blk hbx (i:=3) rfl
      have c4:wr.cell? ⟨xb,4,none⟩ = some (.int .i64 c.len1):=cell_blk hbx (i:=4) rfl
      have c5:wr.cell? ⟨xb,5,none⟩ = some (.slice ba c.win1.length bc):=cell_blk hbx (i:=5) rfl
      have hth:=there_blk (W:=wr) hrs (n:=((#[.slice A5 c.parts.length q5,.slice A6 c.chans.length q6,.int .i64 c.len0,.slice aa c.win0.length ac,.int .i64 c.len1,.slice ba c.win1.length bc]):Array Value).size) rfl
      have hsz:(Tryz.prog.info? 29).map (·.size) = some ((#[.slice A5 c.parts.length q5,.slice A6 c.chans.length q6,.int .i64 c.len0,.slice aa c.win0.length ac,.int .i64 c.len1,.slice ba c.win1.length bc]):Array Value).size:=cfg_size14
      have HP:=Lib.hid hp;have HC:=Lib.hid hcc;have HA:=Lib.hid ha;have HB:=Lib.hid hb;have HNW:=Lib.hid hnw;have HBC:=Lib.hid hbc;have HRS:=Lib.hid hrs
      clear hp hcc ha hb hnw hbc hrs hbx
      go_wp2_with (with_reducible refine wpList_store_mid (by kernel_rfl) _ _ _ rfl (xb + 1) 0 (#[.slice A5 c.parts.length q5,.slice A6 c.chans.length q6,.int .i64 c.len0,.slice aa c.win0.length ac,.int .i64 c.len1,.slice ba c.win1.length bc]:Array Value) (by kernel_rfl) (by kernel_rfl) hth hsz (by kernel_rfl) ?_)
      have hrg:=World.rangeAt_setCells_same wr (xb + 1) 0 ((#[.slice A5 c.parts.length q5,.slice A6 c.chans.length q6,.int .i64 c.len0,.slice aa c.win0.length ac,.int .i64 c.len1,.slice ba c.win1.length bc]):Array Value).toList (by simpa using hth)
      (try simp only [Exit.inBlock,Exit.then])
      refine bodyPost_ret (results_cell_mid rfl _ _ (xb + 1) ((#[.slice A5 c.parts.length q5,.slice A6 c.chans.length q6,.int .i64 c.len0,.slice aa c.win0.length ac,.int .i64 c.len1,.slice ba c.win1.length bc]):Array Value).toList _ rfl hrg Tryz.underlying29 rfl cfg_size14) rfl ?_
      have ho:=Only.sets (S:=fun k => k = xb + 1) rfl ((#[.slice A5 c.parts.length q5,.slice A6 c.chans.length q6,.int .i64 c.len0,.slice aa c.win0.length ac,.int .i64 c.len1,.slice ba c.win1.length bc]):Array Value).toList 0 (Only.refl _ wr)
      have hn0:=HNW.out.1 (by omega)
      have hn1:=HNW.out.2 (by omega)
      have keep:∀ (ks:List IntKind) (A:Option Addr) (c':Nat) (l:List (List Int)),RowC ks wr xb A c' l → NewRow (xb + 2) A l.length → RowN ks (wr.setCells (xb + 1) 0 ((#[.slice A5 c.parts.length q5,.slice A6 c.chans.length q6,.int .i64 c.len0,.slice aa c.win0.length ac,.int .i64 c.len1,.slice ba c.win1.length bc]):Array Value).toList) (wr.setCells (xb + 1) 0 ((#[.slice A5 c.parts.length q5,.slice A6 c.chans.length q6,.int .i64 c.len0,.slice aa c.win0.length ac,.int .i64 c.len1,.slice ba c.win1.length bc]):Array Value).toList).heap.size A l:=fun ks A c' l h hn =>
        (h.row.onlyP (Nat.le_refl _) ho (fun hp a ha e => by have:=hn hp a ha;omega)).more ho.size
      have low:∀ (A:Option Addr) (n:Nat),NewRow (xb + 2) A n → NewRow w.heap.size A n:=fun A n h hp a ha => by have:=h hp a ha;have:=HXB.out;omega
      refine ⟨⟨A5,q5,A6,q6,aa,ac,ba,bc⟩,rfl,⟨keep _ _ _ _ HP.out HN56.out.1,keep _ _ _ _ HC.out HN56.out.2,keep _ _ _ _ HA.out hn0,keep _ _ _ _ HB.out hn1,HP.out.cap,HC.out.cap,HA.out.cap,HB.out.cap⟩,⟨low _ _ HN56.out.1,low _ _ HN56.out.2,low _ _ hn0,low _ _ hn1⟩,?_⟩
      rw [← HXB.out]
      exact HBC.out.trans (ho.below (by have:=HBC.out.size;have:=(Array.getElem?_eq_some_iff.1 HRS.out).1;omega) (fun k e => by omega))
end Go.Proofs.YtheeiklgblcjfaaGreatDoor
end
section
namespace Go.Proofs.YtheeiklgblcjfaaGreatDoor
open Go.RowKit Go.Sort
set_option linter.unusedVariables false
set_option linter.unusedSimpArgs false
set_option linter.unusedVariables false
set_option linter.unusedSimpArgs false
set_option maxRecDepth 100000
/-- Standings' cells at first. -/
def stC:Nat → List Value
  | 0 => []
  | n + 1 => stC n ++ [.int .i64 ((n:Nat):Int),.bool false,.slice none 0 0,.slice none 0 0]
theorem stC_next (n:Nat):stC (n + 1) = stC n ++ [.int .i64 ((n:Nat):Int),.bool false,.slice none 0 0,.slice none 0 0]:=rfl
theorem stC_len:∀ n,(stC n).length = n * 4
  | 0 => rfl
  | n + 1 => by rw [stC_next,List.length_append,stC_len n];show n * 4 + 4 = (n + 1) * 4;omega
theorem stC_at:∀ (n p:Nat),p < n → ∀ j v,([.int .i64 ((p:Nat):Int),.bool false,.slice none 0 0,.slice none 0 0]:List Value)[j]? = some v → (stC n)[p * 4 + j]? = some v
  | 0,p,h,_,_,_ => by omega
  | n + 1,p,h,j,v,hv => by
    have hj:j < 4:=by have:=(List.getElem?_eq_some_iff.1 hv).1;simpa using this
    rw [stC_next]
    by_cases hp:p < n
    · rw [List.getElem?_append_left (by rw [stC_len];omega)];exact stC_at n p hp j v hv
    · obtain rfl:p = n:=by omega
      rw [List.getElem?_append_right (by rw [stC_len];omega),stC_len,Nat.add_sub_cancel_left];exact hv
theorem Tryz.infoSt:(Tryz.prog.info? 59).map (fun i => (i.zero,i.size,i.bytes)) = some (some (.agg #[.int .i64 0,.bool false,.slice none 0 0,.slice none 0 0]),4,64):=by kernel_rfl
/-- Whose the blocks are,behind New's first half: n: where the call began;m: the first map;g: the standings' block. -/
def own0 (n m g:Nat):Nat → Tg8:=fun k => if k < n then .free else if k < m then .cfg else if k = m then .mw else if k = m + 1 then .mr else if k = m + 2 then .mp else if k = m + 3 then .head else if k = g then .stand else .free
theorem own0_ge {n m g k:Nat} (h:own0 n m g k ≠ .free):n ≤ k:=Nat.le_of_not_lt fun hk => h (if_pos hk)
theorem own0_mr {n m g:Nat} (h:n ≤ m):own0 n m g (m + 1) = .mr:=by
  unfold own0
  rw [if_neg (by omega),if_neg (by omega),if_neg (by omega),if_pos rfl]
theorem map_made {w:World} {mb:Nat} (h:w.heap[mb]? = some (.map #[] 0)) (kt:TypeId) (q:IntKind):MapH w kt q mb (fun _ => none) 0:=by
  obtain ⟨es,clock,hb,F,hs,hD⟩:=World.ownsMap_made (H:=Value) w Tryz.prog kt rd8
  have e:=World.alloc_heap_new w (.map #[] 0)
  rw [e] at hb
  injection hb with hb
  injection hb with h1 h2
  subst h1;subst h2
  exact ⟨.map [],0,⟨#[],0,h,F,hs,hD⟩,Nat.le_refl _,fun p hp => ⟨rfl,fun v h => by cases h⟩⟩
theorem own0_head {n m g:Nat} (h:n ≤ m):own0 n m g (m + 3) = .head:=by
  unfold own0
  rw [if_neg (by omega),if_neg (by omega),if_neg (by omega),if_neg (by omega),if_neg (by omega),if_pos rfl]
theorem own0_cfg {n m g k:Nat} (h:n ≤ k) (h2:k < m):own0 n m g k = .cfg:=by
  unfold own0
  rw [if_neg (by omega),if_pos h2]
theorem own0_mw {n m g:Nat} (h:n ≤ m):own0 n m g m = .mw:=by
  unfold own0
  rw [if_neg (by omega),if_neg (by omega),if_pos rfl]
theorem own0_mp {n m g:Nat} (h:n ≤ m):own0 n m g (m + 2) = .mp:=by
  unfold own0
  rw [if_neg (by omega),if_neg (by omega),if_neg (by omega),if_neg (by omega),if_pos rfl]
theorem own0_st {n m g:Nat} (h:n ≤ m) (hg:m + 4 ≤ g):own0 n m g g = .stand:=by
  unfold own0
  rw [if_neg (by omega),if_neg (by omega),if_neg (by omega),if_neg (by omega),if_neg (by omega),if_neg (by omega),if_pos rfl]
theorem new_fin {w w2 w6:World} {c:Cfg} {y:CfgAt} {mw sg so sk:Nat} {own:Nat → Tg8} {rb:Nat → Nat} {sb pb L Lr Wn:Nat} (hmw:w2.heap.size = mw) (hW:w.heap.size ≤ mw) (hsz:w.heap.size ≤ w6.heap.size) (hb:Below mw w2 w6) (hy:CfgIn w2 w2.heap.size c y) (hyo:CfgOwn Wn c y) (hWn:w.heap.size ≤ Wn) (hL:mw + 4 ≤ L)
    (hsg:mw + 4 ≤ sg ∧ sg < L ∧ Lr ≤ sb ∧ Lr ≤ pb ∧ sb ≠ pb ∧ L ≤ Lr ∧ sb < w6.heap.size ∧ pb < w6.heap.size) (hk:c.parts.length ≤ sk ∧ sk ≤ maxLen) (o1:∀ k,w6.heap.size ≤ k → own k = .free) (o2:∀ k,k < L → own k = own0 w.heap.size mw sg k) (o3:∀ k,own k ≠ .free → w.heap.size ≤ k)
    (hh:w6.heap[mw + 3]? = some (.cells (#[.slice y.pa c.parts.length y.pc,.slice y.ca c.chans.length y.cc,.int .i64 c.len0,.slice y.aa c.win0.length y.ac,.int .i64 c.len1,.slice y.ba c.win1.length y.bc,.slice (some ⟨sg,so,none⟩) c.parts.length sk,.map (some mw),.map (some (mw + 1)),.map (some (mw + 1 + 1)),.pointer (some ⟨sb,0,none⟩)]) 88 (0,0))) (hm0:w6.heap[mw]? = some (.map #[] 0)) (hm2:w6.heap[mw + 2]? = some (.map #[] 0)) (hm1:MapH w6 3 .i64 (mw + 1) (fun z:Int => if 0 ≤ z ∧ z.toNat < c.chans.length ∧ qing c z.toNat = true then some (Value.pointer (some ⟨rb z.toNat,0,none⟩)) else none) c.chans.length)
    (hst:StAt w6 sg so (List.replicate c.parts.length (⟨none8,.slice none 0 0,.slice none 0 0⟩:Sv8))) (hrows:∀ j,qing c j = true → own (rb j) = .row j ∧ rb j < Lr ∧ w6.heap[rb j]? = some (.cells #[.int .i64 (dep8 c j),.slice none 0 0] 139 (0,0))) (hacc:Accd c) (hset:Bel.SetAt w6 sb pb (List.replicate (2 * c.chans.length) false)) :
    ∃ own' A',A'.b = mw + 3 ∧ MAt w6 own' w.heap.size c (new8 c) A':=by
  obtain ⟨own',hown'⟩:∃ o:Nat → Tg8,o = fun k => if k = sb then .bset else if k = pb then .pend else own k:=⟨_,rfl⟩
  have old:∀ k,k < Lr → own' k = own k:=fun k hk => by rw [hown'];show (if _ then _ else _) = _;rw [if_neg (by omega),if_neg (by omega)]
  have old0:∀ k,k < L → own' k = own0 w.heap.size mw sg k:=fun k hk => (old k (by omega)).trans (o2 k hk)
  have cfgT:∀ (ks:List IntKind) (B:Option Addr) (l:List (List Int)),RowN ks w2 w2.heap.size B l → NewRow Wn B l.length → TagA own' B l.length .cfg:=fun ks B l hr hn hp a ha => by
    obtain ⟨g,o,e,hlt,_⟩:=hr hp
    have h1:=hn hp a ha
    rw [e] at ha;cases ha
    have h1:Wn ≤ g:=h1
    rw [old0 g (by omega)];exact own0_cfg (by omega) (by omega)
  have hyb:CfgIn w6 w6.heap.size c y:=(hy.below (by rw [hmw];exact hb)).more (by have:=hb.size;omega)
  refine ⟨own',⟨mw + 3,y,sg,so,sk,List.replicate c.parts.length (⟨none8,.slice none 0 0,.slice none 0 0⟩:Sv8),mw,mw + 1,mw + 2,fun _ => none,rb,fun _ => .slice none 0 0,fun _ => [],sb,pb⟩,rfl,?_⟩
  have each:∀ (p:Nat) (s:Sv8),(List.replicate c.parts.length (⟨none8,.slice none 0 0,.slice none 0 0⟩:Sv8))[p]? = some s → s = (⟨none8,.slice none 0 0,.slice none 0 0⟩:Sv8):=fun p s hp => by
    rw [List.getElem?_replicate] at hp
    split at hp
    · injection hp with hp;exact hp.symm
    · cases hp
  exact {
    free:=fun k hk => by rw [hown'];show (if _ then _ else _) = _;rw [if_neg (by omega),if_neg (by omega)];exact o1 k hk
    base:=fun k hk => by
      rw [hown'] at hk
      have hk:(if k = sb then Tg8.bset else if k = pb then .pend else own k) ≠ .free:=hk
      by_cases e1:k = sb
      · omega
      · by_cases e2:k = pb
        · omega
        · rw [if_neg e1,if_neg e2] at hk;exact o3 k hk
    n0le:=hsz
    len:=⟨by simp [new8],by simp [new8]⟩
    gw:=fun k => rfl
    gq:=fun k => rfl
    gs:=fun k g hg => by cases hg
    bl:=by simp [new8]
    sz:=fun s hs => by
      obtain rfl:=List.eq_of_mem_replicate hs
      exact ⟨Nat.zero_le _,Nat.zero_le _⟩
    wz:=fun k m hm => by cases hm
    qz:=fun k hq => by
      have hkl:k < c.chans.length:=by unfold qing at hq;simp at hq;exact hq.1
      have h1:=(hacc.chan k hkl).2.2.2.1
      show ((0:Nat):Int) ≤ dep8 c k
      exact h1
    head:=⟨by show own' (mw + 3) = _;rw [old0 _ (by omega)];exact own0_head hW,hh⟩
    cfg:=⟨hyb,cfgT _ _ _ hy.rp hyo.p,cfgT _ _ _ hy.rc hyo.k,cfgT _ _ _ hy.ra hyo.a,cfgT _ _ _ hy.rb hyo.b⟩
    stand:=fun _ => ⟨by show own' sg = _;rw [old0 _ (by omega)];exact own0_st hW hsg.1,hst⟩
    sk:=hk
    made:=fun p s hp _ => by
      obtain rfl:=each p s hp
      exact ⟨OwnsOff.nil _ _ _ _,fun g hg => by cases hg⟩
    valid:=fun p s hp _ => by
      obtain rfl:=each p s hp
      exact ⟨OwnsOff.nil _ _ _ _,fun g hg => by cases hg⟩
    mw:=fun _ => ⟨by show own' mw = _;rw [old0 _ (by omega)];exact own0_mw hW,(map_made hm0 _ _).as fun z hz => by unfold fw8;split <;> rfl⟩
    msgw:=fun k g hg => by cases hg
    mr:=⟨by show own' (mw + 1) = _;rw [old0 _ (by omega)];exact own0_mr hW,hm1.as fun z hz => by
      unfold fr8
      by_cases h:0 ≤ z ∧ qing c z.toNat = true
      · rw [if_pos h]
        have hkl:z.toNat < c.chans.length:=by have:=h.2;unfold qing at this;simp at this;exact this.1
        exact if_pos ⟨h.1,hkl,h.2⟩
      · rw [if_neg h];exact if_neg (fun h2 => h ⟨h2.1,h2.2.2⟩)⟩
    row:=fun k hk _ => ⟨by show own' (rb k) = _;rw [old _ (hrows k hk).2.1];exact (hrows k hk).1,(hrows k hk).2.2⟩
    items:=fun k hk _ => ⟨OwnsOff.nil _ _ _ _,fun g hg => by cases hg⟩
    msgq:=fun k g hg => by cases hg
    mp:=fun _ => ⟨by show own' (mw + 2) = _;rw [old0 _ (by omega)];exact own0_mp hW,(map_made hm2 _ _).as fun z hz => (if_pos rfl).symm⟩
    bells:=fun _ => ⟨by rw [hown'];exact if_pos rfl,by rw [hown'];show (if _ then _ else _) = _;rw [if_neg (fun e => hsg.2.2.2.2.1 e.symm),if_pos rfl],hset⟩ }
/-- What New hands back. -/
def GivesMd (w:World) (c:Cfg) (e:Ending) (w':World):Prop:=∃ own A,e = .returned (.pointer (some ⟨A.b,0,none⟩)) ∧ MAt w' own w.heap.size c (new8 c) A ∧ Below w.heap.size w w' ∧ w.heap.size ≤ A.b
set_option maxHeartbeats 6400000 in
theorem new8_b (c:Cfg) (x:CfgAt) (w:World) (hx:CfgIn w w.heap.size c x) (hc:CfgWf c) (hl:CfgFew c) (hac:acceptsB c = true):Calls Tryz.prog 10 #[.agg (cfgCells c x)] w (GivesMd w c):=by
  obtain ⟨i0,hi0,hz0,hz1,hz2⟩:=info_parts Tryz.infoSt
  have hmm:=@run_makeMap Tryz.prog
  obtain ⟨pa,pc,ca,cc,aa,ac,ba,bc⟩:=x
  obtain ⟨W,HW,hB0,hWs,bx⟩:=one_cbox w c ⟨pa,pc,ca,cc,aa,ac,ba,bc⟩ 29
  obtain ⟨c0,c1,c2,c3,c4,c5⟩:=bx _ (Below.refl _ _)
  have HCF:=Lib.hid (configOf_b c ⟨pa,pc,ca,cc,aa,ac,ba,bc⟩ W (hx.later hB0) hc hl)
  have HB:=Lib.hid hB0;have HWS:=Lib.hid hWs;have HACC:=Lib.hid (accd_of hac);have HBX:=Lib.hid bx;have HXI:=Lib.hid hx;have HCW:=Lib.hid hc;have HCL:=Lib.hid hl
  simp only [cfgCells] at HW HCF ⊢
  clear hx hB0 hWs bx hc hl hac
  go_enter Tryz.func10,Tryz.ntmps10
  go_wp2_with (rw [← HW.out])
  refine HCF.out.mono ?_
  rintro e w2 ⟨y,rfl,hy,hyo,hb2⟩
  obtain ⟨mw,hmw⟩:∃ k,k = w2.heap.size:=⟨_,rfl⟩
  obtain ⟨w3,hw3⟩:∃ u,Hid (u = ((w2.alloc (.map #[] 0)).alloc (.map #[] 0)).alloc (.map #[] 0)):=⟨_,rfl⟩
  obtain ⟨w4,hw4⟩:∃ u,Hid (u = w3.alloc (.cells (#[.slice y.pa c.parts.length y.pc,.slice y.ca c.chans.length y.cc,.int .i64 c.len0,.slice y.aa c.win0.length y.ac,.int .i64 c.len1,.slice y.ba c.win1.length y.bc,.slice none 0 0,.map (some mw),.map (some (mw + 1)),.map (some (mw + 1 + 1)),.pointer none]) 88)):=⟨_,rfl⟩
  have hb3:Below w2.heap.size w2 w3:=by rw [hw3.out];exact (((Below.refl _ _).alloc (Nat.le_refl _) _).alloc (by simp) _).alloc (by simp;omega) _
  have hs3:w3.heap.size = mw + 3:=by rw [hw3.out,hmw];simp
  have hb4:Below w3.heap.size w3 w4:=by rw [hw4.out];exact (Below.refl _ _).alloc (Nat.le_refl _) _
  have hs4:w4.heap.size = mw + 4:=by rw [hw4.out];simp [hs3]
  have h4b:w4.heap[mw + 3]? = some (.cells (#[.slice y.pa c.parts.length y.pc,.slice y.ca c.chans.length y.cc,.int .i64 c.len0,.slice y.aa c.win0.length y.ac,.int .i64 c.len1,.slice y.ba c.win1.length y.bc,.slice none 0 0,.map (some mw),.map (some (mw + 1)),.map (some (mw + 1 + 1)),.pointer none]) 88 (0,0)):=by rw [hw4.out,← hs3];exact heap_alloc_new _ _
  have h4m0:w4.heap[mw]? = some (.map #[] 0):=by rw [hb4.block _ (by omega),hw3.out,Below.heap_alloc _ _ _ (by simp;omega),Below.heap_alloc _ _ _ (by simp;omega),hmw];exact World.alloc_heap_new _ _
  have h4m1:w4.heap[mw + 1]? = some (.map #[] 0):=by
    rw [hb4.block _ (by omega),hw3.out,Below.heap_alloc _ _ _ (by simp;omega)]
    have:=World.alloc_heap_new (w2.alloc (.map #[] 0)) (.map #[] 0)
    rw [World.size_alloc,← hmw] at this;exact this
  have h4m2:w4.heap[mw + 2]? = some (.map #[] 0):=by
    rw [hb4.block _ (by omega),hw3.out]
    have:=World.alloc_heap_new ((w2.alloc (.map #[] 0)).alloc (.map #[] 0)) (.map #[] 0)
    rw [World.size_alloc,World.size_alloc,← hmw] at this;exact this
  have hb24:=hb3.trans (hb4.mono hb3.size)
  have hWw:w.heap.size ≤ W.heap.size:=HB.out.size
  have H4B:=Lib.hid h4b;have H4M:=Lib.hid (And.intro h4m0 (And.intro h4m1 h4m2));have HY:=Lib.hid (hy.later hb24);have HY2:=Lib.hid hy;have HYO:=Lib.hid hyo
  have HN4:=Lib.hid (show w4.heap.size = mw + 4 ∧ w3.heap.size = mw + 3 ∧ w2.heap.size = mw ∧ W.heap.size ≤ mw ∧ w.heap.size ≤ mw ∧ w.heap.size < W.heap.size from by have:=hb2.size;have:=HWS.out;omega)
  have hW4:Below W.heap.size W w4:=hb2.trans (hb24.mono hb2.size)
  have HB24:=Lib.hid (show Below mw w2 w4 by rw [hmw];exact hb24);have HB4:=Lib.hid (HB.out.trans (hW4.mono HB.out.size));have HWW:=Lib.hid hW4
  obtain ⟨c0,c1,c2,c3,c4,c5⟩:=HBX.out w4 hW4
  clear hb3 hb4 hb24 hs4 h4b h4m0 h4m1 h4m2 hy hyo hb2 hWw HCF hW4
  go_wp2_with (first | (rw [← hw3.out];(try simp only [← hmw])) | ((try simp only [← hmw]);rw [← hw4.out];(try simp only [hs3,← hmw])))
  (try simp only [← hmw])
  have HMW:=Lib.hid hmw
  have hp6:c.parts.length ≤ 6:=HACC.out.parts.2
  have hc8:c.chans.length ≤ 8:=HACC.out.chans
  clear hmw hs3 hw3 hw4
  go_loopw [17] (fun ix wr => ∃ (i:Nat) (v:Value),i ≤ c.parts.length ∧ ix = .int .i64 i ∧ OwnsOff wr (mw + 4) 59 4 v i (stC i) ∧ wr.heap[mw + 3]? = some (.cells (#[.slice y.pa c.parts.length y.pc,.slice y.ca c.chans.length y.cc,.int .i64 c.len0,.slice y.aa c.win0.length y.ac,.int .i64 c.len1,.slice y.ba c.win1.length y.bc,v,.map (some mw),.map (some (mw + 1)),.map (some (mw + 1 + 1)),.pointer none]) 88 (0,0)) ∧ Below (mw + 3) w4 wr) (fun ix _ => (c.parts.length:Int) - intOf ix |>.toNat)
  case atStart => exact ⟨0,.slice none 0 0,by omega,rfl,OwnsOff.nil _ _ _ _,H4B.out,Below.refl _ _⟩
  case round =>
    obtain ⟨i,v,hi,rfl,hown,hbk,hbc⟩:=hrel
    by_cases hlt:i < c.parts.length
    · have hil:(i:Int) < (c.parts.length:Int):=by omega
      have e6:wr.cell? ⟨mw + 3,6,none⟩ = some v:=blk_at hbk (i:=6) rfl
      have f6:wr.frozen? ⟨mw + 3,6,none⟩ = false:=by simp [World.frozen?,hbk]
      obtain ⟨a0,k0,rfl,-,-⟩:=hown.slice
      have HBK:=Lib.hid hbk;have HBC:=Lib.hid hbc;have HOW:=Lib.hid hown
      have hn0:mw + 4 ≤ (wr.alloc (.cells #[.int .i64 (i:Int),.bool false,.slice none 0 0,.slice none 0 0] 59)).heap.size:=by have:=HN4.out;have:=hbc.size;simp;omega
      have HLT:=Lib.hid hlt
      have HPF:=Lib.hid HACC.out.parts
      clear hbk hbc
      go_wp2_with (at_builtin;refine wpList_append_off _ rfl _ _ 65 rfl (mw + 4) 59 i0 (.agg #[.int .i64 0,.bool false,.slice none 0 0,.slice none 0 0]) 4 64 Tryz.underlying65 hi0 hz0 hz1 hz2 rfl (by decide) _ _ _ rfl (hown.keptB ((Below.refl _ _).alloc (Nat.le_refl _) _)) ⟨wr.heap.size,0,none⟩ 1 1 [.int .i64 ((i:Nat):Int),.bool false,.slice none 0 0,.slice none 0 0] rfl rfl (news_block (heap_alloc_new wr _)) (by simp [Value.oneCell']) (by have:=HPF.out;unfold maxLen;omega) (by have:=HPF.out;omega) hn0 ?_)
      intro v' w6 hown' hgr hfr
      obtain ⟨a6,k6,rfl,-,-⟩:=hown'.slice
      have hbn:∀ j,(Value.slice a0 i k0).ownBlock = some j → j ≠ mw + 3:=fun j e e2 => by have:=(HOW.out.lt j e).1;omega
      have hb1:Below wr.heap.size wr (wr.alloc (.cells #[.int .i64 (i:Int),.bool false,.slice none 0 0,.slice none 0 0] 59)):=(Below.refl _ _).alloc (Nat.le_refl _) _
      have hbl:=(Array.getElem?_eq_some_iff.1 HBK.out).1
      have hB6:=(hgr.block (mw + 3) (by simp;omega) (fun e => hbn _ e.symm rfl)).trans ((hb1.block _ hbl).trans HBK.out)
      have d6:w6.cell? ⟨mw + 3,6,none⟩ = some (.slice a0 i k0):=blk_at hB6 (i:=6) rfl
      have g6:w6.frozen? ⟨mw + 3,6,none⟩ = false:=by simp [World.frozen?,hB6]
      obtain ⟨w7,hw7⟩:∃ u,Hid (u = w6.setCell ⟨mw + 3,6,none⟩ (.slice a6 (i + 1) k6)):=⟨_,rfl⟩
      have ho7:Only (fun j => j = mw + 3) w6 w7:=by rw [hw7.out];exact Only.setCell w6 ⟨mw + 3,6,none⟩ _
      have HK7:Hid (w7.heap[mw + 3]? = some (.cells (#[.slice y.pa c.parts.length y.pc,.slice y.ca c.chans.length y.cc,.int .i64 c.len0,.slice y.aa c.win0.length y.ac,.int .i64 c.len1,.slice y.ba c.win1.length y.bc,.slice a6 (i + 1) k6,.map (some mw),.map (some (mw + 1)),.map (some (mw + 1 + 1)),.pointer none]) 88 (0,0))):=Lib.hid (by rw [hw7.out];exact blk_put hB6 rfl)
      have HO7:Hid (OwnsOff w7 (mw + 4) 59 4 (.slice a6 (i + 1) k6) (i + 1) (stC (i + 1))):=Lib.hid (by rw [stC_next];exact hown'.kept ho7 (fun j e e2 => by have:=(hown'.lt j e).1;omega))
      have HB7:Hid (Below (mw + 3) w4 w7):=Lib.hid (HBC.out.trans (((hb1.mono (by omega)).trans ((Only.of_grown hgr).below (by simp;omega) (fun j e => by have:=(HOW.out.lt j e.symm).1;omega))).trans (ho7.below (by have:=hgr.size;simp at this;omega) (fun k e => by omega))))
      clear hown hown' hgr hfr hbn hb1 hB6 ho7 e6 f6 hn0
      go_wp2_with (rw [← hw7.out])
      go_roundw
      case rel => exact ⟨i + 1,.slice a6 (i + 1) k6,by have:=HLT.out;omega,by go_num,HO7.out,HK7.out,HB7.out⟩
      case measure => have:=HLT.out;simp [intOf];omega
    · obtain rfl:i = c.parts.length:=by omega
      have hp1:1 ≤ c.parts.length:=HACC.out.parts.1
      obtain ⟨sg,so,sk,ev,hsb,hsl,hck,hkm,-,hsc⟩:=hown.lies (by omega)
      subst ev
      obtain ⟨wl,hwl⟩:∃ u,u = wr:=⟨_,rfl⟩
      rw [← hwl] at hown hbk hbc hsl hsc ⊢
      clear hwl
      have HBK:=Lib.hid hbk;have HBC:=Lib.hid hbc;have HOW:=Lib.hid hown;have HSC:=Lib.hid hsc;have HSG:=Lib.hid (And.intro hsb (And.intro hsl (And.intro hck hkm)))
      have HWL:Hid (mw + 4 ≤ wl.heap.size):=Lib.hid (by have:=hbc.size;have:=HN4.out;omega)
      have hWL:Below w.heap.size w wl:=HB4.out.trans (hbc.mono (by have:=HN4.out;omega))
      have hWW:Below W.heap.size W wl:=HWW.out.trans (hbc.mono (by have:=HN4.out;omega))
      obtain ⟨d0,d1,d2,d3,d4,d5⟩:=HBX.out wl hWW
      have hm1:MapH wl 3 .i64 (mw + 1) (fun _ => none) 0:=map_made ((hbc.block (mw + 1) (by omega)).trans H4M.out.2.1) _ _
      have HM1:=Lib.hid hm1
      clear hown hbk hbc hsb hsl hck hkm hsc hWL hWW hm1 c0 c1 c2 c3 c4 c5
      go_wp2_with fail
      go_loopw [35] (fun ix wr => ∃ (i:Nat) (rb:Nat → Nat) (own:Nat → Tg8),i ≤ c.chans.length ∧ ix = .int .i64 i ∧ (∀ k,wr.heap.size ≤ k → own k = .free) ∧ (∀ k,k < wl.heap.size → own k = own0 w.heap.size mw sg k) ∧ (∀ k,own k ≠ .free → w.heap.size ≤ k) ∧
        (∀ j,j < i → qing c j = true → own (rb j) = .row j ∧ wr.heap[rb j]? = some (.cells #[.int .i64 (dep8 c j),.slice none 0 0] 139 (0,0))) ∧ MapH wr 3 .i64 (mw + 1) (fun z:Int => if 0 ≤ z ∧ z.toNat < i ∧ qing c z.toNat = true then some (Value.pointer (some ⟨rb z.toNat,0,none⟩)) else none) i ∧ Only (fun k => k = mw + 1) wl wr) (fun ix _ => (c.chans.length:Int) - intOf ix |>.toNat)
      case atStart => exact ⟨0,fun _ => 0,fun k => if k < wl.heap.size then own0 w.heap.size mw sg k else .free,by omega,rfl,fun k hk => if_neg (by omega),fun k hk => if_pos hk,fun k hk => own0_ge (fun e => hk (by show (if _ then _ else _) = _;rw [e];simp)),fun j hj => by omega,HM1.out.as (fun z hz => by rw [if_neg (by omega)]),Only.refl _ _⟩
      case round =>
        obtain ⟨i,rb,own,hi,rfl,ho1,ho2,ho3,hrows,hmap,hO⟩:=hrel
        by_cases hlt:i < c.chans.length
        · have hwr:Below w.heap.size w wr:=(HB4.out.trans ((HBC.out.mono (by have:=HN4.out;omega)).trans (hO.below (by have:=HBC.out.size;have:=HN4.out;omega) (fun k e => by have:=HN4.out;omega))))
          obtain ⟨cb,co,x0,x1,x2,x3,x4,x5,x6,eca,hcb,hx7,-,hcell⟩:=HXI.out.rc.at7 HCW.out.wc hlt
          obtain ⟨r0,r1,r2,r3,r4,r5,r6⟩:=hcell wr hwr
          obtain ⟨wa,hwa⟩:∃ u,Hid (u = wr.alloc (.cells #[.int .i64 x0,.int .i64 x1,.int .i64 x2,.int .i64 x3,.int .i64 x4,.int .i64 x5,.int .u32 x6] 91)):=⟨_,rfl⟩
          obtain ⟨nb,hnb⟩:∃ n,n = wr.heap.size:=⟨_,rfl⟩
          have hba:Below wr.heap.size wr wa:=by rw [hwa.out];exact (Below.refl _ _).alloc (Nat.le_refl _) _
          have hNB:wa.heap[nb]? = some (.cells #[.int .i64 x0,.int .i64 x1,.int .i64 x2,.int .i64 x3,.int .i64 x4,.int .i64 x5,.int .u32 x6] 91 (0,0)):=by rw [hwa.out,hnb];exact heap_alloc_new _ _
          have y0:wa.cell? ⟨nb,0,none⟩ = some (.int .i64 x0):=blk_at hNB (i:=0) rfl
          have y4:wa.cell? ⟨nb,4,none⟩ = some (.int .i64 x4):=blk_at hNB (i:=4) rfl
          have hk0:kind8 c i = x0:=by unfold kind8;rw [row_at hx7];rfl
          have hd0:dep8 c i = x4:=by unfold dep8;rw [row_at hx7];rfl
          have hch:=HACC.out.chan i hlt
          rw [show fld (row c.chans i) 0 = x0 from hk0,show fld (row c.chans i) 4 = x4 from hd0] at hch
          have eca:ca = some ⟨cb,co,none⟩:=eca
          subst eca
          have hil:(i:Int) < (c.chans.length:Int):=by omega
          have HNB:Hid (nb = wr.heap.size ∧ nb < wa.heap.size):=Lib.hid ⟨hnb,(Array.getElem?_eq_some_iff.1 hNB).1⟩
          have HBK2:=hO.at_ HBK.out (by omega)
          have hbk2:=(hba.block _ (Array.getElem?_eq_some_iff.1 HBK2).1).trans HBK2
          have m8:wa.cell? ⟨mw + 3,8,none⟩ = some (.map (some (mw + 1))):=blk_at hbk2 (i:=8) rfl
          have HBA:=Lib.hid (Array.getElem?_eq_some_iff.1 hbk2).1
          have HMA:=Lib.hid (hmap.of (hba.block _ hmap.lt))
          have HHBA:=Lib.hid hba;have HO:=Lib.hid hO;have HROWS:=Lib.hid hrows;have HO1:=Lib.hid ho1;have HO2:=Lib.hid ho2;have HO3:=Lib.hid ho3;have HIL:=Lib.hid (And.intro hlt hc8);have HWR:=Lib.hid hwr
          have HKD:=Lib.hid (And.intro hk0 hd0)
          have HKW:=Lib.hid (show (Lit.int .i64 (i:Int)).wf = true from WalkArith.wf_i64 (by omega))
          clear hwr hcell hcb hx7 hnb hba hNB hbk2 HBK2 hmap hO hrows ho1 ho2 ho3 hk0 hd0
          by_cases hq:x0 = 2
          · have hqb:(x0 == 2) = true:=by simp [hq]
            have hdd:1 ≤ x4 ∧ x4 ≤ 4096:=⟨hch.2.2.2.2.2.2.1 hq,by have:=hch.2.2.2.2.1;omega⟩
            have HFN:=Lib.hid (fnew_in x4 wa.drew hdd.1 hdd.2)
            have HQG:Hid (qing c i = true):=Lib.hid (by unfold qing;rw [decide_eq_true HIL.out.1,HKD.out.1,decide_eq_true hq];rfl)
            clear hch hdd hq
            go_wp2_with (first | (rw [← hwa.out];(try simp only [← HNB.out.1])))
            refine wp_region_till (fun W' => Below wa.heap.size wa W') 11 (by kernel_rfl) (by exact (Below.refl _ _).drew) (fun hHeld => ?_)
            refine till_take (i:=0) rfl (by kernel_rfl) (by kernel_rfl) (by kernel_rfl) (fun _ _ _ h => h) (by kernel_rfl) (Or.inl ⟨by rfl,by intro w _;(go_simp <;> with_reducible rfl)⟩) (by assumption) ?_
            (try simp only [Act.put,List.setIfInBounds_toArray,List.set_cons_zero,List.set_cons_succ,List.getElem_toArray,List.getElem_cons_zero,List.getElem_cons_succ])
            refine till_take (i:=1) rfl (by kernel_rfl) (by kernel_rfl) (by kernel_rfl) (fun _ _ _ h => h) (by kernel_rfl) (Or.inl ⟨by rfl,by intro w _;(go_simp <;> with_reducible rfl)⟩) (by assumption) ?_
            (try simp only [Act.put,List.setIfInBounds_toArray,List.set_cons_zero,List.set_cons_succ,List.getElem_toArray,List.getElem_cons_zero,List.getElem_cons_succ])
            refine till_take (i:=2) rfl (by kernel_rfl) (by kernel_rfl) (by kernel_rfl) (fun _ _ _ h => h) (by kernel_rfl) (Or.inl ⟨by rfl,by intro w _;(go_simp <;> with_reducible rfl)⟩) (by assumption) ?_
            (try simp only [Act.put,List.setIfInBounds_toArray,List.set_cons_zero,List.set_cons_succ,List.getElem_toArray,List.getElem_cons_zero,List.getElem_cons_succ])
            refine till_load (i:=3) rfl (by kernel_rfl) (by kernel_rfl) (by kernel_rfl) (fun _ _ _ h => h) (by kernel_rfl) (by kernel_rfl) (by kernel_rfl) (Or.inl ⟨by rfl,by intro w hSw;(have z0:=(hSw.cell (p:=⟨(mw + 3),8,none⟩) HBA.out).trans m8);(go_simp <;> with_reducible rfl)⟩) (by assumption) ?_
            (try simp only [Act.put,List.setIfInBounds_toArray,List.set_cons_zero,List.set_cons_succ,List.getElem_toArray,List.getElem_cons_zero,List.getElem_cons_succ])
            refine till_take (i:=4) rfl (by kernel_rfl) (by kernel_rfl) (by kernel_rfl) (fun _ _ _ h => h) (by kernel_rfl) (Or.inl ⟨by rfl,by intro w _;(go_simp <;> with_reducible rfl)⟩) (by assumption) ?_
            (try simp only [Act.put,List.setIfInBounds_toArray,List.set_cons_zero,List.set_cons_succ,List.getElem_toArray,List.getElem_cons_zero,List.getElem_cons_succ])
            refine till_take (i:=5) rfl (by kernel_rfl) (by kernel_rfl) (by kernel_rfl) (fun _ _ _ h => h) (by kernel_rfl) (Or.inl ⟨by rfl,by intro w _;(go_simp <;> with_reducible rfl)⟩) (by assumption) ?_
            (try simp only [Act.put,List.setIfInBounds_toArray,List.set_cons_zero,List.set_cons_succ,List.getElem_toArray,List.getElem_cons_zero,List.getElem_cons_succ])
            refine till_load (i:=6) rfl (by kernel_rfl) (by kernel_rfl) (by kernel_rfl) (fun _ _ _ h => h) (by kernel_rfl) (by kernel_rfl) (by kernel_rfl) (Or.inl ⟨by rfl,by intro w hSw;(have z1:=(hSw.cell (p:=⟨nb,4,none⟩) HNB.out.2).trans y4);(go_simp <;> with_reducible rfl)⟩) (by assumption) ?_
            (try simp only [Act.put,List.setIfInBounds_toArray,List.set_cons_zero,List.set_cons_succ,List.getElem_toArray,List.getElem_cons_zero,List.getElem_cons_succ])
            refine till_one (i:=7) (by kernel_rfl) rfl (fun K hK => ?_)
            go_simp
            refine HFN.out.mono ?_
            rintro e w5 ⟨r,rfl,hr1,hr2,hb5o⟩
            (try go_wp2_with fail)
            have hb5:=(Below.refl wa.heap.size wa).drew.trans hb5o
            have HB5:=Lib.hid hb5
            have HR1:Hid (wa.heap.size ≤ r):=Lib.hid hr1
            have HR2:=Lib.hid hr2
            have HM5:=Lib.hid (HMA.out.of (hb5.block _ HMA.out.lt))
            clear hr1 hr2 hb5 hb5o HFN hHeld
            refine hK.out _ _ (by exact HB5.out) (fun hHeld => ?_)
            clear hK K
            (try simp only [Act.put,List.setIfInBounds_toArray,List.set_cons_zero,List.set_cons_succ,List.getElem_toArray,List.getElem_cons_zero,List.getElem_cons_succ])
            refine till_take (i:=8) rfl (by kernel_rfl) (by kernel_rfl) (by kernel_rfl) (fun _ _ _ h => h) (by kernel_rfl) (Or.inl ⟨by rfl,by intro w _;(go_simp <;> with_reducible rfl)⟩) (by assumption) ?_
            (try simp only [Act.put,List.setIfInBounds_toArray,List.set_cons_zero,List.set_cons_succ,List.getElem_toArray,List.getElem_cons_zero,List.getElem_cons_succ])
            refine till_take (i:=9) rfl (by kernel_rfl) (by kernel_rfl) (by kernel_rfl) (fun _ _ _ h => h) (by kernel_rfl) (Or.inl ⟨by rfl,by intro w _;(go_simp <;> with_reducible rfl)⟩) (by assumption) ?_
            (try simp only [Act.put,List.setIfInBounds_toArray,List.set_cons_zero,List.set_cons_succ,List.getElem_toArray,List.getElem_cons_zero,List.getElem_cons_succ])
            refine till_take (i:=10) rfl (by kernel_rfl) (by kernel_rfl) (by kernel_rfl) (fun _ _ _ h => h) (by kernel_rfl) (Or.inl ⟨by rfl,by intro w _;(go_simp <;> with_reducible rfl)⟩) (by assumption) ?_
            (try simp only [Act.put,List.setIfInBounds_toArray,List.set_cons_zero,List.set_cons_succ,List.getElem_toArray,List.getElem_cons_zero,List.getElem_cons_succ])
            refine till_last (by kernel_rfl) rfl (fun K hK => ?_)
            refine step_put8 HM5.out Tryz.underlying3 Tryz.underlying84 (i:Int) HKW.out (by have:=HIL.out;omega) (.pointer (some ⟨r,0,none⟩)) rfl _ _ _ rfl rfl rfl rfl ?_
            intro w6 hm6 ho6
            have HM6:=Lib.hid hm6;have HO6:=Lib.hid ho6
            clear hm6 ho6
            refine hK.out _ _ ?_
            clear hK K
            (try simp only [Act.put,List.setIfInBounds_toArray,List.set_cons_zero,List.set_cons_succ,List.getElem_toArray,List.getElem_cons_zero,List.getElem_cons_succ])
            refine till_done (by kernel_rfl) ?_ _
            go_wp2
            go_roundw
            case rel =>
              have hs6:wr.heap.size ≤ w6.heap.size:=Nat.le_trans HHBA.out.size (Nat.le_trans HB5.out.size HO6.out.size)
              have hr5:r < w5.heap.size:=(Array.getElem?_eq_some_iff.1 HR2.out).1
              have hrs:=HR1.out
              have hnbs:=HNB.out
              refine ⟨i + 1,up8 rb i r,(fun k => if k = r then .row i else own k),by have:=HIL.out;omega,by go_num,fun k hk => ?_,fun k hk => ?_,fun k hk => ?_,fun j hj hqj => ?_,?_,?_⟩
              · show (if k = r then _ else _) = _
                rw [if_neg (by have:=HO6.out.size;omega)]
                exact HO1.out k (by omega)
              · show (if k = r then _ else _) = _
                rw [if_neg (by have:=HO.out.size;omega)]
                exact HO2.out k hk
              · have hk:(if k = r then Tg8.row i else own k) ≠ .free:=hk
                by_cases e:k = r
                · have:=HWR.out.size;omega
                · rw [if_neg e] at hk;exact HO3.out k hk
              · show (if up8 rb i r j = r then Tg8.row i else own (up8 rb i r j)) = _ ∧ w6.heap[up8 rb i r j]? = _
                by_cases e:j = i
                · subst e
                  rw [up8_same,if_pos rfl]
                  exact ⟨rfl,by rw [HKD.out.2];exact HO6.out.at_ HR2.out (by have:=HMA.out.lt;omega)⟩
                · obtain ⟨h1,h2⟩:=HROWS.out j (by omega) hqj
                  have h3:=(Array.getElem?_eq_some_iff.1 h2).1
                  rw [up8_ne _ _ e,if_neg (by omega)]
                  refine ⟨h1,HO6.out.at_ ((HB5.out.block _ (by have:=HHBA.out.size;omega)).trans ((HHBA.out.block _ h3).trans h2)) (fun e3 => ?_)⟩
                  have h4:=HO2.out (mw + 1) (by have:=HWL.out;omega)
                  rw [own0_mr HN4.out.2.2.2.2.1,← e3,h1] at h4
                  cases h4
              · refine HM6.out.as fun z hz => ?_
                show (if z = (i:Int) then _ else _) = _
                by_cases e:z = (i:Int)
                · subst e
                  rw [if_pos rfl]
                  show _ = (if 0 ≤ (i:Int) ∧ (i:Int).toNat < i + 1 ∧ qing c (i:Int).toNat = true then _ else _)
                  rw [Int.toNat_natCast,if_pos ⟨by omega,by omega,HQG.out⟩,up8_same]
                · rw [if_neg e]
                  by_cases e2:0 ≤ z ∧ z.toNat < i ∧ qing c z.toNat = true
                  · rw [if_pos e2]
                    show _ = (if 0 ≤ z ∧ z.toNat < i + 1 ∧ qing c z.toNat = true then _ else _)
                    rw [if_pos ⟨e2.1,by omega,e2.2.2⟩,up8_ne _ _ (by omega)]
                  · rw [if_neg e2]
                    show _ = (if 0 ≤ z ∧ z.toNat < i + 1 ∧ qing c z.toNat = true then _ else _)
                    rw [if_neg (fun h => e2 ⟨h.1,by omega,h.2.2⟩)]
              · exact HO.out.trans ((Only.of_below (HHBA.out.trans (HB5.out.mono HHBA.out.size))).trans HO6.out)
            case measure => have:=HIL.out;simp [intOf];omega
          · have hqb:(x0 == 2) = false:=by simp [hq]
            have HQG:Hid (qing c i = false):=Lib.hid (by unfold qing;rw [HKD.out.1,decide_eq_false hq,Bool.and_false])
            clear hch hq
            go_wp2_with (first | (rw [← hwa.out];(try simp only [← HNB.out.1])))
            go_roundw
            case rel =>
              refine ⟨i + 1,rb,own,by have:=HIL.out;omega,by go_num,fun k hk => HO1.out k (Nat.le_trans HHBA.out.size hk),HO2.out,HO3.out,fun j hj hqj => ?_,?_,?_⟩
              · have hji:j ≠ i:=fun e => by rw [e,HQG.out] at hqj;cases hqj
                obtain ⟨h1,h2⟩:=HROWS.out j (by omega) hqj
                exact ⟨h1,(HHBA.out.block _ (Array.getElem?_eq_some_iff.1 h2).1).trans h2⟩
              · refine (HMA.out.more (Nat.le_succ _)).as fun z hz => ?_
                by_cases e2:0 ≤ z ∧ z.toNat < i ∧ qing c z.toNat = true
                · rw [if_pos e2,if_pos ⟨e2.1,by omega,e2.2.2⟩]
                · rw [if_neg e2,if_neg (fun h => e2 ⟨h.1,by
                    have:z.toNat ≠ i:=fun e => by rw [e,HQG.out] at h;exact absurd h.2.2 (by simp)
                    omega,h.2.2⟩)]
              · exact HO.out.trans (Only.of_below HHBA.out)
            case measure => have:=HIL.out;simp [intOf];omega
        · obtain rfl:i = c.chans.length:=by omega
          have hwls:=HWL.out
          have hhn:=HN4.out
          have hlo:=hO.size
          have e1:wr.cell? ⟨w.heap.size,1,none⟩ = some (.slice ca c.chans.length cc):=(cell_same (hO.block _ (by omega) (by omega)) 1).trans d1
          have hbk2:=hO.at_ HBK.out (by omega)
          have f10:wr.frozen? ⟨mw + 3,10,none⟩ = false:=by simp [World.frozen?,hbk2]
          have c10:wr.cell? ⟨mw + 3,10,none⟩ = some (.pointer none):=blk_at hbk2 (i:=10) rfl
          have HNW:=Lib.hid (Bel.new_in (2 * c.chans.length) (2 * (c.chans.length:Int)) (by push_cast;rfl) wr (by omega))
          have HO:=Lib.hid hO;have HRS:=Lib.hid hrows;have HM:=Lib.hid hmap;have HO1:=Lib.hid ho1;have HO2:=Lib.hid ho2;have HO3:=Lib.hid ho3;have HHN:=Lib.hid hhn;have HWLS:=Lib.hid (And.intro hwls hlo)
          have HBK2:=Lib.hid hbk2
          clear hO hrows hmap ho1 ho2 ho3 hhn hwls hlo hbk2 d0 d1 d2 d3 d4 d5
          go_wp2_with fail
          refine HNW.out.mono ?_
          rintro e w5 ⟨sb,pb,rfl,hsb,hpb,hset,hb5⟩
          have hbl:=(Array.getElem?_eq_some_iff.1 HBK2.out).1
          have hbk5:=(hb5.block _ hbl).trans HBK2.out
          have c10':w5.cell? ⟨mw + 3,10,none⟩ = some (.pointer none):=blk_at hbk5 (i:=10) rfl
          have f10':w5.frozen? ⟨mw + 3,10,none⟩ = false:=by simp [World.frozen?,hbk5]
          obtain ⟨w6,hw6⟩:∃ u,Hid (u = w5.setCell ⟨mw + 3,10,none⟩ (.pointer (some ⟨sb,0,none⟩))):=⟨_,rfl⟩
          have HBK5:=Lib.hid hbk5;have HSET:=Lib.hid hset;have HB5:=Lib.hid hb5;have HSP:=Lib.hid (And.intro hsb hpb);have HBL:=Lib.hid hbl
          clear hset hb5 hsb hpb hbl hbk5 c10 f10 e1 HNW
          go_wp2_with (rw [← hw6.out])
          go_ret
          have hO6:Only (fun j => j = mw + 3) w5 w6:=by rw [hw6.out];exact Only.setCell w5 ⟨mw + 3,10,none⟩ _
          have hhn:=HHN.out
          have hwls:=HWLS.out
          have hsp:=HSP.out
          have hb5s:=HB5.out.size
          have hsl:=HSET.out.lt
          have h6s:w6.heap.size = w5.heap.size:=by rw [hw6.out];simp [World.setCell]
          have keep:∀ k,k < wr.heap.size → k ≠ mw + 3 → w6.heap[k]? = wr.heap[k]?:=fun k hk h1 => (hO6.block k (by omega) h1).trans (HB5.out.block k hk)
          have keepl:∀ k,k < wl.heap.size → k ≠ mw + 3 → k ≠ mw + 1 → w6.heap[k]? = wl.heap[k]?:=fun k hk h1 h2 => (keep k (by omega) h1).trans (HO.out.block k hk h2)
          have hsg:=HSG.out
          have hB6:Below mw w2 w6:=by
            have h1:Below mw w2 wl:=HB24.out.trans (HBC.out.mono (by omega))
            refine h1.trans ⟨hO6.os.trans (HB5.out.os.trans HO.out.os),hO6.tape.trans (HB5.out.tape.trans HO.out.tape),hO6.output.trans (HB5.out.output.trans HO.out.output),by omega,fun k hk => keepl k (by omega) (by omega) (by omega)⟩
          have hst:StAt w6 sg so (List.replicate c.parts.length (⟨none8,.slice none 0 0,.slice none 0 0⟩:Sv8)):=by
            obtain ⟨-,⟨h1,-⟩ | ⟨g',o',c',cur,h1,-,hg,-,-,-,htk⟩⟩:=HOW.out
            · cases h1
            · cases h1
              refine ⟨cur,(keepl _ (by omega) (by omega) (by omega)).trans hg,fun p s hp j v hv => ?_⟩
              have hpl:p < c.parts.length:=by have:=(List.getElem?_eq_some_iff.1 hp).1;simpa using this
              obtain rfl:s = (⟨none8,.slice none 0 0,.slice none 0 0⟩:Sv8):=by rw [List.getElem?_replicate,if_pos hpl] at hp;injection hp with hp;exact hp.symm
              have h2:=stC_at _ p hpl j v hv
              rw [← htk,List.getElem?_take] at h2
              split at h2
              · rw [List.getElem?_drop] at h2
                rw [← h2,Nat.add_assoc];simp
              · cases h2
          obtain ⟨own',A',h1,h2⟩:=new_fin (w:=w) (w2:=w2) (w6:=w6) (c:=c) (y:=y) (mw:=mw) (sg:=sg) (so:=so) (sk:=sk) (own:=own) (rb:=rb) (sb:=sb) (pb:=pb) (L:=wl.heap.size) (Lr:=wr.heap.size) (Wn:=W.heap.size) hhn.2.2.1 hhn.2.2.2.2.1 (by omega) hB6 HY2.out HYO.out (by omega) (by omega) ⟨hsg.1,hsg.2.1,hsp.1,hsp.2,HSET.out.ne,by omega,by omega,by omega⟩ ⟨hsg.2.2.1,hsg.2.2.2⟩ (fun k hk => HO1.out k (by omega)) HO2.out HO3.out
            (by rw [hw6.out];exact blk_put HBK5.out rfl) ((keepl _ (by omega) (by omega) (by omega)).trans ((HBC.out.block _ (by omega)).trans H4M.out.1)) ((keepl _ (by omega) (by omega) (by omega)).trans ((HBC.out.block _ (by omega)).trans H4M.out.2.2)) (HM.out.of (keep _ (by omega) (by omega))) hst
            (fun j hj => by
              obtain ⟨h1,h2⟩:=HRS.out j (by unfold qing at hj;simp at hj;exact hj.1) hj
              have h3:=(Array.getElem?_eq_some_iff.1 h2).1
              refine ⟨h1,h3,(keep _ h3 (fun e => ?_)).trans h2⟩
              rw [e,HO2.out (mw + 3) (by omega),own0_head hhn.2.2.2.2.1] at h1;cases h1) HACC.out
            (by rw [hw6.out];exact HSET.out.kept (Only.setCell w5 ⟨mw + 3,10,none⟩ _) (by show sb ≠ mw + 3;omega) (by show pb ≠ mw + 3;omega))
          refine ⟨own',A',by rw [h1];rfl,h2,?_,by rw [h1];omega⟩
          exact HB4.out.trans (⟨hO6.os.trans (HB5.out.os.trans (HO.out.os.trans HBC.out.os)),hO6.tape.trans (HB5.out.tape.trans (HO.out.tape.trans HBC.out.tape)),hO6.output.trans (HB5.out.output.trans (HO.out.output.trans HBC.out.output)),by have:=HBC.out.size;omega,fun k hk => (keepl k (by omega) (by omega) (by omega)).trans (HBC.out.block k (by omega))⟩)
end Go.Proofs.YtheeiklgblcjfaaGreatDoor
end
