/- Texts of the ring, joined, what is used of them. No condition but those in the statements. -/
import Derived.BigQuiet
import Derived.BigRegion
import Derived.IntWalk
import Derived.Laws.EntriesVeiled
import Derived.Test.YtjfolhkblbakiaaGreatDoorQAllF
import Derived.Test.YtjfolhkblbakiaaGreatDoorQRK
import Derived.Test.YtjfolhkblbakiaaGreatDoorQgB
import Derived.Test.YtjfolhkblbakiaaGreatDoorQgS
namespace Go.Proofs.YtjfolhkblbakiaaGreatDoor
open Go.RowKit Go.Sort Go.ChangeShapes Go.WideShapes
set_option linter.unusedVariables false
set_option linter.unusedSimpArgs false
/-- The spans of a layout: none,of a configuration that isn't accepted. -/
def PV (c:Cfg):List (List Int):=if acceptsB c = true then pvL c c.parts.length else []
def SR (c:Cfg):List (List Int):=if acceptsB c = true then srL c c.chans.length else []
def DS (c:Cfg):List (List Int):=if acceptsB c = true then dsL c c.chans.length else []
/-- A call that hands back the three rows of a configuration's layout,in new memory. -/
def GivesPlaces (w:World) (c:Cfg) (e:Ending) (w':World):Prop:=∃ vp vs vd,e = .returned (.agg #[vp,vs,vd]) ∧ OwnsOff w' w.heap.size 135 2 vp (PV c).length (rcells [.i64,.i64] (PV c)) ∧
  OwnsOff w' w.heap.size 135 2 vs (SR c).length (rcells [.i64,.i64] (SR c)) ∧ OwnsOff w' w.heap.size 135 2 vd (DS c).length (rcells [.i64,.i64] (DS c)) ∧ Below w.heap.size w w'
set_option maxRecDepth 100000 in
set_option maxHeartbeats 1600000 in
theorem lay_b (c:Cfg) (x:CfgAt) (w:World) (hx:CfgIn w w.heap.size c x) (wx:CfgWf c) (lx:CfgFew c):Calls Tryz.prog 168 #[.agg (cfgCells c x)] w (GivesPlaces w c):=by
  obtain ⟨W,hW⟩:∃ u,Hid (u = (w.alloc (.cells (cfgCells c x) 29)).alloc (.cells #[.slice none 0 0,.slice none 0 0,.slice none 0 0] 242)):=⟨_,rfl⟩
  have hb0:Below w.heap.size w W:=by rw [hW.out];exact ((Below.refl _ w).alloc (Nat.le_refl _) _).alloc (by simp) _
  have hs0:W.heap.size = w.heap.size + 2:=by rw [hW.out];simp
  have hCb:CBox W w.heap.size c x:=by rw [hW.out];exact (cbox_new w c x 29).on ((Below.refl _ _).alloc (Nat.le_refl _) _)
  have hR:W.heap[w.heap.size + 1]? = some (.cells #[.slice none 0 0,.slice none 0 0,.slice none 0 0] 242 (0,0)):=by
    rw [hW.out]
    have:=heap_alloc_new (w.alloc (.cells (cfgCells c x) 29)) (.cells #[.slice none 0 0,.slice none 0 0,.slice none 0 0] 242)
    simpa using this
  obtain ⟨c0,c1,c2,c3,c4,c5⟩:=hCb W (Below.refl _ _)
  have hxW:=hx.later hb0
  obtain ⟨q,hq⟩:∃ q,acceptsB c = q:=⟨_,rfl⟩
  have HA:=Lib.hid (accepts_b c x q W hxW wx lx (by rw [← hq,← accepts_same];rfl))
  have HQ:=Lib.hid hq;have HB:=Lib.hid hb0;have HS:=Lib.hid hs0;have HR:=Lib.hid hR;have HX:=Lib.hid hxW
  simp only [cfgCells] at hW HA ⊢
  clear hb0 hs0 hR hx hxW hq
  cases q with
  | false =>
    have hp:PV c = []:=if_neg (by rw [HQ.out];decide)
    have hs:SR c = []:=if_neg (by rw [HQ.out];decide)
    have hd:DS c = []:=if_neg (by rw [HQ.out];decide)
    have HP:=Lib.hid hp;have HSS:=Lib.hid hs;have HD:=Lib.hid hd
    clear hp hs hd
    go_enter Tryz.func168,Tryz.ntmps168
    go_wp2_with (rw [← hW.out])
    refine HA.out.mono ?_
    rintro e w5 ⟨rfl,hb5⟩
    have hR5:=(hb5.block _ (Array.getElem?_eq_some_iff.1 HR.out).1).trans HR.out
    have f0:w5.frozen? ⟨w.heap.size + 1,0,none⟩ = false:=by simp [World.frozen?,hR5]
    have f1:w5.frozen? ⟨w.heap.size + 1,1,none⟩ = false:=by simp [World.frozen?,hR5]
    have f2:w5.frozen? ⟨w.heap.size + 1,2,none⟩ = false:=by simp [World.frozen?,hR5]
    have y0:=cell_blk hR5 (i:=0) rfl
    have y1:=cell_blk hR5 (i:=1) rfl
    have y2:=cell_blk hR5 (i:=2) rfl
    have HR5:=Lib.hid hR5
    have HF:=Lib.hid (HB.out.trans (hb5.mono HB.out.size))
    clear hb5 hR5 c0 c1 c2 c3 c4 c5 HA
    go_wp2
    have hRz:(((w5.setCell ⟨w.heap.size + 1,0,none⟩ (.slice none 0 0)).setCell ⟨w.heap.size + 1,1,none⟩ (.slice none 0 0)).setCell ⟨w.heap.size + 1,2,none⟩ (.slice none 0 0)).heap[w.heap.size + 1]? = some (.cells #[.slice none 0 0,.slice none 0 0,.slice none 0 0] 242 (0,0)):=by simp [World.setCell,Array.getElem?_modify,HR5.out]
    exact bodyPost_ret (results_cell_places rfl _ _ (w.heap.size + 1) _ _ _ rfl (cell_blk hRz (i:=0) rfl) (cell_blk hRz (i:=1) rfl) (cell_blk hRz (i:=2) rfl)) rfl
      ⟨_,_,_,rfl,by rw [HP.out];exact OwnsOff.nil _ _ _ _,by rw [HSS.out];exact OwnsOff.nil _ _ _ _,by rw [HD.out];exact OwnsOff.nil _ _ _ _,((HF.out.setCell (p:=⟨w.heap.size + 1,0,none⟩) (by simp) _).setCell (p:=⟨w.heap.size + 1,1,none⟩) (by simp) _).setCell (p:=⟨w.heap.size + 1,2,none⟩) (by simp) _⟩
  | true =>
    have hp:PV c = pvL c c.parts.length:=if_pos HQ.out
    have hs:SR c = srL c c.chans.length:=if_pos HQ.out
    have hd:DS c = dsL c c.chans.length:=if_pos HQ.out
    have HP:=Lib.hid hp;have HSS:=Lib.hid hs;have HD:=Lib.hid hd;have HAC:=Lib.hid (accd_of HQ.out)
    clear hp hs hd
    go_enter Tryz.func168,Tryz.ntmps168
    go_wp2_with (rw [← hW.out])
    refine HA.out.mono ?_
    rintro e w5 ⟨rfl,hb5⟩
    have hEa:=heap_alloc_new w5 (.cells #[.int .i64 0] 257)
    obtain ⟨w6,hw6⟩:∃ u,Hid (u = w5.alloc (.cells #[.int .i64 0] 257)):=⟨_,rfl⟩
    rw [← hw6.out] at hEa
    have hb6:Below w5.heap.size w5 w6:=by rw [hw6.out];exact (Below.refl _ _).alloc (Nat.le_refl _) _
    have hB6:=hb5.trans (hb6.mono hb5.size)
    have hR6:=(hB6.block _ (Array.getElem?_eq_some_iff.1 HR.out).1).trans HR.out
    have hin:CfgIn w6 w5.heap.size c x:=(HX.out.below hB6).more hb5.size
    have HST:=Lib.hid (stand_b c x w5.heap.size w6 hin wx HAC.out hEa)
    obtain ⟨d0,d1,d2,d3,d4,d5⟩:=hCb _ hB6
    have HB6:=Lib.hid hB6;have HR6:=Lib.hid hR6;have H5S:=Lib.hid hb5.size
    simp only [cfgCells] at HST
    clear hb5 hR6 c0 c1 c2 c3 c4 c5 HA hEa hb6 hB6 hin
    go_wp2_with (rw [← hw6.out])
    refine HST.out.mono ?_
    rintro e w7 ⟨vp,vs,vd,rfl,r1,r2,r3,ho⟩
    have hb7:Below W.heap.size W w7:=HB6.out.trans (ho.below (B:=W.heap.size) HB6.out.size (fun k hk => by have:k = w5.heap.size:=hk;have:=H5S.out;omega))
    have hR7:=(hb7.block _ (Array.getElem?_eq_some_iff.1 HR.out).1).trans HR.out
    have f0:w7.frozen? ⟨w.heap.size + 1,0,none⟩ = false:=by simp [World.frozen?,hR7]
    have f1:w7.frozen? ⟨w.heap.size + 1,1,none⟩ = false:=by simp [World.frozen?,hR7]
    have f2:w7.frozen? ⟨w.heap.size + 1,2,none⟩ = false:=by simp [World.frozen?,hR7]
    have y0:=cell_blk hR7 (i:=0) rfl
    have y1:=cell_blk hR7 (i:=1) rfl
    have y2:=cell_blk hR7 (i:=2) rfl
    have s6:=HB6.out.size
    have s0:=HS.out
    have HR7:=Lib.hid hR7;have HB7:=Lib.hid hb7;have H1:=Lib.hid r1;have H2:=Lib.hid r2;have H3:=Lib.hid r3
    obtain ⟨A1,k1,rfl,_⟩:=r1.slice
    obtain ⟨A2,k2,rfl,_⟩:=r2.slice
    obtain ⟨A3,k3,rfl,_⟩:=r3.slice
    clear hb7 hR7 r1 r2 r3 ho d0 d1 d2 d3 d4 d5
    go_wp2
    have hRz:(((w7.setCell ⟨w.heap.size + 1,0,none⟩ (.slice A1 c.parts.length k1)).setCell ⟨w.heap.size + 1,1,none⟩ (.slice A2 c.chans.length k2)).setCell ⟨w.heap.size + 1,2,none⟩ (.slice A3 c.chans.length k3)).heap[w.heap.size + 1]? = some (.cells #[.slice A1 c.parts.length k1,.slice A2 c.chans.length k2,.slice A3 c.chans.length k3] 242 (0,0)):=by simp [World.setCell,Array.getElem?_modify,HR7.out]
    have hO:=((Only.setCell w7 ⟨w.heap.size + 1,0,none⟩ (.slice A1 c.parts.length k1)).trans (Only.setCell _ ⟨w.heap.size + 1,1,none⟩ (.slice A2 c.chans.length k2))).trans (Only.setCell _ ⟨w.heap.size + 1,2,none⟩ (.slice A3 c.chans.length k3))
    have keep:∀ {v n xs},OwnsOff w7 w6.heap.size 135 2 v n xs → OwnsOff _ w.heap.size 135 2 v n xs:=fun h => (h.kept hO (fun k hk e => by have:=(h.lt k hk).1;have:k = w.heap.size + 1:=e;omega)).mono (by omega)
    refine bodyPost_ret (results_cell_places rfl _ _ (w.heap.size + 1) _ _ _ rfl (cell_blk hRz (i:=0) rfl) (cell_blk hRz (i:=1) rfl) (cell_blk hRz (i:=2) rfl)) rfl ⟨_,_,_,rfl,?_,?_,?_,?_⟩
    · rw [HP.out,pvL_len];exact keep H1.out
    · rw [HSS.out,srL_len];exact keep H2.out
    · rw [HD.out,dsL_len];exact keep H3.out
    · exact (HB.out.trans (HB7.out.mono HB.out.size)).trans (hO.below (Nat.le_trans HB.out.size HB7.out.size) (fun k hk => by have:k = w.heap.size + 1:=hk;omega))
end Go.Proofs.YtjfolhkblbakiaaGreatDoor
namespace Go.Proofs.YtjfolhkblbakiaaGreatDoor
open Go.RowKit Go.Sort Go.ChangeShapes Go.WideShapes
set_option linter.unusedVariables false
set_option linter.unusedSimpArgs false
theorem i64_of {n:Int} (h:-9223372036854775808 ≤ n ∧ n ≤ 9223372036854775807):(Lit.int .i64 n).wf = true:=by
  simp [Lit.wf,IntKind.min,IntKind.max,IntKind.signed,IntKind.bits];omega
theorem span2_wf {a b:Int} (h0:-9223372036854775808 ≤ a ∧ a ≤ 9223372036854775807) (h1:-9223372036854775808 ≤ b ∧ b ≤ 9223372036854775807):wfN [.i64,.i64] [a,b]:=
  wfN2_mk (i64_of h0) (i64_of h1)
theorem pvL_at (c:Cfg) {n i:Nat} (h:i < n):(pvL c n)[i]? = some [privUp c.parts i,fld (row c.parts i) 1]:=by simp [pvL,h]
theorem srL_at (c:Cfg) {n i:Nat} (h:i < n):(srL c n)[i]? = some [beforeN c i,srcN (row c.chans i)]:=by simp [srL,h]
theorem dsL_at (c:Cfg) {n i:Nat} (h:i < n):(dsL c n)[i]? = some [beforeN c i + srcN (row c.chans i),1]:=by simp [dsL,h]
theorem srcN_of {c:Cfg} (h:Accd c) {i:Nat} (hi:i < c.chans.length):1 ≤ srcN (row c.chans i) ∧ srcN (row c.chans i) ≤ 137:=by
  obtain ⟨a,b,d,e,f,_⟩:=h.chan i hi
  exact srcN_in a b d e f
theorem PV_len (c:Cfg):(PV c).length ≤ 1000000:=by
  unfold PV
  split
  · rw [pvL_len];have:=(accd_of (by assumption)).parts;omega
  · simp
theorem SR_len (c:Cfg):(SR c).length ≤ 1000000:=by
  unfold SR
  split
  · rw [srL_len];have:=(accd_of (by assumption)).chans;omega
  · simp
theorem DS_len (c:Cfg):(DS c).length ≤ 1000000:=by
  unfold DS
  split
  · rw [dsL_len];have:=(accd_of (by assumption)).chans;omega
  · simp
theorem PV_wf (c:Cfg):wfR [.i64,.i64] (PV c):=by
  unfold PV
  split
  · rename_i h
    have ha:=accd_of h
    intro q hq
    obtain ⟨i,hi,rfl⟩:=List.mem_map.1 hq
    have hi:=List.mem_range.1 hi
    have h1:=privUp_in ha i (by omega)
    have h2:=ha.priv i hi
    have h3:=ha.parts
    exact span2_wf (by omega) (by omega)
  · intro q hq;cases hq
theorem SR_wf (c:Cfg):wfR [.i64,.i64] (SR c):=by
  unfold SR
  split
  · rename_i h
    have ha:=accd_of h
    intro q hq
    obtain ⟨i,hi,rfl⟩:=List.mem_map.1 hq
    have hi:=List.mem_range.1 hi
    have h1:=beforeN_in ha (k:=i) (by omega)
    have h2:=srcN_of ha hi
    exact span2_wf (by omega) (by omega)
  · intro q hq;cases hq
theorem DS_wf (c:Cfg):wfR [.i64,.i64] (DS c):=by
  unfold DS
  split
  · rename_i h
    have ha:=accd_of h
    intro q hq
    obtain ⟨i,hi,rfl⟩:=List.mem_map.1 hq
    have hi:=List.mem_range.1 hi
    have h1:=beforeN_in ha (k:=i) (by omega)
    have h2:=srcN_of ha hi
    exact span2_wf (by omega) (by omega)
  · intro q hq;cases hq
theorem nthS_at {l:List (List Int)} {i:Nat} {a b:Int} (h:l[i]? = some [a,b]):nthS l (i:Int) = (a,b):=by
  have hi:=(List.getElem?_eq_some_iff.1 h).1
  unfold nthS
  rw [if_pos (by omega),Int.toNat_natCast,row_at h]
  rfl
theorem nthS_out {l:List (List Int)} {n:Int} (h:¬ (0 ≤ n ∧ n < (l.length:Int))):nthS l n = (0,0):=if_neg h
theorem nthS_pv (c:Cfg) (p:Int):nthS (PV c) p = privSpan c p:=by
  unfold PV privSpan
  cases hq:acceptsB c with
  | false => rw [if_neg (by decide),if_neg (by simp)];exact nthS_out (by simp)
  | true =>
    rw [if_pos rfl]
    by_cases h:0 ≤ p ∧ p < (c.parts.length:Int)
    · obtain ⟨k,rfl⟩:=Int.eq_ofNat_of_zero_le h.1
      rw [if_pos ⟨rfl,h⟩,Int.toNat_natCast]
      exact nthS_at (pvL_at c (by omega))
    · rw [if_neg (fun h' => h h'.2)]
      exact nthS_out (by rw [pvL_len];exact h)
theorem chanB_iff {c:Cfg} (hq:acceptsB c = true) (k:Int):chanB c k = true ↔ 0 ≤ k ∧ k < (c.chans.length:Int):=by
  unfold chanB
  rw [hq,Bool.and_true,decide_eq_true_eq]
theorem nthS_sr (c:Cfg) (k:Int):nthS (SR c) k = srcSpan c k:=by
  unfold SR srcSpan
  cases hq:acceptsB c with
  | false => rw [if_neg (by decide),if_neg (by unfold chanB;rw [hq];simp)];exact nthS_out (by simp)
  | true =>
    rw [if_pos rfl]
    by_cases h:0 ≤ k ∧ k < (c.chans.length:Int)
    · rw [if_pos ((chanB_iff hq k).2 h)]
      obtain ⟨n,rfl⟩:=Int.eq_ofNat_of_zero_le h.1
      rw [Int.toNat_natCast]
      exact nthS_at (srL_at c (by omega))
    · rw [if_neg (fun h' => h ((chanB_iff hq k).1 h'))]
      exact nthS_out (by rw [srL_len];exact h)
theorem nthS_ds (c:Cfg) (k:Int):nthS (DS c) k = dstSpan c k:=by
  unfold DS dstSpan
  cases hq:acceptsB c with
  | false => rw [if_neg (by decide),if_neg (by unfold chanB;rw [hq];simp)];exact nthS_out (by simp)
  | true =>
    rw [if_pos rfl]
    by_cases h:0 ≤ k ∧ k < (c.chans.length:Int)
    · rw [if_pos ((chanB_iff hq k).2 h)]
      obtain ⟨n,rfl⟩:=Int.eq_ofNat_of_zero_le h.1
      rw [Int.toNat_natCast]
      exact nthS_at (dsL_at c (by omega))
    · rw [if_neg (fun h' => h ((chanB_iff hq k).1 h'))]
      exact nthS_out (by rw [dsL_len];exact h)
end Go.Proofs.YtjfolhkblbakiaaGreatDoor
namespace Go.Proofs.YtjfolhkblbakiaaGreatDoor
open Go.RowKit Go.Sort Go.ChangeShapes Go.WideShapes
set_option linter.unusedVariables false
set_option linter.unusedSimpArgs false
theorem run_places0 (A1 A2 A3:Option Addr) (n1 n2 n3 k1 k2 k3:Nat) (w:World):(Instr.field 242 (.agg #[.slice A1 n1 k1,.slice A2 n2 k2,.slice A3 n3 k3]) 0).run Tryz.prog w = .ok (.slice A1 n1 k1) w:=by kernel_rfl
theorem run_places1 (A1 A2 A3:Option Addr) (n1 n2 n3 k1 k2 k3:Nat) (w:World):(Instr.field 242 (.agg #[.slice A1 n1 k1,.slice A2 n2 k2,.slice A3 n3 k3]) 1).run Tryz.prog w = .ok (.slice A2 n2 k2) w:=by kernel_rfl
theorem run_places2 (A1 A2 A3:Option Addr) (n1 n2 n3 k1 k2 k3:Nat) (w:World):(Instr.field 242 (.agg #[.slice A1 n1 k1,.slice A2 n2 k2,.slice A3 n3 k3]) 2).run Tryz.prog w = .ok (.slice A3 n3 k3) w:=by kernel_rfl
set_option maxRecDepth 100000 in
set_option maxHeartbeats 1600000 in
theorem private_b (c:Cfg) (x:CfgAt) (p:Int) (w:World) (hx:CfgIn w w.heap.size c x) (wx:CfgWf c) (lx:CfgFew c):Calls Tryz.prog 165 #[.agg (cfgCells c x),.int .i64 p] w fun e w' => e = .returned (.agg #[.int .i64 (privSpan c p).1,.int .i64 (privSpan c p).2]) ∧ Below w.heap.size w w':=by
  obtain ⟨Wc,HWc,hBc,hWs,bx⟩:=one_cbox w c x 29
  obtain ⟨pa,pc,ca,cc,aa,ac,ba,bc⟩:=x
  obtain ⟨W,HW⟩:∃ u,Hid (u = Wc.alloc (.cells #[.int .i64 0,.int .i64 0] 135)):=⟨_,rfl⟩
  obtain ⟨r,hr⟩:∃ r,r = Wc.heap.size:=⟨_,rfl⟩
  have hrr:Wc.heap.size ≤ r:=by omega
  have hR:W.heap[r]? = some (.cells #[.int .i64 0,.int .i64 0] 135 (0,0)):=by rw [HW.out,hr];exact heap_alloc_new _ _
  have hBW:Below Wc.heap.size Wc W:=by rw [HW.out];exact (Below.refl _ _).alloc (Nat.le_refl _) _
  have hxW:=hx.later (hBc.trans (hBW.mono hBc.size))
  obtain ⟨c0,c1,c2,c3,c4,c5⟩:=bx _ hBW
  have HB:=Lib.hid hBc;have HR0:=Lib.hid hR;have HBW:=Lib.hid hBW;have HXW:=Lib.hid hxW;have HXC:=Lib.hid (hx.later hBc);have HRR:=Lib.hid hr
  simp only [cfgCells] at HWc ⊢
  clear hBc hR hBW hxW hx hr hWs
  have HLY:=Lib.hid (lay_b c ⟨pa,pc,ca,cc,aa,ac,ba,bc⟩ W HXW.out wx lx)
  have HN:=Lib.hid (fun A cap w' (hr:RowN [.i64,.i64] w' w'.heap.size A (PV c)) => nth_b (PV c) A cap p w' hr (PV_wf c) (PV_len c))
  rw [nthS_pv] at HN
  simp only [cfgCells] at HLY
  go_enter Tryz.func165,Tryz.ntmps165
  go_wp2_with (first | (rw [← HWc.out]) | (rw [← HW.out]))
  refine HLY.out.mono ?_
  rintro e w5 ⟨vp,vs,vd,rfl,r1,r2,r3,hb5⟩
  obtain ⟨A,cap,rfl,_,_,hrow,_,_⟩:=OwnsOff.rowN (ks:=[.i64,.i64]) r1 (PV_wf c)
  obtain ⟨A2,k2,rfl,_⟩:=r2.slice
  obtain ⟨A3,k3,rfl,_⟩:=r3.slice
  have HC:=Lib.hid (HN.out A cap w5 hrow)
  have HR5:=Lib.hid ((hb5.block r (Array.getElem?_eq_some_iff.1 HR0.out).1).trans HR0.out)
  have HB5:=Lib.hid (HBW.out.trans (hb5.mono HBW.out.size))
  clear hb5 r1 r2 r3 c0 c1 c2 c3 c4 c5 hrow
  have hfd:=run_places0
  go_wp2_with fail
  clear hfd
  refine HC.out.mono ?_
  rintro e w6 ⟨rfl,hb6⟩
  have hR6:=(hb6.block r (Array.getElem?_eq_some_iff.1 HR5.out).1).trans HR5.out
  have z0:=cell_blk hR6 (i:=0) rfl
  have z1:=cell_blk hR6 (i:=1) rfl
  have f0:w6.frozen? ⟨r,0,none⟩ = false:=by simp [World.frozen?,hR6]
  have f1:w6.frozen? ⟨r,1,none⟩ = false:=by simp [World.frozen?,hR6]
  have HR6:=Lib.hid hR6
  have HF:=Lib.hid (HB.out.trans ((HB5.out.trans (hb6.mono HB5.out.size)).mono HB.out.size))
  obtain ⟨y0,hy0⟩:∃ y0,(privSpan c p).1 = y0:=⟨_,rfl⟩
  obtain ⟨y1,hy1⟩:∃ y1,(privSpan c p).2 = y1:=⟨_,rfl⟩
  simp only [hy0,hy1]
  have HY0:=Lib.hid hy0;have HY1:=Lib.hid hy1
  clear hb6 hR6 hy0 hy1
  simp only [← HRR.out]
  go_wp2
  have hRz:((w6.setCell ⟨r,0,none⟩ (.int .i64 y0)).setCell ⟨r,1,none⟩ (.int .i64 y1)).heap[r]? = some (.cells #[.int .i64 y0,.int .i64 y1] 135 (0,0)):=by simp [World.setCell,Array.getElem?_modify,HR6.out]
  refine bodyPost_ret (results_cell_span rfl _ _ r y0 y1 rfl (cell_blk hRz (i:=0) rfl) (cell_blk hRz (i:=1) rfl)) rfl ⟨by rw [HY0.out,HY1.out],(HF.out.setCell (p:=⟨r,0,none⟩) ?_ _).setCell (p:=⟨r,1,none⟩) ?_ _⟩ <;> (have:=HB.out.size;show w.heap.size ≤ r;omega)
set_option maxRecDepth 100000 in
set_option maxHeartbeats 1600000 in
theorem source_b (c:Cfg) (x:CfgAt) (p:Int) (w:World) (hx:CfgIn w w.heap.size c x) (wx:CfgWf c) (lx:CfgFew c):Calls Tryz.prog 138 #[.agg (cfgCells c x),.int .i64 p] w fun e w' => e = .returned (.agg #[.int .i64 (srcSpan c p).1,.int .i64 (srcSpan c p).2]) ∧ Below w.heap.size w w':=by
  obtain ⟨Wc,HWc,hBc,hWs,bx⟩:=one_cbox w c x 29
  obtain ⟨pa,pc,ca,cc,aa,ac,ba,bc⟩:=x
  obtain ⟨W,HW⟩:∃ u,Hid (u = Wc.alloc (.cells #[.int .i64 0,.int .i64 0] 135)):=⟨_,rfl⟩
  obtain ⟨r,hr⟩:∃ r,r = Wc.heap.size:=⟨_,rfl⟩
  have hrr:Wc.heap.size ≤ r:=by omega
  have hR:W.heap[r]? = some (.cells #[.int .i64 0,.int .i64 0] 135 (0,0)):=by rw [HW.out,hr];exact heap_alloc_new _ _
  have hBW:Below Wc.heap.size Wc W:=by rw [HW.out];exact (Below.refl _ _).alloc (Nat.le_refl _) _
  have hxW:=hx.later (hBc.trans (hBW.mono hBc.size))
  obtain ⟨c0,c1,c2,c3,c4,c5⟩:=bx _ hBW
  have HB:=Lib.hid hBc;have HR0:=Lib.hid hR;have HBW:=Lib.hid hBW;have HXW:=Lib.hid hxW;have HXC:=Lib.hid (hx.later hBc);have HRR:=Lib.hid hr
  simp only [cfgCells] at HWc ⊢
  clear hBc hR hBW hxW hx hr hWs
  have HLY:=Lib.hid (lay_b c ⟨pa,pc,ca,cc,aa,ac,ba,bc⟩ W HXW.out wx lx)
  have HN:=Lib.hid (fun A cap w' (hr:RowN [.i64,.i64] w' w'.heap.size A (SR c)) => nth_b (SR c) A cap p w' hr (SR_wf c) (SR_len c))
  rw [nthS_sr] at HN
  simp only [cfgCells] at HLY
  go_enter Tryz.func138,Tryz.ntmps138
  go_wp2_with (first | (rw [← HWc.out]) | (rw [← HW.out]))
  refine HLY.out.mono ?_
  rintro e w5 ⟨vp,vs,vd,rfl,r1,r2,r3,hb5⟩
  obtain ⟨A,cap,rfl,_,_,hrow,_,_⟩:=OwnsOff.rowN (ks:=[.i64,.i64]) r2 (SR_wf c)
  obtain ⟨A1,k1,rfl,_⟩:=r1.slice
  obtain ⟨A3,k3,rfl,_⟩:=r3.slice
  have HC:=Lib.hid (HN.out A cap w5 hrow)
  have HR5:=Lib.hid ((hb5.block r (Array.getElem?_eq_some_iff.1 HR0.out).1).trans HR0.out)
  have HB5:=Lib.hid (HBW.out.trans (hb5.mono HBW.out.size))
  clear hb5 r1 r2 r3 c0 c1 c2 c3 c4 c5 hrow
  have hfd:=run_places1
  go_wp2_with fail
  clear hfd
  refine HC.out.mono ?_
  rintro e w6 ⟨rfl,hb6⟩
  have hR6:=(hb6.block r (Array.getElem?_eq_some_iff.1 HR5.out).1).trans HR5.out
  have z0:=cell_blk hR6 (i:=0) rfl
  have z1:=cell_blk hR6 (i:=1) rfl
  have f0:w6.frozen? ⟨r,0,none⟩ = false:=by simp [World.frozen?,hR6]
  have f1:w6.frozen? ⟨r,1,none⟩ = false:=by simp [World.frozen?,hR6]
  have HR6:=Lib.hid hR6
  have HF:=Lib.hid (HB.out.trans ((HB5.out.trans (hb6.mono HB5.out.size)).mono HB.out.size))
  obtain ⟨y0,hy0⟩:∃ y0,(srcSpan c p).1 = y0:=⟨_,rfl⟩
  obtain ⟨y1,hy1⟩:∃ y1,(srcSpan c p).2 = y1:=⟨_,rfl⟩
  simp only [hy0,hy1]
  have HY0:=Lib.hid hy0;have HY1:=Lib.hid hy1
  clear hb6 hR6 hy0 hy1
  simp only [← HRR.out]
  go_wp2
  have hRz:((w6.setCell ⟨r,0,none⟩ (.int .i64 y0)).setCell ⟨r,1,none⟩ (.int .i64 y1)).heap[r]? = some (.cells #[.int .i64 y0,.int .i64 y1] 135 (0,0)):=by simp [World.setCell,Array.getElem?_modify,HR6.out]
  refine bodyPost_ret (results_cell_span rfl _ _ r y0 y1 rfl (cell_blk hRz (i:=0) rfl) (cell_blk hRz (i:=1) rfl)) rfl ⟨by rw [HY0.out,HY1.out],(HF.out.setCell (p:=⟨r,0,none⟩) ?_ _).setCell (p:=⟨r,1,none⟩) ?_ _⟩ <;> (have:=HB.out.size;show w.heap.size ≤ r;omega)
set_option maxRecDepth 100000 in
set_option maxHeartbeats 1600000 in
theorem dest_b (c:Cfg) (x:CfgAt) (p:Int) (w:World) (hx:CfgIn w w.heap.size c x) (wx:CfgWf c) (lx:CfgFew c):Calls Tryz.prog 139 #[.agg (cfgCells c x),.int .i64 p] w fun e w' => e = .returned (.agg #[.int .i64 (dstSpan c p).1,.int .i64 (dstSpan c p).2]) ∧ Below w.heap.size w w':=by
  obtain ⟨Wc,HWc,hBc,hWs,bx⟩:=one_cbox w c x 29
  obtain ⟨pa,pc,ca,cc,aa,ac,ba,bc⟩:=x
  obtain ⟨W,HW⟩:∃ u,Hid (u = Wc.alloc (.cells #[.int .i64 0,.int .i64 0] 135)):=⟨_,rfl⟩
  obtain ⟨r,hr⟩:∃ r,r = Wc.heap.size:=⟨_,rfl⟩
  have hrr:Wc.heap.size ≤ r:=by omega
  have hR:W.heap[r]? = some (.cells #[.int .i64 0,.int .i64 0] 135 (0,0)):=by rw [HW.out,hr];exact heap_alloc_new _ _
  have hBW:Below Wc.heap.size Wc W:=by rw [HW.out];exact (Below.refl _ _).alloc (Nat.le_refl _) _
  have hxW:=hx.later (hBc.trans (hBW.mono hBc.size))
  obtain ⟨c0,c1,c2,c3,c4,c5⟩:=bx _ hBW
  have HB:=Lib.hid hBc;have HR0:=Lib.hid hR;have HBW:=Lib.hid hBW;have HXW:=Lib.hid hxW;have HXC:=Lib.hid (hx.later hBc);have HRR:=Lib.hid hr
  simp only [cfgCells] at HWc ⊢
  clear hBc hR hBW hxW hx hr hWs
  have HLY:=Lib.hid (lay_b c ⟨pa,pc,ca,cc,aa,ac,ba,bc⟩ W HXW.out wx lx)
  have HN:=Lib.hid (fun A cap w' (hr:RowN [.i64,.i64] w' w'.heap.size A (DS c)) => nth_b (DS c) A cap p w' hr (DS_wf c) (DS_len c))
  rw [nthS_ds] at HN
  simp only [cfgCells] at HLY
  go_enter Tryz.func139,Tryz.ntmps139
  go_wp2_with (first | (rw [← HWc.out]) | (rw [← HW.out]))
  refine HLY.out.mono ?_
  rintro e w5 ⟨vp,vs,vd,rfl,r1,r2,r3,hb5⟩
  obtain ⟨A,cap,rfl,_,_,hrow,_,_⟩:=OwnsOff.rowN (ks:=[.i64,.i64]) r3 (DS_wf c)
  obtain ⟨A1,k1,rfl,_⟩:=r1.slice
  obtain ⟨A2,k2,rfl,_⟩:=r2.slice
  have HC:=Lib.hid (HN.out A cap w5 hrow)
  have HR5:=Lib.hid ((hb5.block r (Array.getElem?_eq_some_iff.1 HR0.out).1).trans HR0.out)
  have HB5:=Lib.hid (HBW.out.trans (hb5.mono HBW.out.size))
  clear hb5 r1 r2 r3 c0 c1 c2 c3 c4 c5 hrow
  have hfd:=run_places2
  go_wp2_with fail
  clear hfd
  refine HC.out.mono ?_
  rintro e w6 ⟨rfl,hb6⟩
  have hR6:=(hb6.block r (Array.getElem?_eq_some_iff.1 HR5.out).1).trans HR5.out
  have z0:=cell_blk hR6 (i:=0) rfl
  have z1:=cell_blk hR6 (i:=1) rfl
  have f0:w6.frozen? ⟨r,0,none⟩ = false:=by simp [World.frozen?,hR6]
  have f1:w6.frozen? ⟨r,1,none⟩ = false:=by simp [World.frozen?,hR6]
  have HR6:=Lib.hid hR6
  have HF:=Lib.hid (HB.out.trans ((HB5.out.trans (hb6.mono HB5.out.size)).mono HB.out.size))
  obtain ⟨y0,hy0⟩:∃ y0,(dstSpan c p).1 = y0:=⟨_,rfl⟩
  obtain ⟨y1,hy1⟩:∃ y1,(dstSpan c p).2 = y1:=⟨_,rfl⟩
  simp only [hy0,hy1]
  have HY0:=Lib.hid hy0;have HY1:=Lib.hid hy1
  clear hb6 hR6 hy0 hy1
  simp only [← HRR.out]
  go_wp2
  have hRz:((w6.setCell ⟨r,0,none⟩ (.int .i64 y0)).setCell ⟨r,1,none⟩ (.int .i64 y1)).heap[r]? = some (.cells #[.int .i64 y0,.int .i64 y1] 135 (0,0)):=by simp [World.setCell,Array.getElem?_modify,HR6.out]
  refine bodyPost_ret (results_cell_span rfl _ _ r y0 y1 rfl (cell_blk hRz (i:=0) rfl) (cell_blk hRz (i:=1) rfl)) rfl ⟨by rw [HY0.out,HY1.out],(HF.out.setCell (p:=⟨r,0,none⟩) ?_ _).setCell (p:=⟨r,1,none⟩) ?_ _⟩ <;> (have:=HB.out.size;show w.heap.size ≤ r;omega)
end Go.Proofs.YtjfolhkblbakiaaGreatDoor
namespace Go.Proofs.YtjfolhkblbakiaaGreatDoor
open Go.RowKit Go.Sort Go.ChangeShapes Go.WideShapes
set_option linter.unusedVariables false
set_option linter.unusedSimpArgs false
/-- The source span of channel k,if there is such a channel of that kind. -/
def srcOfS (c:Cfg) (k kind:Int):(Int × Int) × Bool:=if chanB c k = true ∧ fld (row c.chans k.toNat) 0 = kind then (srcSpan c k,true) else ((0,0),false)
set_option maxRecDepth 100000 in
set_option maxHeartbeats 4000000 in
theorem srcOf_b (c:Cfg) (x:CfgAt) (k kind:Int) (w:World) (hx:CfgIn w w.heap.size c x) (wx:CfgWf c) (lx:CfgFew c) :
    Calls Tryz.prog 169 #[.agg (cfgCells c x),.int .i64 k,.int .i64 kind] w fun e w' => e = .returned (.tuple #[.agg #[.int .i64 ((srcOfS c k kind).1.1),.int .i64 ((srcOfS c k kind).1.2)],.bool (srcOfS c k kind).2]) ∧ Below w.heap.size w w':=by
  obtain ⟨Wc,HWc,hBc,hWs,bx⟩:=one_cbox w c x 29
  obtain ⟨pa,pc,ca,cc,aa,ac,ba,bc⟩:=x
  obtain ⟨W,HW⟩:∃ u,Hid (u = Wc.alloc (.cells #[.int .i64 0,.int .i64 0] 135)):=⟨_,rfl⟩
  obtain ⟨r,hr⟩:∃ r,r = Wc.heap.size:=⟨_,rfl⟩
  have hrr:Wc.heap.size ≤ r:=by omega
  have hR:W.heap[r]? = some (.cells #[.int .i64 0,.int .i64 0] 135 (0,0)):=by rw [HW.out,hr];exact heap_alloc_new _ _
  have hBW:Below Wc.heap.size Wc W:=by rw [HW.out];exact (Below.refl _ _).alloc (Nat.le_refl _) _
  have hxW:=hx.later (hBc.trans (hBW.mono hBc.size))
  obtain ⟨c0,c1,c2,c3,c4,c5⟩:=bx _ hBW
  have HB:=Lib.hid hBc;have HR0:=Lib.hid hR;have HBW:=Lib.hid hBW;have HXW:=Lib.hid hxW;have HXC:=Lib.hid (hx.later hBc);have HRR:=Lib.hid hr
  simp only [cfgCells] at HWc ⊢
  clear hBc hR hBW hxW hx hr hWs
  have HLY:=Lib.hid (lay_b c ⟨pa,pc,ca,cc,aa,ac,ba,bc⟩ W HXW.out wx lx)
  simp only [cfgCells] at HLY
  cases hq:chanB c k with
  | false =>
    have HX:=Lib.hid (show srcOfS c k kind = ((0,0),false) from if_neg (fun h => by rw [hq] at h;cases h.1))
    have HBE:=Lib.hid (fun w' => below_is k ((SR c).length:Int) false w' (decide_eq_false (fun h => by
      cases ha:acceptsB c with
      | false => unfold SR at h;rw [ha,if_neg (by decide)] at h;simp at h;omega
      | true => unfold SR at h;rw [if_pos ha,srL_len] at h;rw [(chanB_iff ha k).2 h] at hq;cases hq)))
    clear hq
    go_enter Tryz.func169,Tryz.ntmps169
    go_wp2_with (first | (rw [← HWc.out]) | (rw [← HW.out]))
    refine HLY.out.mono ?_
    rintro e w5 ⟨vp,vs,vd,rfl,r1,r2,r3,hb5⟩
    obtain ⟨A2,k2,rfl,_,_,hrow,_,_⟩:=OwnsOff.rowN (ks:=[.i64,.i64]) r2 (SR_wf c)
    obtain ⟨A1,k1,rfl,_⟩:=r1.slice
    obtain ⟨A3,k3,rfl,_⟩:=r3.slice
    obtain ⟨w6,hw6⟩:∃ u,Hid (u = w5.alloc (.cells #[.slice A1 (PV c).length k1,.slice A2 (SR c).length k2,.slice A3 (DS c).length k3] 242)):=⟨_,rfl⟩
    have hb6:Below w5.heap.size w5 w6:=by rw [hw6.out];exact (Below.refl _ _).alloc (Nat.le_refl _) _
    have hP6:w6.heap[w5.heap.size]? = some (.cells #[.slice A1 (PV c).length k1,.slice A2 (SR c).length k2,.slice A3 (DS c).length k3] 242 (0,0)):=by rw [hw6.out];exact heap_alloc_new _ _
    have hR6:=((hb5.trans (hb6.mono hb5.size)).block r (Array.getElem?_eq_some_iff.1 HR0.out).1).trans HR0.out
    have hB6:=HBW.out.trans ((hb5.trans (hb6.mono hb5.size)).mono HBW.out.size)
    have p1:=cell_blk hP6 (i:=1) rfl
    have z0:=cell_blk hR6 (i:=0) rfl
    have z1:=cell_blk hR6 (i:=1) rfl
    have f0:w6.frozen? ⟨r,0,none⟩ = false:=by simp [World.frozen?,hR6]
    have f1:w6.frozen? ⟨r,1,none⟩ = false:=by simp [World.frozen?,hR6]
    have HR6:=Lib.hid hR6
    have hBE:=HBE.out w6
    have HF:=Lib.hid (HB.out.trans (hB6.mono HB.out.size))
    clear hb5 hb6 hP6 hR6 hB6 r1 r2 r3 hrow c0 c1 c2 c3 c4 c5
    simp only [← HRR.out]
    go_wp2_with (first | (rw [← hw6.out]) | (go_at_call 170;((with_reducible refine hBE.mono ?_);rintro e w7 ⟨rfl,rfl⟩)))
    have hRz:((w6.setCell ⟨r,0,none⟩ (.int .i64 0)).setCell ⟨r,1,none⟩ (.int .i64 0)).heap[r]? = some (.cells #[.int .i64 0,.int .i64 0] 135 (0,0)):=by simp [World.setCell,Array.getElem?_modify,HR6.out]
    have y0:=cell_blk hRz (i:=0) rfl
    have y1:=cell_blk hRz (i:=1) rfl
    refine bodyPost_ret (v:=.tuple #[.agg #[.int .i64 (0),.int .i64 (0)],.bool false]) (by simp [results,Tryz.results169,go_sem,y0,y1]) rfl ⟨by rw [HX.out],(HF.out.setCell (p:=⟨r,0,none⟩) ?_ _).setCell (p:=⟨r,1,none⟩) ?_ _⟩ <;> (have:=HB.out.size;show w.heap.size ≤ r;omega)
  | true =>
    have hq2:(0 ≤ k ∧ k < (c.chans.length:Int)) ∧ acceptsB c = true:=by
      unfold chanB at hq
      rw [Bool.and_eq_true] at hq
      exact ⟨of_decide_eq_true hq.1,hq.2⟩
    have hS:SR c = srL c c.chans.length:=if_pos hq2.2
    have hSL:(SR c).length = c.chans.length:=by rw [hS,srL_len]
    have HSW:=Lib.hid hS
    have HBE:=Lib.hid (fun w' => below_is k ((SR c).length:Int) true w' (decide_eq_true (by rw [hSL];exact hq2.1)))
    obtain ⟨⟨k0,k1⟩,ha⟩:=hq2
    obtain ⟨n,rfl⟩:=Int.eq_ofNat_of_zero_le k0
    have hn:n < c.chans.length:=by omega
    obtain ⟨b,o,x0,x1,x2,x3,x4,x5,x6,e0,_,e1,-,hrw⟩:=HXC.out.rc.at7 wx.wc hn
    have s0:(0:Int) ≤ (n:Int):=by omega
    have s1:(n:Int) < (c.chans.length:Int):=by omega
    have s2:(n:Int) < ((SR c).length:Int):=by rw [hSL];exact s1
    have E1:=Lib.hid e1;have HQ:=Lib.hid hq;have HSL:=Lib.hid hSL;have HN:=Lib.hid hn
    clear hq hS hSL e1
    subst e0
    by_cases hk:x0 = kind
    · have hkf:(x0 != kind) = false:=by simp [hk]
      have HX:=Lib.hid (show srcOfS c (n:Int) kind = (srcSpan c (n:Int),true) from if_pos ⟨HQ.out,by rw [Int.toNat_natCast,row_at E1.out];exact hk⟩)
      have HY:=Lib.hid (show srcSpan c (n:Int) = (beforeN c n,srcN (row c.chans n)) from (if_pos HQ.out).trans (by rw [Int.toNat_natCast]))
      have hat:(SR c)[n]? = some [beforeN c n,srcN (row c.chans n)]:=by rw [HSW.out];exact srL_at c HN.out
      obtain ⟨y0,hy0⟩:∃ y0,beforeN c n = y0:=⟨_,rfl⟩
      obtain ⟨y1,hy1⟩:∃ y1,srcN (row c.chans n) = y1:=⟨_,rfl⟩
      rw [hy0,hy1] at HY hat
      have HAT:=Lib.hid hat
      clear hk hat hy0 hy1
      go_enter Tryz.func169,Tryz.ntmps169
      go_wp2_with (first | (rw [← HWc.out]) | (rw [← HW.out]))
      refine HLY.out.mono ?_
      rintro e w5 ⟨vp,vs,vd,rfl,r1,r2,r3,hb5⟩
      obtain ⟨A2,k2,rfl,_,_,hrow,_,_⟩:=OwnsOff.rowN (ks:=[.i64,.i64]) r2 (SR_wf c)
      obtain ⟨A1,k1,rfl,_⟩:=r1.slice
      obtain ⟨A3,k3,rfl,_⟩:=r3.slice
      obtain ⟨w6,hw6⟩:∃ u,Hid (u = w5.alloc (.cells #[.slice A1 (PV c).length k1,.slice A2 (SR c).length k2,.slice A3 (DS c).length k3] 242)):=⟨_,rfl⟩
      have hb6:Below w5.heap.size w5 w6:=by rw [hw6.out];exact (Below.refl _ _).alloc (Nat.le_refl _) _
      have hP6:w6.heap[w5.heap.size]? = some (.cells #[.slice A1 (PV c).length k1,.slice A2 (SR c).length k2,.slice A3 (DS c).length k3] 242 (0,0)):=by rw [hw6.out];exact heap_alloc_new _ _
      have hR6:=((hb5.trans (hb6.mono hb5.size)).block r (Array.getElem?_eq_some_iff.1 HR0.out).1).trans HR0.out
      have hB6:=HBW.out.trans ((hb5.trans (hb6.mono hb5.size)).mono HBW.out.size)
      have p1:=cell_blk hP6 (i:=1) rfl
      have z0:=cell_blk hR6 (i:=0) rfl
      have z1:=cell_blk hR6 (i:=1) rfl
      have f0:w6.frozen? ⟨r,0,none⟩ = false:=by simp [World.frozen?,hR6]
      have f1:w6.frozen? ⟨r,1,none⟩ = false:=by simp [World.frozen?,hR6]
      have HR6:=Lib.hid hR6
      have hBE:=HBE.out w6
      have HF:=Lib.hid (HB.out.trans (hB6.mono HB.out.size))
      obtain ⟨sb,so,sy0,sy1,rfl,hsb,se1,-,srow⟩:=hrow.at2 (SR_wf c) (i:=n) (by have:=HSL.out;have:=HN.out;omega)
      have hyy:=HAT.out
      rw [se1] at hyy
      obtain ⟨rfl,rfl⟩:sy0 = y0 ∧ sy1 = y1:=by simpa using hyy
      obtain ⟨u0,u1⟩:=srow w6 hb6
      obtain ⟨q0,q1,q2,q3,q4,q5,q6⟩:=hrw w6 hB6
      obtain ⟨d0,d1,d2,d3,d4,d5⟩:=bx w6 hB6
      clear hb5 hb6 hP6 hR6 hB6 r1 r2 r3 hrow c0 c1 c2 c3 c4 c5 hrw srow hyy se1
      simp only [← HRR.out]
      go_wp2_with (first | (rw [← hw6.out]) | (go_at_call 170;((with_reducible refine hBE.mono ?_);rintro e w7 ⟨rfl,rfl⟩)))
      have hRz:((w6.setCell ⟨r,0,none⟩ (.int .i64 sy0)).setCell ⟨r,1,none⟩ (.int .i64 sy1)).heap[r]? = some (.cells #[.int .i64 sy0,.int .i64 sy1] 135 (0,0)):=by simp [World.setCell,Array.getElem?_modify,HR6.out]
      have y0:=cell_blk hRz (i:=0) rfl
      have y1:=cell_blk hRz (i:=1) rfl
      refine bodyPost_ret (v:=.tuple #[.agg #[.int .i64 (sy0),.int .i64 (sy1)],.bool true]) (by simp [results,Tryz.results169,go_sem,y0,y1]) rfl ⟨by rw [HX.out,HY.out],(HF.out.setCell (p:=⟨r,0,none⟩) ?_ _).setCell (p:=⟨r,1,none⟩) ?_ _⟩ <;> (have:=HB.out.size;show w.heap.size ≤ r;omega)
    · have hkf:(x0 != kind) = true:=by simp [hk]
      have HX:=Lib.hid (show srcOfS c (n:Int) kind = ((0,0),false) from if_neg (fun h => hk (by have:=h.2;rw [Int.toNat_natCast,row_at E1.out] at this;exact this)))
      clear hk
      go_enter Tryz.func169,Tryz.ntmps169
      go_wp2_with (first | (rw [← HWc.out]) | (rw [← HW.out]))
      refine HLY.out.mono ?_
      rintro e w5 ⟨vp,vs,vd,rfl,r1,r2,r3,hb5⟩
      obtain ⟨A2,k2,rfl,_,_,hrow,_,_⟩:=OwnsOff.rowN (ks:=[.i64,.i64]) r2 (SR_wf c)
      obtain ⟨A1,k1,rfl,_⟩:=r1.slice
      obtain ⟨A3,k3,rfl,_⟩:=r3.slice
      obtain ⟨w6,hw6⟩:∃ u,Hid (u = w5.alloc (.cells #[.slice A1 (PV c).length k1,.slice A2 (SR c).length k2,.slice A3 (DS c).length k3] 242)):=⟨_,rfl⟩
      have hb6:Below w5.heap.size w5 w6:=by rw [hw6.out];exact (Below.refl _ _).alloc (Nat.le_refl _) _
      have hP6:w6.heap[w5.heap.size]? = some (.cells #[.slice A1 (PV c).length k1,.slice A2 (SR c).length k2,.slice A3 (DS c).length k3] 242 (0,0)):=by rw [hw6.out];exact heap_alloc_new _ _
      have hR6:=((hb5.trans (hb6.mono hb5.size)).block r (Array.getElem?_eq_some_iff.1 HR0.out).1).trans HR0.out
      have hB6:=HBW.out.trans ((hb5.trans (hb6.mono hb5.size)).mono HBW.out.size)
      have p1:=cell_blk hP6 (i:=1) rfl
      have z0:=cell_blk hR6 (i:=0) rfl
      have z1:=cell_blk hR6 (i:=1) rfl
      have f0:w6.frozen? ⟨r,0,none⟩ = false:=by simp [World.frozen?,hR6]
      have f1:w6.frozen? ⟨r,1,none⟩ = false:=by simp [World.frozen?,hR6]
      have HR6:=Lib.hid hR6
      have hBE:=HBE.out w6
      have HF:=Lib.hid (HB.out.trans (hB6.mono HB.out.size))
      obtain ⟨q0,q1,q2,q3,q4,q5,q6⟩:=hrw w6 hB6
      obtain ⟨d0,d1,d2,d3,d4,d5⟩:=bx w6 hB6
      clear hb5 hb6 hP6 hR6 hB6 r1 r2 r3 hrow c0 c1 c2 c3 c4 c5 hrw
      simp only [← HRR.out]
      go_wp2_with (first | (rw [← hw6.out]) | (go_at_call 170;((with_reducible refine hBE.mono ?_);rintro e w7 ⟨rfl,rfl⟩)))
      have hRz:((w6.setCell ⟨r,0,none⟩ (.int .i64 0)).setCell ⟨r,1,none⟩ (.int .i64 0)).heap[r]? = some (.cells #[.int .i64 0,.int .i64 0] 135 (0,0)):=by simp [World.setCell,Array.getElem?_modify,HR6.out]
      have y0:=cell_blk hRz (i:=0) rfl
      have y1:=cell_blk hRz (i:=1) rfl
      refine bodyPost_ret (v:=.tuple #[.agg #[.int .i64 (0),.int .i64 (0)],.bool false]) (by simp [results,Tryz.results169,go_sem,y0,y1]) rfl ⟨by rw [HX.out],(HF.out.setCell (p:=⟨r,0,none⟩) ?_ _).setCell (p:=⟨r,1,none⟩) ?_ _⟩ <;> (have:=HB.out.size;show w.heap.size ≤ r;omega)
end Go.Proofs.YtjfolhkblbakiaaGreatDoor
namespace Go.Proofs.YtjfolhkblbakiaaGreatDoor
open Go.RowKit Go.Sort Go.ChangeShapes Go.WideShapes
set_option linter.unusedVariables false
set_option linter.unusedSimpArgs false
theorem buf_eq (p pr ix s:Int):p + 3 + (2 * pr + ix) * (2 + s) = p + 3 + pr * 2 * (s + 2) + ix * (s + 2):=by
  rw [Int.add_mul,Int.mul_comm 2 pr,Int.add_comm 2 s];omega
set_option maxRecDepth 100000 in
set_option maxHeartbeats 8000000 in
theorem buffer_b (c:Cfg) (x:CfgAt) (k:Int) (pr:Int) (ix:Int) (w:World) (hx:CfgIn w w.heap.size c x) (wx:CfgWf c) (lx:CfgFew c):Calls Tryz.prog 140 #[.agg (cfgCells c x),.int .i64 k,.int .i64 pr,.int .i64 ix] w fun e w' => e = .returned (.agg #[.int .i64 (bufSpan c k pr ix).1,.int .i64 (bufSpan c k pr ix).2]) ∧ Below w.heap.size w w':=by
  obtain ⟨Wc,HWc,hBc,hWs,bx⟩:=one_cbox w c x 29
  obtain ⟨pa,pc,ca,cc,aa,ac,ba,bc⟩:=x
  obtain ⟨W,HW⟩:∃ u,Hid (u = Wc.alloc (.cells #[.int .i64 0,.int .i64 0] 135)):=⟨_,rfl⟩
  obtain ⟨r,hr⟩:∃ r,r = Wc.heap.size:=⟨_,rfl⟩
  have hrr:Wc.heap.size ≤ r:=by omega
  have hR:W.heap[r]? = some (.cells #[.int .i64 0,.int .i64 0] 135 (0,0)):=by rw [HW.out,hr];exact heap_alloc_new _ _
  have hBW:Below Wc.heap.size Wc W:=by rw [HW.out];exact (Below.refl _ _).alloc (Nat.le_refl _) _
  have hxW:=hx.later (hBc.trans (hBW.mono hBc.size))
  obtain ⟨c0,c1,c2,c3,c4,c5⟩:=bx _ hBW
  have HB:=Lib.hid hBc;have HR0:=Lib.hid hR;have HBW:=Lib.hid hBW;have HXW:=Lib.hid hxW;have HXC:=Lib.hid (hx.later hBc);have HRR:=Lib.hid hr
  simp only [cfgCells] at HWc ⊢
  clear hBc hR hBW hxW hx hr hWs
  have hSO:=srcOf_b c ⟨pa,pc,ca,cc,aa,ac,ba,bc⟩ k 1 W HXW.out wx lx
  simp only [cfgCells] at hSO
  by_cases hs:chanB c k = true ∧ fld (row c.chans k.toNat) 0 = 1
  · have hsv:srcOfS c k 1 = (srcSpan c k,true):=if_pos hs
    rw [hsv] at hSO
    obtain ⟨hq,hkd⟩:=hs
    have hsp:srcSpan c k = (beforeN c k.toNat,srcN (row c.chans k.toNat)):=if_pos hq
    rw [hsp] at hSO
    have hq2:(0 ≤ k ∧ k < (c.chans.length:Int)) ∧ acceptsB c = true:=by
      unfold chanB at hq
      rw [Bool.and_eq_true] at hq
      exact ⟨of_decide_eq_true hq.1,hq.2⟩
    have HA:=Lib.hid (accd_of hq2.2)
    obtain ⟨⟨k0,k1⟩,-⟩:=hq2
    obtain ⟨n,rfl⟩:=Int.eq_ofNat_of_zero_le k0
    have hn:n < c.chans.length:=by omega
    obtain ⟨b,o,x0,x1,x2,x3,x4,x5,x6,e0,_,e1,-,hrw⟩:=HXC.out.rc.at7 wx.wc hn
    obtain ⟨a1,a2,a3,a4,a5,_⟩:=HA.out.chan n hn
    have hbn:=beforeN_in HA.out (k:=n) (by omega)
    have hsr:=srcN_of HA.out hn
    rw [Int.toNat_natCast] at hSO hkd
    rw [row_at e1] at a1 a2 a3 a4 a5 hkd
    have hkd:x0 = 1:=hkd
    have b2:1 ≤ x3:=a2
    have b3:x3 ≤ 16:=a3
    have b4:0 ≤ x4:=a4
    have b5:x4 ≤ 8:=a5
    obtain ⟨p,hp⟩:∃ p,beforeN c n = p:=⟨_,rfl⟩
    obtain ⟨s,hsn⟩:∃ s,srcN (row c.chans n) = s:=⟨_,rfl⟩
    rw [hp] at hSO hbn
    rw [hsn] at hSO
    have HP:=Lib.hid hp;have HQ:=Lib.hid hq;have HSO:=Lib.hid hSO;have E1:=Lib.hid e1;have HKD:=Lib.hid hkd
    have s0:(0:Int) ≤ (n:Int):=by omega
    have s1:(n:Int) < (c.chans.length:Int):=by omega
    have spz:∀ P:Prop,Decidable P → ∀ v:Int × Int,True:=fun _ _ _ => trivial
    clear spz hsv hq hsp a1 a2 a3 a4 a5 hp hsn hsr hSO hkd e1
    subst e0
    by_cases hp:0 ≤ pr ∧ pr < 2
    · have HBP:=Lib.hid (fun w' => below_is pr 2 true w' (decide_eq_true hp))
      by_cases hi:0 ≤ ix ∧ ix < 2
      · have HBI:=Lib.hid (fun w' => below_is ix 2 true w' (decide_eq_true hi))
        have HX:=Lib.hid (show bufSpan c (n:Int) pr ix = (p + 3 + (2 * pr + ix) * (2 + x3),2 + x3) by
          rw [buf_eq]
          refine (if_pos ⟨HQ.out,?_⟩).trans ?_
          · rw [Int.toNat_natCast,row_at E1.out,HP.out,Int.add_comm 2 x3];rfl
          · rw [Int.toNat_natCast,row_at E1.out];exact (show x0 = 1 ∧ 0 ≤ pr ∧ pr ≤ 1 ∧ 0 ≤ ix ∧ ix ≤ 1 by have:=HKD.out;omega))
        have HSZ:=Lib.hid (fun w' => bufsz_b x0 x1 x2 x3 x4 x5 x6 w' (by omega) b3)
        have m0:0 ≤ 2 * pr + ix ∧ 2 * pr + ix ≤ 3:=by omega
        have m1:0 ≤ (2 * pr + ix) * (2 + x3):=Int.mul_nonneg m0.1 (by omega)
        have m2:(2 * pr + ix) * (2 + x3) ≤ 3 * 18:=Int.mul_le_mul m0.2 (by omega) (by omega) (by omega)
        have v0:=IntWalk.i64_in (2 * pr) (by omega)
        have v1:=IntWalk.i64_in (2 * pr + ix) (by omega)
        have v2:=IntWalk.i64_in ((2 * pr + ix) * (2 + x3)) (by omega)
        have v3:=IntWalk.i64_in (p + 3) (by omega)
        have v4:=IntWalk.i64_in (p + 3 + (2 * pr + ix) * (2 + x3)) (by omega)
        clear hp hi m0 m1 m2
        go_enter Tryz.func140,Tryz.ntmps140
        go_wp2_with (first | (rw [← HWc.out]) | (rw [← HW.out]))
        refine HSO.out.mono ?_
        rintro e w5 ⟨rfl,hb5⟩
        obtain ⟨w6,hw6⟩:∃ u,Hid (u = w5.alloc (.cells #[.int .i64 (p),.int .i64 (s)] 135)):=⟨_,rfl⟩
        have hb6:Below w5.heap.size w5 w6:=by rw [hw6.out];exact (Below.refl _ _).alloc (Nat.le_refl _) _
        have hP6:w6.heap[w5.heap.size]? = some (.cells #[.int .i64 (p),.int .i64 (s)] 135 (0,0)):=by rw [hw6.out];exact heap_alloc_new _ _
        have hR6:=((hb5.trans (hb6.mono hb5.size)).block r (Array.getElem?_eq_some_iff.1 HR0.out).1).trans HR0.out
        have hB6:=HBW.out.trans ((hb5.trans (hb6.mono hb5.size)).mono HBW.out.size)
        have HP6:=Lib.hid hP6
        have hlt6:w5.heap.size < w6.heap.size:=(Array.getElem?_eq_some_iff.1 hP6).1
        have HR6:=Lib.hid hR6;have HB6:=Lib.hid hB6
        obtain ⟨d0,d1,d2,d3,d4,d5⟩:=bx w6 hB6
        obtain ⟨q0,q1,q2,q3,q4,q5,q6⟩:=hrw w6 hB6
        have HL6:=Lib.hid hlt6
        clear hb5 hb6 hP6 hR6 hB6 hlt6 c0 c1 c2 c3 c4 c5 hrw
        simp only [← HRR.out]
        go_wp2_with (first | (rw [← hw6.out]) | (go_at_call 170;((first | (with_reducible refine (HBP.out _).mono ?_) | (with_reducible refine (HBI.out _).mono ?_));rintro e w9 ⟨rfl,rfl⟩)))
        refine (HSZ.out w6).mono ?_
        rintro e w7 ⟨rfl,hb7⟩
        have hP7:=(hb7.block w5.heap.size HL6.out).trans HP6.out
        have hR7:=(hb7.block r (Array.getElem?_eq_some_iff.1 HR6.out).1).trans HR6.out
        have p0:=cell_blk hP7 (i:=0) rfl
        have z0:=cell_blk hR7 (i:=0) rfl
        have z1:=cell_blk hR7 (i:=1) rfl
        have f0:w7.frozen? ⟨r,0,none⟩ = false:=by simp [World.frozen?,hR7]
        have f1:w7.frozen? ⟨r,1,none⟩ = false:=by simp [World.frozen?,hR7]
        have HR7:=Lib.hid hR7
        have HF:=Lib.hid (HB.out.trans ((HB6.out.trans (hb7.mono HB6.out.size)).mono HB.out.size))
        clear hb7 hP7 hR7 d0 d1 d2 d3 d4 d5 q0 q1 q2 q3 q4 q5 q6
        go_wp2
        have hRz:((w7.setCell ⟨r,0,none⟩ (.int .i64 (p + 3 + (2 * pr + ix) * (2 + x3)))).setCell ⟨r,1,none⟩ (.int .i64 (2 + x3))).heap[r]? = some (.cells #[.int .i64 (p + 3 + (2 * pr + ix) * (2 + x3)),.int .i64 (2 + x3)] 135 (0,0)):=by simp [World.setCell,Array.getElem?_modify,HR7.out]
        refine bodyPost_ret (results_cell_span rfl _ _ r _ _ rfl (cell_blk hRz (i:=0) rfl) (cell_blk hRz (i:=1) rfl)) rfl ⟨by rw [HX.out],(HF.out.setCell (p:=⟨r,0,none⟩) ?_ _).setCell (p:=⟨r,1,none⟩) ?_ _⟩ <;> (have:=HB.out.size;show w.heap.size ≤ r;omega)
      · have HBI:=Lib.hid (fun w' => below_is ix 2 false w' (decide_eq_false hi))
        have HX:=Lib.hid (show bufSpan c (n:Int) pr ix = (0,0) from if_neg (fun h => by have h2:=h.2;rw [Int.toNat_natCast,row_at E1.out] at h2;have h3:=(show x0 = 1 ∧ 0 ≤ pr ∧ pr ≤ 1 ∧ 0 ≤ ix ∧ ix ≤ 1 from h2);omega))
        clear hp hi
        go_enter Tryz.func140,Tryz.ntmps140
        go_wp2_with (first | (rw [← HWc.out]) | (rw [← HW.out]))
        refine HSO.out.mono ?_
        rintro e w5 ⟨rfl,hb5⟩
        obtain ⟨w6,hw6⟩:∃ u,Hid (u = w5.alloc (.cells #[.int .i64 (p),.int .i64 (s)] 135)):=⟨_,rfl⟩
        have hb6:Below w5.heap.size w5 w6:=by rw [hw6.out];exact (Below.refl _ _).alloc (Nat.le_refl _) _
        have hP6:w6.heap[w5.heap.size]? = some (.cells #[.int .i64 (p),.int .i64 (s)] 135 (0,0)):=by rw [hw6.out];exact heap_alloc_new _ _
        have hR6:=((hb5.trans (hb6.mono hb5.size)).block r (Array.getElem?_eq_some_iff.1 HR0.out).1).trans HR0.out
        have hB6:=HBW.out.trans ((hb5.trans (hb6.mono hb5.size)).mono HBW.out.size)
        have p0:=cell_blk hP6 (i:=0) rfl
        have p1:=cell_blk hP6 (i:=1) rfl
        have g0:w6.frozen? ⟨w5.heap.size,0,none⟩ = false:=by simp [World.frozen?,hP6]
        have g1:w6.frozen? ⟨w5.heap.size,1,none⟩ = false:=by simp [World.frozen?,hP6]
        have z0:=cell_blk hR6 (i:=0) rfl
        have z1:=cell_blk hR6 (i:=1) rfl
        have f0:w6.frozen? ⟨r,0,none⟩ = false:=by simp [World.frozen?,hR6]
        have f1:w6.frozen? ⟨r,1,none⟩ = false:=by simp [World.frozen?,hR6]
        have HR6:=Lib.hid hR6
        have HF:=Lib.hid (HB.out.trans (hB6.mono HB.out.size))
        clear hb5 hb6 hP6 hR6 hB6 c0 c1 c2 c3 c4 c5
        simp only [← HRR.out]
        go_wp2_with (first | (rw [← hw6.out]) | (go_at_call 170;((first | (with_reducible refine (HBP.out _).mono ?_) | (with_reducible refine (HBI.out _).mono ?_));rintro e w9 ⟨rfl,rfl⟩)))
        have hRz:((w6.setCell ⟨r,0,none⟩ (.int .i64 0)).setCell ⟨r,1,none⟩ (.int .i64 0)).heap[r]? = some (.cells #[.int .i64 0,.int .i64 0] 135 (0,0)):=by simp [World.setCell,Array.getElem?_modify,HR6.out]
        refine bodyPost_ret (results_cell_span rfl _ _ r 0 0 rfl (cell_blk hRz (i:=0) rfl) (cell_blk hRz (i:=1) rfl)) rfl ⟨by rw [HX.out],(HF.out.setCell (p:=⟨r,0,none⟩) ?_ _).setCell (p:=⟨r,1,none⟩) ?_ _⟩ <;> (have:=HB.out.size;show w.heap.size ≤ r;omega)
    · have HBP:=Lib.hid (fun w' => below_is pr 2 false w' (decide_eq_false hp))
      have HX:=Lib.hid (show bufSpan c (n:Int) pr ix = (0,0) from if_neg (fun h => by have h2:=h.2;rw [Int.toNat_natCast,row_at E1.out] at h2;have h3:=(show x0 = 1 ∧ 0 ≤ pr ∧ pr ≤ 1 ∧ 0 ≤ ix ∧ ix ≤ 1 from h2);omega))
      clear hp
      go_enter Tryz.func140,Tryz.ntmps140
      go_wp2_with (first | (rw [← HWc.out]) | (rw [← HW.out]))
      refine HSO.out.mono ?_
      rintro e w5 ⟨rfl,hb5⟩
      obtain ⟨w6,hw6⟩:∃ u,Hid (u = w5.alloc (.cells #[.int .i64 (p),.int .i64 (s)] 135)):=⟨_,rfl⟩
      have hb6:Below w5.heap.size w5 w6:=by rw [hw6.out];exact (Below.refl _ _).alloc (Nat.le_refl _) _
      have hP6:w6.heap[w5.heap.size]? = some (.cells #[.int .i64 (p),.int .i64 (s)] 135 (0,0)):=by rw [hw6.out];exact heap_alloc_new _ _
      have hR6:=((hb5.trans (hb6.mono hb5.size)).block r (Array.getElem?_eq_some_iff.1 HR0.out).1).trans HR0.out
      have hB6:=HBW.out.trans ((hb5.trans (hb6.mono hb5.size)).mono HBW.out.size)
      have p0:=cell_blk hP6 (i:=0) rfl
      have p1:=cell_blk hP6 (i:=1) rfl
      have g0:w6.frozen? ⟨w5.heap.size,0,none⟩ = false:=by simp [World.frozen?,hP6]
      have g1:w6.frozen? ⟨w5.heap.size,1,none⟩ = false:=by simp [World.frozen?,hP6]
      have z0:=cell_blk hR6 (i:=0) rfl
      have z1:=cell_blk hR6 (i:=1) rfl
      have f0:w6.frozen? ⟨r,0,none⟩ = false:=by simp [World.frozen?,hR6]
      have f1:w6.frozen? ⟨r,1,none⟩ = false:=by simp [World.frozen?,hR6]
      have HR6:=Lib.hid hR6
      have HF:=Lib.hid (HB.out.trans (hB6.mono HB.out.size))
      clear hb5 hb6 hP6 hR6 hB6 c0 c1 c2 c3 c4 c5
      simp only [← HRR.out]
      go_wp2_with (first | (rw [← hw6.out]) | (go_at_call 170;((with_reducible refine (HBP.out _).mono ?_);rintro e w9 ⟨rfl,rfl⟩)) )
      have hRz:((w6.setCell ⟨r,0,none⟩ (.int .i64 0)).setCell ⟨r,1,none⟩ (.int .i64 0)).heap[r]? = some (.cells #[.int .i64 0,.int .i64 0] 135 (0,0)):=by simp [World.setCell,Array.getElem?_modify,HR6.out]
      refine bodyPost_ret (results_cell_span rfl _ _ r 0 0 rfl (cell_blk hRz (i:=0) rfl) (cell_blk hRz (i:=1) rfl)) rfl ⟨by rw [HX.out],(HF.out.setCell (p:=⟨r,0,none⟩) ?_ _).setCell (p:=⟨r,1,none⟩) ?_ _⟩ <;> (have:=HB.out.size;show w.heap.size ≤ r;omega)
  · have hsv:srcOfS c k 1 = ((0,0),false):=if_neg hs
    rw [hsv] at hSO
    have HX:=Lib.hid (show bufSpan c k pr ix = (0,0) from if_neg (fun h => hs ⟨h.1,h.2.1⟩))
    have HSO:=Lib.hid hSO
    clear hs hsv hSO
    go_enter Tryz.func140,Tryz.ntmps140
    go_wp2_with (first | (rw [← HWc.out]) | (rw [← HW.out]))
    refine HSO.out.mono ?_
    rintro e w5 ⟨rfl,hb5⟩
    obtain ⟨w6,hw6⟩:∃ u,Hid (u = w5.alloc (.cells #[.int .i64 (0),.int .i64 (0)] 135)):=⟨_,rfl⟩
    have hb6:Below w5.heap.size w5 w6:=by rw [hw6.out];exact (Below.refl _ _).alloc (Nat.le_refl _) _
    have hP6:w6.heap[w5.heap.size]? = some (.cells #[.int .i64 (0),.int .i64 (0)] 135 (0,0)):=by rw [hw6.out];exact heap_alloc_new _ _
    have hR6:=((hb5.trans (hb6.mono hb5.size)).block r (Array.getElem?_eq_some_iff.1 HR0.out).1).trans HR0.out
    have hB6:=HBW.out.trans ((hb5.trans (hb6.mono hb5.size)).mono HBW.out.size)
    have z0:=cell_blk hR6 (i:=0) rfl
    have z1:=cell_blk hR6 (i:=1) rfl
    have f0:w6.frozen? ⟨r,0,none⟩ = false:=by simp [World.frozen?,hR6]
    have f1:w6.frozen? ⟨r,1,none⟩ = false:=by simp [World.frozen?,hR6]
    have HR6:=Lib.hid hR6
    have HF:=Lib.hid (HB.out.trans (hB6.mono HB.out.size))
    rw [hw6.out] at z0 z1 f0 f1
    clear hb5 hb6 hP6 hR6 hB6 c0 c1 c2 c3 c4 c5
    simp only [← HRR.out]
    go_wp2
    rw [← hw6.out]
    have hRz:((w6.setCell ⟨r,0,none⟩ (.int .i64 0)).setCell ⟨r,1,none⟩ (.int .i64 0)).heap[r]? = some (.cells #[.int .i64 0,.int .i64 0] 135 (0,0)):=by simp [World.setCell,Array.getElem?_modify,HR6.out]
    refine bodyPost_ret (results_cell_span rfl _ _ r 0 0 rfl (cell_blk hRz (i:=0) rfl) (cell_blk hRz (i:=1) rfl)) rfl ⟨by rw [HX.out],(HF.out.setCell (p:=⟨r,0,none⟩) ?_ _).setCell (p:=⟨r,1,none⟩) ?_ _⟩ <;> (have:=HB.out.size;show w.heap.size ≤ r;omega)
end Go.Proofs.YtjfolhkblbakiaaGreatDoor
namespace Go.Proofs.YtjfolhkblbakiaaGreatDoor
open Go.RowKit Go.Sort Go.ChangeShapes Go.WideShapes
set_option linter.unusedVariables false
set_option linter.unusedSimpArgs false
set_option maxRecDepth 100000 in
set_option maxHeartbeats 8000000 in
theorem cell_b (c:Cfg) (x:CfgAt) (k:Int) (i:Int) (w:World) (hx:CfgIn w w.heap.size c x) (wx:CfgWf c) (lx:CfgFew c):Calls Tryz.prog 145 #[.agg (cfgCells c x),.int .i64 k,.int .i64 i] w fun e w' => e = .returned (.agg #[.int .i64 (cellSpan c k i).1,.int .i64 (cellSpan c k i).2]) ∧ Below w.heap.size w w':=by
  obtain ⟨Wc,HWc,hBc,hWs,bx⟩:=one_cbox w c x 29
  obtain ⟨pa,pc,ca,cc,aa,ac,ba,bc⟩:=x
  obtain ⟨W,HW⟩:∃ u,Hid (u = Wc.alloc (.cells #[.int .i64 0,.int .i64 0] 135)):=⟨_,rfl⟩
  obtain ⟨r,hr⟩:∃ r,r = Wc.heap.size:=⟨_,rfl⟩
  have hrr:Wc.heap.size ≤ r:=by omega
  have hR:W.heap[r]? = some (.cells #[.int .i64 0,.int .i64 0] 135 (0,0)):=by rw [HW.out,hr];exact heap_alloc_new _ _
  have hBW:Below Wc.heap.size Wc W:=by rw [HW.out];exact (Below.refl _ _).alloc (Nat.le_refl _) _
  have hxW:=hx.later (hBc.trans (hBW.mono hBc.size))
  obtain ⟨c0,c1,c2,c3,c4,c5⟩:=bx _ hBW
  have HB:=Lib.hid hBc;have HR0:=Lib.hid hR;have HBW:=Lib.hid hBW;have HXW:=Lib.hid hxW;have HXC:=Lib.hid (hx.later hBc);have HRR:=Lib.hid hr
  simp only [cfgCells] at HWc ⊢
  clear hBc hR hBW hxW hx hr hWs
  have hSO:=srcOf_b c ⟨pa,pc,ca,cc,aa,ac,ba,bc⟩ k 2 W HXW.out wx lx
  simp only [cfgCells] at hSO
  by_cases hs:chanB c k = true ∧ fld (row c.chans k.toNat) 0 = 2
  · have hsv:srcOfS c k 2 = (srcSpan c k,true):=if_pos hs
    rw [hsv] at hSO
    obtain ⟨hq,hkd⟩:=hs
    have hsp:srcSpan c k = (beforeN c k.toNat,srcN (row c.chans k.toNat)):=if_pos hq
    rw [hsp] at hSO
    have hq2:(0 ≤ k ∧ k < (c.chans.length:Int)) ∧ acceptsB c = true:=by
      unfold chanB at hq
      rw [Bool.and_eq_true] at hq
      exact ⟨of_decide_eq_true hq.1,hq.2⟩
    have HA:=Lib.hid (accd_of hq2.2)
    obtain ⟨⟨k0,k1⟩,-⟩:=hq2
    obtain ⟨n,rfl⟩:=Int.eq_ofNat_of_zero_le k0
    have hn:n < c.chans.length:=by omega
    obtain ⟨b,o,x0,x1,x2,x3,x4,x5,x6,e0,_,e1,-,hrw⟩:=HXC.out.rc.at7 wx.wc hn
    obtain ⟨a1,a2,a3,a4,a5,_⟩:=HA.out.chan n hn
    have hbn:=beforeN_in HA.out (k:=n) (by omega)
    have hsr:=srcN_of HA.out hn
    rw [Int.toNat_natCast] at hSO hkd
    rw [row_at e1] at a1 a2 a3 a4 a5 hkd
    have hkd:x0 = 2:=hkd
    have b2:1 ≤ x3:=a2
    have b3:x3 ≤ 16:=a3
    have b4:0 ≤ x4:=a4
    have b5:x4 ≤ 8:=a5
    obtain ⟨p,hp⟩:∃ p,beforeN c n = p:=⟨_,rfl⟩
    obtain ⟨s,hsn⟩:∃ s,srcN (row c.chans n) = s:=⟨_,rfl⟩
    rw [hp] at hSO hbn
    rw [hsn] at hSO
    have HP:=Lib.hid hp;have HQ:=Lib.hid hq;have HSO:=Lib.hid hSO;have E1:=Lib.hid e1;have HKD:=Lib.hid hkd
    have s0:(0:Int) ≤ (n:Int):=by omega
    have s1:(n:Int) < (c.chans.length:Int):=by omega
    have spz:∀ P:Prop,Decidable P → ∀ v:Int × Int,True:=fun _ _ _ => trivial
    clear spz hsv hq hsp a1 a2 a3 a4 a5 hp hsn hsr hSO hkd e1
    subst e0
    by_cases hi:0 ≤ i ∧ i < x4
    · have HBI:=Lib.hid (fun w' => below_is i x4 true w' (decide_eq_true hi))
      have HX:=Lib.hid (show cellSpan c (n:Int) i = (p + 1 + i * (1 + x3),1 + x3) by
        refine (if_pos ⟨HQ.out,?_⟩).trans ?_
        · rw [Int.toNat_natCast,row_at E1.out,HP.out,Int.add_comm 1 x3];rfl
        · rw [Int.toNat_natCast,row_at E1.out];exact (show x0 = 2 ∧ 0 ≤ i ∧ i < x4 by have:=HKD.out;omega))
      have HSZ:=Lib.hid (fun w' => cellsz_b x0 x1 x2 x3 x4 x5 x6 w' (by omega) b3)
      have m1:0 ≤ i * (1 + x3):=Int.mul_nonneg hi.1 (by omega)
      have m2:i * (1 + x3) ≤ 8 * 17:=Int.mul_le_mul (by omega) (by omega) (by omega) (by omega)
      have v2:=IntWalk.i64_in (i * (1 + x3)) (by omega)
      have v3:=IntWalk.i64_in (p + 1) (by omega)
      have v4:=IntWalk.i64_in (p + 1 + i * (1 + x3)) (by omega)
      clear hi m1 m2
      go_enter Tryz.func145,Tryz.ntmps145
      go_wp2_with (first | (rw [← HWc.out]) | (rw [← HW.out]))
      refine HSO.out.mono ?_
      rintro e w5 ⟨rfl,hb5⟩
      obtain ⟨w6,hw6⟩:∃ u,Hid (u = w5.alloc (.cells #[.int .i64 (p),.int .i64 (s)] 135)):=⟨_,rfl⟩
      have hb6:Below w5.heap.size w5 w6:=by rw [hw6.out];exact (Below.refl _ _).alloc (Nat.le_refl _) _
      have hP6:w6.heap[w5.heap.size]? = some (.cells #[.int .i64 (p),.int .i64 (s)] 135 (0,0)):=by rw [hw6.out];exact heap_alloc_new _ _
      have hR6:=((hb5.trans (hb6.mono hb5.size)).block r (Array.getElem?_eq_some_iff.1 HR0.out).1).trans HR0.out
      have hB6:=HBW.out.trans ((hb5.trans (hb6.mono hb5.size)).mono HBW.out.size)
      have HP6:=Lib.hid hP6
      have hlt6:w5.heap.size < w6.heap.size:=(Array.getElem?_eq_some_iff.1 hP6).1
      have HR6:=Lib.hid hR6;have HB6:=Lib.hid hB6
      obtain ⟨d0,d1,d2,d3,d4,d5⟩:=bx w6 hB6
      obtain ⟨q0,q1,q2,q3,q4,q5,q6⟩:=hrw w6 hB6
      have HL6:=Lib.hid hlt6
      clear hb5 hb6 hP6 hR6 hB6 hlt6 c0 c1 c2 c3 c4 c5 hrw
      simp only [← HRR.out]
      go_wp2_with (first | (rw [← hw6.out]) | (go_at_call 170;((with_reducible refine (HBI.out _).mono ?_);rintro e w9 ⟨rfl,rfl⟩)) )
      refine (HSZ.out w6).mono ?_
      rintro e w7 ⟨rfl,hb7⟩
      have hP7:=(hb7.block w5.heap.size HL6.out).trans HP6.out
      have hR7:=(hb7.block r (Array.getElem?_eq_some_iff.1 HR6.out).1).trans HR6.out
      have p0:=cell_blk hP7 (i:=0) rfl
      have z0:=cell_blk hR7 (i:=0) rfl
      have z1:=cell_blk hR7 (i:=1) rfl
      have f0:w7.frozen? ⟨r,0,none⟩ = false:=by simp [World.frozen?,hR7]
      have f1:w7.frozen? ⟨r,1,none⟩ = false:=by simp [World.frozen?,hR7]
      have HR7:=Lib.hid hR7
      have HF:=Lib.hid (HB.out.trans ((HB6.out.trans (hb7.mono HB6.out.size)).mono HB.out.size))
      clear hb7 hP7 hR7 d0 d1 d2 d3 d4 d5 q0 q1 q2 q3 q4 q5 q6
      go_wp2
      have hRz:((w7.setCell ⟨r,0,none⟩ (.int .i64 (p + 1 + i * (1 + x3)))).setCell ⟨r,1,none⟩ (.int .i64 (1 + x3))).heap[r]? = some (.cells #[.int .i64 (p + 1 + i * (1 + x3)),.int .i64 (1 + x3)] 135 (0,0)):=by simp [World.setCell,Array.getElem?_modify,HR7.out]
      refine bodyPost_ret (results_cell_span rfl _ _ r _ _ rfl (cell_blk hRz (i:=0) rfl) (cell_blk hRz (i:=1) rfl)) rfl ⟨by rw [HX.out],(HF.out.setCell (p:=⟨r,0,none⟩) ?_ _).setCell (p:=⟨r,1,none⟩) ?_ _⟩ <;> (have:=HB.out.size;show w.heap.size ≤ r;omega)
    · have HBI:=Lib.hid (fun w' => below_is i x4 false w' (decide_eq_false hi))
      have HX:=Lib.hid (show cellSpan c (n:Int) i = (0,0) from if_neg (fun h => by have h2:=h.2;rw [Int.toNat_natCast,row_at E1.out] at h2;have h3:=(show x0 = 2 ∧ 0 ≤ i ∧ i < x4 from h2);omega))
      clear hi
      go_enter Tryz.func145,Tryz.ntmps145
      go_wp2_with (first | (rw [← HWc.out]) | (rw [← HW.out]))
      refine HSO.out.mono ?_
      rintro e w5 ⟨rfl,hb5⟩
      obtain ⟨w6,hw6⟩:∃ u,Hid (u = w5.alloc (.cells #[.int .i64 (p),.int .i64 (s)] 135)):=⟨_,rfl⟩
      have hb6:Below w5.heap.size w5 w6:=by rw [hw6.out];exact (Below.refl _ _).alloc (Nat.le_refl _) _
      have hP6:w6.heap[w5.heap.size]? = some (.cells #[.int .i64 (p),.int .i64 (s)] 135 (0,0)):=by rw [hw6.out];exact heap_alloc_new _ _
      have hR6:=((hb5.trans (hb6.mono hb5.size)).block r (Array.getElem?_eq_some_iff.1 HR0.out).1).trans HR0.out
      have hB6:=HBW.out.trans ((hb5.trans (hb6.mono hb5.size)).mono HBW.out.size)
      obtain ⟨d0,d1,d2,d3,d4,d5⟩:=bx w6 hB6
      obtain ⟨q0,q1,q2,q3,q4,q5,q6⟩:=hrw w6 hB6
      clear hrw
      have p0:=cell_blk hP6 (i:=0) rfl
      have p1:=cell_blk hP6 (i:=1) rfl
      have g0:w6.frozen? ⟨w5.heap.size,0,none⟩ = false:=by simp [World.frozen?,hP6]
      have g1:w6.frozen? ⟨w5.heap.size,1,none⟩ = false:=by simp [World.frozen?,hP6]
      have z0:=cell_blk hR6 (i:=0) rfl
      have z1:=cell_blk hR6 (i:=1) rfl
      have f0:w6.frozen? ⟨r,0,none⟩ = false:=by simp [World.frozen?,hR6]
      have f1:w6.frozen? ⟨r,1,none⟩ = false:=by simp [World.frozen?,hR6]
      have HR6:=Lib.hid hR6
      have HF:=Lib.hid (HB.out.trans (hB6.mono HB.out.size))
      clear hb5 hb6 hP6 hR6 hB6 c0 c1 c2 c3 c4 c5
      simp only [← HRR.out]
      go_wp2_with (first | (rw [← hw6.out]) | (go_at_call 170;((with_reducible refine (HBI.out _).mono ?_);rintro e w9 ⟨rfl,rfl⟩)) )
      have hRz:((w6.setCell ⟨r,0,none⟩ (.int .i64 0)).setCell ⟨r,1,none⟩ (.int .i64 0)).heap[r]? = some (.cells #[.int .i64 0,.int .i64 0] 135 (0,0)):=by simp [World.setCell,Array.getElem?_modify,HR6.out]
      refine bodyPost_ret (results_cell_span rfl _ _ r 0 0 rfl (cell_blk hRz (i:=0) rfl) (cell_blk hRz (i:=1) rfl)) rfl ⟨by rw [HX.out],(HF.out.setCell (p:=⟨r,0,none⟩) ?_ _).setCell (p:=⟨r,1,none⟩) ?_ _⟩ <;> (have:=HB.out.size;show w.heap.size ≤ r;omega)
  · have hsv:srcOfS c k 2 = ((0,0),false):=if_neg hs
    rw [hsv] at hSO
    have HX:=Lib.hid (show cellSpan c k i = (0,0) from if_neg (fun h => hs ⟨h.1,h.2.1⟩))
    have HSO:=Lib.hid hSO
    clear hs hsv hSO
    go_enter Tryz.func145,Tryz.ntmps145
    go_wp2_with (first | (rw [← HWc.out]) | (rw [← HW.out]))
    refine HSO.out.mono ?_
    rintro e w5 ⟨rfl,hb5⟩
    obtain ⟨w6,hw6⟩:∃ u,Hid (u = w5.alloc (.cells #[.int .i64 (0),.int .i64 (0)] 135)):=⟨_,rfl⟩
    have hb6:Below w5.heap.size w5 w6:=by rw [hw6.out];exact (Below.refl _ _).alloc (Nat.le_refl _) _
    have hP6:w6.heap[w5.heap.size]? = some (.cells #[.int .i64 (0),.int .i64 (0)] 135 (0,0)):=by rw [hw6.out];exact heap_alloc_new _ _
    have hR6:=((hb5.trans (hb6.mono hb5.size)).block r (Array.getElem?_eq_some_iff.1 HR0.out).1).trans HR0.out
    have hB6:=HBW.out.trans ((hb5.trans (hb6.mono hb5.size)).mono HBW.out.size)
    have z0:=cell_blk hR6 (i:=0) rfl
    have z1:=cell_blk hR6 (i:=1) rfl
    have f0:w6.frozen? ⟨r,0,none⟩ = false:=by simp [World.frozen?,hR6]
    have f1:w6.frozen? ⟨r,1,none⟩ = false:=by simp [World.frozen?,hR6]
    have HR6:=Lib.hid hR6
    have HF:=Lib.hid (HB.out.trans (hB6.mono HB.out.size))
    rw [hw6.out] at z0 z1 f0 f1
    clear hb5 hb6 hP6 hR6 hB6 c0 c1 c2 c3 c4 c5
    simp only [← HRR.out]
    go_wp2
    rw [← hw6.out]
    have hRz:((w6.setCell ⟨r,0,none⟩ (.int .i64 0)).setCell ⟨r,1,none⟩ (.int .i64 0)).heap[r]? = some (.cells #[.int .i64 0,.int .i64 0] 135 (0,0)):=by simp [World.setCell,Array.getElem?_modify,HR6.out]
    refine bodyPost_ret (results_cell_span rfl _ _ r 0 0 rfl (cell_blk hRz (i:=0) rfl) (cell_blk hRz (i:=1) rfl)) rfl ⟨by rw [HX.out],(HF.out.setCell (p:=⟨r,0,none⟩) ?_ _).setCell (p:=⟨r,1,none⟩) ?_ _⟩ <;> (have:=HB.out.size;show w.heap.size ≤ r;omega)
end Go.Proofs.YtjfolhkblbakiaaGreatDoor
namespace Go.Proofs.YtjfolhkblbakiaaGreatDoor
open Go.RowKit Go.Sort Go.ChangeShapes Go.WideShapes
set_option linter.unusedVariables false
set_option linter.unusedSimpArgs false
theorem heap_new_at (w:World) (o:Obj) {k:Nat} (h:k = w.heap.size):(w.alloc o).heap[k]? = some o:=by subst h;exact heap_alloc_new w o
/-- A row that fills a block. -/
theorem row_lit (ks:List IntKind) {w:World} {b B:Nat} {cs:Array Value} {t:TypeId} {m:Nat × Nat} {l:List (List Int)} (h:w.heap[b]? = some (.cells cs t m)) (hB:b < B) (hw:wfR ks l) (hcs:cs = (rcells ks l).toArray) :
    RowN ks w B (some ⟨b,0,none⟩) l:=fun _ => by
  refine ⟨b,0,rfl,hB,fun i x hx j v hv => ?_⟩
  have hj:j < ks.length:=by have:=(List.getElem?_eq_some_iff.1 hv).1;rwa [ncells_len (hw x (List.mem_of_getElem? hx)).1] at this
  have h1:=rcells_at hw hx j hj
  rw [Nat.zero_add]
  exact cell_blk h (by rw [hcs];simpa using h1.trans hv)
end Go.Proofs.YtjfolhkblbakiaaGreatDoor
