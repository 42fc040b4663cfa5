/- Texts of the ring, joined, what is used of them. No condition but those in the statements. -/
import Derived.BigQuiet
import Derived.BigRegion
import Derived.Deep.MidRow
import Derived.Deep.RegionHeld3
import Derived.Deep.Upon
import Derived.IntWalk
import Derived.Shelf.Abstract
import Derived.Test.YtmhpcgcloojfbaaGreatQgL
namespace Go.Proofs.YtmhpcgcloojfbaaGreat
open Go.RowKit Go.Sort
set_option linter.unusedVariables false
set_option linter.unusedSimpArgs false
set_option linter.unusedVariables false
set_option linter.unusedSimpArgs false
open Go.Proofs.YtmhpcgcloojfbaaGreat.Simp
set_option maxRecDepth 100000
set_option maxHeartbeats 12800000
/-- What a step of the document's receive leaves. -/
def RGives2 (w:World) (vb yb zb:Nat) (c:Cfg) (x:CfgAt) (k:Nat) (src:Bool) (bs:List Bool) (dv0:Value) (n0:Nat) (R:QS × List Int × QD) (e:Ending) (w':World):Prop:=
  ∃ A' cp' sa sn sc,e = .returned (.agg (qdOf R.2.2 (.slice sa sn sc))) ∧ (sn = R.2.2.data.length ∧ (.slice sa sn sc:Value) = (if R.2.2.done = true ∧ R.2.2.code = 0 then .slice A' n0 cp' else .slice none 0 0)) ∧ DAt w' vb yb zb c x k 6 R.1.own src (.slice A' R.1.data.length cp') R.1.no R.1.len R.2.1 bs ∧ OwnsOff w' 0 34 1 (.slice A' R.1.data.length cp') R.1.data.length (wcells R.1.data) ∧ (∀ g,Value.ownBlock (.slice A' R.1.data.length cp') = some g → Value.ownBlock dv0 = some g ∨ w.heap.size ≤ g) ∧ Only (fun j => j = vb ∨ j = yb ∨ j = zb ∨ Value.ownBlock dv0 = some j) w w'
section
variable {W w:World} {vb yb zb:Nat} {c:Cfg} {x:CfgAt} {k:Nat} {F:Qr} {src:Bool} {len:Int} {ws:List Int} {bs:List Bool} {db dof dc cp:Nat} {A:Option Addr}
theorem dstepG_b (s:QS) (h:DAt w vb yb zb c x k (6) (s.own) (src) ((.slice A s.data.length cp)) (s.no) (s.len) (ws) (bs)) (hb:Below W.heap.size W w) (hlo:W.heap.size ≤ vb ∧ W.heap.size ≤ yb ∧ W.heap.size ≤ zb) (hx:CfgIn W W.heap.size c x) (wx:CfgWf c) (lx:CfgFew c) (hF:QrOf c k F) (hQ:QIn F ws.length) (hrow:OwnsOff w 0 34 1 (.slice A s.data.length cp) s.data.length (wcells s.data)) (hby0:Value.ownBlock (.slice A s.data.length cp) ≠ some yb) (hdl:s.data.length ≤ F.n) (hln:s.len ≤ F.n) (hno:s.no ≤ 99) (hw:WQ s) (h32:W32 ws) :
    Calls Tryz.prog 26 #[.pointer (some ⟨vb,0,none⟩),.slice (some ⟨yb,0,none⟩) ws.length ws.length,.slice (some ⟨zb,0,none⟩) bs.length bs.length] w (RGives2 w vb yb zb c x k src bs (.slice A s.data.length cp) s.data.length (qrecv F s ws)):=by
  by_cases hneg:s.no < 0
  · have e:qrecv F s ws = (s,ws,qd0):=by unfold qrecv;rw [if_pos hneg]
    rw [e]
    refine (dzero_b h hneg).mono ?_
    rintro e w' ⟨rfl,hd,ho⟩
    refine ⟨A,cp,none,0,0,rfl,⟨rfl,rfl⟩,hd,hrow.kept ho (fun g hg e => ?_),fun g hg => .inl hg,ho.mono fun j _ e => by rcases e with e | e | e;exact .inl e;exact .inr (.inl e);exact .inr (.inr (.inl e))⟩
    obtain ⟨cs,hc⟩:=hrow.typed g hg
    rcases e with rfl | rfl | rfl
    · have q:=h.blk;rw [hc] at q;injection q with q3;injection q3 with q4 q5;exact absurd q5 (by decide)
    · exact hby0 hg
    · have q:w.heap[g]? = some (.cells _ _ _):=h.bel;rw [hc] at q;injection q with q3;injection q3 with q4 q5;exact absurd q5 (by decide)
  have hdne:∀ g,Value.ownBlock (.slice A s.data.length cp) = some g → ¬ (g = vb ∨ g = yb ∨ g = zb):=fun g hg => by
    obtain ⟨cs,hc⟩:=hrow.typed g hg
    rintro (rfl | rfl | rfl)
    · have q:=h.blk;rw [hc] at q;injection q with q3;injection q3 with q4 q5;exact absurd q5 (by decide)
    · exact hby0 hg
    · have q:w.heap[g]? = some (.cells _ _ _):=h.bel;rw [hc] at q;injection q with q3;injection q3 with q4 q5;exact absurd q5 (by decide)
  have hdlt:∀ g,Value.ownBlock (.slice A s.data.length cp) = some g → g < w.heap.size:=fun g hg => (hrow.lt g hg).2
  have hcal:=fun (w4:World) (gb:Nat) (h4:DAt w4 vb yb zb c x k (6) (s.own) (src) ((.slice A s.data.length cp)) (s.no + 1) (s.len) (ws) (bs)) (hp:w4.heap[gb]? = some (.cells #[.int .i64 (F.src:Int),.int .i64 (F.dst:Int),.int .i64 (cellQ F s.own:Int),.int .i64 (F.n:Int)] 3 (0,0))) (hr4:OwnsOff w4 0 34 1 (.slice A s.data.length cp) s.data.length (wcells s.data)) => drecv_b s h4 hp hr4 hby0 hQ h32 (by omega) hdl hln
  have hdat:(qrecv F s ws).2.2.data.length = if (qrecv F s ws).2.2.done = true ∧ (qrecv F s ws).2.2.code = 0 then s.data.length else 0:=by
    unfold qrecv
    split;simp [qd0]
    split;split <;> simp [qd0]
    split;simp [qd0]
    split;simp [qd0]
    simp [qd0]
  obtain ⟨R,hR⟩:∃ R,qrecv F s ws = R:=⟨_,rfl⟩
  rw [hR] at hcal hdat ⊢
  obtain ⟨s',ws',d⟩:=R
  obtain ⟨dn,mk,rg,cd,dd⟩:=d
  obtain ⟨ds,a,own,sl⟩:=s
  have h0:0 ≤ own ∧ own ≤ 4294967295:=hw.2
  have ha:0 ≤ a ∧ a ≤ 1000:=by have q1:¬ a < 0:=hneg;have q2:a ≤ 99:=hno;omega
  have h:DAt w vb yb zb c x k (6) (own) (src) ((.slice A ds.length cp)) (a) (sl) (ws) (bs):=h
  have HCAL:=Lib.hid hcal;have HDNE:=Lib.hid hdne;have HROW:=Lib.hid hrow;have HDLT:=Lib.hid hdlt;have HDAT:=Lib.hid hdat
  clear hcal hdne hR hrow hw hno hneg hQ hby0 hdl hln h32 hdlt hdat
  obtain ⟨W1,HW1,hsz,hO,hz⟩:=did_new w
  have hlt:=h.lt
  have hD1:=h.only hO ⟨fun h => h,fun h => h,fun h => h⟩
  have HD1:=Lib.hid hD1;have HO1:Hid (Only (New w.heap.size (fun j => j = vb ∨ j = yb ∨ j = zb)) w W1):=Lib.hid (hO.mono fun _ _ h => h.elim);have HZ1:=Lib.hid hz
  have x11:W1.cell? ⟨vb,11,none⟩ = some (.int .i64 a):=cell_blk hD1.blk rfl
  have g11:=blk_frozen 11 hD1.blk
  have b0:decide (a < 0) = false:=decide_eq_false (by omega)
  obtain ⟨a1,ha1⟩:∃ a1,a + 1 = a1:=⟨_,rfl⟩
  have n0:IntKind.i64.wrap (a + 1) = a1:=by rw [ha1];exact IntWalk.i64_in _ (by omega)
  (try rw [ha1])
  obtain ⟨V1,HV1⟩:∃ u,Hid (u = W1.setCell ⟨vb,11,none⟩ (.int .i64 a1)):=⟨_,rfl⟩
  have HDV:=Lib.hid (by have q:=hD1.put (o:=11) (v:=.int .i64 a1) (op':=6) (own':=own) (src':=src) (dv':=(.slice A ds.length cp)) (a':=a1) (len':=sl) rfl;rw [← HV1.out] at q;exact q)
  have HOV:Hid (Only (New w.heap.size (fun j => j = vb ∨ j = yb ∨ j = zb)) w V1):=Lib.hid (by rw [HV1.out];exact HO1.out.set (p:=⟨vb,11,none⟩) (.inr (.inl rfl)) _)
  have HZV:Hid (V1.heap[w.heap.size]? = some (.cells #[.bool false,.int .i64 0,.slice none 0 0,.bool false,.int .i64 0,.bool false,.bool false,.bool false,.int .i64 0] 56 (0,0))):=Lib.hid (by rw [HV1.out];exact (Below.heap_setCell _ _ _ _ (by show w.heap.size ≠ vb;omega)).trans HZ1.out)
  have hbV:Below W.heap.size W V1:=by
    have hv:=HOV.out.old
    exact hb.trans ⟨hv.os,hv.tape,hv.output,hv.size,fun j hj => hv.block j (by have:=hb.size;omega) (fun e => by rcases e with e | e | e <;> omega)⟩
  obtain ⟨b,o,x0,x1,x2,x3,x4,x5,x6,hA,hbl,hrw,hwf,hcc⟩:=hx.rc.at7 wx.wc hF.lk
  have hr:row c.chans k = [x0,x1,x2,x3,x4,x5,x6]:=by unfold row;rw [List.getD_eq_getElem?_getD,hrw];rfl
  have e3:x3 = (F.n:Int):=by have:=hF.words;rw [hr] at this;exact this
  have e4:x4 = (F.d:Int):=by have:=hF.depth;rw [hr] at this;exact this
  subst e3;subst e4
  have hlow:=hF.low
  have hkl:=hF.lk
  have hcn:=hF.chans
  have k0:(k:Int) < (c.chans.length:Int):=by omega
  obtain ⟨r0,r1,r2,r3,r4,r5,r6⟩:=hcc V1 hbV
  have hcV:CfgIn V1 V1.heap.size c x:=hx.later hbV
  obtain ⟨pa,pc,ca,cc,aa,ac,ba,bc⟩:=x
  subst hA
  have x1_:V1.cell? ⟨vb,1,none⟩ = some (.slice (some ⟨b,o,none⟩) c.chans.length cc):=cell_blk HDV.out.blk rfl
  have x6_:V1.cell? ⟨vb,6,none⟩ = some (.int .i64 (k:Int)):=cell_blk HDV.out.blk rfl
  have HCV:=Lib.hid hcV;have HHF:=Lib.hid hF;have HWX:=Lib.hid wx;have HLX:=Lib.hid lx;have HBV:=Lib.hid hbV;have HSZ:=Lib.hid hsz;have HA1:=Lib.hid ha1
  clear hD1 hO hz h hb hx wx lx hF hrw hr hcc hwf hcV hbV hsz ha1
  have HVL:Hid (vb < V1.heap.size):=Lib.hid HDV.out.lt.1
  have HBL:Hid (b < V1.heap.size):=Lib.hid (by have:=HBV.out.size;omega)
  go_enter Tryz.func26,Tryz.ntmps26
  go_wp2_with (first | (rw [← HW1.out]) | (rw [← HV1.out]))
  refine wp_region_held_drew (S:=(fun W' => Below V1.heap.size V1 W')) (by kernel_rfl) (by exact (Below.refl _ _).drew) (fun hHeld => ?_)
  refine wpAnyH_take (i:=0) rfl (by kernel_rfl) (by kernel_rfl) (by kernel_rfl) (fun _ _ _ h => h) (Or.inl ⟨by rfl,by intro w hSw;(have z1:=(hSw.cell (p:=⟨vb,1,none⟩) HVL.out).trans x1_;have z6:=(hSw.cell (p:=⟨vb,6,none⟩) HVL.out).trans x6_;have y0:=(hSw.cell (p:=⟨b,o + k * 7,none⟩) HBL.out).trans r0;have y1:=(hSw.cell (p:=⟨b,o + k * 7 + 1,none⟩) HBL.out).trans r1;have y2:=(hSw.cell (p:=⟨b,o + k * 7 + 2,none⟩) HBL.out).trans r2;have y3:=(hSw.cell (p:=⟨b,o + k * 7 + 3,none⟩) HBL.out).trans r3;have y4:=(hSw.cell (p:=⟨b,o + k * 7 + 4,none⟩) HBL.out).trans r4;have y5:=(hSw.cell (p:=⟨b,o + k * 7 + 5,none⟩) HBL.out).trans r5;have y6:=(hSw.cell (p:=⟨b,o + k * 7 + 6,none⟩) HBL.out).trans r6;clear hSw);(go_simp <;> with_reducible rfl)⟩) (by assumption) ?_
  (try simp only [Act.put,List.setIfInBounds_toArray,List.set_cons_zero,List.set_cons_succ,List.getElem_toArray,List.getElem_cons_zero,List.getElem_cons_succ])
  refine wpAnyH_take (i:=1) rfl (by kernel_rfl) (by kernel_rfl) (by kernel_rfl) (fun _ _ _ h => h) (Or.inl ⟨by rfl,by intro w hSw;(have z1:=(hSw.cell (p:=⟨vb,1,none⟩) HVL.out).trans x1_;have z6:=(hSw.cell (p:=⟨vb,6,none⟩) HVL.out).trans x6_;have y0:=(hSw.cell (p:=⟨b,o + k * 7,none⟩) HBL.out).trans r0;have y1:=(hSw.cell (p:=⟨b,o + k * 7 + 1,none⟩) HBL.out).trans r1;have y2:=(hSw.cell (p:=⟨b,o + k * 7 + 2,none⟩) HBL.out).trans r2;have y3:=(hSw.cell (p:=⟨b,o + k * 7 + 3,none⟩) HBL.out).trans r3;have y4:=(hSw.cell (p:=⟨b,o + k * 7 + 4,none⟩) HBL.out).trans r4;have y5:=(hSw.cell (p:=⟨b,o + k * 7 + 5,none⟩) HBL.out).trans r5;have y6:=(hSw.cell (p:=⟨b,o + k * 7 + 6,none⟩) HBL.out).trans r6;clear hSw);(go_simp <;> with_reducible rfl)⟩) (by assumption) ?_
  (try simp only [Act.put,List.setIfInBounds_toArray,List.set_cons_zero,List.set_cons_succ,List.getElem_toArray,List.getElem_cons_zero,List.getElem_cons_succ])
  refine wpAnyH_take (i:=2) rfl (by kernel_rfl) (by kernel_rfl) (by kernel_rfl) (fun _ _ _ h => h) (Or.inl ⟨by rfl,by intro w hSw;(have z1:=(hSw.cell (p:=⟨vb,1,none⟩) HVL.out).trans x1_;have z6:=(hSw.cell (p:=⟨vb,6,none⟩) HVL.out).trans x6_;have y0:=(hSw.cell (p:=⟨b,o + k * 7,none⟩) HBL.out).trans r0;have y1:=(hSw.cell (p:=⟨b,o + k * 7 + 1,none⟩) HBL.out).trans r1;have y2:=(hSw.cell (p:=⟨b,o + k * 7 + 2,none⟩) HBL.out).trans r2;have y3:=(hSw.cell (p:=⟨b,o + k * 7 + 3,none⟩) HBL.out).trans r3;have y4:=(hSw.cell (p:=⟨b,o + k * 7 + 4,none⟩) HBL.out).trans r4;have y5:=(hSw.cell (p:=⟨b,o + k * 7 + 5,none⟩) HBL.out).trans r5;have y6:=(hSw.cell (p:=⟨b,o + k * 7 + 6,none⟩) HBL.out).trans r6;clear hSw);(go_simp <;> with_reducible rfl)⟩) (by assumption) ?_
  (try simp only [Act.put,List.setIfInBounds_toArray,List.set_cons_zero,List.set_cons_succ,List.getElem_toArray,List.getElem_cons_zero,List.getElem_cons_succ])
  refine wpAnyH_take (i:=3) rfl (by kernel_rfl) (by kernel_rfl) (by kernel_rfl) (fun _ _ _ h => h) (Or.inl ⟨by rfl,by intro w hSw;(have z1:=(hSw.cell (p:=⟨vb,1,none⟩) HVL.out).trans x1_;have z6:=(hSw.cell (p:=⟨vb,6,none⟩) HVL.out).trans x6_;have y0:=(hSw.cell (p:=⟨b,o + k * 7,none⟩) HBL.out).trans r0;have y1:=(hSw.cell (p:=⟨b,o + k * 7 + 1,none⟩) HBL.out).trans r1;have y2:=(hSw.cell (p:=⟨b,o + k * 7 + 2,none⟩) HBL.out).trans r2;have y3:=(hSw.cell (p:=⟨b,o + k * 7 + 3,none⟩) HBL.out).trans r3;have y4:=(hSw.cell (p:=⟨b,o + k * 7 + 4,none⟩) HBL.out).trans r4;have y5:=(hSw.cell (p:=⟨b,o + k * 7 + 5,none⟩) HBL.out).trans r5;have y6:=(hSw.cell (p:=⟨b,o + k * 7 + 6,none⟩) HBL.out).trans r6;clear hSw);(go_simp <;> with_reducible rfl)⟩) (by assumption) ?_
  (try simp only [Act.put,List.setIfInBounds_toArray,List.set_cons_zero,List.set_cons_succ,List.getElem_toArray,List.getElem_cons_zero,List.getElem_cons_succ])
  refine wpAnyH_take (i:=4) rfl (by kernel_rfl) (by kernel_rfl) (by kernel_rfl) (fun _ _ _ h => h) (Or.inl ⟨by rfl,by intro w hSw;(have z1:=(hSw.cell (p:=⟨vb,1,none⟩) HVL.out).trans x1_;have z6:=(hSw.cell (p:=⟨vb,6,none⟩) HVL.out).trans x6_;have y0:=(hSw.cell (p:=⟨b,o + k * 7,none⟩) HBL.out).trans r0;have y1:=(hSw.cell (p:=⟨b,o + k * 7 + 1,none⟩) HBL.out).trans r1;have y2:=(hSw.cell (p:=⟨b,o + k * 7 + 2,none⟩) HBL.out).trans r2;have y3:=(hSw.cell (p:=⟨b,o + k * 7 + 3,none⟩) HBL.out).trans r3;have y4:=(hSw.cell (p:=⟨b,o + k * 7 + 4,none⟩) HBL.out).trans r4;have y5:=(hSw.cell (p:=⟨b,o + k * 7 + 5,none⟩) HBL.out).trans r5;have y6:=(hSw.cell (p:=⟨b,o + k * 7 + 6,none⟩) HBL.out).trans r6;clear hSw);(go_simp <;> with_reducible rfl)⟩) (by assumption) ?_
  (try simp only [Act.put,List.setIfInBounds_toArray,List.set_cons_zero,List.set_cons_succ,List.getElem_toArray,List.getElem_cons_zero,List.getElem_cons_succ])
  refine wpAnyH_take (i:=5) rfl (by kernel_rfl) (by kernel_rfl) (by kernel_rfl) (fun _ _ _ h => h) (Or.inl ⟨by rfl,by intro w hSw;(have z1:=(hSw.cell (p:=⟨vb,1,none⟩) HVL.out).trans x1_;have z6:=(hSw.cell (p:=⟨vb,6,none⟩) HVL.out).trans x6_;have y0:=(hSw.cell (p:=⟨b,o + k * 7,none⟩) HBL.out).trans r0;have y1:=(hSw.cell (p:=⟨b,o + k * 7 + 1,none⟩) HBL.out).trans r1;have y2:=(hSw.cell (p:=⟨b,o + k * 7 + 2,none⟩) HBL.out).trans r2;have y3:=(hSw.cell (p:=⟨b,o + k * 7 + 3,none⟩) HBL.out).trans r3;have y4:=(hSw.cell (p:=⟨b,o + k * 7 + 4,none⟩) HBL.out).trans r4;have y5:=(hSw.cell (p:=⟨b,o + k * 7 + 5,none⟩) HBL.out).trans r5;have y6:=(hSw.cell (p:=⟨b,o + k * 7 + 6,none⟩) HBL.out).trans r6;clear hSw);(go_simp <;> with_reducible rfl)⟩) (by assumption) ?_
  (try simp only [Act.put,List.setIfInBounds_toArray,List.set_cons_zero,List.set_cons_succ,List.getElem_toArray,List.getElem_cons_zero,List.getElem_cons_succ])
  refine wpAnyH_take (i:=6) rfl (by kernel_rfl) (by kernel_rfl) (by kernel_rfl) (fun _ _ _ h => h) (Or.inl ⟨by rfl,by intro w hSw;(have z1:=(hSw.cell (p:=⟨vb,1,none⟩) HVL.out).trans x1_;have z6:=(hSw.cell (p:=⟨vb,6,none⟩) HVL.out).trans x6_;have y0:=(hSw.cell (p:=⟨b,o + k * 7,none⟩) HBL.out).trans r0;have y1:=(hSw.cell (p:=⟨b,o + k * 7 + 1,none⟩) HBL.out).trans r1;have y2:=(hSw.cell (p:=⟨b,o + k * 7 + 2,none⟩) HBL.out).trans r2;have y3:=(hSw.cell (p:=⟨b,o + k * 7 + 3,none⟩) HBL.out).trans r3;have y4:=(hSw.cell (p:=⟨b,o + k * 7 + 4,none⟩) HBL.out).trans r4;have y5:=(hSw.cell (p:=⟨b,o + k * 7 + 5,none⟩) HBL.out).trans r5;have y6:=(hSw.cell (p:=⟨b,o + k * 7 + 6,none⟩) HBL.out).trans r6;clear hSw);(go_simp <;> with_reducible rfl)⟩) (by assumption) ?_
  (try simp only [Act.put,List.setIfInBounds_toArray,List.set_cons_zero,List.set_cons_succ,List.getElem_toArray,List.getElem_cons_zero,List.getElem_cons_succ])
  refine wpAnyH_take (i:=7) rfl (by kernel_rfl) (by kernel_rfl) (by kernel_rfl) (fun _ _ _ h => h) (Or.inl ⟨by rfl,by intro w hSw;(have z1:=(hSw.cell (p:=⟨vb,1,none⟩) HVL.out).trans x1_;have z6:=(hSw.cell (p:=⟨vb,6,none⟩) HVL.out).trans x6_;have y0:=(hSw.cell (p:=⟨b,o + k * 7,none⟩) HBL.out).trans r0;have y1:=(hSw.cell (p:=⟨b,o + k * 7 + 1,none⟩) HBL.out).trans r1;have y2:=(hSw.cell (p:=⟨b,o + k * 7 + 2,none⟩) HBL.out).trans r2;have y3:=(hSw.cell (p:=⟨b,o + k * 7 + 3,none⟩) HBL.out).trans r3;have y4:=(hSw.cell (p:=⟨b,o + k * 7 + 4,none⟩) HBL.out).trans r4;have y5:=(hSw.cell (p:=⟨b,o + k * 7 + 5,none⟩) HBL.out).trans r5;have y6:=(hSw.cell (p:=⟨b,o + k * 7 + 6,none⟩) HBL.out).trans r6;clear hSw);(go_simp <;> with_reducible rfl)⟩) (by assumption) ?_
  (try simp only [Act.put,List.setIfInBounds_toArray,List.set_cons_zero,List.set_cons_succ,List.getElem_toArray,List.getElem_cons_zero,List.getElem_cons_succ])
  refine wpAnyH_take (i:=8) rfl (by kernel_rfl) (by kernel_rfl) (by kernel_rfl) (fun _ _ _ h => h) (Or.inl ⟨by rfl,by intro w hSw;(have z1:=(hSw.cell (p:=⟨vb,1,none⟩) HVL.out).trans x1_;have z6:=(hSw.cell (p:=⟨vb,6,none⟩) HVL.out).trans x6_;have y0:=(hSw.cell (p:=⟨b,o + k * 7,none⟩) HBL.out).trans r0;have y1:=(hSw.cell (p:=⟨b,o + k * 7 + 1,none⟩) HBL.out).trans r1;have y2:=(hSw.cell (p:=⟨b,o + k * 7 + 2,none⟩) HBL.out).trans r2;have y3:=(hSw.cell (p:=⟨b,o + k * 7 + 3,none⟩) HBL.out).trans r3;have y4:=(hSw.cell (p:=⟨b,o + k * 7 + 4,none⟩) HBL.out).trans r4;have y5:=(hSw.cell (p:=⟨b,o + k * 7 + 5,none⟩) HBL.out).trans r5;have y6:=(hSw.cell (p:=⟨b,o + k * 7 + 6,none⟩) HBL.out).trans r6;clear hSw);(go_simp <;> with_reducible rfl)⟩) (by assumption) ?_
  (try simp only [Act.put,List.setIfInBounds_toArray,List.set_cons_zero,List.set_cons_succ,List.getElem_toArray,List.getElem_cons_zero,List.getElem_cons_succ])
  refine wpAnyH_take (i:=9) rfl (by kernel_rfl) (by kernel_rfl) (by kernel_rfl) (fun _ _ _ h => h) (Or.inl ⟨by rfl,by intro w hSw;(have z1:=(hSw.cell (p:=⟨vb,1,none⟩) HVL.out).trans x1_;have z6:=(hSw.cell (p:=⟨vb,6,none⟩) HVL.out).trans x6_;have y0:=(hSw.cell (p:=⟨b,o + k * 7,none⟩) HBL.out).trans r0;have y1:=(hSw.cell (p:=⟨b,o + k * 7 + 1,none⟩) HBL.out).trans r1;have y2:=(hSw.cell (p:=⟨b,o + k * 7 + 2,none⟩) HBL.out).trans r2;have y3:=(hSw.cell (p:=⟨b,o + k * 7 + 3,none⟩) HBL.out).trans r3;have y4:=(hSw.cell (p:=⟨b,o + k * 7 + 4,none⟩) HBL.out).trans r4;have y5:=(hSw.cell (p:=⟨b,o + k * 7 + 5,none⟩) HBL.out).trans r5;have y6:=(hSw.cell (p:=⟨b,o + k * 7 + 6,none⟩) HBL.out).trans r6;clear hSw);(go_simp <;> with_reducible rfl)⟩) (by assumption) ?_
  (try simp only [Act.put,List.setIfInBounds_toArray,List.set_cons_zero,List.set_cons_succ,List.getElem_toArray,List.getElem_cons_zero,List.getElem_cons_succ])
  refine wpAnyH_take (i:=10) rfl (by kernel_rfl) (by kernel_rfl) (by kernel_rfl) (fun _ _ _ h => h) (Or.inl ⟨by rfl,by intro w hSw;(have z1:=(hSw.cell (p:=⟨vb,1,none⟩) HVL.out).trans x1_;have z6:=(hSw.cell (p:=⟨vb,6,none⟩) HVL.out).trans x6_;have y0:=(hSw.cell (p:=⟨b,o + k * 7,none⟩) HBL.out).trans r0;have y1:=(hSw.cell (p:=⟨b,o + k * 7 + 1,none⟩) HBL.out).trans r1;have y2:=(hSw.cell (p:=⟨b,o + k * 7 + 2,none⟩) HBL.out).trans r2;have y3:=(hSw.cell (p:=⟨b,o + k * 7 + 3,none⟩) HBL.out).trans r3;have y4:=(hSw.cell (p:=⟨b,o + k * 7 + 4,none⟩) HBL.out).trans r4;have y5:=(hSw.cell (p:=⟨b,o + k * 7 + 5,none⟩) HBL.out).trans r5;have y6:=(hSw.cell (p:=⟨b,o + k * 7 + 6,none⟩) HBL.out).trans r6;clear hSw);(go_simp <;> with_reducible rfl)⟩) (by assumption) ?_
  (try simp only [Act.put,List.setIfInBounds_toArray,List.set_cons_zero,List.set_cons_succ,List.getElem_toArray,List.getElem_cons_zero,List.getElem_cons_succ])
  refine wpAnyH_ready (rs:=[11]) (by kernel_rfl) (by simp) (AllReadyH.cons rfl (fun K hK => ?_) AllReadyH.nil)
  go_simp
  refine hK.out _ _ (by exact ((Below.refl V1.heap.size V1).alloc (Nat.le_refl _) _).drew) (fun hHeld => ?_)
  clear hK K
  (try simp only [Act.put,List.setIfInBounds_toArray,List.set_cons_zero,List.set_cons_succ,List.getElem_toArray,List.getElem_cons_zero,List.getElem_cons_succ])
  refine wpAnyH_ready (rs:=[12]) (by kernel_rfl) (by simp) (AllReadyH.cons rfl (fun K hK => ?_) AllReadyH.nil)
  have h7:((V1.alloc (.cells #[.int .i64 0,.int .i64 0,.int .i64 0,.int .i64 0,.int .i64 0,.int .i64 0,.int .u32 0] 36)).drew).heap[V1.heap.size]? = some (.cells #[.int .i64 0,.int .i64 0,.int .i64 0,.int .i64 0,.int .i64 0,.int .i64 0,.int .u32 0] 36 (0,0)):=heap_alloc_new V1 _
  have hth:=there_at h7 (n:=(#[.int .i64 x0,.int .i64 x1,.int .i64 x2,.int .i64 (F.n:Int),.int .i64 (F.d:Int),.int .i64 x5,.int .u32 x6]:Array Value).size) rfl
  have hsd:(Tryz.prog.info? 36).map (·.size) = some (#[.int .i64 x0,.int .i64 x1,.int .i64 x2,.int .i64 (F.n:Int),.int .i64 (F.d:Int),.int .i64 x5,.int .u32 x6]:Array Value).size:=chan_size
  rw [if_pos (by rfl)]
  refine wp_store_mid _ _ _ rfl V1.heap.size 0 (#[.int .i64 x0,.int .i64 x1,.int .i64 x2,.int .i64 (F.n:Int),.int .i64 (F.d:Int),.int .i64 x5,.int .u32 x6]) rfl rfl hth hsd (by kernel_rfl) ?_
  refine hK.out _ _ (by exact below_sets hHeld (Nat.le_refl _) _) (fun hHeld => ?_)
  clear hK K
  (try simp only [Act.put,List.setIfInBounds_toArray,List.set_cons_zero,List.set_cons_succ,List.getElem_toArray,List.getElem_cons_zero,List.getElem_cons_succ])
  refine wpAnyH_done (by kernel_rfl) ?_ _
  obtain ⟨W2,HW2⟩:∃ u,Hid (u = ((V1.alloc (.cells #[.int .i64 0,.int .i64 0,.int .i64 0,.int .i64 0,.int .i64 0,.int .i64 0,.int .u32 0] 36)).drew).setCells V1.heap.size 0 [.int .i64 x0,.int .i64 x1,.int .i64 x2,.int .i64 (F.n:Int),.int .i64 (F.d:Int),.int .i64 x5,.int .u32 x6]):=⟨_,rfl⟩
  have hB2:Below V1.heap.size V1 W2:=by rw [HW2.out];exact below_sets ((Below.refl V1.heap.size V1).alloc (Nat.le_refl _) _).drew (Nat.le_refl _) _
  have hx7:W2.heap[V1.heap.size]? = some (.cells #[.int .i64 x0,.int .i64 x1,.int .i64 x2,.int .i64 (F.n:Int),.int .i64 (F.d:Int),.int .i64 x5,.int .u32 x6] 36 (0,0)):=by rw [HW2.out];exact blk_chan h7 _ rfl
  obtain ⟨xb,hxb⟩:∃ t,t = V1.heap.size:=⟨_,rfl⟩
  rw [← HW2.out]
  simp only [← hxb]
  rw [← hxb] at hx7
  have HXB:=Lib.hid hxb
  clear hxb
  have HD2:=Lib.hid (HDV.out.below hB2)
  have hcW:CfgIn W2 W2.heap.size c ⟨pa,pc,some ⟨b,o,none⟩,cc,aa,ac,ba,bc⟩:=HCV.out.later hB2
  have HSRC:Hid (∀ d os,Calls Tryz.prog 55 #[.agg #[.slice pa c.parts.length pc,.slice (some ⟨b,o,none⟩) c.chans.length cc,.int .i64 c.len0,.slice aa c.win0.length ac,.int .i64 c.len1,.slice ba c.win1.length bc],.int .i64 (k:Int)] (grow (redrawn W2 d) os) (fun e w'' => e = .returned (.agg #[.int .i64 (F.src:Int),.int .i64 (srcSpan c k).2]) ∧ ∃ p:Regrown,w'' = grow (redrawn W2 p.d) p.os)):=Lib.hid (fun d os => by
    have q:=rsource_b c _ k (grow (redrawn W2 d) os) (hcW.later (below_regrown W2 d os)) HWX.out HLX.out
    rw [HHF.out.src] at q
    exact Calls.regrown_of q)
  have HDST:Hid (∀ d os,Calls Tryz.prog 56 #[.agg #[.slice pa c.parts.length pc,.slice (some ⟨b,o,none⟩) c.chans.length cc,.int .i64 c.len0,.slice aa c.win0.length ac,.int .i64 c.len1,.slice ba c.win1.length bc],.int .i64 (k:Int)] (grow (redrawn W2 d) os) (fun e w'' => e = .returned (.agg #[.int .i64 (F.dst:Int),.int .i64 (dstSpan c k).2]) ∧ ∃ p:Regrown,w'' = grow (redrawn W2 p.d) p.os)):=Lib.hid (fun d os => by
    have q:=rdest_b c _ k (grow (redrawn W2 d) os) (hcW.later (below_regrown W2 d os)) HWX.out HLX.out
    rw [HHF.out.dst] at q
    exact Calls.regrown_of q)
  obtain ⟨ci,hci⟩:∃ ci:Nat,ci = (own % (F.d:Int)).toNat:=⟨_,rfl⟩
  have hm1:=Int.emod_nonneg own (show (F.d:Int) ≠ 0 by omega)
  have hm2:=Int.emod_lt_of_pos own (show (0:Int) < F.d by omega)
  have hcl:ci < F.d:=by omega
  have htm:own.tmod (F.d:Int) = (ci:Int):=by rw [Int.tmod_eq_emod_of_nonneg h0.1];omega
  have hcq:cellQ F own = F.src + 1 + ci * (F.n + 1):=by unfold cellQ;rw [hci]
  obtain ⟨ce,hce2⟩:∃ ce,cellQ F own = ce:=⟨_,rfl⟩
  have HCE:=Lib.hid hce2
  have HCEL:Hid (∀ d os,Calls Tryz.prog 57 #[.agg #[.slice pa c.parts.length pc,.slice (some ⟨b,o,none⟩) c.chans.length cc,.int .i64 c.len0,.slice aa c.win0.length ac,.int .i64 c.len1,.slice ba c.win1.length bc],.int .i64 (k:Int),.int .i64 (ci:Int)] (grow (redrawn W2 d) os) (fun e w'' => e = .returned (.agg #[.int .i64 (ce:Int),.int .i64 (cellSpan c k ci).2]) ∧ ∃ p:Regrown,w'' = grow (redrawn W2 p.d) p.os)):=Lib.hid (fun d os => by
    have q:=rcell_b c _ k ci (grow (redrawn W2 d) os) (hcW.later (below_regrown W2 d os)) HWX.out HLX.out
    rw [HHF.out.cell ci hcl,← hcq,hce2] at q
    exact Calls.regrown_of q)
  have hfs:=run_span0
  have d0:((F.d:Int) == 0) = false:=by rw [beq_eq_false_iff_ne];omega
  have d1:¬ ((F.d:Int) = 0):=by omega
  have d2:¬ (F.d = 0):=by omega
  have n1:IntKind.i64.wrap own = own:=IntWalk.i64_in _ (by omega)
  have n2:IntKind.i64.wrap (ci:Int) = (ci:Int):=IntWalk.i64_in _ (by omega)
  have n3:IntKind.i64.wrap (own.tmod (F.d:Int)) = (ci:Int):=by rw [htm];exact IntWalk.i64_in _ (by omega)

  have q0:∀ p:Regrown,(grow (redrawn W2 p.d) p.os).cell? ⟨vb,0,none⟩ = some (.slice pa c.parts.length pc):=fun p => cell_regrown (cell_blk HD2.out.blk rfl) p.d p.os
  have q1:∀ p:Regrown,(grow (redrawn W2 p.d) p.os).cell? ⟨vb,1,none⟩ = some (.slice (some ⟨b,o,none⟩) c.chans.length cc):=fun p => cell_regrown (cell_blk HD2.out.blk rfl) p.d p.os
  have q2:∀ p:Regrown,(grow (redrawn W2 p.d) p.os).cell? ⟨vb,2,none⟩ = some (.int .i64 c.len0):=fun p => cell_regrown (cell_blk HD2.out.blk rfl) p.d p.os
  have q3:∀ p:Regrown,(grow (redrawn W2 p.d) p.os).cell? ⟨vb,3,none⟩ = some (.slice aa c.win0.length ac):=fun p => cell_regrown (cell_blk HD2.out.blk rfl) p.d p.os
  have q4:∀ p:Regrown,(grow (redrawn W2 p.d) p.os).cell? ⟨vb,4,none⟩ = some (.int .i64 c.len1):=fun p => cell_regrown (cell_blk HD2.out.blk rfl) p.d p.os
  have q5:∀ p:Regrown,(grow (redrawn W2 p.d) p.os).cell? ⟨vb,5,none⟩ = some (.slice ba c.win1.length bc):=fun p => cell_regrown (cell_blk HD2.out.blk rfl) p.d p.os
  have q6:∀ p:Regrown,(grow (redrawn W2 p.d) p.os).cell? ⟨vb,6,none⟩ = some (.int .i64 (k:Int)):=fun p => cell_regrown (cell_blk HD2.out.blk rfl) p.d p.os
  have q7:∀ p:Regrown,(grow (redrawn W2 p.d) p.os).cell? ⟨vb,7,none⟩ = some (.int .i64 6):=fun p => cell_regrown (cell_blk HD2.out.blk rfl) p.d p.os
  have q8:∀ p:Regrown,(grow (redrawn W2 p.d) p.os).cell? ⟨vb,8,none⟩ = some (.int .u32 own):=fun p => cell_regrown (cell_blk HD2.out.blk rfl) p.d p.os
  have q9:∀ p:Regrown,(grow (redrawn W2 p.d) p.os).cell? ⟨vb,9,none⟩ = some (.bool src):=fun p => cell_regrown (cell_blk HD2.out.blk rfl) p.d p.os
  have q20:∀ p:Regrown,(grow (redrawn W2 p.d) p.os).cell? ⟨xb,3,none⟩ = some (.int .i64 (F.n:Int)):=fun p => cell_regrown (cell_blk hx7 rfl) p.d p.os
  have q21:∀ p:Regrown,(grow (redrawn W2 p.d) p.os).cell? ⟨xb,4,none⟩ = some (.int .i64 (F.d:Int)):=fun p => cell_regrown (cell_blk hx7 rfl) p.d p.os
  have HX7:=Lib.hid hx7
  have HXL:Hid (xb < W2.heap.size):=Lib.hid (Array.getElem?_eq_some_iff.1 hx7).1
  have hbc:=Below.refl W2.heap.size W2
  clear hHeld hth hsd h7 hcW hci hm1 hm2 hcq hce2 hx7 r0 r1 r2 r3 r4 r5 r6 x1_ x6_ x11 g11
  go_wp2_with ((first | with_reducible refine wpList_on hbc ?_ | with_reducible refine wp_on hbc (by kernel_rfl) (by kernel_rfl) ?_);(repeat (go_big_quiet_step (first | exact HSRC.out _ _ | exact HDST.out _ _ | exact HCEL.out _ _)));with_reducible refine wpQuiet_nil ?_;intro wc hbc;(try clear y3 y4);have y3:wc.cell? ⟨xb,3,none⟩ = some (.int .i64 (F.n:Int)):=cell_blk ((hbc.block xb HXL.out).trans HX7.out) rfl;have y4:wc.cell? ⟨xb,4,none⟩ = some (.int .i64 (F.d:Int)):=cell_blk ((hbc.block xb HXL.out).trans HX7.out) rfl)

  obtain ⟨w4,HW4⟩:∃ u,Hid (u = wc.alloc (.cells #[.int .i64 (F.src:Int),.int .i64 (F.dst:Int),.int .i64 (ce:Int),.int .i64 (F.n:Int)] 3)):=⟨_,rfl⟩
  obtain ⟨gb,hgb⟩:∃ g,g = wc.heap.size:=⟨_,rfl⟩
  rw [← HW4.out]
  simp only [← hgb]
  have hp4:w4.heap[gb]? = some (.cells #[.int .i64 (F.src:Int),.int .i64 (F.dst:Int),.int .i64 (ce:Int),.int .i64 (F.n:Int)] 3 (0,0)):=by rw [HW4.out,hgb];exact heap_alloc_new _ _
  have hb24:Below W2.heap.size W2 w4:=by rw [HW4.out];exact hbc.alloc hbc.size _
  have hD4:=HD2.out.below hb24
  rw [← HA1.out] at hD4
  have hO4:Only (New w.heap.size (fun j => j = vb ∨ j = yb ∨ j = zb)) w w4:=(HOV.out.trans ((Only.of_below (S:=fun _ => False) hB2).mono fun _ _ h => h.elim)).trans ((Only.of_below (S:=fun _ => False) hb24).mono fun _ _ h => h.elim)
  have hvw:w.heap.size < V1.heap.size:=(Array.getElem?_eq_some_iff.1 HZV.out).1
  have hZ4:w4.heap[w.heap.size]? = some (.cells #[.bool false,.int .i64 0,.slice none 0 0,.bool false,.int .i64 0,.bool false,.bool false,.bool false,.int .i64 0] 56 (0,0)):=(hb24.block w.heap.size (by have:=hB2.size;omega)).trans ((hB2.block w.heap.size hvw).trans HZV.out)

  rw [← HCE.out] at hp4
  have hr4:=HROW.out.kept hO4.old (fun g hg e => HDNE.out g hg e)
  have HC4:=Lib.hid (HCAL.out w4 gb hD4 hp4 hr4)
  have HO4:=Lib.hid hO4;have HZ4:=Lib.hid hZ4
  have HS4:=Lib.hid hO4.size
  clear hr4 hp4 hb24 hD4 hO4 hZ4 y3 y4 hgb hvw hbc hB2
  refine HC4.out.mono ?_
  rintro e w5 ⟨A',cp',rfl,hd5,hrow5,hg5,ho5⟩
  obtain ⟨sa,sn,sc,hv,hsn⟩:∃ sa sn sc,(if dn = true ∧ cd = 0 then Value.slice A' ds.length cp' else .slice none 0 0) = .slice sa sn sc ∧ sn = dd.length:=by
    have q:=HDAT.out
    split
    · rename_i hc;rw [if_pos hc] at q;exact ⟨A',ds.length,cp',rfl,q.symm⟩
    · rename_i hc;rw [if_neg hc] at q;exact ⟨none,0,0,rfl,q.symm⟩
  have HV5:=Lib.hid (And.intro hv hsn)
  obtain ⟨X,HX⟩:∃ u,Hid (u = w5):=⟨_,rfl⟩
  rw [← HX.out] at hd5 hrow5 ho5 ⊢
  have HDX:=Lib.hid hd5;have HRX:=Lib.hid hrow5;have HGX:=Lib.hid hg5
  have HOX:Hid (Only (New w.heap.size (fun j => j = vb ∨ j = yb ∨ j = zb ∨ Value.ownBlock (.slice A ds.length cp) = some j)) w X):=Lib.hid ((HO4.out.mono fun j _ e => by rcases e with e | e | e | e;exact .inl e;exact .inr (.inl e);exact .inr (.inr (.inl e));exact .inr (.inr (.inr (.inl e)))).trans (ho5.mono fun _ _ h => .inr h))
  have HZX:Hid (X.heap[w.heap.size]? = some (.cells #[.bool false,.int .i64 0,.slice none 0 0,.bool false,.int .i64 0,.bool false,.bool false,.bool false,.int .i64 0] 56 (0,0))):=Lib.hid (ho5.at_ HZ4.out (by rintro (h | h | h | h);omega;omega;omega;exact absurd (HDLT.out _ h) (by omega)))
  clear hd5 hrow5 hg5 ho5
  have hvv:qdOf ⟨dn,mk,rg,cd,dd⟩ (if dn = true ∧ cd = 0 then Value.slice A' ds.length cp' else .slice none 0 0) = qdV dn cd (.slice sa sn sc) 0 mk rg:=by rw [HV5.out.1]
  rw [hvv]
  clear hvv hv hsn
  have hth:=there_at (W:=X) HZX.out (n:=(qdV dn cd (.slice sa sn sc) 0 mk rg:Array Value).size) rfl
  have hsd:(Tryz.prog.info? 56).map (·.size) = some (qdV dn cd (.slice sa sn sc) 0 mk rg:Array Value).size:=did_size
  go_wp2_with (first | (rw [← HX.out]) | (with_reducible refine wpList_store_mid (by kernel_rfl) _ _ _ rfl w.heap.size 0 (qdV dn cd (.slice sa sn sc) 0 mk rg) (by kernel_rfl) (by kernel_rfl) hth hsd (by kernel_rfl) ?_))
  have hrg:=World.rangeAt_setCells_same (X) w.heap.size 0 [.bool dn,.int .i64 cd,.slice sa sn sc,.bool false,.int .i64 0,.bool mk,.bool rg,.bool false,.int .i64 0] (there_at (cs:=#[.bool false,.int .i64 0,.slice none 0 0,.bool false,.int .i64 0,.bool false,.bool false,.bool false,.int .i64 0]) (n:=9) (show (X).heap[w.heap.size]? = _ from HZX.out) rfl)
  (try simp only [Exit.inBlock,Exit.then])
  refine bodyPost_ret (results_cell_row rfl _ _ w.heap.size [.bool dn,.int .i64 cd,.slice sa sn sc,.bool false,.int .i64 0,.bool mk,.bool rg,.bool false,.int .i64 0] _ rfl hrg Tryz.underlying56 rfl did_size) rfl ?_
  skip
  have hs:=Only.sets (S:=fun j => j = w.heap.size) rfl [.bool dn,.int .i64 cd,.slice sa sn sc,.bool false,.int .i64 0,.bool mk,.bool rg,.bool false,.int .i64 0] 0 (Only.refl _ X)
  refine ⟨A',cp',sa,sn,sc,rfl,⟨HV5.out.2,HV5.out.1.symm⟩,HDX.out.only hs ⟨by omega,by omega,by omega⟩,HRX.out.kept hs (fun g hg e => ?_),fun g hg => (HGX.out g hg).imp id (fun h => by have:=HS4.out;omega),(HOX.out.trans (hs.mono fun j _ e => .inl (Nat.le_of_eq e.symm))).old⟩
  rcases HGX.out g hg with h | h
  · have:=HDLT.out g h;omega
  · have:=HZ4.out;have:=(Array.getElem?_eq_some_iff.1 this).1;omega
end
end Go.Proofs.YtmhpcgcloojfbaaGreat
