/- Texts of the ring, joined, what is used of them. No condition but those in the statements. -/
import Derived.BigQuiet
import Derived.BigRegion
import Derived.Deep.MidRow
import Derived.Deep.RegionHeld3
import Derived.Deep.Upon
import Derived.IntWalk
import Derived.Shelf.Abstract
import Derived.Test.YtmhpcgcloojfbaaGreatRFDu
namespace Go.Proofs.YtmhpcgcloojfbaaGreat
open Go.RowKit Go.Sort
set_option linter.unusedVariables false
set_option linter.unusedSimpArgs false
set_option linter.unusedVariables false
set_option linter.unusedSimpArgs false
open Go.Proofs.YtmhpcgcloojfbaaGreat.Simp
set_option maxRecDepth 100000
set_option maxHeartbeats 6400000
theorem wstep_keep {F:Fr} {s:FS} {m:List Int} {now:Int} (h:W32 m) (hn:0 ≤ now ∧ now ≤ 4294967295) (hd:W32 s.data) (hp:s.pair ≤ 1 ∧ s.index ≤ 1) (hl:s.data.length ≤ 1000):(wstep F s m now).2.1.length = m.length ∧ W32 (wstep F s m now).2.1:=by
  have hd2:=hd (s.no - 4).toNat
  unfold rd at hd2
  unfold wstep
  split;exact ⟨rfl,h⟩
  split;exact ⟨rfl,h⟩
  split;exact ⟨rfl,h⟩
  split;exact ⟨List.length_set ..,h.set (by omega)⟩
  split;exact ⟨List.length_set ..,h.set (by omega)⟩
  split;exact ⟨List.length_set ..,h.set hd2⟩
  split;exact ⟨List.length_set ..,h.set (by omega)⟩
  exact ⟨List.length_set ..,h.set (by omega)⟩
theorem rstep_keep {F:Fr} {s:FS} {m:List Int} {now:Int} (h:W32 m) (hp:s.pair ≤ 1 ∧ s.index ≤ 1):(rstep F s m now).2.1.length = m.length ∧ W32 (rstep F s m now).2.1:=by
  unfold rstep
  split;exact ⟨rfl,h⟩
  split;exact ⟨rfl,h⟩
  split;exact ⟨List.length_set ..,h.set (by omega)⟩
  split;exact ⟨rfl,h⟩
  split
  · split;exact ⟨rfl,h⟩
    exact ⟨rfl,h⟩
  split;exact ⟨rfl,h⟩
  split;exact ⟨rfl,h⟩
  exact ⟨rfl,h⟩
theorem fzero_b {W w:World} {vb yb:Nat} {c:Cfg} {x:CfgAt} {k:Nat} {F:Fr} {ws:List Int} {wr:Bool} {dv:Value} {a:Int} {p i:Nat} {len st:Int} {mk:Bool} (now:Int) (h:VAt W w vb yb c x k F ws wr dv a p i len st mk) (ha:a < 0):Calls Tryz.prog 16 #[.pointer (some ⟨vb,0,none⟩),.slice (some ⟨yb,0,none⟩) ws.length ws.length,.int .i64 now] w (VGives W w vb yb c x k F ws wr dv a p i len st mk (didV false 0 (.slice none 0 0) false (false) false (0))):=by
  obtain ⟨X,HW1,hsz,hO,hz⟩:=did_new w
  have hV:=hO.at_ h.blk (fun h => h)
  have x9:X.cell? ⟨vb,9,none⟩ = some (.int .i64 a):=cell_blk hV rfl
  have b0:decide (a < 0) = true:=decide_eq_true ha
  have HVX:=Lib.hid hV;have HYX:=Lib.hid (h.row.of (hO.block yb h.row.lt (fun h => h)));have HZX:=Lib.hid hz
  have HOX:Hid (Only (New w.heap.size (fun j => j = vb ∨ j = yb)) w X):=Lib.hid (hO.mono fun _ _ h => h.elim)
  have HH:=Lib.hid h
  have hsd:(Tryz.prog.info? 56).map (·.size) = some (didV false 0 (.slice none 0 0) false (false) false (0):Array Value).size:=did_size
  have hth:=there_at (W:=X) HZX.out (n:=(didV false 0 (.slice none 0 0) false (false) false (0):Array Value).size) rfl
  clear hV hO hz h hsz ha
  go_enter Tryz.func16,Tryz.ntmps16
  go_wp2_with (first | (rw [← HW1.out]) | (with_reducible refine wpList_store_mid (by kernel_rfl) _ _ _ rfl w.heap.size 0 (didV false 0 (.slice none 0 0) false (false) false (0)) (by kernel_rfl) (by kernel_rfl) hth hsd (by kernel_rfl) ?_))
  have hrg:=World.rangeAt_setCells_same X w.heap.size 0 [.bool false,.int .i64 0,.slice none 0 0,.bool false,.int .i64 0,.bool (false),.bool false,.bool false,.int .i64 (0)] (there_at (cs:=#[.bool false,.int .i64 0,.slice none 0 0,.bool false,.int .i64 0,.bool false,.bool false,.bool false,.int .i64 0]) (n:=9) (show (X).heap[w.heap.size]? = _ from HZX.out) rfl)
  (try simp only [Exit.inBlock,Exit.then])
  refine bodyPost_ret (results_cell_row rfl _ _ w.heap.size [.bool false,.int .i64 0,.slice none 0 0,.bool false,.int .i64 0,.bool (false),.bool false,.bool false,.int .i64 (0)] _ rfl hrg Tryz.underlying56 rfl did_size) rfl ?_
  obtain ⟨v1,v2⟩:=HH.out.fin (X:=X) HVX.out HYX.out HOX.out rfl HH.out.w32 [.bool false,.int .i64 0,.slice none 0 0,.bool false,.int .i64 0,.bool (false),.bool false,.bool false,.int .i64 (0)]
  exact ⟨rfl,v1,v2⟩
section
variable {W w:World} {vb yb:Nat} {c:Cfg} {x:CfgAt} {k:Nat} {F:Fr} {ws:List Int} {db dof cap:Nat} {A:Option Addr} {len st:Int} {mk:Bool}
theorem fstepW_b (s:FS) (now:Int) (h:VAt W w vb yb c x k F ws true (.slice (some ⟨db,dof,none⟩) s.data.length cap) s.no s.pair s.index len st s.marked) (hpi:s.pair ≤ 1 ∧ s.index ≤ 1) (hds:s.data.length ≤ F.n) (hno: s.no ≤ 5 + (s.data.length:Int)) (hnow:0 ≤ now ∧ now ≤ 1000000) (hd32:W32 s.data) (hdat:∃ cs mm,w.heap[db]? = some (.cells cs 34 mm) ∧ ∀ j,j < s.data.length → cs[dof + j]? = some (.int .u32 (s.data.getD j 0))) (hdb:db ≠ yb):Calls Tryz.prog 16 #[.pointer (some ⟨vb,0,none⟩),.slice (some ⟨yb,0,none⟩) ws.length ws.length,.int .i64 now] w (VGives W w vb yb c x k F (wstep F s ws now).2.1 true (.slice (some ⟨db,dof,none⟩) s.data.length cap) (wstep F s ws now).1.no (wstep F s ws now).1.pair (wstep F s ws now).1.index len st (wstep F s ws now).1.marked (didOf (wstep F s ws now).2.2 (.slice none 0 0))):=by
  by_cases hneg:s.no < 0
  · have e:wstep F s ws now = (s,ws,did0):=by unfold wstep;rw [if_pos hneg]
    rw [e]
    exact fzero_b now h hneg
  have hcal:=fun (V:World) (hv:VAt W V vb yb c x k F ws true (.slice (some ⟨db,dof,none⟩) s.data.length cap) (s.no + 1) s.pair s.index len st s.marked) (e:V.heap[db]? = w.heap[db]?) => dwrite_b s now hv hpi hds ⟨by omega,hno⟩ hnow hd32 (by obtain ⟨cs,mm,h1,h2⟩:=hdat;exact ⟨cs,mm,e.trans h1,h2⟩) hdb
  have hdne:¬ (db = vb ∨ db = yb) ∧ db < w.heap.size:=by
    obtain ⟨cs,mm,hc,-⟩:=hdat
    refine ⟨?_,(Array.getElem?_eq_some_iff.1 hc).1⟩
    rintro (e | e)
    · rw [e] at hc;have q:=h.blk;rw [hc] at q;injection q with q3;injection q3 with q4 q5;exact absurd q5 (by decide)
    · exact hdb e
  have hlen:(wstep F s ws now).2.1.length = ws.length ∧ W32 (wstep F s ws now).2.1:=wstep_keep h.w32 (by omega) hd32 hpi (by have:=h.len.n2;omega)
  obtain ⟨R,hR⟩:∃ R,wstep F s ws now = R:=⟨_,rfl⟩
  rw [hR] at hcal hlen ⊢
  obtain ⟨s',ws',d⟩:=R
  obtain ⟨dn,mk2,st2,cd,dd,vl,bf⟩:=d
  obtain ⟨ds,a,sp,si,sl,sst,sm⟩:=s
  have ha:0 ≤ a ∧ a ≤ 2000:=by have q1:¬ a < 0:=hneg;have q2:a ≤ 5 + (ds.length:Int):=hno;have q3:ds.length ≤ F.n:=hds;have:=h.len.n2;omega
  have h:VAt W w vb yb c x k F ws true (.slice (some ⟨db,dof,none⟩) ds.length cap) a sp si len st sm:=h
  have HCAL:=Lib.hid hcal;have HDNE:=Lib.hid hdne;have HLEN:=Lib.hid hlen
  clear hcal hdne hlen hR hdat hds hno hneg hpi hd32 hdb hnow
  obtain ⟨W1,HW1,hsz,hO,hz⟩:=did_new w
  have hvl:=(Array.getElem?_eq_some_iff.1 h.blk).1
  have hyl:=h.row.lt
  have hV:=hO.at_ h.blk (fun h => h)
  have hY:=h.row.of (hO.block yb hyl (fun h => h))
  have x9:W1.cell? ⟨vb,9,none⟩ = some (.int .i64 a):=cell_blk hV rfl
  have x7:W1.cell? ⟨vb,7,none⟩ = some (.bool true):=cell_blk hV rfl
  have g9:=blk_frozen 9 hV
  have b0:decide (a < 0) = false:=decide_eq_false (by omega)
  obtain ⟨a1,ha1⟩:∃ a1,a + 1 = a1:=⟨_,rfl⟩
  have n0:IntKind.i64.wrap (a + 1) = a1:=by rw [ha1];exact IntWalk.i64_in _ (by omega)
  obtain ⟨V1,HV1⟩:∃ u,Hid (u = W1.setCell ⟨vb,9,none⟩ (.int .i64 a1)):=⟨_,rfl⟩
  have hb1:=hO.size
  have HVB:Hid (V1.heap[vb]? = some (.cells (vV c x k true (.slice (some ⟨db,dof,none⟩) ds.length cap) (a1) sp si len st sm) 52 (0,0))):=Lib.hid (by rw [HV1.out];exact vset9 hV a1)
  have v7:V1.cell? ⟨vb,7,none⟩ = some (.bool true):=cell_blk HVB.out rfl
  have HYB:Hid (WordsAt V1 yb ws):=Lib.hid (by rw [HV1.out];exact hY.of (Below.heap_setCell _ _ _ _ (by show yb ≠ vb;exact h.ne.1.symm)))
  have HOV:Hid (Only (New w.heap.size (fun j => j = vb ∨ j = yb)) w V1):=Lib.hid (by rw [HV1.out];exact (hO.mono (T:=New w.heap.size (fun j => j = vb ∨ j = yb)) fun _ _ h => h.elim).set (p:=⟨vb,9,none⟩) (.inr (.inl rfl)) _)
  have HZV:Hid (V1.heap[w.heap.size]? = some (.cells #[.bool false,.int .i64 0,.slice none 0 0,.bool false,.int .i64 0,.bool false,.bool false,.bool false,.int .i64 0] 56 (0,0))):=Lib.hid (by rw [HV1.out];exact (Below.heap_setCell _ _ _ _ (by show w.heap.size ≠ vb;omega)).trans hz)
  have hbs:=h.below.size
  have HAV:Hid (VAt W V1 vb yb c x k F ws true (.slice (some ⟨db,dof,none⟩) ds.length cap) a1 sp si len st sm):=Lib.hid ⟨h.below.trans ⟨HOV.out.old.os,HOV.out.old.tape,HOV.out.old.output,HOV.out.old.size,fun j hj => HOV.out.old.block j (by omega) (fun e => by have:=h.ne.2;rcases e with e | e <;> omega)⟩,HVB.out,HYB.out,h.ne,h.cfg,h.wf,h.few,h.fr,h.len,h.w32⟩
  have HH:=Lib.hid h
  have HA1:=Lib.hid ha1
  have HVL:=Lib.hid (And.intro hvl hyl)
  clear hV hY hO hz h ha1 hb1 hbs hsz hvl hyl
  have HC:=Lib.hid (HCAL.out V1 (by have q:=HAV.out;rw [← HA1.out] at q;exact q) (HOV.out.old.block db HDNE.out.2 HDNE.out.1))
  go_enter Tryz.func16,Tryz.ntmps16
  go_wp2_with (first | (rw [← HW1.out]) | (rw [← HV1.out]))
  clear x9 x7 g9 v7
  refine HC.out.mono ?_
  rintro e X ⟨rfl,hvx,hox⟩
  have HVX:=Lib.hid hvx.blk;have HYX:=Lib.hid hvx.row
  have HOX:Hid (Only (New w.heap.size (fun j => j = vb ∨ j = yb)) w X):=Lib.hid (HOV.out.trans (hox.mono fun _ _ h => .inr h))
  have HZX:Hid (X.heap[w.heap.size]? = some (.cells #[.bool false,.int .i64 0,.slice none 0 0,.bool false,.int .i64 0,.bool false,.bool false,.bool false,.int .i64 0] 56 (0,0))):=Lib.hid (hox.at_ HZV.out (by have:=HVL.out;rintro (e | e) <;> omega))
  have hth:=there_at (W:=X) HZX.out (n:=(didV dn cd (.slice none 0 0) vl mk2 st2 bf:Array Value).size) rfl
  have hsd:(Tryz.prog.info? 56).map (·.size) = some (didV dn cd (.slice none 0 0) vl mk2 st2 bf:Array Value).size:=did_size
  clear hvx hox
  go_wp2_with (first | (with_reducible refine wpList_store_mid (by kernel_rfl) _ _ _ rfl w.heap.size 0 (didV dn cd (.slice none 0 0) vl mk2 st2 bf) (by kernel_rfl) (by kernel_rfl) hth hsd (by kernel_rfl) ?_))
  have hrg:=World.rangeAt_setCells_same X w.heap.size 0 [.bool dn,.int .i64 cd,.slice none 0 0,.bool vl,.int .i64 0,.bool mk2,.bool false,.bool st2,.int .i64 bf] (there_at (cs:=#[.bool false,.int .i64 0,.slice none 0 0,.bool false,.int .i64 0,.bool false,.bool false,.bool false,.int .i64 0]) (n:=9) (show (X).heap[w.heap.size]? = _ from HZX.out) rfl)
  (try simp only [Exit.inBlock,Exit.then])
  refine bodyPost_ret (results_cell_row rfl _ _ w.heap.size [.bool dn,.int .i64 cd,.slice none 0 0,.bool vl,.int .i64 0,.bool mk2,.bool false,.bool st2,.int .i64 bf] _ rfl hrg Tryz.underlying56 rfl did_size) rfl ?_
  obtain ⟨v1,v2⟩:=HH.out.fin (X:=X) HVX.out HYX.out HOX.out HLEN.out.1 HLEN.out.2 [.bool dn,.int .i64 cd,.slice none 0 0,.bool vl,.int .i64 0,.bool mk2,.bool false,.bool st2,.int .i64 bf]
  exact ⟨rfl,v1,v2⟩
theorem fstepR_b (s:FS) (now:Int) (h:VAt W w vb yb c x k F ws false (.slice A s.data.length cap) s.no s.pair s.index s.len s.stamp mk) (hpi:s.pair ≤ 1 ∧ s.index ≤ 1) (hds:s.data.length ≤ F.n) (hno: s.no ≤ 30) (hph:5 ≤ s.no → s.no = 5 + (s.data.length:Int) ∧ (s.data.length:Int) < s.len ∧ s.len ≤ F.n) (hst:0 ≤ s.stamp ∧ s.stamp ≤ 4294967295) (hnow:0 ≤ now ∧ now ≤ 1000000) (hrow:OwnsOff w 0 34 1 (.slice A s.data.length cap) s.data.length (wcells s.data)) (hby:Value.ownBlock (.slice A s.data.length cap) ≠ some yb) (hgb:∀ g,Value.ownBlock (.slice A s.data.length cap) = some g → W.heap.size ≤ g):Calls Tryz.prog 16 #[.pointer (some ⟨vb,0,none⟩),.slice (some ⟨yb,0,none⟩) ws.length ws.length,.int .i64 now] w (FGives W w vb yb c x k F mk (.slice A s.data.length cap) (rstep F s ws now)):=by
  have hdne:∀ g,Value.ownBlock (.slice A s.data.length cap) = some g → ¬ (g = vb ∨ g = yb):=fun g hg => by
    obtain ⟨cs,hc⟩:=hrow.typed g hg
    rintro (rfl | rfl)
    · have q:=h.blk;rw [hc] at q;injection q with q3;injection q3 with q4 q5;exact absurd q5 (by decide)
    · exact hby hg
  by_cases hneg:s.no < 0
  · have e:rstep F s ws now = (s,ws,did0):=by unfold rstep;rw [if_pos hneg]
    rw [e]
    refine (fzero_b now h hneg).mono ?_
    rintro e w' ⟨rfl,hv,ho⟩
    exact ⟨A,cap,none,0,0,rfl,⟨rfl,.inl ⟨rfl,rfl⟩⟩,hv,hrow.kept ho (fun g hg e => hdne g hg e),fun g hg => .inl hg,ho.mono fun j _ e => e.elim .inl (fun e => .inr (.inl e))⟩
  have hcal:=fun (V:World) (hv:VAt W V vb yb c x k F ws false (.slice A s.data.length cap) (s.no + 1) s.pair s.index s.len s.stamp mk) (hr:OwnsOff V 0 34 1 (.slice A s.data.length cap) s.data.length (wcells s.data)) => dread_b s now hv hpi hds ⟨by omega,hno⟩ hph hst hnow hr hby hgb
  have hdlt:∀ g,Value.ownBlock (.slice A s.data.length cap) = some g → g < w.heap.size:=fun g hg => (hrow.lt g hg).2
  have hlen:(rstep F s ws now).2.1.length = ws.length ∧ W32 (rstep F s ws now).2.1:=rstep_keep h.w32 hpi
  obtain ⟨R,hR⟩:∃ R,rstep F s ws now = R:=⟨_,rfl⟩
  rw [hR] at hcal hlen ⊢
  obtain ⟨s',ws',d⟩:=R
  obtain ⟨dn,mk2,st2,cd,dd,vl,bf⟩:=d
  obtain ⟨ds,a,sp,si,sl,sst,sm⟩:=s
  have ha:0 ≤ a ∧ a ≤ 2000:=by have q1:¬ a < 0:=hneg;have q2:a ≤ 30:=hno;omega
  have h:VAt W w vb yb c x k F ws false (.slice A ds.length cap) a sp si sl sst mk:=h
  have HCAL:=Lib.hid hcal;have HDNE:=Lib.hid hdne;have HLEN:=Lib.hid hlen;have HROW:=Lib.hid hrow;have HDLT:=Lib.hid hdlt
  clear hcal hdne hlen hR hds hno hneg hpi hph hst hnow hrow hby hgb hdlt
  obtain ⟨W1,HW1,hsz,hO,hz⟩:=did_new w
  have hvl:=(Array.getElem?_eq_some_iff.1 h.blk).1
  have hyl:=h.row.lt
  have hV:=hO.at_ h.blk (fun h => h)
  have hY:=h.row.of (hO.block yb hyl (fun h => h))
  have x9:W1.cell? ⟨vb,9,none⟩ = some (.int .i64 a):=cell_blk hV rfl
  have x7:W1.cell? ⟨vb,7,none⟩ = some (.bool false):=cell_blk hV rfl
  have g9:=blk_frozen 9 hV
  have b0:decide (a < 0) = false:=decide_eq_false (by omega)
  obtain ⟨a1,ha1⟩:∃ a1,a + 1 = a1:=⟨_,rfl⟩
  have n0:IntKind.i64.wrap (a + 1) = a1:=by rw [ha1];exact IntWalk.i64_in _ (by omega)
  obtain ⟨V1,HV1⟩:∃ u,Hid (u = W1.setCell ⟨vb,9,none⟩ (.int .i64 a1)):=⟨_,rfl⟩
  have hb1:=hO.size
  have HVB:Hid (V1.heap[vb]? = some (.cells (vV c x k false (.slice A ds.length cap) (a1) sp si sl sst mk) 52 (0,0))):=Lib.hid (by rw [HV1.out];exact vset9 hV a1)
  have v7:V1.cell? ⟨vb,7,none⟩ = some (.bool false):=cell_blk HVB.out rfl
  have HYB:Hid (WordsAt V1 yb ws):=Lib.hid (by rw [HV1.out];exact hY.of (Below.heap_setCell _ _ _ _ (by show yb ≠ vb;exact h.ne.1.symm)))
  have HOV:Hid (Only (New w.heap.size (fun j => j = vb ∨ j = yb)) w V1):=Lib.hid (by rw [HV1.out];exact (hO.mono (T:=New w.heap.size (fun j => j = vb ∨ j = yb)) fun _ _ h => h.elim).set (p:=⟨vb,9,none⟩) (.inr (.inl rfl)) _)
  have HZV:Hid (V1.heap[w.heap.size]? = some (.cells #[.bool false,.int .i64 0,.slice none 0 0,.bool false,.int .i64 0,.bool false,.bool false,.bool false,.int .i64 0] 56 (0,0))):=Lib.hid (by rw [HV1.out];exact (Below.heap_setCell _ _ _ _ (by show w.heap.size ≠ vb;omega)).trans hz)
  have hbs:=h.below.size
  have HAV:Hid (VAt W V1 vb yb c x k F ws false (.slice A ds.length cap) a1 sp si sl sst mk):=Lib.hid ⟨h.below.trans ⟨HOV.out.old.os,HOV.out.old.tape,HOV.out.old.output,HOV.out.old.size,fun j hj => HOV.out.old.block j (by omega) (fun e => by have:=h.ne.2;rcases e with e | e <;> omega)⟩,HVB.out,HYB.out,h.ne,h.cfg,h.wf,h.few,h.fr,h.len,h.w32⟩
  have HH:=Lib.hid h
  have HA1:=Lib.hid ha1
  have HVL:=Lib.hid (And.intro hvl hyl)
  clear hV hY hO hz h ha1 hb1 hbs hsz hvl hyl
  have HC:=Lib.hid (HCAL.out V1 (by have q:=HAV.out;rw [← HA1.out] at q;exact q) (HROW.out.kept HOV.out.old (fun g hg e => HDNE.out g hg e)))
  go_enter Tryz.func16,Tryz.ntmps16
  go_wp2_with (first | (rw [← HW1.out]) | (rw [← HV1.out]))
  clear x9 x7 g9 v7
  refine HC.out.mono ?_
  rintro e X ⟨A',cp',sa,sn,sc,rfl,hv4,hvx,hrx,hgx,hox⟩
  have HV4:=Lib.hid hv4;have HVV:=Lib.hid hvx;have HRX:=Lib.hid hrx;have HGX:=Lib.hid hgx
  have T4_:Hid (∀ j,(j = vb ∨ j = yb ∨ Value.ownBlock (.slice A ds.length cap) = some j) → W.heap.size ≤ j ∨ True):=Lib.hid (fun _ _ => .inr trivial)
  have HOX:Hid (Only (New w.heap.size (fun j => j = vb ∨ j = yb ∨ Value.ownBlock (.slice A ds.length cap) = some j)) w X):=Lib.hid ((HOV.out.mono fun _ _ e => e.elim .inl (fun e => e.elim (fun e => .inr (.inl e)) (fun e => .inr (.inr (.inl e))))).trans (hox.mono fun _ _ h => .inr h))
  have HZX:Hid (X.heap[w.heap.size]? = some (.cells #[.bool false,.int .i64 0,.slice none 0 0,.bool false,.int .i64 0,.bool false,.bool false,.bool false,.int .i64 0] 56 (0,0))):=Lib.hid (hox.at_ HZV.out (by have:=HVL.out;rintro (e | e | e);omega;omega;exact absurd (HDLT.out _ e) (by omega)))
  have hth:=there_at (W:=X) HZX.out (n:=(didV dn cd (.slice sa sn sc) vl mk2 st2 bf:Array Value).size) rfl
  have hsd:(Tryz.prog.info? 56).map (·.size) = some (didV dn cd (.slice sa sn sc) vl mk2 st2 bf:Array Value).size:=did_size
  clear hv4 hvx hrx hgx hox
  go_wp2_with (first | (with_reducible refine wpList_store_mid (by kernel_rfl) _ _ _ rfl w.heap.size 0 (didV dn cd (.slice sa sn sc) vl mk2 st2 bf) (by kernel_rfl) (by kernel_rfl) hth hsd (by kernel_rfl) ?_))
  have hrg:=World.rangeAt_setCells_same X w.heap.size 0 [.bool dn,.int .i64 cd,.slice sa sn sc,.bool vl,.int .i64 0,.bool mk2,.bool false,.bool st2,.int .i64 bf] (there_at (cs:=#[.bool false,.int .i64 0,.slice none 0 0,.bool false,.int .i64 0,.bool false,.bool false,.bool false,.int .i64 0]) (n:=9) (show X.heap[w.heap.size]? = _ from HZX.out) rfl)
  (try simp only [Exit.inBlock,Exit.then])
  refine bodyPost_ret (results_cell_row rfl _ _ w.heap.size [.bool dn,.int .i64 cd,.slice sa sn sc,.bool vl,.int .i64 0,.bool mk2,.bool false,.bool st2,.int .i64 bf] _ rfl hrg Tryz.underlying56 rfl did_size) rfl ?_
  have hs:=Only.sets (S:=fun j => j = w.heap.size) rfl [.bool dn,.int .i64 cd,.slice sa sn sc,.bool vl,.int .i64 0,.bool mk2,.bool false,.bool st2,.int .i64 bf] 0 (Only.refl _ X)
  have hvl:=HVL.out
  refine ⟨A',cp',sa,sn,sc,rfl,HV4.out,?_,HRX.out.kept hs (fun g hg e => ?_),fun g hg => (HGX.out g hg).imp id (fun h => by have:=HOV.out.size;omega),(HOX.out.trans (hs.mono fun j _ e => .inl (Nat.le_of_eq e.symm))).old⟩
  · have hv:=HVV.out
    have h0:=HH.out
    exact ⟨hv.below.trans ⟨hs.os,hs.tape,hs.output,hs.size,fun j hj => hs.block j (by have:=hv.below.size;omega) (fun e => by have:=h0.below.size;omega)⟩,hs.at_ hv.blk (by omega),hv.row.of (hs.block yb hv.row.lt (by omega)),hv.ne,hv.cfg,hv.wf,hv.few,hv.fr,hv.len,hv.w32⟩
  · rcases HGX.out g hg with h | h
    · have:=HDLT.out g h;omega
    · have:=(Array.getElem?_eq_some_iff.1 HZV.out).1;omega
end
end Go.Proofs.YtmhpcgcloojfbaaGreat
