/- Texts of the ring, joined, what is used of them. No condition but those in the statements. -/
import Derived.BigQuiet
import Derived.BigRegion
import Derived.Deep.MidRow
import Derived.Deep.RegionHeld3
import Derived.Deep.Upon
import Derived.IntWalk
import Derived.Shelf.Abstract
import Derived.Test.YtmhpcgcloojfbaaGreatQgA
import Derived.Test.YtmhpcgcloojfbaaGreatQgF
section
namespace Go.Proofs.YtmhpcgcloojfbaaGreat
open Go.RowKit Go.Sort
set_option linter.unusedVariables false
set_option linter.unusedSimpArgs false
set_option linter.unusedVariables false
set_option linter.unusedSimpArgs false
open Go.Proofs.YtmhpcgcloojfbaaGreat.Simp
set_option maxRecDepth 100000
set_option maxHeartbeats 3200000
theorem u32_ofQ {n:Int} (h:0 ≤ n ∧ n ≤ 4294967295):(Lit.int .u32 n).wf = true:=by simp [Lit.wf,IntKind.min,IntKind.max,IntKind.signed,IntKind.bits];omega
@[reducible] def qpV (x:CfgAt) (mb bb:Nat) (sv rv:Value) (tail head sent got n steps own:Int):Array Value:=#[.slice x.pa 2 x.pc,.slice x.ca 1 x.cc,.int .i64 1,.slice x.aa 1 x.ac,.int .i64 1,.slice x.ba 1 x.bc,.pointer (some ⟨mb,0,none⟩),.pointer (some ⟨bb,0,none⟩),sv,rv,.int .u32 tail,.int .u32 head,.int .i64 sent,.int .i64 got,.int .i64 n,.int .i64 steps,.int .i64 own]
theorem cfgQ_len (n d boot:Int):(cfgQ n d boot).parts.length = 2 ∧ (cfgQ n d boot).chans.length = 1 ∧ (cfgQ n d boot).len0 = 1 ∧ (cfgQ n d boot).win0.length = 1 ∧ (cfgQ n d boot).len1 = 1 ∧ (cfgQ n d boot).win1.length = 1:=⟨rfl,rfl,rfl,rfl,rfl,rfl⟩
/-- A pointer to what is under way,or none. -/
def pqW (o:Option QS) (q:Nat):Value:=match o with | none => .pointer none | some _ => .pointer (some ⟨q,0,none⟩)
def atQ (o:Option QS) (q:Nat):Option (Nat × QS):=match o with | none => none | some s => some (q,s)
/-- The play lies in block pb;K: no number is greater. -/
structure PQAt (W w:World) (E:Nat → Prop) (pb mb rb bb br N D:Nat) (boot:Int) (x:CfgAt) (K:Nat) (P:Ql) (sq rq:Nat):Prop where
  blk:w.heap[pb]? = some (.cells (qpV (x) (mb) (bb) ((pqW P.s sq)) ((pqW P.r rq)) (P.tail) (P.head) (P.sent) (P.got) (P.n) (P.steps) (P.own)) 103 (0,0))
  quo:∃ bs,Quo W w W.heap.size E mb rb bb br (qr2 N D) 1 P.m bs (atQ P.s sq) (atQ P.r rq) ∧ bs.length = 2 ∧ bs.getD 1 false = P.bell
  pe:E pb ∧ W.heap.size ≤ pb
  cfg:CfgIn W W.heap.size (cfgQ N D boot) x
  nn:(1 ≤ N ∧ N ≤ 4) ∧ (D = 1 ∨ D = 2 ∨ D = 4 ∨ D = 8) ∧ 0 ≤ boot ∧ boot ≤ 4294967295
  lim:0 ≤ P.n ∧ P.n ≤ K ∧ 0 ≤ P.steps ∧ P.steps ≤ K ∧ 0 ≤ P.own ∧ P.own ≤ K ∧ 0 ≤ P.sent ∧ P.sent ≤ K ∧ 0 ≤ P.got ∧ P.got ≤ K
  u32:0 ≤ P.tail ∧ P.tail ≤ 4294967295 ∧ 0 ≤ P.head ∧ P.head ≤ 4294967295
section
variable {W w w':World} {E:Nat → Prop} {pb mb rb bb br N D K sq rq:Nat} {boot:Int} {x:CfgAt} {P:Ql}
theorem PQAt.lt (h:PQAt W w E pb mb rb bb br N D boot x (K) (P) sq rq):pb < w.heap.size:=(Array.getElem?_eq_some_iff.1 h.blk).1
theorem PQAt.below (h:PQAt W w E pb mb rb bb br N D boot x (K) (P) sq rq):Below W.heap.size W w:=by obtain ⟨_,hq,_⟩:=h.quo;exact hq.below
theorem PQAt.wf (h:PQAt W w E pb mb rb bb br N D boot x (K) (P) sq rq):CfgWf (cfgQ N D boot):=by
  obtain ⟨h1,h2,h3,h4⟩:=h.nn
  exact cfgQ_wf (i64_of (by omega)) (i64_of (by omega)) (u32_ofQ (by omega))
theorem PQAt.qrOf (h:PQAt W w E pb mb rb bb br N D boot x (K) (P) sq rq):QrOf (cfgQ N D boot) 0 (qr2 N D):=cfgQ_qr h.nn.1.1 (by have:=h.nn.1;omega) h.nn.2.1
end
/-- The channel's words,in memory. -/
theorem chanQ {W:World} {N D:Nat} {boot:Int} {x:CfgAt} (h:CfgIn W W.heap.size (cfgQ N D boot) x) (wf:CfgWf (cfgQ N D boot)):∃ b o,x.ca = some ⟨b,o,none⟩ ∧ ∀ w',Below W.heap.size W w' → w'.cell? ⟨b,o + 0 * 7 + 3,none⟩ = some (.int .i64 (N:Int)) ∧ w'.cell? ⟨b,o + 0 * 7 + 4,none⟩ = some (.int .i64 (D:Int)) ∧ w'.cell? ⟨b,o + 0 * 7 + 6,none⟩ = some (.int .u32 boot):=by
  obtain ⟨b,o,x0,x1,x2,x3,x4,x5,x6,e0,-,e1,-,hrw⟩:=h.rc.at7 wf.wc (i:=0) (by show 0 < 1;omega)
  have e2:[(2:Int),0,1,N,D,0,boot] = [x0,x1,x2,x3,x4,x5,x6]:=by simpa [cfgQ] using e1
  simp at e2
  obtain ⟨-,-,-,rfl,rfl,-,rfl⟩:=e2
  exact ⟨b,o,e0,fun w' hb => ⟨(hrw w' hb).2.2.2.1,(hrw w' hb).2.2.2.2.1,(hrw w' hb).2.2.2.2.2.2⟩⟩
end Go.Proofs.YtmhpcgcloojfbaaGreat
end
section
namespace Go.Proofs.YtmhpcgcloojfbaaGreat
open Go.RowKit Go.Sort
set_option linter.unusedVariables false
set_option linter.unusedSimpArgs false
set_option linter.unusedVariables false
set_option linter.unusedSimpArgs false
open Go.Proofs.YtmhpcgcloojfbaaGreat.Simp
set_option maxRecDepth 100000
set_option maxHeartbeats 3200000
theorem beginQ_b (N D:Nat) (boot:Int) (x:CfgAt) (w:World) (hx:CfgIn w w.heap.size (cfgQ N D boot) x) (h1:1 ≤ N ∧ N ≤ 4) (h3:D = 1 ∨ D = 2 ∨ D = 4 ∨ D = 8) (h0:0 ≤ boot ∧ boot ≤ 4294967295) :
    Calls Tryz.prog 41 #[.agg (cfgCells (cfgQ N D boot) x)] w fun e w' => ∃ pb mb rb bb br,e = .returned (.pointer (some ⟨pb,0,none⟩)) ∧ PQAt w w' (fun k => k = pb) pb mb rb bb br N D boot x 0 ⟨((List.replicate (3 + D * (N + 1)) 0).set 1 boot).set (2 + D * (N + 1)) boot,false,none,none,boot,boot,0,0,0,0,0⟩ 0 0:=by
  have hwf:CfgWf (cfgQ N D boot):=cfgQ_wf (i64_of (by omega)) (i64_of (by omega)) (u32_ofQ (by omega))
  have hfw:=cfgQ_few N D boot
  have hF:QrOf (cfgQ N D boot) 0 (qr2 N D):=cfgQ_qr h1.1 (by omega) h3
  have hsz:=cfgQ_size (boot:=boot) h1.1 (by omega) h3
  have hin:=cfgQ_in h1.1 (by omega) h3
  obtain ⟨W,HW,hB,hWs,bx⟩:=one_cbox w (cfgQ N D boot) x 29
  have hxW:=hx.later hB
  obtain ⟨b,o,hca,hch⟩:=chanQ hx hwf
  have HX:=Lib.hid hx
  have HCH:=Lib.hid (fun (W':World) (h:Below W.heap.size W W') => (hch W' (hB.trans (h.mono hB.size))).2.2)
  have HBX:=Lib.hid (fun (W':World) (h:Below W.heap.size W W') => bx W' h)
  have HSZ:=Lib.hid (rsize_b (cfgQ N D boot) x W hxW hwf hfw)
  rw [hsz] at HSZ
  have e1:(srcSpan (cfgQ N D boot) 0).1 = 1:=hF.src
  have e2:(dstSpan (cfgQ N D boot) 0).1 = ((2 + D * (N + 1):Nat):Int):=hF.dst
  have HSR:=Lib.hid (fun (W':World) (h:Below W.heap.size W W') => rsource_b (cfgQ N D boot) x 0 W' (hxW.later h) hwf hfw)
  have HDS:=Lib.hid (fun (W':World) (h:Below W.heap.size W W') => rdest_b (cfgQ N D boot) x 0 W' (hxW.later h) hwf hfw)
  rw [e1] at HSR
  rw [e2] at HDS
  obtain ⟨z1,hz1⟩:∃ z,(srcSpan (cfgQ N D boot) 0).2 = z:=⟨_,rfl⟩
  obtain ⟨z2,hz2⟩:∃ z,(dstSpan (cfgQ N D boot) 0).2 = z:=⟨_,rfl⟩
  rw [hz1] at HSR
  rw [hz2] at HDS
  obtain ⟨n,hn⟩:∃ n,3 + D * (N + 1) = n:=⟨_,rfl⟩
  obtain ⟨dn,hdn⟩:∃ n,2 + D * (N + 1) = n:=⟨_,rfl⟩
  rw [hn] at HSZ hin
  rw [hdn] at HDS
  have hmul:=Nat.mul_le_mul (show D ≤ 8 by omega) (show N + 1 ≤ 5 by omega)
  have hpos:1 ≤ D * (N + 1):=Nat.mul_pos (by omega) (by omega)
  rw [hn,hdn]
  have n1:IntKind.u64.wrap (dn:Int) = (dn:Int):=IntWalk.u64_in _ (by omega)
  have HNM:=Lib.hid (fun (w:World) => memNew_at n (n:Int) rfl w (by omega))
  have HBN:=Lib.hid (fun (w:World) => Bel.new_in 2 2 rfl w (by omega))
  have hfs:=run_spanQ
  have HB:=Lib.hid hB;have HIN:=Lib.hid hin;have HNN:=Lib.hid (And.intro h1 (And.intro h3 h0));have HN:=Lib.hid (And.intro hn hdn)
  obtain ⟨pa,pc,ca,cc,aa,ac,ba,bc⟩:=x
  have hca:ca = some ⟨b,o,none⟩:=hca
  subst hca
  have hb0:=Below.refl W.heap.size W
  obtain ⟨c0,c1,c2,c3,c4,c5⟩:=HBX.out _ hb0
  obtain ⟨g1,g2,g3,g4,g5,g6⟩:=cfgQ_len N D boot
  simp only [cfgCells,g1,g2,g3,g4,g5,g6] at HW HSZ HSR HDS HBX c0 c1 c2 c3 c4 c5 ⊢
  clear g1 g2 g3 g4 g5 g6
  clear hx hxW hB hch bx hwf hfw hF hsz hin hWs e1 e2 hz1 hz2 h1 h3 h0
  go_enter Tryz.func41,Tryz.ntmps41
  go_wp2_with (rw [← HW.out])
  refine HSZ.out.mono ?_
  rintro e v1 ⟨rfl,hb1⟩
  have HB1:=Lib.hid hb1
  clear hb1 c0 c1 c2 c3 c4 c5
  go_wp2_with fail
  refine (HNM.out v1).mono ?_
  rintro e v2 ⟨mb,rb,rfl,hm1,hm2,hm,hb2⟩
  have HM2:=Lib.hid hm;have HLM:=Lib.hid (And.intro hm1 hm2)
  have HB2:=Lib.hid (HB1.out.trans (hb2.mono HB1.out.size))
  clear hm hm1 hm2 hb2
  go_wp2_with fail
  refine (HBN.out v2).mono ?_
  rintro e v3 ⟨bb,br,rfl,hl1,hl2,hs,hb3⟩
  have HS3:=Lib.hid hs;have HLB:=Lib.hid (And.intro hl1 hl2)
  have HM3:=Lib.hid (HM2.out.below hb3)
  have HB3:=Lib.hid (HB2.out.trans (hb3.mono HB2.out.size))
  clear hs hl1 hl2 hb3
  obtain ⟨c0,c1,c2,c3,c4,c5⟩:=HBX.out _ HB3.out
  have c6:=HCH.out _ HB3.out
  go_wp2_with fail
  refine (HSR.out v3 HB3.out).mono ?_
  rintro e v4 ⟨rfl,hb4⟩
  have HM4:=Lib.hid (HM3.out.below hb4)
  have HB4:=Lib.hid (HB3.out.trans (hb4.mono HB3.out.size))
  have HS4:=Lib.hid (HS3.out.below hb4)
  clear hb4 c0 c1 c2 c3 c4 c5 c6
  have HST:=Lib.hid (memStore_at mb rb (List.replicate n 0) 1 1 boot rfl v4 HM4.out (by rw [List.length_replicate];omega) (by rw [List.length_replicate];omega))
  go_wp2_with fail
  refine HST.out.mono ?_
  rintro e v5 ⟨rfl,hv5⟩
  have hml:=HM2.out.lt
  have hne:bb ≠ rb ∧ br ≠ rb:=by have:=HLB.out;omega
  have HO5:Hid (Only (fun k => k = rb) v4 v5):=Lib.hid (by rw [hv5];exact Only.setCell v4 ⟨rb,1,none⟩ _)
  have HM5:Hid (MemAt v5 mb rb ((List.replicate n 0).set 1 boot)):=Lib.hid (by rw [hv5];exact HM4.out.set 1 boot)
  have HS5:=Lib.hid (HS4.out.kept HO5.out hne.1 hne.2)
  have HB5:Hid (Below W.heap.size W v5):=Lib.hid (by rw [hv5];exact HB4.out.setCell (p:=⟨rb,1,none⟩) (by have:=HLM.out;have:=HB1.out.size;show _ ≤ rb;omega) _)
  clear hv5
  obtain ⟨c0,c1,c2,c3,c4,c5⟩:=HBX.out _ HB5.out
  go_wp2_with fail
  refine (HDS.out v5 HB5.out).mono ?_
  rintro e v6 ⟨rfl,hb6⟩
  have HM6:=Lib.hid (HM5.out.below hb6)
  have HB6:=Lib.hid (HB5.out.trans (hb6.mono HB5.out.size))
  have HS6:=Lib.hid (HS5.out.below hb6)
  clear hb6 c0 c1 c2 c3 c4 c5
  have HST2:=Lib.hid (memStore_at mb rb ((List.replicate n 0).set 1 boot) dn (dn:Int) boot rfl v6 HM6.out (by rw [List.length_set,List.length_replicate];omega) (by rw [List.length_set,List.length_replicate];omega))
  go_wp2_with fail
  refine HST2.out.mono ?_
  rintro e v7 ⟨rfl,hv7⟩
  have HO7:Hid (Only (fun k => k = rb) v6 v7):=Lib.hid (by rw [hv7];exact Only.setCell v6 ⟨rb,dn,none⟩ _)
  have HM7:Hid (MemAt v7 mb rb (((List.replicate n 0).set 1 boot).set dn boot)):=Lib.hid (by rw [hv7];exact HM6.out.set dn boot)
  have HS7:=Lib.hid (HS6.out.kept HO7.out hne.1 hne.2)
  have HB7:Hid (Below W.heap.size W v7):=Lib.hid (by rw [hv7];exact HB6.out.setCell (p:=⟨rb,dn,none⟩) (by have:=HLM.out;have:=HB1.out.size;show _ ≤ rb;omega) _)
  clear hv7
  obtain ⟨c0,c1,c2,c3,c4,c5⟩:=HBX.out _ HB7.out
  go_wp2
  go_ret
  obtain ⟨V,hV⟩:∃ V,V = v7.alloc (.cells (qpV ⟨pa,pc,some ⟨b,o,none⟩,cc,aa,ac,ba,bc⟩ mb bb (.pointer none) (.pointer none) boot boot 0 0 0 0 0) 103):=⟨_,rfl⟩
  suffices hfin:∃ pb mb rb bb br,(Ending.returned (.pointer (some ⟨v7.heap.size,0,none⟩))) = Ending.returned (.pointer (some ⟨pb,0,none⟩)) ∧ PQAt w V (fun k => k = pb) pb mb rb bb br N D boot ⟨pa,pc,some ⟨b,o,none⟩,cc,aa,ac,ba,bc⟩ 0 ⟨((List.replicate n 0).set 1 boot).set dn boot,false,none,none,boot,boot,0,0,0,0,0⟩ 0 0 by rw [hV] at hfin;exact hfin
  have hWb:Below v7.heap.size v7 V:=by rw [hV];exact (Below.refl _ _).alloc (Nat.le_refl _) _
  have hblk:V.heap[v7.heap.size]? = some (.cells (qpV ⟨pa,pc,some ⟨b,o,none⟩,cc,aa,ac,ba,bc⟩ mb bb (.pointer none) (.pointer none) boot boot 0 0 0 0 0) 103 (0,0)):=by rw [hV];exact heap_alloc_new _ _
  have s1:=HB1.out.size
  have s2:=HB2.out.size
  have s3:=HLM.out
  have s4:=HLB.out
  have s5:=HB.out.size
  have s7:=HB7.out.size
  have hm8:=HM7.out.below hWb
  have hs8:=HS7.out.below hWb
  have hl7:=HM7.out.lt
  have hl8:=HS7.out.lt
  obtain ⟨p1,p3,p0⟩:=HNN.out
  have h32:W32 (((List.replicate n 0).set 1 boot).set dn boot):=((w32_zero n).set p0).set p0
  refine ⟨v7.heap.size,mb,rb,bb,br,rfl,hblk,⟨List.replicate 2 false,Quo.first ?_ hm8 hs8 ⟨by omega,by omega,by omega,by omega,Nat.le_refl _⟩ (by rw [List.length_set,List.length_set,List.length_replicate];exact HIN.out) h32 (by show 1 < 2;omega) (fun k hk => ?_),rfl,rfl⟩,⟨rfl,by omega⟩,HX.out,⟨p1,p3,p0⟩,by show (0:Int) ≤ 0 ∧ (0:Int) ≤ 0 ∧ (0:Int) ≤ 0 ∧ (0:Int) ≤ 0 ∧ (0:Int) ≤ 0 ∧ (0:Int) ≤ 0 ∧ (0:Int) ≤ 0 ∧ (0:Int) ≤ 0 ∧ (0:Int) ≤ 0 ∧ (0:Int) ≤ 0;omega,⟨p0.1,p0.2,p0⟩⟩
  · have q:=HB7.out.trans (hWb.mono s7)
    exact HB.out.trans (q.mono s5)
  · have hk:k = v7.heap.size:=hk
    exact ⟨fun a => by unfold HQ at a;omega,by rw [hk];exact (Array.getElem?_eq_some_iff.1 hblk).1⟩
end Go.Proofs.YtmhpcgcloojfbaaGreat
end
section
namespace Go.Proofs.YtmhpcgcloojfbaaGreat
open Go.RowKit Go.Sort
set_option linter.unusedVariables false
set_option linter.unusedSimpArgs false
set_option linter.unusedVariables false
set_option linter.unusedSimpArgs false
open Go.Proofs.YtmhpcgcloojfbaaGreat.Simp
set_option maxRecDepth 100000
set_option maxHeartbeats 12800000
section
variable {w1 w w':World} {B mb rb bb br be:Nat} {E:Nat → Prop} {F:Qr} {ws:List Int} {bs:List Bool} {os og:Option (Nat × QS)}
theorem Quo.stS {ob:Nat} {s:QS} (now:Int) (h:Quo w1 w B E mb rb bb br F be ws bs (some (ob,s)) og) :
    Calls Tryz.prog 25 #[.pointer (some ⟨ob,0,none⟩),.pointer (some ⟨mb,0,none⟩),.pointer (some ⟨bb,0,none⟩),.int .i64 now] w fun e w' => ∃ dn cd mk rg s' ws',e = .returned (.agg (qdV dn cd (.slice none 0 0) 0 mk rg)) ∧ (∃ d,qsend F s ws = (s',ws',d) ∧ dn = d.done ∧ cd = d.code ∧ mk = d.mark ∧ rg = d.ring) ∧ Quo w1 w' B E mb rb bb br F be ws' (ringB12 rg be bs) (some (ob,s')) og ∧ WQ s' ∧ Only (fun k => ¬ E k ∧ B ≤ k) w w':=by
  refine (h.stepS now).mono ?_
  rintro e w' ⟨rfl,hq,hw,ho⟩
  obtain ⟨R,hR⟩:∃ R,qsend F s ws = R:=⟨_,rfl⟩
  rw [hR] at hq hw ⊢
  obtain ⟨s',ws',d⟩:=R
  exact ⟨d.done,d.code,d.mark,d.ring,s',ws',rfl,⟨d,rfl,rfl,rfl,rfl,rfl⟩,hq,hw,ho⟩
theorem Quo.stG {ob:Nat} {s:QS} (now:Int) (h:Quo w1 w B E mb rb bb br F be ws bs os (some (ob,s))) :
    Calls Tryz.prog 25 #[.pointer (some ⟨ob,0,none⟩),.pointer (some ⟨mb,0,none⟩),.pointer (some ⟨bb,0,none⟩),.int .i64 now] w fun e w' => ∃ a c n,∃ dn cd mk rg s' ws',e = .returned (.agg (qdV dn cd (.slice a n c) 0 mk rg)) ∧ (∃ d,qrecv F s ws = (s',ws',d) ∧ dn = d.done ∧ cd = d.code ∧ mk = d.mark ∧ rg = d.ring ∧ n = d.data.length ∧ OwnsOff w' 0 34 1 (.slice a n c) n (wcells d.data) ∧ W32 d.data) ∧ Quo w1 w' B E mb rb bb br F be ws' bs os (some (ob,s')) ∧
      Quo w1 w' B (fun k => E k ∨ Value.ownBlock (.slice a n c) = some k) mb rb bb br F be ws' bs os none ∧ (∀ g,Value.ownBlock (.slice a n c) = some g → ¬ E g ∧ B ≤ g) ∧ WQ s' ∧ Only (fun k => ¬ E k ∧ B ≤ k) w w':=by
  refine (h.stepG now).mono ?_
  rintro e w' ⟨v,rfl,hv,hq,hq2,hg,hw,h32,ho⟩
  obtain ⟨R,hR⟩:∃ R,qrecv F s ws = R:=⟨_,rfl⟩
  rw [hR] at hv hq hq2 hw h32 ⊢
  obtain ⟨s',ws',d⟩:=R
  obtain ⟨a,c,rfl,-⟩:=hv.slice
  exact ⟨a,c,d.data.length,d.done,d.code,d.mark,d.ring,s',ws',rfl,⟨d,rfl,rfl,rfl,rfl,rfl,rfl,hv,h32⟩,hq,hq2,hg,hw,ho⟩
/-- The number that a send,a receive has now. -/
theorem Quo.ownS {ob:Nat} {s:QS} (h:Quo w1 w B E mb rb bb br F be ws bs (some (ob,s)) og):∃ ce sv,OBlk w ob s.own F.d F.n F.src F.dst ce be sv:=by
  obtain ⟨S,⟨ce,sv,m,fs,hx⟩,-⟩:=h.freeS
  exact ⟨ce,sv,hx.blk⟩
theorem Quo.ownG {ob:Nat} {s:QS} (h:Quo w1 w B E mb rb bb br F be ws bs os (some (ob,s))):∃ ce sv,OBlk w ob s.own F.d F.n F.src F.dst ce be sv:=by
  obtain ⟨S,⟨ce,sv,m,fs,hx⟩,-⟩:=h.freeG
  exact ⟨ce,sv,hx.blk⟩
end
/-- The did's box,at block tb: w1: ahead of the step;X: behind the store. Behind this only the box and the play's block are written. -/
structure SteppedQ (W w1 X:World) (E:Nat → Prop) (pb mb rb bb br N D:Nat) (ws3:List Int) (bs3:List Bool) (os og:Option (Nat × QS)) (tb:Nat) (cs:Array Value):Prop where
  box:X.heap[tb]? = some (.cells cs 56 (0,0))
  ne:tb ≠ pb ∧ w1.heap.size ≤ tb
  only:Only (fun k => ¬ E k ∧ W.heap.size ≤ k) w1 X
  quo:Quo W X W.heap.size E mb rb bb br (qr2 N D) 1 ws3 bs3 os og
section
variable {W w1 w5 X:World} {E:Nat → Prop} {pb mb rb bb br N D tb:Nat} {ws3:List Int} {bs3:List Bool} {os og:Option (Nat × QS)} {vs:List Value} {cs:Array Value}
theorem SteppedQ.a (hE:∀ k,E k → k < w1.heap.size) (hpb:E pb) (hd:Quo W w5 W.heap.size (fun k => E k ∨ (w1.heap.size ≤ k ∧ k < w1.heap.size)) mb rb bb br (qr2 N D) 1 ws3 bs3 os og) (ho:Only (fun k => ¬ (E k ∨ (w1.heap.size ≤ k ∧ k < w1.heap.size)) ∧ W.heap.size ≤ k) w1 w5) (hv:vs.length = 9) :
    SteppedQ W w1 ((w5.alloc (.cells (didV false 0 (.slice none 0 0) false false false 0) 56)).setCells w5.heap.size 0 vs) E pb mb rb bb br N D ws3 bs3 os og w5.heap.size vs.toArray:=by
  have hs:=ho.size
  have hb:=hd.below.size
  have hpl:=hE pb hpb
  have hx:=Only.sets (S:=fun k => k = w5.heap.size) rfl vs 0 (Only.refl _ (w5.alloc (.cells (didV false 0 (.slice none 0 0) false false false 0) 56)))
  have hax:Only (fun _ => False) w5 (w5.alloc (.cells (didV false 0 (.slice none 0 0) false false false 0) 56)):=(Only.refl _ _).alloc _
  have hay:Only (fun k => w5.heap.size ≤ k) w5 ((w5.alloc (.cells (didV false 0 (.slice none 0 0) false false false 0) 56)).setCells w5.heap.size 0 vs):=(hax.mono fun _ _ h => h.elim).trans (hx.mono fun k _ h => Nat.le_of_eq h.symm)
  have haz:Only (fun _ => False) w5 ((w5.alloc (.cells (didV false 0 (.slice none 0 0) false false false 0) 56)).setCells w5.heap.size 0 vs):=hay.mono (fun k hk h => by omega)
  refine ⟨blk_did (heap_alloc_new _ _) vs hv,⟨by omega,hs⟩,(ho.mono fun k _ h => ⟨fun e => h.1 (.inl e),h.2⟩).trans (haz.mono fun _ _ h => h.elim),?_⟩
  exact (hd.fewer (fun k h => .inl h)).only haz (fun _ _ h => h.elim) (fun k h => .inl h)
theorem SteppedQ.b (hE:∀ k,E k → k < w1.heap.size) (hpb:E pb) (hW:W.heap.size ≤ w1.heap.size) (hd:Quo W w5 W.heap.size (fun k => E k ∨ (w1.heap.size ≤ k ∧ k < (w1.alloc (.cells (didV false 0 (.slice none 0 0) false false false 0) 56)).heap.size)) mb rb bb br (qr2 N D) 1 ws3 bs3 os og) (ho:Only (fun k => ¬ (E k ∨ (w1.heap.size ≤ k ∧ k < (w1.alloc (.cells (didV false 0 (.slice none 0 0) false false false 0) 56)).heap.size)) ∧ W.heap.size ≤ k) (w1.alloc (.cells (didV false 0 (.slice none 0 0) false false false 0) 56)) w5) (hv:vs.length = 9) :
    SteppedQ W w1 (w5.setCells w1.heap.size 0 vs) E pb mb rb bb br N D ws3 bs3 os og w1.heap.size vs.toArray:=by
  have hs:=ho.size
  have hb:=hd.below.size
  have hpl:=hE pb hpb
  have hz:=World.size_alloc w1 (.cells (didV false 0 (.slice none 0 0) false false false 0) 56)
  have hx:=Only.sets (S:=fun k => k = w1.heap.size) rfl vs 0 (Only.refl _ w5)
  have hax:Only (fun _ => False) w1 (w1.alloc (.cells (didV false 0 (.slice none 0 0) false false false 0) 56)):=(Only.refl _ _).alloc _
  have hnew:w5.heap[w1.heap.size]? = some (.cells (didV false 0 (.slice none 0 0) false false false 0) 56 (0,0)):=ho.at_ (heap_alloc_new w1 _) (fun h => h.1 (.inr ⟨Nat.le_refl _,by omega⟩))
  refine ⟨blk_did hnew vs hv,⟨by omega,Nat.le_refl _⟩,?_,hd.only hx (fun k _ h => ⟨.inr (by omega),by omega⟩) (fun k h => .inl (.inl h))⟩
  exact Only.old (((hax.mono fun _ _ h => h.elim).trans (ho.mono fun k _ h => .inr ⟨fun e => h.1 (.inl e),h.2⟩)).trans (hx.mono fun k _ h => .inl (Nat.le_of_eq h.symm)))
theorem SteppedQ.at_ (h:SteppedQ W w1 X E pb mb rb bb br N D ws3 bs3 os og tb cs) {o:Obj} {k:Nat} (hk:E k) (hp:w1.heap[k]? = some o):X.heap[k]? = some o:=h.only.at_ hp (fun x => x.1 hk)
theorem keepP3 {w:World} {pb i j l:Nat} {u v y:Value} {cs:Array Value} {ty:TypeId} (h:w.heap[pb]? = some (.cells cs ty (0,0))) (h1:cs[i]? = some u) (h2:cs[j]? = some v) (h3:cs[l]? = some y):w.cell? ⟨pb,i,none⟩ = some u ∧ w.cell? ⟨pb,j,none⟩ = some v ∧ w.cell? ⟨pb,l,none⟩ = some y:=⟨cell_blk h h1,cell_blk h h2,cell_blk h h3⟩
end
end Go.Proofs.YtmhpcgcloojfbaaGreat
end
section
namespace Go.Proofs.YtmhpcgcloojfbaaGreat
open Go.RowKit Go.Sort
set_option linter.unusedVariables false
set_option linter.unusedSimpArgs false
set_option linter.unusedVariables false
set_option linter.unusedSimpArgs false
open Go.Proofs.YtmhpcgcloojfbaaGreat.Simp
theorem cellK3 {X Y:World} {b i:Nat} {u:Value} (e:Y.heap[b]? = X.heap[b]?) (h:X.cell? ⟨b,i,none⟩ = some u):Y.cell? ⟨b,i,none⟩ = some u:=by unfold World.cell? at h ⊢;rw [e];exact h
theorem keep_box3 {X:World} {B b i j l:Nat} {u v y:Value} {vs:List Value} (h:X.cell? ⟨b,i,none⟩ = some u ∧ X.cell? ⟨b,j,none⟩ = some v ∧ X.cell? ⟨b,l,none⟩ = some y) (hne:B ≠ b):(X.setCells B 0 vs).cell? ⟨b,i,none⟩ = some u ∧ (X.setCells B 0 vs).cell? ⟨b,j,none⟩ = some v ∧ (X.setCells B 0 vs).cell? ⟨b,l,none⟩ = some y:=by
  have hb:=Only.sets (S:=fun k => k = B) rfl vs 0 (Only.refl _ X)
  have e:=hb.block b (World.block_lt_of_cell? X ⟨b,i,none⟩ h.1) (fun e => hne e.symm)
  exact ⟨cellK3 e h.1,cellK3 e h.2.1,cellK3 e h.2.2⟩
theorem keep_alloc3 {X:World} {b i j l:Nat} {u v y:Value} {o:Obj} (h:X.cell? ⟨b,i,none⟩ = some u ∧ X.cell? ⟨b,j,none⟩ = some v ∧ X.cell? ⟨b,l,none⟩ = some y):(X.alloc o).cell? ⟨b,i,none⟩ = some u ∧ (X.alloc o).cell? ⟨b,j,none⟩ = some v ∧ (X.alloc o).cell? ⟨b,l,none⟩ = some y:=by
  have e:=Below.heap_alloc X o b (World.block_lt_of_cell? X ⟨b,i,none⟩ h.1)
  exact ⟨cellK3 e h.1,cellK3 e h.2.1,cellK3 e h.2.2⟩
end Go.Proofs.YtmhpcgcloojfbaaGreat
end
