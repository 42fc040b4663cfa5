/- Texts of the ring, joined, what is used of them. No condition but those in the statements. -/
import Derived.BigQuiet
import Derived.BigRegion
import Derived.Deep.MidRow
import Derived.Deep.RegionHeld3
import Derived.Deep.Upon
import Derived.IntWalk
import Derived.Shelf.Abstract
import Derived.Test.YtjfolhkblbakiaaGreatDoorQLK
import Derived.Test.YtjfolhkblbakiaaGreatDoorQgQ
section
namespace Go.Proofs.YtjfolhkblbakiaaGreatDoor
open Go.RowKit Go.Sort
set_option linter.unusedVariables false
set_option linter.unusedSimpArgs false
set_option linter.unusedVariables false
set_option linter.unusedSimpArgs false
open Go.Proofs.YtjfolhkblbakiaaGreatDoor.Simp
set_option maxRecDepth 100000
set_option maxHeartbeats 3200000
/-- Channel k of a configuration is a queue whose words are F's. -/
structure QrOf (c:Cfg) (k:Nat) (F:Qr):Prop where
  src:(srcSpan c k).1 = F.src
  dst:(dstSpan c k).1 = F.dst
  cell:∀ i:Nat,i < F.d → (cellSpan c k i).1 = ((F.src + 1 + i * (F.n + 1):Nat):Int)
  lk:k < c.chans.length
  words:fld (row c.chans k) 3 = F.n
  depth:fld (row c.chans k) 4 = F.d
  low:1 ≤ F.n ∧ F.n ≤ 16 ∧ 1 ≤ F.d ∧ F.d ≤ 8
  chans:c.chans.length ≤ 8
  inn:F.src + 1 + F.d * (F.n + 1) ≤ F.dst ∧ F.dst < (sizeN c).toNat
  size:0 ≤ sizeN c ∧ sizeN c ≤ 65536
theorem chanUpQ {c:Cfg} (h:Accd c) (k:Nat) (hk:k < c.chans.length):beforeN c k + srcN (row c.chans k) + 1 ≤ beforeN c c.chans.length:=by
  have step:∀ d,k + 1 + d ≤ c.chans.length → beforeN c (k + 1) ≤ beforeN c (k + 1 + d):=by
    intro d
    induction d with
    | zero => intro _;exact Int.le_refl _
    | succ d ih =>
      intro hd
      have h1:=ih (by omega)
      have h2:=beforeN_succ c (k + 1 + d)
      have h3:=srcN_of h (i:=k + 1 + d) (by omega)
      have e:k + 1 + (d + 1) = k + 1 + d + 1:=by omega
      rw [e];omega
  have h1:=step (c.chans.length - (k + 1)) (by omega)
  rw [show k + 1 + (c.chans.length - (k + 1)) = c.chans.length by omega] at h1
  have h2:=beforeN_succ c k
  omega
def qrOfN (c:Cfg) (k:Nat):Qr:=⟨(beforeN c k).toNat,(beforeN c k + srcN (row c.chans k)).toNat,(fld (row c.chans k) 3).toNat,(fld (row c.chans k) 4).toNat⟩
theorem qrOf {c:Cfg} (ha:acceptsB c = true) (k:Nat) (hk:k < c.chans.length) (h2:fld (row c.chans k) 0 = 2):QrOf c k (qrOfN c k):=by
  have hA:=accd_of ha
  have hc:chanB c k = true:=(chanB_iff ha k).2 ⟨by omega,by omega⟩
  have hb:=beforeN_in hA (k:=k) (by omega)
  have hb2:=beforeN_in hA (k:=c.chans.length) (Nat.le_refl _)
  obtain ⟨-,w1,w2,w3,w4,-,w6,-⟩:=hA.chan k hk
  have w6:=w6 h2
  have hm:=chanUpQ hA k hk
  have hs:srcN (row c.chans k) = 1 + fld (row c.chans k) 4 + fld (row c.chans k) 4 * fld (row c.chans k) 3:=by unfold srcN;rw [if_neg (by omega)]
  have hz:sizeN c = beforeN c c.chans.length:=if_pos ha
  have e1:srcSpan c k = (beforeN c k,srcN (row c.chans k)):=(if_pos hc).trans (by rw [Int.toNat_natCast])
  have e2:dstSpan c k = (beforeN c k + srcN (row c.chans k),1):=(if_pos hc).trans (by rw [Int.toNat_natCast])
  obtain ⟨n,hn⟩:=Int.eq_ofNat_of_zero_le (show 0 ≤ fld (row c.chans k) 3 by omega)
  obtain ⟨d,hd⟩:=Int.eq_ofNat_of_zero_le (show 0 ≤ fld (row c.chans k) 4 by omega)
  obtain ⟨b,hbn⟩:=Int.eq_ofNat_of_zero_le hb.1
  have hdn:((d * (n + 1):Nat):Int) = (d:Int) + (d:Int) * (n:Int):=by rw [Nat.mul_add];push_cast;omega
  have hs2:srcN (row c.chans k) = 1 + ((d * (n + 1):Nat):Int):=by rw [hs,hn,hd,hdn];omega
  have hF:qrOfN c k = ⟨b,b + 1 + d * (n + 1),n,d⟩:=by
    unfold qrOfN
    rw [hs2,hn,hd,hbn]
    congr 1
    all_goals omega
  rw [hF]
  refine ⟨?_,?_,fun i hi => ?_,hk,hn,hd,⟨by show 1 ≤ n;omega,by show n ≤ 16;omega,by show 1 ≤ d;omega,by show d ≤ 8;omega⟩,hA.chans,⟨Nat.le_refl _,?_⟩,by omega⟩
  · rw [e1];exact hbn
  · rw [e2,hs2,hbn];show (b:Int) + _ = ((b + 1 + d * (n + 1):Nat):Int);omega
  · have e3:cellSpan c k i = (beforeN c k + 1 + (i:Int) * (fld (row c.chans k) 3 + 1),fld (row c.chans k) 3 + 1):=
      (if_pos ⟨hc,by rw [Int.toNat_natCast];exact ⟨h2,by omega,by rw [hd];have:i < d:=hi;omega⟩⟩).trans (by rw [Int.toNat_natCast])
    rw [e3,hn,hbn]
    show (b:Int) + 1 + (i:Int) * ((n:Int) + 1) = ((b + 1 + i * (n + 1):Nat):Int)
    push_cast
    omega
  · show b + 1 + d * (n + 1) < (sizeN c).toNat
    omega
end Go.Proofs.YtjfolhkblbakiaaGreatDoor
end
section
namespace Go.Proofs.YtjfolhkblbakiaaGreatDoor
open Go.RowKit Go.Sort
set_option linter.unusedVariables false
set_option linter.unusedSimpArgs false
set_option linter.unusedVariables false
set_option linter.unusedSimpArgs false
open Go.Proofs.YtjfolhkblbakiaaGreatDoor.Simp
set_option maxRecDepth 100000
set_option maxHeartbeats 3200000
theorem run_spanQ (a b:Int) (w:World):(Instr.field 135 (.agg #[.int .i64 a,.int .i64 b]) 0).run Tryz.prog w = .ok (.int .i64 a) w:=by kernel_rfl
theorem begin_b (c:Cfg) (x:CfgAt) (k:Nat) (F:Qr) (own:Int) (w:World) (hx:CfgIn w w.heap.size c x) (wx:CfgWf c) (lx:CfgFew c) (hF:QrOf c k F) (h0:0 ≤ own ∧ own ≤ 4294967295) :
    Calls Tryz.prog 101 #[.agg (cfgCells c x),.int .i64 (k:Int),.int .u32 own] w fun e w' => ∃ ob,e = .returned (.pointer (some ⟨ob,0,none⟩)) ∧ OBlk w' ob own F.d F.n F.src F.dst (cellQ F own) (2 * k + 1) (.slice none 0 0) ∧ w.heap.size ≤ ob ∧ Below w.heap.size w w':=by
  obtain ⟨b,o,x0,x1,x2,x3,x4,x5,x6,hA,hbl,hrw,hwf,hcc⟩:=hx.rc.at7 wx.wc hF.lk
  have hr:row c.chans k = [x0,x1,x2,x3,x4,x5,x6]:=by unfold row;rw [List.getD_eq_getElem?_getD,hrw];rfl
  have e3:x3 = (F.n:Int):=by have:=hF.words;rw [hr] at this;exact this
  have e4:x4 = (F.d:Int):=by have:=hF.depth;rw [hr] at this;exact this
  subst e3;subst e4
  obtain ⟨W,HW,hB,hWs,bx⟩:=one_cbox w c x 29
  have hxW:=hx.later hB
  have HCC:=Lib.hid (fun (W':World) (h:Below W.heap.size W W') => (show W'.cell? ⟨b,o + k * 7 + 3,none⟩ = some (.int .i64 (F.n:Int)) ∧ W'.cell? ⟨b,o + k * 7 + 4,none⟩ = some (.int .i64 (F.d:Int)) from by
    have q:=hcc W' (hB.trans (h.mono hB.size))
    exact ⟨q.2.2.2.1,q.2.2.2.2.1⟩))
  have HBX:=Lib.hid (fun (W':World) (h:Below W.heap.size W W') => bx W' h)
  have HSR:=Lib.hid (fun (W':World) (h:Below W.heap.size W W') => source_b c x k W' (hxW.later h) wx lx)
  have HDS:=Lib.hid (fun (W':World) (h:Below W.heap.size W W') => dest_b c x k W' (hxW.later h) wx lx)
  have hlow:=hF.low
  obtain ⟨ci,hci⟩:∃ ci:Nat,ci = (own % (F.d:Int)).toNat:=⟨_,rfl⟩
  have hm1:=Int.emod_nonneg own (show (F.d:Int) ≠ 0 by omega)
  have hm2:=Int.emod_lt_of_pos own (show (0:Int) < F.d by omega)
  have hcl:ci < F.d:=by omega
  have HCE:=Lib.hid (fun (W':World) (h:Below W.heap.size W W') => cell_b c x k ci W' (hxW.later h) wx lx)
  have hce:=hF.cell ci hcl
  have htm:own.tmod (F.d:Int) = (ci:Int):=by rw [Int.tmod_eq_emod_of_nonneg h0.1];omega
  have hcq:cellQ F own = F.src + 1 + ci * (F.n + 1):=by unfold cellQ;rw [hci]
  rw [hce] at HCE
  rw [hF.src] at HSR
  rw [hF.dst] at HDS
  rw [← hcq] at HCE
  obtain ⟨ce,hce2⟩:∃ ce,cellQ F own = ce:=⟨_,rfl⟩
  rw [hce2] at HCE ⊢
  have HB:=Lib.hid hB
  have hkl:=hF.lk
  have hcn:=hF.chans
  have d0:((F.d:Int) == 0) = false:=by rw [beq_eq_false_iff_ne];omega
  have d1:¬ ((F.d:Int) = 0):=by omega
  have d2:¬ (F.d = 0):=by omega
  have n1:IntKind.u32.wrap (F.n:Int) = (F.n:Int):=IntWalk.u32_in _ (by omega)
  have n2:IntKind.u32.wrap (F.d:Int) = (F.d:Int):=IntWalk.u32_in _ (by omega)
  have n3:IntKind.i64.wrap (ci:Int) = (ci:Int):=IntWalk.i64_in _ (by omega)
  have n4:IntKind.u32.wrap (ci:Int) = (ci:Int):=IntWalk.u32_in _ (by omega)
  have n5:IntKind.i64.wrap (2 * (k:Int)) = 2 * (k:Int):=IntWalk.i64_in _ (by omega)
  have n6:IntKind.i64.wrap (2 * (k:Int) + 1) = 2 * (k:Int) + 1:=IntWalk.i64_in _ (by omega)
  have k0:(k:Int) < (c.chans.length:Int):=by omega
  have hfs:=run_spanQ
  obtain ⟨pa,pc,ca,cc,aa,ac,ba,bc⟩:=x
  subst hA
  have hb0:=Below.refl W.heap.size W
  obtain ⟨w0,w1,w2,w3,w4,w5⟩:=HBX.out _ hb0
  obtain ⟨k3,k4⟩:=HCC.out _ hb0
  simp only [cfgCells] at HW HSR HDS HCE HBX ⊢
  clear hx hxW hB hcc hrw hr bx hci hm1 hm2 hce hcq hce2
  go_enter Tryz.func101,Tryz.ntmps101
  go_wp2_with (rw [← HW.out])
  clear w0 w1 w2 w3 w4 w5 k3 k4
  refine wp_region_held_drew (S:=(fun W' => Below W.heap.size W W')) (by kernel_rfl) (by exact hb0.drew) (fun hHeld => ?_)
  refine wpAnyH_take (i:=0) rfl (by kernel_rfl) (by kernel_rfl) (by kernel_rfl) (fun _ _ _ h => h) (Or.inl ⟨by rfl,by intro w hSw;(have w0:=(HBX.out _ hSw).1;have w1:=(HBX.out _ hSw).2.1;have w2:=(HBX.out _ hSw).2.2.1;have w3:=(HBX.out _ hSw).2.2.2.1;have w4:=(HBX.out _ hSw).2.2.2.2.1;have w5:=(HBX.out _ hSw).2.2.2.2.2;have k3:=(HCC.out _ hSw).1;have k4:=(HCC.out _ hSw).2);(go_simp <;> with_reducible rfl)⟩) (by assumption) ?_
  (try simp only [Act.put,List.setIfInBounds_toArray,List.set_cons_zero,List.set_cons_succ,List.getElem_toArray,List.getElem_cons_zero,List.getElem_cons_succ])
  refine wpAnyH_take (i:=1) rfl (by kernel_rfl) (by kernel_rfl) (by kernel_rfl) (fun _ _ _ h => h) (Or.inl ⟨by rfl,by intro w hSw;(have w0:=(HBX.out _ hSw).1;have w1:=(HBX.out _ hSw).2.1;have w2:=(HBX.out _ hSw).2.2.1;have w3:=(HBX.out _ hSw).2.2.2.1;have w4:=(HBX.out _ hSw).2.2.2.2.1;have w5:=(HBX.out _ hSw).2.2.2.2.2;have k3:=(HCC.out _ hSw).1;have k4:=(HCC.out _ hSw).2);(go_simp <;> with_reducible rfl)⟩) (by assumption) ?_
  (try simp only [Act.put,List.setIfInBounds_toArray,List.set_cons_zero,List.set_cons_succ,List.getElem_toArray,List.getElem_cons_zero,List.getElem_cons_succ])
  refine wpAnyH_take (i:=2) rfl (by kernel_rfl) (by kernel_rfl) (by kernel_rfl) (fun _ _ _ h => h) (Or.inl ⟨by rfl,by intro w hSw;(have w0:=(HBX.out _ hSw).1;have w1:=(HBX.out _ hSw).2.1;have w2:=(HBX.out _ hSw).2.2.1;have w3:=(HBX.out _ hSw).2.2.2.1;have w4:=(HBX.out _ hSw).2.2.2.2.1;have w5:=(HBX.out _ hSw).2.2.2.2.2;have k3:=(HCC.out _ hSw).1;have k4:=(HCC.out _ hSw).2);(go_simp <;> with_reducible rfl)⟩) (by assumption) ?_
  (try simp only [Act.put,List.setIfInBounds_toArray,List.set_cons_zero,List.set_cons_succ,List.getElem_toArray,List.getElem_cons_zero,List.getElem_cons_succ])
  refine wpAnyH_take (i:=3) rfl (by kernel_rfl) (by kernel_rfl) (by kernel_rfl) (fun _ _ _ h => h) (Or.inl ⟨by rfl,by intro w hSw;(have w0:=(HBX.out _ hSw).1;have w1:=(HBX.out _ hSw).2.1;have w2:=(HBX.out _ hSw).2.2.1;have w3:=(HBX.out _ hSw).2.2.2.1;have w4:=(HBX.out _ hSw).2.2.2.2.1;have w5:=(HBX.out _ hSw).2.2.2.2.2;have k3:=(HCC.out _ hSw).1;have k4:=(HCC.out _ hSw).2);(go_simp <;> with_reducible rfl)⟩) (by assumption) ?_
  (try simp only [Act.put,List.setIfInBounds_toArray,List.set_cons_zero,List.set_cons_succ,List.getElem_toArray,List.getElem_cons_zero,List.getElem_cons_succ])
  refine wpAnyH_take (i:=4) rfl (by kernel_rfl) (by kernel_rfl) (by kernel_rfl) (fun _ _ _ h => h) (Or.inl ⟨by rfl,by intro w hSw;(have w0:=(HBX.out _ hSw).1;have w1:=(HBX.out _ hSw).2.1;have w2:=(HBX.out _ hSw).2.2.1;have w3:=(HBX.out _ hSw).2.2.2.1;have w4:=(HBX.out _ hSw).2.2.2.2.1;have w5:=(HBX.out _ hSw).2.2.2.2.2;have k3:=(HCC.out _ hSw).1;have k4:=(HCC.out _ hSw).2);(go_simp <;> with_reducible rfl)⟩) (by assumption) ?_
  (try simp only [Act.put,List.setIfInBounds_toArray,List.set_cons_zero,List.set_cons_succ,List.getElem_toArray,List.getElem_cons_zero,List.getElem_cons_succ])
  refine wpAnyH_take (i:=5) rfl (by kernel_rfl) (by kernel_rfl) (by kernel_rfl) (fun _ _ _ h => h) (Or.inl ⟨by rfl,by intro w hSw;(have w0:=(HBX.out _ hSw).1;have w1:=(HBX.out _ hSw).2.1;have w2:=(HBX.out _ hSw).2.2.1;have w3:=(HBX.out _ hSw).2.2.2.1;have w4:=(HBX.out _ hSw).2.2.2.2.1;have w5:=(HBX.out _ hSw).2.2.2.2.2;have k3:=(HCC.out _ hSw).1;have k4:=(HCC.out _ hSw).2);(go_simp <;> with_reducible rfl)⟩) (by assumption) ?_
  (try simp only [Act.put,List.setIfInBounds_toArray,List.set_cons_zero,List.set_cons_succ,List.getElem_toArray,List.getElem_cons_zero,List.getElem_cons_succ])
  refine wpAnyH_take (i:=6) rfl (by kernel_rfl) (by kernel_rfl) (by kernel_rfl) (fun _ _ _ h => h) (Or.inl ⟨by rfl,by intro w hSw;(have w0:=(HBX.out _ hSw).1;have w1:=(HBX.out _ hSw).2.1;have w2:=(HBX.out _ hSw).2.2.1;have w3:=(HBX.out _ hSw).2.2.2.1;have w4:=(HBX.out _ hSw).2.2.2.2.1;have w5:=(HBX.out _ hSw).2.2.2.2.2;have k3:=(HCC.out _ hSw).1;have k4:=(HCC.out _ hSw).2);(go_simp <;> with_reducible rfl)⟩) (by assumption) ?_
  (try simp only [Act.put,List.setIfInBounds_toArray,List.set_cons_zero,List.set_cons_succ,List.getElem_toArray,List.getElem_cons_zero,List.getElem_cons_succ])
  refine wpAnyH_take (i:=7) rfl (by kernel_rfl) (by kernel_rfl) (by kernel_rfl) (fun _ _ _ h => h) (Or.inl ⟨by rfl,by intro w hSw;(have w0:=(HBX.out _ hSw).1;have w1:=(HBX.out _ hSw).2.1;have w2:=(HBX.out _ hSw).2.2.1;have w3:=(HBX.out _ hSw).2.2.2.1;have w4:=(HBX.out _ hSw).2.2.2.2.1;have w5:=(HBX.out _ hSw).2.2.2.2.2;have k3:=(HCC.out _ hSw).1;have k4:=(HCC.out _ hSw).2);(go_simp <;> with_reducible rfl)⟩) (by assumption) ?_
  (try simp only [Act.put,List.setIfInBounds_toArray,List.set_cons_zero,List.set_cons_succ,List.getElem_toArray,List.getElem_cons_zero,List.getElem_cons_succ])
  refine wpAnyH_take (i:=8) rfl (by kernel_rfl) (by kernel_rfl) (by kernel_rfl) (fun _ _ _ h => h) (Or.inl ⟨by rfl,by intro w hSw;(have w0:=(HBX.out _ hSw).1;have w1:=(HBX.out _ hSw).2.1;have w2:=(HBX.out _ hSw).2.2.1;have w3:=(HBX.out _ hSw).2.2.2.1;have w4:=(HBX.out _ hSw).2.2.2.2.1;have w5:=(HBX.out _ hSw).2.2.2.2.2;have k3:=(HCC.out _ hSw).1;have k4:=(HCC.out _ hSw).2);(go_simp <;> with_reducible rfl)⟩) (by assumption) ?_
  (try simp only [Act.put,List.setIfInBounds_toArray,List.set_cons_zero,List.set_cons_succ,List.getElem_toArray,List.getElem_cons_zero,List.getElem_cons_succ])
  refine wpAnyH_take (i:=9) rfl (by kernel_rfl) (by kernel_rfl) (by kernel_rfl) (fun _ _ _ h => h) (Or.inl ⟨by rfl,by intro w hSw;(have w0:=(HBX.out _ hSw).1;have w1:=(HBX.out _ hSw).2.1;have w2:=(HBX.out _ hSw).2.2.1;have w3:=(HBX.out _ hSw).2.2.2.1;have w4:=(HBX.out _ hSw).2.2.2.2.1;have w5:=(HBX.out _ hSw).2.2.2.2.2;have k3:=(HCC.out _ hSw).1;have k4:=(HCC.out _ hSw).2);(go_simp <;> with_reducible rfl)⟩) (by assumption) ?_
  (try simp only [Act.put,List.setIfInBounds_toArray,List.set_cons_zero,List.set_cons_succ,List.getElem_toArray,List.getElem_cons_zero,List.getElem_cons_succ])
  refine wpAnyH_take (i:=10) rfl (by kernel_rfl) (by kernel_rfl) (by kernel_rfl) (fun _ _ _ h => h) (Or.inl ⟨by rfl,by intro w hSw;(have w0:=(HBX.out _ hSw).1;have w1:=(HBX.out _ hSw).2.1;have w2:=(HBX.out _ hSw).2.2.1;have w3:=(HBX.out _ hSw).2.2.2.1;have w4:=(HBX.out _ hSw).2.2.2.2.1;have w5:=(HBX.out _ hSw).2.2.2.2.2;have k3:=(HCC.out _ hSw).1;have k4:=(HCC.out _ hSw).2);(go_simp <;> with_reducible rfl)⟩) (by assumption) ?_
  (try simp only [Act.put,List.setIfInBounds_toArray,List.set_cons_zero,List.set_cons_succ,List.getElem_toArray,List.getElem_cons_zero,List.getElem_cons_succ])
  refine wpAnyH_take (i:=13) rfl (by kernel_rfl) (by kernel_rfl) (by kernel_rfl) (fun _ _ _ h => h) (Or.inl ⟨by rfl,by intro w hSw;(have w0:=(HBX.out _ hSw).1;have w1:=(HBX.out _ hSw).2.1;have w2:=(HBX.out _ hSw).2.2.1;have w3:=(HBX.out _ hSw).2.2.2.1;have w4:=(HBX.out _ hSw).2.2.2.2.1;have w5:=(HBX.out _ hSw).2.2.2.2.2;have k3:=(HCC.out _ hSw).1;have k4:=(HCC.out _ hSw).2);(go_simp <;> with_reducible rfl)⟩) (by assumption) ?_
  (try simp only [Act.put,List.setIfInBounds_toArray,List.set_cons_zero,List.set_cons_succ,List.getElem_toArray,List.getElem_cons_zero,List.getElem_cons_succ])
  refine wpAnyH_take (i:=14) rfl (by kernel_rfl) (by kernel_rfl) (by kernel_rfl) (fun _ _ _ h => h) (Or.inl ⟨by rfl,by intro w hSw;(have w0:=(HBX.out _ hSw).1;have w1:=(HBX.out _ hSw).2.1;have w2:=(HBX.out _ hSw).2.2.1;have w3:=(HBX.out _ hSw).2.2.2.1;have w4:=(HBX.out _ hSw).2.2.2.2.1;have w5:=(HBX.out _ hSw).2.2.2.2.2;have k3:=(HCC.out _ hSw).1;have k4:=(HCC.out _ hSw).2);(go_simp <;> with_reducible rfl)⟩) (by assumption) ?_
  (try simp only [Act.put,List.setIfInBounds_toArray,List.set_cons_zero,List.set_cons_succ,List.getElem_toArray,List.getElem_cons_zero,List.getElem_cons_succ])
  refine wpAnyH_take (i:=17) rfl (by kernel_rfl) (by kernel_rfl) (by kernel_rfl) (fun _ _ _ h => h) (Or.inl ⟨by rfl,by intro w hSw;(have w0:=(HBX.out _ hSw).1;have w1:=(HBX.out _ hSw).2.1;have w2:=(HBX.out _ hSw).2.2.1;have w3:=(HBX.out _ hSw).2.2.2.1;have w4:=(HBX.out _ hSw).2.2.2.2.1;have w5:=(HBX.out _ hSw).2.2.2.2.2;have k3:=(HCC.out _ hSw).1;have k4:=(HCC.out _ hSw).2);(go_simp <;> with_reducible rfl)⟩) (by assumption) ?_
  (try simp only [Act.put,List.setIfInBounds_toArray,List.set_cons_zero,List.set_cons_succ,List.getElem_toArray,List.getElem_cons_zero,List.getElem_cons_succ])
  refine wpAnyH_take (i:=18) rfl (by kernel_rfl) (by kernel_rfl) (by kernel_rfl) (fun _ _ _ h => h) (Or.inl ⟨by rfl,by intro w hSw;(have w0:=(HBX.out _ hSw).1;have w1:=(HBX.out _ hSw).2.1;have w2:=(HBX.out _ hSw).2.2.1;have w3:=(HBX.out _ hSw).2.2.2.1;have w4:=(HBX.out _ hSw).2.2.2.2.1;have w5:=(HBX.out _ hSw).2.2.2.2.2;have k3:=(HCC.out _ hSw).1;have k4:=(HCC.out _ hSw).2);(go_simp <;> with_reducible rfl)⟩) (by assumption) ?_
  (try simp only [Act.put,List.setIfInBounds_toArray,List.set_cons_zero,List.set_cons_succ,List.getElem_toArray,List.getElem_cons_zero,List.getElem_cons_succ])
  refine wpAnyH_take (i:=19) rfl (by kernel_rfl) (by kernel_rfl) (by kernel_rfl) (fun _ _ _ h => h) (Or.inl ⟨by rfl,by intro w hSw;(have w0:=(HBX.out _ hSw).1;have w1:=(HBX.out _ hSw).2.1;have w2:=(HBX.out _ hSw).2.2.1;have w3:=(HBX.out _ hSw).2.2.2.1;have w4:=(HBX.out _ hSw).2.2.2.2.1;have w5:=(HBX.out _ hSw).2.2.2.2.2;have k3:=(HCC.out _ hSw).1;have k4:=(HCC.out _ hSw).2);(go_simp <;> with_reducible rfl)⟩) (by assumption) ?_
  (try simp only [Act.put,List.setIfInBounds_toArray,List.set_cons_zero,List.set_cons_succ,List.getElem_toArray,List.getElem_cons_zero,List.getElem_cons_succ])
  refine wpAnyH_take (i:=20) rfl (by kernel_rfl) (by kernel_rfl) (by kernel_rfl) (fun _ _ _ h => h) (Or.inl ⟨by rfl,by intro w hSw;(have w0:=(HBX.out _ hSw).1;have w1:=(HBX.out _ hSw).2.1;have w2:=(HBX.out _ hSw).2.2.1;have w3:=(HBX.out _ hSw).2.2.2.1;have w4:=(HBX.out _ hSw).2.2.2.2.1;have w5:=(HBX.out _ hSw).2.2.2.2.2;have k3:=(HCC.out _ hSw).1;have k4:=(HCC.out _ hSw).2);(go_simp <;> with_reducible rfl)⟩) (by assumption) ?_
  (try simp only [Act.put,List.setIfInBounds_toArray,List.set_cons_zero,List.set_cons_succ,List.getElem_toArray,List.getElem_cons_zero,List.getElem_cons_succ])
  refine wpAnyH_take (i:=21) rfl (by kernel_rfl) (by kernel_rfl) (by kernel_rfl) (fun _ _ _ h => h) (Or.inl ⟨by rfl,by intro w hSw;(have w0:=(HBX.out _ hSw).1;have w1:=(HBX.out _ hSw).2.1;have w2:=(HBX.out _ hSw).2.2.1;have w3:=(HBX.out _ hSw).2.2.2.1;have w4:=(HBX.out _ hSw).2.2.2.2.1;have w5:=(HBX.out _ hSw).2.2.2.2.2;have k3:=(HCC.out _ hSw).1;have k4:=(HCC.out _ hSw).2);(go_simp <;> with_reducible rfl)⟩) (by assumption) ?_
  (try simp only [Act.put,List.setIfInBounds_toArray,List.set_cons_zero,List.set_cons_succ,List.getElem_toArray,List.getElem_cons_zero,List.getElem_cons_succ])
  refine wpAnyH_take (i:=22) rfl (by kernel_rfl) (by kernel_rfl) (by kernel_rfl) (fun _ _ _ h => h) (Or.inl ⟨by rfl,by intro w hSw;(have w0:=(HBX.out _ hSw).1;have w1:=(HBX.out _ hSw).2.1;have w2:=(HBX.out _ hSw).2.2.1;have w3:=(HBX.out _ hSw).2.2.2.1;have w4:=(HBX.out _ hSw).2.2.2.2.1;have w5:=(HBX.out _ hSw).2.2.2.2.2;have k3:=(HCC.out _ hSw).1;have k4:=(HCC.out _ hSw).2);(go_simp <;> with_reducible rfl)⟩) (by assumption) ?_
  (try simp only [Act.put,List.setIfInBounds_toArray,List.set_cons_zero,List.set_cons_succ,List.getElem_toArray,List.getElem_cons_zero,List.getElem_cons_succ])
  refine wpAnyH_take (i:=25) rfl (by kernel_rfl) (by kernel_rfl) (by kernel_rfl) (fun _ _ _ h => h) (Or.inl ⟨by rfl,by intro w hSw;(have w0:=(HBX.out _ hSw).1;have w1:=(HBX.out _ hSw).2.1;have w2:=(HBX.out _ hSw).2.2.1;have w3:=(HBX.out _ hSw).2.2.2.1;have w4:=(HBX.out _ hSw).2.2.2.2.1;have w5:=(HBX.out _ hSw).2.2.2.2.2;have k3:=(HCC.out _ hSw).1;have k4:=(HCC.out _ hSw).2);(go_simp <;> with_reducible rfl)⟩) (by assumption) ?_
  (try simp only [Act.put,List.setIfInBounds_toArray,List.set_cons_zero,List.set_cons_succ,List.getElem_toArray,List.getElem_cons_zero,List.getElem_cons_succ])
  refine wpAnyH_take (i:=26) rfl (by kernel_rfl) (by kernel_rfl) (by kernel_rfl) (fun _ _ _ h => h) (Or.inl ⟨by rfl,by intro w hSw;(have w0:=(HBX.out _ hSw).1;have w1:=(HBX.out _ hSw).2.1;have w2:=(HBX.out _ hSw).2.2.1;have w3:=(HBX.out _ hSw).2.2.2.1;have w4:=(HBX.out _ hSw).2.2.2.2.1;have w5:=(HBX.out _ hSw).2.2.2.2.2;have k3:=(HCC.out _ hSw).1;have k4:=(HCC.out _ hSw).2);(go_simp <;> with_reducible rfl)⟩) (by assumption) ?_
  (try simp only [Act.put,List.setIfInBounds_toArray,List.set_cons_zero,List.set_cons_succ,List.getElem_toArray,List.getElem_cons_zero,List.getElem_cons_succ])
  refine wpAnyH_take (i:=27) rfl (by kernel_rfl) (by kernel_rfl) (by kernel_rfl) (fun _ _ _ h => h) (Or.inl ⟨by rfl,by intro w hSw;(have w0:=(HBX.out _ hSw).1;have w1:=(HBX.out _ hSw).2.1;have w2:=(HBX.out _ hSw).2.2.1;have w3:=(HBX.out _ hSw).2.2.2.1;have w4:=(HBX.out _ hSw).2.2.2.2.1;have w5:=(HBX.out _ hSw).2.2.2.2.2;have k3:=(HCC.out _ hSw).1;have k4:=(HCC.out _ hSw).2);(go_simp <;> with_reducible rfl)⟩) (by assumption) ?_
  (try simp only [Act.put,List.setIfInBounds_toArray,List.set_cons_zero,List.set_cons_succ,List.getElem_toArray,List.getElem_cons_zero,List.getElem_cons_succ])
  refine wpAnyH_ready (rs:=[11]) (by kernel_rfl) (by simp) (AllReadyH.cons rfl (fun K hK => ?_) AllReadyH.nil)
  go_simp
  refine (HSR.out _ hHeld).mono ?_
  rintro e wa ⟨rfl,hb_wa⟩
  refine hK.out _ _ (by exact hHeld.trans (hb_wa.mono hHeld.size)) (fun hHeld => ?_)
  clear hK K
  (try simp only [Act.put,List.setIfInBounds_toArray,List.set_cons_zero,List.set_cons_succ,List.getElem_toArray,List.getElem_cons_zero,List.getElem_cons_succ])
  refine wpAnyH_take (i:=12) rfl (by kernel_rfl) (by kernel_rfl) (by kernel_rfl) (fun _ _ _ h => h) (Or.inl ⟨by rfl,by intro w hSw;(have w0:=(HBX.out _ hSw).1;have w1:=(HBX.out _ hSw).2.1;have w2:=(HBX.out _ hSw).2.2.1;have w3:=(HBX.out _ hSw).2.2.2.1;have w4:=(HBX.out _ hSw).2.2.2.2.1;have w5:=(HBX.out _ hSw).2.2.2.2.2;have k3:=(HCC.out _ hSw).1;have k4:=(HCC.out _ hSw).2);(go_simp <;> with_reducible rfl)⟩) (by assumption) ?_
  (try simp only [Act.put,List.setIfInBounds_toArray,List.set_cons_zero,List.set_cons_succ,List.getElem_toArray,List.getElem_cons_zero,List.getElem_cons_succ])
  refine wpAnyH_ready (rs:=[15]) (by kernel_rfl) (by simp) (AllReadyH.cons rfl (fun K hK => ?_) AllReadyH.nil)
  go_simp
  refine (HDS.out _ hHeld).mono ?_
  rintro e wb ⟨rfl,hb_wb⟩
  refine hK.out _ _ (by exact hHeld.trans (hb_wb.mono hHeld.size)) (fun hHeld => ?_)
  clear hK K
  (try simp only [Act.put,List.setIfInBounds_toArray,List.set_cons_zero,List.set_cons_succ,List.getElem_toArray,List.getElem_cons_zero,List.getElem_cons_succ])
  refine wpAnyH_take (i:=16) rfl (by kernel_rfl) (by kernel_rfl) (by kernel_rfl) (fun _ _ _ h => h) (Or.inl ⟨by rfl,by intro w hSw;(have w0:=(HBX.out _ hSw).1;have w1:=(HBX.out _ hSw).2.1;have w2:=(HBX.out _ hSw).2.2.1;have w3:=(HBX.out _ hSw).2.2.2.1;have w4:=(HBX.out _ hSw).2.2.2.2.1;have w5:=(HBX.out _ hSw).2.2.2.2.2;have k3:=(HCC.out _ hSw).1;have k4:=(HCC.out _ hSw).2);(go_simp <;> with_reducible rfl)⟩) (by assumption) ?_
  (try simp only [Act.put,List.setIfInBounds_toArray,List.set_cons_zero,List.set_cons_succ,List.getElem_toArray,List.getElem_cons_zero,List.getElem_cons_succ])
  refine wpAnyH_ready (rs:=[23]) (by kernel_rfl) (by simp) (AllReadyH.cons rfl (fun K hK => ?_) AllReadyH.nil)
  go_simp
  refine (HCE.out _ hHeld).mono ?_
  rintro e wc ⟨rfl,hb_wc⟩
  refine hK.out _ _ (by exact hHeld.trans (hb_wc.mono hHeld.size)) (fun hHeld => ?_)
  clear hK K
  (try simp only [Act.put,List.setIfInBounds_toArray,List.set_cons_zero,List.set_cons_succ,List.getElem_toArray,List.getElem_cons_zero,List.getElem_cons_succ])
  refine wpAnyH_take (i:=24) rfl (by kernel_rfl) (by kernel_rfl) (by kernel_rfl) (fun _ _ _ h => h) (Or.inl ⟨by rfl,by intro w hSw;(have w0:=(HBX.out _ hSw).1;have w1:=(HBX.out _ hSw).2.1;have w2:=(HBX.out _ hSw).2.2.1;have w3:=(HBX.out _ hSw).2.2.2.1;have w4:=(HBX.out _ hSw).2.2.2.2.1;have w5:=(HBX.out _ hSw).2.2.2.2.2;have k3:=(HCC.out _ hSw).1;have k4:=(HCC.out _ hSw).2);(go_simp <;> with_reducible rfl)⟩) (by assumption) ?_
  (try simp only [Act.put,List.setIfInBounds_toArray,List.set_cons_zero,List.set_cons_succ,List.getElem_toArray,List.getElem_cons_zero,List.getElem_cons_succ])
  refine wpAnyH_take (i:=28) rfl (by kernel_rfl) (by kernel_rfl) (by kernel_rfl) (fun _ _ _ h => h) (Or.inl ⟨by rfl,by intro w hSw;(have w0:=(HBX.out _ hSw).1;have w1:=(HBX.out _ hSw).2.1;have w2:=(HBX.out _ hSw).2.2.1;have w3:=(HBX.out _ hSw).2.2.2.1;have w4:=(HBX.out _ hSw).2.2.2.2.1;have w5:=(HBX.out _ hSw).2.2.2.2.2;have k3:=(HCC.out _ hSw).1;have k4:=(HCC.out _ hSw).2);(go_simp <;> with_reducible rfl)⟩) (by assumption) ?_
  (try simp only [Act.put,List.setIfInBounds_toArray,List.set_cons_zero,List.set_cons_succ,List.getElem_toArray,List.getElem_cons_zero,List.getElem_cons_succ])
  refine wpAnyH_ready (rs:=[29]) (by kernel_rfl) (by simp) (AllReadyH.cons rfl (fun K hK => ?_) AllReadyH.nil)
  have HZ29:=Lib.hid hHeld
  go_simp
  refine hK.out _ _ (by exact hHeld.alloc hHeld.size _) (fun hHeld => ?_)
  clear hK K
  (try simp only [Act.put,List.setIfInBounds_toArray,List.set_cons_zero,List.set_cons_succ,List.getElem_toArray,List.getElem_cons_zero,List.getElem_cons_succ])
  refine wpAnyH_take (i:=30) rfl (by kernel_rfl) (by kernel_rfl) (by kernel_rfl) (fun _ _ _ h => h) (Or.inl ⟨by rfl,by intro w hSw;(have w0:=(HBX.out _ hSw).1;have w1:=(HBX.out _ hSw).2.1;have w2:=(HBX.out _ hSw).2.2.1;have w3:=(HBX.out _ hSw).2.2.2.1;have w4:=(HBX.out _ hSw).2.2.2.2.1;have w5:=(HBX.out _ hSw).2.2.2.2.2;have k3:=(HCC.out _ hSw).1;have k4:=(HCC.out _ hSw).2);(go_simp <;> with_reducible rfl)⟩) (by assumption) ?_
  (try simp only [Act.put,List.setIfInBounds_toArray,List.set_cons_zero,List.set_cons_succ,List.getElem_toArray,List.getElem_cons_zero,List.getElem_cons_succ])
  refine wpAnyH_done (by kernel_rfl) ?_ _
  clear hHeld
  go_wp2
  go_ret
  refine ⟨wc.heap.size,rfl,?_,?_,?_⟩
  · unfold OBlk oV
    rw [show ((2 * k + 1:Nat):Int) = 2 * (k:Int) + 1 by omega]
    exact heap_alloc_new wc _
  · have:=HZ29.out.size;omega
  · exact HB.out.trans ((HZ29.out.mono HB.out.size).alloc (by have:=HZ29.out.size;have:=HB.out.size;omega) _)
end Go.Proofs.YtjfolhkblbakiaaGreatDoor
end
