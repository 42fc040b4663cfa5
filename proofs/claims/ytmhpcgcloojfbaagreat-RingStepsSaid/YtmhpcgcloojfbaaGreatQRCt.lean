/- Texts of the ring, joined, what is used of them. No condition but those in the statements. -/
import Derived.BigQuiet
import Derived.BigRegion
import Derived.Deep.MidRow
import Derived.Deep.RegionHeld3
import Derived.Deep.Upon
import Derived.IntWalk
import Derived.Laws.EntriesVeiled
import Derived.Shelf.Abstract
import Derived.Test.YtmhpcgcloojfbaaGreatQgF
import Derived.Test.YtmhpcgcloojfbaaGreatQgI
namespace Go.Proofs.YtmhpcgcloojfbaaGreat
open Go.RowKit Go.Sort
set_option linter.unusedVariables false
set_option linter.unusedSimpArgs false
set_option linter.unusedVariables false
set_option linter.unusedSimpArgs false
open Go.Proofs.YtmhpcgcloojfbaaGreat.Simp
set_option maxRecDepth 100000
set_option maxHeartbeats 12800000
/-- What a count tells. -/
def cntQ (F:Qr) (own:Int) (src:Bool) (ws:List Int):Int:=if src = true then (own - ws.getD F.dst 0) % 4294967296 else (ws.getD F.src 0 - own) % 4294967296
def cfnQ (src:Bool):Nat:=if src = true then 54 else 53
/-- A count at block ob,of the blocks S;no: 0: not done yet. -/
def CAt (w:World) (S:Nat → Prop) (ob:Nat) (F:Qr) (be:Nat) (own:Int) (src:Bool) (no:Int):Prop:=∃ ce sv m fs,OBlk w ob (own) F.d F.n F.src F.dst ce be (sv) ∧ OwnsOff w 0 107 1 sv m fs ∧ (∀ g,sv.ownBlock = some g → S g) ∧ S ob ∧ (∀ k,S k → k < w.heap.size) ∧ ((no < 0 ∧ fs = []) ∨ (no = 0 ∧ fs = [.func (.func (cfnQ src)) #[.pointer (some ⟨ob,0,none⟩)] #[]]))
theorem CAt.only {w w':World} {S T:Nat → Prop} {ob:Nat} {F:Qr} {be:Nat} {own:Int} {src:Bool} {no:Int} (h:CAt w S ob F be own src no) (ho:Only T w w') (hT:∀ k,S k → ¬ T k):CAt w' S ob F be own src no:=by
  obtain ⟨ce,sv,m,fs,h1,h2,h3,h4,h5,h6⟩:=h
  exact ⟨ce,sv,m,fs,h1.only ho (hT _ h4),h2.kept ho (fun g hg => hT _ (h3 g hg)),h3,h4,fun k hk => Nat.lt_of_lt_of_le (h5 k hk) ho.size,h6⟩
section
variable {w:World} {mb rb bb br ob:Nat} {F:Qr} {S:Nat → Prop} {be:Nat} {ws:List Int} {bs:List Bool} {own:Int} {src:Bool}
theorem cstep_b (now:Int) (hat:CAt w S ob F be own src 0) (hm:MemAt w mb rb ws) (hb:Bel.SetAt w bb br bs) (hS:¬ S mb ∧ ¬ S rb ∧ ¬ S bb ∧ ¬ S br) (hF:QIn F ws.length) :
    Calls Tryz.prog 25 #[.pointer (some ⟨ob,0,none⟩),.pointer (some ⟨mb,0,none⟩),.pointer (some ⟨bb,0,none⟩),.int .i64 now] w fun e w' => e = .returned (.agg (qdV true 0 (.slice none 0 0) (cntQ F own src ws) true false)) ∧ CAt w' S ob F be own src (-1) ∧ MemAt w' mb rb ws ∧ Bel.SetAt w' bb br bs ∧ Only (fun k => S k ∨ k = rb) w w':=by
  obtain ⟨ce,sv,m,fs,hblk,hrow,hrS,hsb,hlow,hph⟩:=hat
  have hl:=hF.max
  have hin:=hF.inn
  have hlo:=hF.low
  have hob:mb ≠ ob ∧ rb ≠ ob ∧ bb ≠ ob ∧ br ≠ ob:=⟨fun e => hS.1 (e ▸ hsb),fun e => hS.2.1 (e ▸ hsb),fun e => hS.2.2.1 (e ▸ hsb),fun e => hS.2.2.2 (e ▸ hsb)⟩
  have hml:=hm.lt
  have hbl:=hb.lt
  have hol:=hblk.lt
  have hbr:bb ≠ rb ∧ br ≠ rb:=⟨by rintro rfl;have:=hb.head.symm.trans hm.row;simp at this,by rintro rfl;have:=hb.row.symm.trans hm.row;simp at this⟩
  obtain ⟨-,rfl⟩:=hph.resolve_left (fun h => by have:=h.1;omega)
  obtain rfl:m = 1:=by have:=hrow.1;simpa using this.symm
  cases src with
  | true =>
    have hrow:OwnsOff w 0 107 1 sv 1 [.func (.func 54) #[.pointer (some ⟨ob,0,none⟩)] #[]]:=hrow
    refine (gpop (g:=54) (xs:=[.pointer (some ⟨ob,0,none⟩)]) (cs:=[]) now hblk hrow hm hb hob (enters_of Tryz.func54 (by kernel_rfl) rfl) (fun W v' D w1 => D = (qdV true 0 (.slice none 0 0) (cntQ F own true ws) true false) ∧ StepQ (fun k => k = ob ∨ k = rb) W mb rb ob ws own F.d F.n F.src F.dst ce be v' w1) (fun W v' hB hO hR hv hM hB2 => ?_) ?_).mono ?_
    · refine (q_cs_b mb rb ob (.pointer (some ⟨bb,0,none⟩)) ws own F.d F.n F.src F.dst ce be v' W hB hM hl (by omega)).mono ?_
      rintro e w1 ⟨rfl,hst⟩
      exact ⟨_,rfl,rfl,hst⟩
    · rintro W v' D w1 hW hB hv ⟨rfl,hst⟩
      exact ⟨rfl,by simp [Value.oneCell'],fun k => k = ob ∨ k = rb,hst.only,(fun h => by omega)⟩
    rintro e w' ⟨W,v',D,w1,rfl,h1,h2,h3,h4,hM,hB2,⟨rfl,hst⟩,hT,hWs⟩
    have hs2:=h2.size
    have hs5:=(hst.only).size
    have hs6:=hT.size
    have h3':OwnsOff w' 0 107 1 v' 0 []:=by
      refine (h3.kept hst.only (fun k hk hT => ?_)).kept hT (fun k hk hT => by have:=hlow k (hrS k (h4 ▸ hk));omega)
      obtain ⟨cs,hc⟩:=h3.typed k hk
      rcases hT with rfl | rfl
      · have:=hc.symm.trans h1;simp at this
      · exact hS.2.1 (hrS _ (h4 ▸ hk))
    refine ⟨rfl,⟨ce,v',0,[],hst.blk.only hT (by omega),h3',fun g hg => hrS g (h4 ▸ hg),hsb,fun k hk => Nat.lt_of_lt_of_le (hlow k hk) (by omega),.inl ⟨by omega,rfl⟩⟩,hst.mem.only hT (by omega) (by omega),(hB2.kept hst.only (fun h => h.elim hob.2.2.1 (fun h => hbr.1 h)) (fun h => h.elim hob.2.2.2 (fun h => hbr.2 h))).kept hT (by omega) (by omega),?_⟩
    exact Only.old (((h2.mono fun k _ h => .inr (.inl (h ▸ hsb))).trans (hst.only.mono fun k _ h => h.elim (fun h => .inr (.inl (h ▸ hsb))) (fun h => .inr (.inr h)))).trans (hT.mono fun k _ h => .inl (Nat.le_of_eq h.symm)))
  | false =>
    have hrow:OwnsOff w 0 107 1 sv 1 [.func (.func 53) #[.pointer (some ⟨ob,0,none⟩)] #[]]:=hrow
    refine (gpop (g:=53) (xs:=[.pointer (some ⟨ob,0,none⟩)]) (cs:=[]) now hblk hrow hm hb hob (enters_of Tryz.func53 (by kernel_rfl) rfl) (fun W v' D w1 => D = (qdV true 0 (.slice none 0 0) (cntQ F own false ws) true false) ∧ StepQ (fun k => k = ob ∨ k = rb) W mb rb ob ws own F.d F.n F.src F.dst ce be v' w1) (fun W v' hB hO hR hv hM hB2 => ?_) ?_).mono ?_
    · refine (q_cr_b mb rb ob (.pointer (some ⟨bb,0,none⟩)) ws own F.d F.n F.src F.dst ce be v' W hB hM hl (by omega)).mono ?_
      rintro e w1 ⟨rfl,hst⟩
      exact ⟨_,rfl,rfl,hst⟩
    · rintro W v' D w1 hW hB hv ⟨rfl,hst⟩
      exact ⟨rfl,by simp [Value.oneCell'],fun k => k = ob ∨ k = rb,hst.only,(fun h => by omega)⟩
    rintro e w' ⟨W,v',D,w1,rfl,h1,h2,h3,h4,hM,hB2,⟨rfl,hst⟩,hT,hWs⟩
    have hs2:=h2.size
    have hs5:=(hst.only).size
    have hs6:=hT.size
    have h3':OwnsOff w' 0 107 1 v' 0 []:=by
      refine (h3.kept hst.only (fun k hk hT => ?_)).kept hT (fun k hk hT => by have:=hlow k (hrS k (h4 ▸ hk));omega)
      obtain ⟨cs,hc⟩:=h3.typed k hk
      rcases hT with rfl | rfl
      · have:=hc.symm.trans h1;simp at this
      · exact hS.2.1 (hrS _ (h4 ▸ hk))
    refine ⟨rfl,⟨ce,v',0,[],hst.blk.only hT (by omega),h3',fun g hg => hrS g (h4 ▸ hg),hsb,fun k hk => Nat.lt_of_lt_of_le (hlow k hk) (by omega),.inl ⟨by omega,rfl⟩⟩,hst.mem.only hT (by omega) (by omega),(hB2.kept hst.only (fun h => h.elim hob.2.2.1 (fun h => hbr.1 h)) (fun h => h.elim hob.2.2.2 (fun h => hbr.2 h))).kept hT (by omega) (by omega),?_⟩
    exact Only.old (((h2.mono fun k _ h => .inr (.inl (h ▸ hsb))).trans (hst.only.mono fun k _ h => h.elim (fun h => .inr (.inl (h ▸ hsb))) (fun h => .inr (.inr h)))).trans (hT.mono fun k _ h => .inl (Nat.le_of_eq h.symm)))
theorem cstep_nil (now:Int) (hat:CAt w S ob F be own src (-1)) (hbb:Nat) :
    Calls Tryz.prog 25 #[.pointer (some ⟨ob,0,none⟩),.pointer (some ⟨mb,0,none⟩),.pointer (some ⟨hbb,0,none⟩),.int .i64 now] w fun e w' => e = .returned (.agg (qdV false 0 (.slice none 0 0) 0 false false)) ∧ CAt w' S ob F be own src (-1) ∧ Only (fun _ => False) w w':=by
  obtain ⟨ce,sv,m,fs,hblk,hrow,hrS,hsb,hlow,hph⟩:=hat
  obtain ⟨-,rfl⟩:=hph.resolve_right (fun h => by have:=h.1;omega)
  obtain rfl:m = 0:=by have:=hrow.1;simpa using this.symm
  refine (qstep_nil mb hbb ob now own F.d F.n F.src F.dst ce be sv w hblk hrow).mono ?_
  rintro e w' ⟨rfl,ho⟩
  exact ⟨rfl,CAt.only ⟨ce,sv,0,[],hblk,hrow,hrS,hsb,hlow,.inl ⟨by omega,rfl⟩⟩ ho (fun _ _ h => h),ho⟩
end
theorem newC_b (c:Cfg) (x:CfgAt) (k:Nat) (F:Qr) (own:Int) (src:Bool) (w:World) (hx:CfgIn w w.heap.size c x) (wx:CfgWf c) (lx:CfgFew c) (hF:QrOf c k F) (h0:0 ≤ own ∧ own ≤ 4294967295) :
    Calls Tryz.prog 24 #[.agg (cfgCells c x),.int .i64 (k:Int),.int .u32 own,.bool src] w fun e w' => ∃ ob S,e = .returned (.pointer (some ⟨ob,0,none⟩)) ∧ CAt w' S ob F (2 * k + 1) own src 0 ∧ (∀ k,S k → w.heap.size ≤ k) ∧ Below w.heap.size w w':=by
  obtain ⟨W,HW,hB,hWs,bx⟩:=one_cbox w c x 29
  have HBG:=Lib.hid (begin_b c x k F own W (hx.later hB) wx lx hF h0)
  obtain ⟨pa,pc,ca,cc,aa,ac,ba,bc⟩:=x
  obtain ⟨w0,w1,w2,w3,w4,w5⟩:=bx _ (Below.refl _ _)
  simp only [cfgCells] at HW HBG ⊢
  have HB:=Lib.hid hB
  clear hx bx hB
  go_enter Tryz.func24,Tryz.ntmps24
  go_wp2_with (rw [← HW.out])
  refine HBG.out.mono ?_
  rintro e v1 ⟨ob,rfl,hob,hlo,hb1⟩
  have c7:v1.cell? ⟨ob,7,none⟩ = some (.slice none 0 0):=hob.cell rfl
  have g7:=hob.frozen 7
  have HOB:=Lib.hid hob;have HB1:=Lib.hid hb1
  have hol:=hob.lt
  clear hob hb1 w0 w1 w2 w3 w4 w5
  cases src with
  | true =>
    go_wp2
    go_ret
    obtain ⟨g,hg⟩:∃ g,g = v1.heap.size:=⟨_,rfl⟩
    obtain ⟨X,hX⟩:∃ u,u = ((((((((v1).setCell ⟨ob,7,none⟩ (.slice (some ⟨g,0,none⟩) 1 1))).setCell ⟨ob,7,none⟩ (.slice (some ⟨g + 1,0,none⟩) 1 1))).alloc (.cells #[.func (.func 53) #[.pointer (some ⟨ob,0,none⟩)] #[]] 107))).alloc (.cells #[.func (.func 54) #[.pointer (some ⟨ob,0,none⟩)] #[]] 107)):=⟨_,rfl⟩
    rw [← hg,← hX]
    have hgo:g ≠ ob:=by omega
    have hXg:X.heap[g + 1]? = some (.cells #[.func (.func 54) #[.pointer (some ⟨ob,0,none⟩)] #[]] 107 (0,0)):=by rw [hX];exact heap_new_q _ _ (by simp [World.setCell,hg])
    have hBX:OBlk X ob own F.d F.n F.src F.dst (cellQ F own) (2 * k + 1) (.slice (some ⟨g + 1,0,none⟩) 1 1):=by
      rw [hX]
      have q1:=OBlk.setSteps (sv:=(.slice (some ⟨g,0,none⟩) 1 1)) (OBlk.setSteps (sv:=.slice none 0 0) HOB.out (.slice (some ⟨g,0,none⟩) 1 1)) (.slice (some ⟨g + 1,0,none⟩) 1 1)
      exact (q1.at_ (Below.heap_alloc _ _ _ (by simpa [World.setCell] using hol))).at_ (Below.heap_alloc _ _ _ (by simp [World.setCell];omega))
    have hs1:=HB1.out.size
    have hsB:=HB.out.size
    have hXb:Below w.heap.size w X:=by
      rw [hX]
      exact (((((HB.out.trans (HB1.out.mono hsB)).setCell (p:=⟨ob,7,none⟩) (by show w.heap.size ≤ ob;omega) _).setCell (p:=⟨ob,7,none⟩) (by show w.heap.size ≤ ob;omega) _).alloc (by simp [World.setCell];omega) _).alloc (by simp [World.setCell];omega) _)
    have hgX:g + 1 < X.heap.size:=(Array.getElem?_eq_some_iff.1 hXg).1
    exact ⟨ob,(fun i => w.heap.size ≤ i ∧ i < X.heap.size),rfl,⟨cellQ F own,_,1,_,hBX,⟨rfl,.inr ⟨g + 1,0,1,_,rfl,Nat.zero_le _,hXg,Nat.le_refl _,by unfold maxLen;omega,by simp,rfl⟩⟩,fun i hi => (fun (e:g + 1 = i) => e ▸ (show _ from (⟨by omega,hgX⟩:w.heap.size ≤ g + 1 ∧ g + 1 < X.heap.size))) (by simpa [Value.ownBlock] using hi),⟨by omega,hBX.lt⟩,fun i hi => hi.2,.inr ⟨rfl,rfl⟩⟩,fun i hi => hi.1,hXb⟩
  | false =>
    go_wp2
    go_ret
    obtain ⟨g,hg⟩:∃ g,g = v1.heap.size:=⟨_,rfl⟩
    obtain ⟨X,hX⟩:∃ u,u = ((((v1).setCell ⟨ob,7,none⟩ (.slice (some ⟨g,0,none⟩) 1 1))).alloc (.cells #[.func (.func 53) #[.pointer (some ⟨ob,0,none⟩)] #[]] 107)):=⟨_,rfl⟩
    rw [← hg,← hX]
    have hgo:g ≠ ob:=by omega
    have hXg:X.heap[g]? = some (.cells #[.func (.func 53) #[.pointer (some ⟨ob,0,none⟩)] #[]] 107 (0,0)):=by rw [hX];exact heap_new_q _ _ (by simp [World.setCell,hg])
    have hBX:OBlk X ob own F.d F.n F.src F.dst (cellQ F own) (2 * k + 1) (.slice (some ⟨g,0,none⟩) 1 1):=by
      rw [hX]
      exact (OBlk.setSteps (sv:=.slice none 0 0) HOB.out _).at_ (Below.heap_alloc _ _ _ (by simpa [World.setCell] using hol))
    have hs1:=HB1.out.size
    have hsB:=HB.out.size
    have hXb:Below w.heap.size w X:=by
      rw [hX]
      exact (((HB.out.trans (HB1.out.mono hsB)).setCell (p:=⟨ob,7,none⟩) (by show w.heap.size ≤ ob;omega) _).alloc (by simp [World.setCell];omega) _)
    have hgX:g < X.heap.size:=(Array.getElem?_eq_some_iff.1 hXg).1
    exact ⟨ob,(fun i => w.heap.size ≤ i ∧ i < X.heap.size),rfl,⟨cellQ F own,_,1,_,hBX,⟨rfl,.inr ⟨g,0,1,_,rfl,Nat.zero_le _,hXg,Nat.le_refl _,by unfold maxLen;omega,by simp,rfl⟩⟩,fun i hi => (fun (e:g = i) => e ▸ (show _ from (⟨by omega,hgX⟩:w.heap.size ≤ g ∧ g < X.heap.size))) (by simpa [Value.ownBlock] using hi),⟨by omega,hBX.lt⟩,fun i hi => hi.2,.inr ⟨rfl,rfl⟩⟩,fun i hi => hi.1,hXb⟩
end Go.Proofs.YtmhpcgcloojfbaaGreat
