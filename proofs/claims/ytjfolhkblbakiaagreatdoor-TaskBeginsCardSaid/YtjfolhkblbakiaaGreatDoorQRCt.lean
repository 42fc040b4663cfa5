/- Texts of the ring, joined, what is used of them. No condition but those in the statements. -/
import Derived.BigQuiet
import Derived.BigRegion
import Derived.ChangeSlices
import Derived.Deep.Grids
import Derived.Deep.MidRow
import Derived.Deep.RegionHeld3
import Derived.Deep.Upon
import Derived.IntWalk
import Derived.Laws.EntriesVeiled
import Derived.ProofKit
import Derived.Shelf.Abstract
import Derived.Test.YtjfolhkblbakiaaGreatDoorQRK
import Derived.Test.YtjfolhkblbakiaaGreatDoorQgA
import Derived.Test.YtjfolhkblbakiaaGreatDoorQgF
import Derived.Test.YtjfolhkblbakiaaGreatDoorQgO
namespace Go.Proofs.YtjfolhkblbakiaaGreatDoor
open Go.RowKit Go.Sort
set_option linter.unusedVariables false
set_option linter.unusedSimpArgs false
set_option linter.unusedVariables false
set_option linter.unusedSimpArgs false
open Go.Proofs.YtjfolhkblbakiaaGreatDoor.Simp
set_option maxRecDepth 100000
set_option maxHeartbeats 12800000
def cfnQ (src:Bool):Nat:=if src = true then 112 else 111
/-- A count at block ob,of the blocks S;no: 0: not done yet. -/
def CAt (w:World) (S:Nat → Prop) (ob:Nat) (F:Qr) (be:Nat) (own:Int) (src:Bool) (no:Int):Prop:=∃ ce sv m fs,OBlk w ob (own) F.d F.n F.src F.dst ce be (sv) ∧ OwnsOff w 0 204 1 sv m fs ∧ (∀ g,sv.ownBlock = some g → S g) ∧ S ob ∧ (∀ k,S k → k < w.heap.size) ∧ ((no < 0 ∧ fs = []) ∨ (no = 0 ∧ fs = [.func (.func (cfnQ src)) #[.pointer (some ⟨ob,0,none⟩)] #[]]))
theorem CAt.only {w w':World} {S T:Nat → Prop} {ob:Nat} {F:Qr} {be:Nat} {own:Int} {src:Bool} {no:Int} (h:CAt w S ob F be own src no) (ho:Only T w w') (hT:∀ k,S k → ¬ T k):CAt w' S ob F be own src no:=by
  obtain ⟨ce,sv,m,fs,h1,h2,h3,h4,h5,h6⟩:=h
  exact ⟨ce,sv,m,fs,h1.only ho (hT _ h4),h2.kept ho (fun g hg => hT _ (h3 g hg)),h3,h4,fun k hk => Nat.lt_of_lt_of_le (h5 k hk) ho.size,h6⟩
theorem newC_b (c:Cfg) (x:CfgAt) (k:Nat) (F:Qr) (own:Int) (src:Bool) (w:World) (hx:CfgIn w w.heap.size c x) (wx:CfgWf c) (lx:CfgFew c) (hF:QrOf c k F) (h0:0 ≤ own ∧ own ≤ 4294967295) :
    Calls Tryz.prog 76 #[.agg (cfgCells c x),.int .i64 (k:Int),.int .u32 own,.bool src] w fun e w' => ∃ ob S,e = .returned (.pointer (some ⟨ob,0,none⟩)) ∧ CAt w' S ob F (2 * k + 1) own src 0 ∧ (∀ k,S k → w.heap.size ≤ k) ∧ Below w.heap.size w w':=by
  obtain ⟨W,HW,hB,hWs,bx⟩:=one_cbox w c x 29
  have HBG:=Lib.hid (begin_b c x k F own W (hx.later hB) wx lx hF h0)
  obtain ⟨pa,pc,ca,cc,aa,ac,ba,bc⟩:=x
  obtain ⟨w0,w1,w2,w3,w4,w5⟩:=bx _ (Below.refl _ _)
  simp only [cfgCells] at HW HBG ⊢
  have HB:=Lib.hid hB
  clear hx bx hB
  go_enter Tryz.func76,Tryz.ntmps76
  go_wp2_with (rw [← HW.out])
  refine HBG.out.mono ?_
  rintro e v1 ⟨ob,rfl,hob,hlo,hb1⟩
  have c7:v1.cell? ⟨ob,7,none⟩ = some (.slice none 0 0):=hob.cell rfl
  have g7:=hob.frozen 7
  have HOB:=Lib.hid hob;have HB1:=Lib.hid hb1
  have hol:=hob.lt
  clear hob hb1 w0 w1 w2 w3 w4 w5
  cases src with
  | true =>
    go_wp2
    go_ret
    obtain ⟨g,hg⟩:∃ g,g = v1.heap.size:=⟨_,rfl⟩
    obtain ⟨X,hX⟩:∃ u,u = ((((((((v1).setCell ⟨ob,7,none⟩ (.slice (some ⟨g,0,none⟩) 1 1))).setCell ⟨ob,7,none⟩ (.slice (some ⟨g + 1,0,none⟩) 1 1))).alloc (.cells #[.func (.func 111) #[.pointer (some ⟨ob,0,none⟩)] #[]] 204))).alloc (.cells #[.func (.func 112) #[.pointer (some ⟨ob,0,none⟩)] #[]] 204)):=⟨_,rfl⟩
    rw [← hg,← hX]
    have hgo:g ≠ ob:=by omega
    have hXg:X.heap[g + 1]? = some (.cells #[.func (.func 112) #[.pointer (some ⟨ob,0,none⟩)] #[]] 204 (0,0)):=by rw [hX];exact heap_new_q _ _ (by simp [World.setCell,hg])
    have hBX:OBlk X ob own F.d F.n F.src F.dst (cellQ F own) (2 * k + 1) (.slice (some ⟨g + 1,0,none⟩) 1 1):=by
      rw [hX]
      have q1:=OBlk.setSteps (sv:=(.slice (some ⟨g,0,none⟩) 1 1)) (OBlk.setSteps (sv:=.slice none 0 0) HOB.out (.slice (some ⟨g,0,none⟩) 1 1)) (.slice (some ⟨g + 1,0,none⟩) 1 1)
      exact (q1.at_ (Below.heap_alloc _ _ _ (by simpa [World.setCell] using hol))).at_ (Below.heap_alloc _ _ _ (by simp [World.setCell];omega))
    have hs1:=HB1.out.size
    have hsB:=HB.out.size
    have hXb:Below w.heap.size w X:=by
      rw [hX]
      exact (((((HB.out.trans (HB1.out.mono hsB)).setCell (p:=⟨ob,7,none⟩) (by show w.heap.size ≤ ob;omega) _).setCell (p:=⟨ob,7,none⟩) (by show w.heap.size ≤ ob;omega) _).alloc (by simp [World.setCell];omega) _).alloc (by simp [World.setCell];omega) _)
    have hgX:g + 1 < X.heap.size:=(Array.getElem?_eq_some_iff.1 hXg).1
    exact ⟨ob,(fun i => w.heap.size ≤ i ∧ i < X.heap.size),rfl,⟨cellQ F own,_,1,_,hBX,⟨rfl,.inr ⟨g + 1,0,1,_,rfl,Nat.zero_le _,hXg,Nat.le_refl _,by unfold maxLen;omega,by simp,rfl⟩⟩,fun i hi => (fun (e:g + 1 = i) => e ▸ (show _ from (⟨by omega,hgX⟩:w.heap.size ≤ g + 1 ∧ g + 1 < X.heap.size))) (by simpa [Value.ownBlock] using hi),⟨by omega,hBX.lt⟩,fun i hi => hi.2,.inr ⟨rfl,rfl⟩⟩,fun i hi => hi.1,hXb⟩
  | false =>
    go_wp2
    go_ret
    obtain ⟨g,hg⟩:∃ g,g = v1.heap.size:=⟨_,rfl⟩
    obtain ⟨X,hX⟩:∃ u,u = ((((v1).setCell ⟨ob,7,none⟩ (.slice (some ⟨g,0,none⟩) 1 1))).alloc (.cells #[.func (.func 111) #[.pointer (some ⟨ob,0,none⟩)] #[]] 204)):=⟨_,rfl⟩
    rw [← hg,← hX]
    have hgo:g ≠ ob:=by omega
    have hXg:X.heap[g]? = some (.cells #[.func (.func 111) #[.pointer (some ⟨ob,0,none⟩)] #[]] 204 (0,0)):=by rw [hX];exact heap_new_q _ _ (by simp [World.setCell,hg])
    have hBX:OBlk X ob own F.d F.n F.src F.dst (cellQ F own) (2 * k + 1) (.slice (some ⟨g,0,none⟩) 1 1):=by
      rw [hX]
      exact (OBlk.setSteps (sv:=.slice none 0 0) HOB.out _).at_ (Below.heap_alloc _ _ _ (by simpa [World.setCell] using hol))
    have hs1:=HB1.out.size
    have hsB:=HB.out.size
    have hXb:Below w.heap.size w X:=by
      rw [hX]
      exact (((HB.out.trans (HB1.out.mono hsB)).setCell (p:=⟨ob,7,none⟩) (by show w.heap.size ≤ ob;omega) _).alloc (by simp [World.setCell];omega) _)
    have hgX:g < X.heap.size:=(Array.getElem?_eq_some_iff.1 hXg).1
    exact ⟨ob,(fun i => w.heap.size ≤ i ∧ i < X.heap.size),rfl,⟨cellQ F own,_,1,_,hBX,⟨rfl,.inr ⟨g,0,1,_,rfl,Nat.zero_le _,hXg,Nat.le_refl _,by unfold maxLen;omega,by simp,rfl⟩⟩,fun i hi => (fun (e:g = i) => e ▸ (show _ from (⟨by omega,hgX⟩:w.heap.size ≤ g ∧ g < X.heap.size))) (by simpa [Value.ownBlock] using hi),⟨by omega,hBX.lt⟩,fun i hi => hi.2,.inr ⟨rfl,rfl⟩⟩,fun i hi => hi.1,hXb⟩
end Go.Proofs.YtjfolhkblbakiaaGreatDoor
