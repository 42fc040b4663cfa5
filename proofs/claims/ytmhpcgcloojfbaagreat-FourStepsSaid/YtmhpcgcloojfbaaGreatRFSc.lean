/- Texts of the ring, joined, what is used of them. No condition but those in the statements. -/
import Derived.BigQuiet
import Derived.BigRegion
import Derived.Deep.MidRow
import Derived.Deep.RegionHeld3
import Derived.Deep.Upon
import Derived.IntWalk
import Derived.Shelf.Abstract
import Derived.Test.YtmhpcgcloojfbaaGreatRFSb
namespace Go.Proofs.YtmhpcgcloojfbaaGreat
open Go.RowKit Go.Sort
set_option linter.unusedVariables false
set_option linter.unusedSimpArgs false
set_option linter.unusedVariables false
set_option linter.unusedSimpArgs false
open Go.Proofs.YtmhpcgcloojfbaaGreat.Simp
set_option maxRecDepth 100000
set_option maxHeartbeats 6400000
theorem FSx.begin {W w6 w7 w8 w:World} {S1 S2:Nat → Prop} {mb rb wb qb vw vr yb db dof cap k:Nat} {c:Cfg} {x:CfgAt} {F:Fr} {ws data:List Int}
    (hq:Duo W w6 W.heap.size (fun q => q = yb ∨ q = db) mb rb F ws none none)
    (hs:WAt w7 S1 wb F (Simp.start data)) (hS1:∀ q,S1 q → w6.heap.size ≤ q) (hb7:Below w6.heap.size w6 w7)
    (hg:RAt w8 S2 qb F (Simp.start [])) (hS2:∀ q,S2 q → w7.heap.size ≤ q) (hb8:Below w7.heap.size w7 w8)
    (hb:Below w8.heap.size w8 w) (hn:(w8.heap.size ≤ vw ∧ w8.heap.size ≤ vr) ∧ (vw < w.heap.size ∧ vr < w.heap.size)) (hne:vw ≠ vr)
    (hx:CfgIn W W.heap.size c x) (wx:CfgWf c) (lx:CfgFew c) (hF:FrOf c k F) (hdl:data.length ≤ F.n) (hd32:W32 data)
    (hy:WordsAt w6 yb ws)
    (b1:w.heap[vw]? = some (.cells (vV c x k true (.slice (some ⟨db,dof,none⟩) data.length cap) 0 0 0 0 0 false) 52 (0,0)))
    (b2:w.heap[vr]? = some (.cells (vV c x k false (.slice none 0 0) 0 0 0 0 0 false) 52 (0,0)))
    (hdat:∃ cs mm,w6.heap[db]? = some (.cells cs 34 mm) ∧ ∀ j,j < data.length → cs[dof + j]? = some (.int .u32 (data.getD j 0)))
    (hdy:db ≠ yb) (hBy:W.heap.size ≤ yb) :
    FSx W w (fun _ => False) mb rb wb qb vw vr yb ws.length k c x F:=by
  have e7:=hb7.size;have e8:=hb8.size;have e:=hb.size
  have hBw:=hq.below.size
  have hyl:=hy.lt
  have h68:Below w6.heap.size w6 w8:=hb7.trans (hb8.mono e7)
  have h6w:Below w6.heap.size w6 w:=h68.trans (hb.mono (by omega))
  have hdl2:db < w6.heap.size:=by obtain ⟨cs,mm,h1,-⟩:=hdat;exact (Array.getElem?_eq_some_iff.1 h1).1
  have hp:=(hq.newW hs hS1 hb7 hd32).newR hg hS2 hb8 (show W32 [] from fun a => by unfold rd;simp)
  have hyw:WordsAt w yb ws:=hy.of (h6w.block yb hyl)
  have hbw:Below W.heap.size W w:=hq.below.trans (h6w.mono hBw)
  refine ⟨fun q => q = vw ∨ q = vr ∨ q = yb ∨ q = db,db,dof,cap,ws,Simp.start data,Simp.start [],⟨hp.only (T:=fun _ => False) (Only.of_below hb) (fun _ _ h => h.elim) (fun q hq => ?_),⟨⟨hbw,b1,hyw,⟨by omega,by omega,hBy⟩,hx,wx,lx,hF,hq.fin,hq.w32⟩,⟨none,0,⟨hbw,b2,hyw,⟨by omega,by omega,hBy⟩,hx,wx,lx,hF,hq.fin,hq.w32⟩,OwnsOff.nil ..,fun b hb => by cases hb⟩,?_,⟨hne,hdy⟩,⟨.inl rfl,.inr (.inl rfl),.inr (.inr (.inl rfl))⟩,⟨⟨⟨Nat.zero_le _,Nat.zero_le _⟩,hdl,by show (0:Int) ≤ 5 + (data.length:Int);omega,hd32⟩,⟨⟨Nat.zero_le _,Nat.zero_le _⟩,Nat.zero_le _,by show (0:Int) ≤ 30;omega,fun _ _ => rfl,fun a => absurd (show (0:Int) = 4 from a) (by omega),fun a => absurd (show (5:Int) ≤ 0 from a) (by omega),⟨Int.le_refl _,by show (0:Int) ≤ 4294967295;omega⟩⟩,hF.low.2.2⟩⟩,.inr (.inr (.inr rfl)),fun _ h => h.elim⟩,rfl⟩
  · rcases hq with (rfl | rfl | h | h) | h
    · exact .inr (by omega)
    · exact .inr (by omega)
    · exact .inl (.inl h)
    · exact .inl (.inr h)
    · exact h.elim
  · obtain ⟨cs,mm,h1,h2⟩:=hdat
    exact ⟨cs,mm,(h6w.block db hdl2).trans h1,h2⟩
end Go.Proofs.YtmhpcgcloojfbaaGreat
