/- Texts of the ring, joined, what is used of them. No condition but those in the statements. -/
import Derived.BigQuiet
import Derived.BigRegion
import Derived.Deep.MidRow
import Derived.Deep.OwnRows
import Derived.Deep.RegionHeld3
import Derived.Deep.Upon
import Derived.IntWalk
import Derived.Laws.EntriesVeiled
import Derived.LoopIn
import Derived.LoopNIn
import Derived.OpenShut
import Derived.OwnWalkIn
import Derived.RangeFuncBound
import Derived.RangeFuncBox
import Derived.RangeFuncCalls
import Derived.RangeFuncLeaves
import Derived.RangeFuncNested
import Derived.Shelf.Abstract
import Derived.Shelf.RegionOpen
import Derived.TacticsInMore
import Derived.Test.YtjfolhkblbakiaaGreatDoorQRSn
import Derived.Test.YtjfolhkblbakiaaGreatDoorQgA
import Derived.Test.YtjfolhkblbakiaaGreatDoorQgE
import Derived.Test.YtjfolhkblbakiaaGreatDoorQgQ
section
namespace Go.Proofs.YtjfolhkblbakiaaGreatDoor
open Go.RowKit Go.Sort
set_option linter.unusedVariables false
set_option linter.unusedSimpArgs false
set_option linter.unusedVariables false
set_option linter.unusedSimpArgs false
open Go.Proofs.YtjfolhkblbakiaaGreatDoor.Simp
set_option maxRecDepth 100000
set_option maxHeartbeats 3200000
/-- Which function does which step of a receive,from the first word on. -/
inductive RecvFn (w:World) (S:Nat → Prop) (ob db L:Nat):Nat → Value → Prop
  | word (i b1 b2 b3:Nat):i < L → S b1 → S b2 → S b3 → w.heap[b1]? = some (.cells #[.pointer (some ⟨ob,0,none⟩)] 159 (0,0)) → w.heap[b2]? = some (.cells #[.int .i64 (i:Int)] 3 (0,0)) → w.heap[b3]? = some (.cells #[.slice (some ⟨db,0,none⟩) L L] 34 (0,0)) → RecvFn w S ob db L i (.func (.func 177) #[] #[.pointer (some ⟨b1,0,none⟩),.pointer (some ⟨b2,0,none⟩),.pointer (some ⟨b3,0,none⟩)])
  | head (c1 c2:Nat):S c1 → S c2 → w.heap[c1]? = some (.cells #[.pointer (some ⟨ob,0,none⟩)] 159 (0,0)) → w.heap[c2]? = some (.cells #[.slice (some ⟨db,0,none⟩) L L] 34 (0,0)) → RecvFn w S ob db L L (.func (.func 178) #[] #[.pointer (some ⟨c1,0,none⟩),.pointer (some ⟨c2,0,none⟩)])
theorem RecvFn.keeps {w w':World} {S S':Nat → Prop} {ob db L k:Nat} {v:Value} (h:RecvFn w S ob db L k v) (hk:∀ (b:Nat) (u:Value) (t:TypeId),S b → w.heap[b]? = some (.cells #[u] t (0,0)) → t ≠ 204 → t ≠ 208 → t ≠ 45 → w'.heap[b]? = some (.cells #[u] t (0,0))) (hS:∀ k,S k → S' k):RecvFn w' S' ob db L k v:=by
  cases h with
  | word i b1 b2 b3 hi s1 s2 s3 h1 h2 h3 => exact .word _ b1 b2 b3 hi (hS _ s1) (hS _ s2) (hS _ s3) (hk _ _ _ s1 h1 (by decide) (by decide) (by decide)) (hk _ _ _ s2 h2 (by decide) (by decide) (by decide)) (hk _ _ _ s3 h3 (by decide) (by decide) (by decide))
  | head c1 c2 s1 s2 h1 h2 => exact .head c1 c2 (hS _ s1) (hS _ s2) (hk _ _ _ s1 h1 (by decide) (by decide) (by decide)) (hk _ _ _ s2 h2 (by decide) (by decide) (by decide))
/-- The words that a receive has loaded,and the steps that are left. -/
structure GLater (w:World) (S:Nat → Prop) (ob:Nat) (F:Qr) (t:QS) (m:Nat) (fs:List Value) (db L:Nat) (ds:List Int):Prop where
  len:t.len = (L:Int)
  le:L ≤ F.n
  sd:S db
  row:WordsAt w db ds
  dl:ds.length = L
  take:ds.take t.data.length = t.data
  no:t.no = 2 + (t.data.length:Int)
  tl:t.data.length ≤ L
  num:m = L + 1 - t.data.length
  fn:∀ (j:Nat) (v:Value),fs[j]? = some v → RecvFn w S ob db L (t.data.length + j) v
structure GAtX (w:World) (S:Nat → Prop) (ob:Nat) (F:Qr) (be:Nat) (t:QS) (ce:Nat) (sv:Value) (m:Nat) (fs:List Value):Prop where
  blk:OBlk w ob t.own F.d F.n F.src F.dst ce be sv
  row:OwnsOff w 0 204 1 sv m fs
  rowS:∀ g,sv.ownBlock = some g → S g
  sb:S ob
  low:∀ k,S k → k < w.heap.size
  cell:0 ≤ t.no → ce = cellQ F t.own
  d0:0 ≤ t.no → t.no ≤ 1 → t.data = []
  ph:(t.no < 0 ∧ fs = []) ∨ (t.no = 0 ∧ fs = [.func (.func 109) #[.pointer (some ⟨ob,0,none⟩)] #[],.func (.func 110) #[.pointer (some ⟨ob,0,none⟩)] #[]]) ∨ (t.no = 1 ∧ fs = [.func (.func 110) #[.pointer (some ⟨ob,0,none⟩)] #[]]) ∨ ∃ db L ds,GLater w S ob F t m fs db L ds
/-- A receive under way at block ob,of the blocks S;its state is t. -/
def GAt (w:World) (S:Nat → Prop) (ob:Nat) (F:Qr) (be:Nat) (t:QS):Prop:=∃ ce sv m fs,GAtX w S ob F be t ce sv m fs
theorem GAt.only {w w':World} {S T:Nat → Prop} {ob:Nat} {F:Qr} {be:Nat} {t:QS} (h:GAt w S ob F be t) (ho:Only T w w') (hT:∀ k,S k → ¬ T k):GAt w' S ob F be t:=by
  obtain ⟨ce,sv,m,fs,h⟩:=h
  refine ⟨ce,sv,m,fs,h.blk.only ho (hT _ h.sb),h.row.kept ho (fun g hg => hT _ (h.rowS g hg)),h.rowS,h.sb,fun k hk => Nat.lt_of_lt_of_le (h.low k hk) ho.size,h.cell,h.d0,h.ph.imp id (Or.imp id (Or.imp id ?_))⟩
  rintro ⟨db,L,ds,g⟩
  exact ⟨db,L,ds,g.len,g.le,g.sd,g.row.of (ho.block db g.row.lt (hT _ g.sd)),g.dl,g.take,g.no,g.tl,g.num,fun j v hv => (g.fn j v hv).keeps (fun b u t hb hh _ _ _ => ho.at_ hh (hT _ hb)) (fun _ h => h)⟩
theorem newG_b (c:Cfg) (x:CfgAt) (k:Nat) (F:Qr) (own:Int) (w:World) (hx:CfgIn w w.heap.size c x) (wx:CfgWf c) (lx:CfgFew c) (hF:QrOf c k F) (h0:0 ≤ own ∧ own ≤ 4294967295) :
    Calls Tryz.prog 75 #[.agg (cfgCells c x),.int .i64 (k:Int),.int .u32 own] w fun e w' => ∃ ob S,e = .returned (.pointer (some ⟨ob,0,none⟩)) ∧ GAt w' S ob F (2 * k + 1) (startQ [] own) ∧ (∀ k,S k → w.heap.size ≤ k) ∧ Below w.heap.size w w':=by
  obtain ⟨W,HW,hB,hWs,bx⟩:=one_cbox w c x 29
  have HBG:=Lib.hid (begin_b c x k F own W (hx.later hB) wx lx hF h0)
  obtain ⟨pa,pc,ca,cc,aa,ac,ba,bc⟩:=x
  obtain ⟨w0,w1,w2,w3,w4,w5⟩:=bx _ (Below.refl _ _)
  simp only [cfgCells] at HW HBG ⊢
  have HB:=Lib.hid hB
  clear hx bx hB
  go_enter Tryz.func75,Tryz.ntmps75
  go_wp2_with (rw [← HW.out])
  refine HBG.out.mono ?_
  rintro e v1 ⟨ob,rfl,hob,hlo,hb1⟩
  have c7:v1.cell? ⟨ob,7,none⟩ = some (.slice none 0 0):=hob.cell rfl
  have g7:=hob.frozen 7
  have HOB:=Lib.hid hob;have HB1:=Lib.hid hb1
  have hol:=hob.lt
  clear hob hb1 w0 w1 w2 w3 w4 w5
  go_wp2
  go_ret
  obtain ⟨g,hg⟩:∃ g,g = v1.heap.size:=⟨_,rfl⟩
  obtain ⟨X,hX⟩:∃ u,u = (v1.setCell ⟨ob,7,none⟩ (.slice (some ⟨g,0,none⟩) 2 2)).alloc (.cells #[.func (.func 109) #[.pointer (some ⟨ob,0,none⟩)] #[],.func (.func 110) #[.pointer (some ⟨ob,0,none⟩)] #[]] 204):=⟨_,rfl⟩
  rw [← hg,← hX]
  have hgo:g ≠ ob:=by omega
  have hXg:X.heap[g]? = some (.cells #[.func (.func 109) #[.pointer (some ⟨ob,0,none⟩)] #[],.func (.func 110) #[.pointer (some ⟨ob,0,none⟩)] #[]] 204 (0,0)):=by rw [hX];exact heap_new_q _ _ (by simp [World.setCell,hg])
  have hBX:OBlk X ob own F.d F.n F.src F.dst (cellQ F own) (2 * k + 1) (.slice (some ⟨g,0,none⟩) 2 2):=by
    rw [hX]
    exact (OBlk.setSteps (sv:=.slice none 0 0) HOB.out _).at_ (Below.heap_alloc _ _ _ (by simpa [World.setCell] using hol))
  have hs1:=HB1.out.size
  have hsB:=HB.out.size
  have hXb:Below w.heap.size w X:=by
    rw [hX]
    exact ((HB.out.trans (HB1.out.mono hsB)).setCell (p:=⟨ob,7,none⟩) (by show w.heap.size ≤ ob;omega) _).alloc (by simp [World.setCell];omega) _
  refine ⟨ob,(fun i => w.heap.size ≤ i ∧ i < X.heap.size),rfl,⟨cellQ F own,_,2,_,⟨hBX,⟨rfl,.inr ⟨g,0,2,_,rfl,Nat.zero_le _,hXg,Nat.le_refl _,by unfold maxLen;omega,by simp,rfl⟩⟩,fun i hi => (fun (e:g = i) => e ▸ (show _ from (⟨by omega,(Array.getElem?_eq_some_iff.1 hXg).1⟩:w.heap.size ≤ g ∧ g < X.heap.size))) (by simpa [Value.ownBlock] using hi),⟨by omega,hBX.lt⟩,fun i hi => hi.2,fun _ => rfl,fun _ _ => rfl,.inr (.inl ⟨rfl,rfl⟩)⟩⟩,fun i hi => hi.1,hXb⟩
end Go.Proofs.YtjfolhkblbakiaaGreatDoor
end
section
namespace Go.Proofs.YtjfolhkblbakiaaGreatDoor
open Go.RowKit Go.Sort
set_option linter.unusedVariables false
set_option linter.unusedSimpArgs false
set_option linter.unusedVariables false
set_option linter.unusedSimpArgs false
open Go.Proofs.YtjfolhkblbakiaaGreatDoor.Simp
set_option maxRecDepth 100000
set_option maxHeartbeats 3200000
section
variable {w:World} {mb rb bb br ob:Nat} {F:Qr} {S:Nat → Prop} {be:Nat} {t:QS} {ce:Nat} {sv:Value} {ws:List Int} {bs:List Bool} {own:Int}
theorem WordsAt.off {W:World} {b:Nat} {ds:List Int} (h:WordsAt W b ds) {L:Nat} (hL:ds.length = L) (hl:L ≤ 1000000):OwnsOff W 0 45 1 (.slice (some ⟨b,0,none⟩) L L) L (wcells ds):=by
  subst hL
  exact ⟨by simp,.inr ⟨b,0,ds.length,_,rfl,Nat.zero_le _,h,Nat.le_refl _,by unfold maxLen;omega,by simp,by simp;rw [List.take_of_length_le (by simp)]⟩⟩
end
end Go.Proofs.YtjfolhkblbakiaaGreatDoor
end
section
namespace Go.Proofs.YtjfolhkblbakiaaGreatDoor
open Go.RowKit Go.Sort
set_option linter.unusedVariables false
set_option linter.unusedSimpArgs false
set_option linter.unusedVariables false
set_option linter.unusedSimpArgs false
open Go.Proofs.YtjfolhkblbakiaaGreatDoor.Simp
set_option maxRecDepth 100000
set_option maxHeartbeats 1600000
@[reducible] def HQ (mb rb bb br k:Nat):Prop:=k = mb ∨ k = rb ∨ k = bb ∨ k = br
end Go.Proofs.YtjfolhkblbakiaaGreatDoor
end
