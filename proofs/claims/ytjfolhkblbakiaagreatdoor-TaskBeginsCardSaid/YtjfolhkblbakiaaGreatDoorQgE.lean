/- Texts of the ring, joined, what is used of them. No condition but those in the statements. -/
import Derived.BigQuiet
import Derived.BigRegion
import Derived.Deep.MidRow
import Derived.Deep.RegionHeld3
import Derived.Deep.Upon
import Derived.IntWalk
import Derived.Test.YtjfolhkblbakiaaGreatDoorQRRd
import Derived.Test.YtjfolhkblbakiaaGreatDoorQgU
section
namespace Go.Proofs.YtjfolhkblbakiaaGreatDoor
open Go.RowKit Go.Sort
set_option linter.unusedVariables false
set_option linter.unusedSimpArgs false
set_option linter.unusedVariables false
set_option linter.unusedSimpArgs false
open Go.Proofs.YtjfolhkblbakiaaGreatDoor.Simp
set_option maxRecDepth 100000
set_option maxHeartbeats 1600000
/-- An operation under construction: its block,its steps so far (sv),the box of its pointer;what was there below block B stands since w. -/
structure UndX (w W:World) (B ob bo:Nat) (own:Int) (F:Qr) (ce be:Nat) (sv:Value) (fs:List Value):Prop where
  below:Below B w W
  blk:OBlk W ob (own) F.d F.n F.src F.dst ce be (sv)
  row:OwnsOff W B 204 1 sv fs.length fs
  box:W.heap[bo]? = some (.cells #[.pointer (some ⟨ob,0,none⟩)] 159 (0,0))
  lo:B ≤ ob ∧ B ≤ bo ∧ B ≤ w.heap.size
section
variable {w W W1 w2:World} {B ob bo:Nat} {own:Int} {F:Qr} {ce be:Nat} {sv v':Value} {fs xs:List Value}
theorem UndX.later (h:UndX w W B ob bo own F ce be (sv) (fs)) (hb:Below W.heap.size W W1):UndX w W1 B ob bo own F ce be (sv) (fs):=
  ⟨h.below.trans (hb.mono (Nat.le_trans h.lo.2.2 h.below.size)),h.blk.at_ (hb.block _ h.blk.lt),h.row.keptB hb,(hb.block _ (Array.getElem?_eq_some_iff.1 h.box).1).trans h.box,h.lo⟩
theorem UndX.ne (h:UndX w W B ob bo own F ce be (sv) (fs)):ob ≠ bo:=by rintro rfl;have:=h.blk.symm.trans h.box;simp at this
theorem UndX.app (h:UndX w W1 B ob bo own F ce be (sv) (fs)) {m:Nat} (hown:OwnsOff w2 B 204 1 v' (fs.length + m) (fs ++ xs)) (hg:W1.grownBy w2 sv.ownBlock) (hm:xs.length = m) :
    UndX w (w2.setCell ⟨ob,7,none⟩ v') B ob bo own F ce be (v') (fs ++ xs) ∧ Stands W1 (w2.setCell ⟨ob,7,none⟩ v') ∧ KeepsOthers W1 (w2.setCell ⟨ob,7,none⟩ v') ∧ OBlk w2 ob (own) F.d F.n F.src F.dst ce be (sv) ∧ w2.heap[bo]? = some (.cells #[.pointer (some ⟨ob,0,none⟩)] 159 (0,0)) ∧ Only (fun j => j = ob ∨ sv.ownBlock = some j) W1 (w2.setCell ⟨ob,7,none⟩ v'):=by
  have n1:sv.ownBlock ≠ some ob:=fun e => by
    obtain ⟨cs,hc⟩:=h.row.typed ob e
    have:=hc.symm.trans h.blk
    simp at this
  have n2:sv.ownBlock ≠ some bo:=fun e => by
    obtain ⟨cs,hc⟩:=h.row.typed bo e
    have:=hc.symm.trans h.box
    simp at this
  have b2:OBlk w2 ob (own) F.d F.n F.src F.dst ce be (sv):=h.blk.at_ (hg.block _ h.blk.lt (Ne.symm n1))
  have n3:∀ k,v'.ownBlock = some k → k ≠ ob:=fun k hk e => by
    subst e
    obtain ⟨cs,hc⟩:=hown.typed k hk
    have:=hc.symm.trans b2
    simp at this
  have hs:=Only.setCell w2 ⟨ob,7,none⟩ v'
  have hbo2:w2.heap[bo]? = some (.cells #[.pointer (some ⟨ob,0,none⟩)] 159 (0,0)):=(hg.block _ (Array.getElem?_eq_some_iff.1 h.box).1 (Ne.symm n2)).trans h.box
  have hst:∀ (k:Nat) (o:Obj),W1.heap[k]? = some o → sv.ownBlock ≠ some k → k ≠ ob → (w2.setCell ⟨ob,7,none⟩ v').heap[k]? = some o:=fun k o hk h1 h2 => by
    rw [Below.heap_setCell _ _ _ _ (by simpa using h2)]
    exact (hg.block _ (Array.getElem?_eq_some_iff.1 hk).1 (Ne.symm h1)).trans hk
  refine ⟨⟨?_,b2.setSteps _,?_,?_,h.lo⟩,⟨?_,?_⟩,⟨?_,?_⟩,b2,hbo2,⟨hg.os,hg.tape,hg.output,by have:=hg.size;simpa [World.setCell] using this,fun k hk hs => (Below.heap_setCell _ _ _ _ (by simpa using fun e => hs (.inl e))).trans (hg.block k hk (fun e => hs (.inr e.symm)))⟩⟩
  · have hb:Below B W1 w2:=(Below.refl B W1).grown hg (Nat.le_trans h.lo.2.2 h.below.size) (fun k e => (h.row.lt k e).1)
    exact (h.below.trans hb).setCell (p:=⟨ob,7,none⟩) h.lo.1 _
  · rw [List.length_append,hm]
    exact hown.kept hs (fun k hk e => n3 k hk e)
  · exact hst bo _ h.box n2 (Ne.symm h.ne)
  · have:=hg.size;simpa [World.setCell] using this
  · intro k cs t mm h1 h2 hk
    refine hst k _ hk (fun e => ?_) (fun e => ?_)
    · obtain ⟨cs',hc⟩:=h.row.typed k e
      rw [hk] at hc;cases hc;exact h1 rfl
    · subst e;rw [show W1.heap[k]? = _ from h.blk] at hk;cases hk;exact h2 rfl
  · have:=hg.size;simpa [World.setCell] using this
  · intro k o hk ho
    refine hst k _ hk (fun e => ?_) (fun e => ?_)
    · obtain ⟨cs',hc⟩:=h.row.typed k e
      rw [hk] at hc;cases hc;cases ho
    · subst e;rw [show W1.heap[k]? = _ from h.blk] at hk;cases hk;cases ho
theorem UndX.turn (h:UndX w W B ob bo own F ce be (sv) (fs)) {row:Option Nat} (hg:W.grownBy W1 row) (hr:∀ r,row = some r → B ≤ r ∧ ∃ o:Obj,W.heap[r]? = some o ∧ o.isCells = false):UndX w W1 B ob bo own F ce be (sv) (fs):=by
  have keep:∀ (k:Nat) (o:Obj),W.heap[k]? = some o → o.isCells = true → W1.heap[k]? = some o:=fun k o hk ho =>
    (hg.block k (Array.getElem?_eq_some_iff.1 hk).1 (fun e => by obtain ⟨_,o',ho',hc⟩:=hr k e.symm;rw [hk] at ho';cases ho';rw [ho] at hc;cases hc)).trans hk
  refine ⟨h.below.grown hg (Nat.le_trans h.lo.2.2 h.below.size) (fun k e => (hr k e).1),keep _ _ h.blk rfl,?_,keep _ _ h.box rfl,h.lo⟩
  refine h.row.kept (S:=fun k => row = some k) ⟨hg.os,hg.tape,hg.output,hg.size,fun k hk hs => hg.block k hk (fun e => hs e.symm)⟩ (fun k hk e => ?_)
  obtain ⟨cs,hc⟩:=h.row.typed k hk
  obtain ⟨_,o,ho,hcc⟩:=hr k e
  rw [hc] at ho;cases ho;cases hcc
end
end Go.Proofs.YtjfolhkblbakiaaGreatDoor
end
section
namespace Go.Proofs.YtjfolhkblbakiaaGreatDoor
open Go.RowKit Go.Sort
set_option linter.unusedVariables false
set_option linter.unusedSimpArgs false
set_option linter.unusedVariables false
set_option linter.unusedSimpArgs false
open Go.Proofs.YtjfolhkblbakiaaGreatDoor.Simp
set_option maxRecDepth 100000
set_option maxHeartbeats 1600000
/-- Which function does step k of a send. -/
inductive SendFn (w:World) (S:Nat → Prop) (ob:Nat) (data:List Int):Nat → Value → Prop
  | head:SendFn w S ob data 0 (.func (.func 102) #[.pointer (some ⟨ob,0,none⟩)] #[])
  | len (b1 b2:Nat):S b1 → S b2 → w.heap[b1]? = some (.cells #[.pointer (some ⟨ob,0,none⟩)] 159 (0,0)) → w.heap[b2]? = some (.cells #[.int .i64 (data.length:Int)] 3 (0,0)) → SendFn w S ob data 1 (.func (.func 148) #[] #[.pointer (some ⟨b1,0,none⟩),.pointer (some ⟨b2,0,none⟩)])
  | word (i b1 b2 b3:Nat):i < data.length → S b1 → S b2 → S b3 → w.heap[b1]? = some (.cells #[.pointer (some ⟨ob,0,none⟩)] 159 (0,0)) → w.heap[b2]? = some (.cells #[.int .i64 (i:Int)] 3 (0,0)) → w.heap[b3]? = some (.cells #[.int .u32 (data.getD i 0)] 45 (0,0)) → SendFn w S ob data (2 + i) (.func (.func 151) #[] #[.pointer (some ⟨b1,0,none⟩),.pointer (some ⟨b2,0,none⟩),.pointer (some ⟨b3,0,none⟩)])
  | tail:SendFn w S ob data (2 + data.length) (.func (.func 107) #[.pointer (some ⟨ob,0,none⟩)] #[])
  | ring:SendFn w S ob data (3 + data.length) (.func (.func 108) #[.pointer (some ⟨ob,0,none⟩)] #[])
theorem SendFn.only {w w':World} {S S' T:Nat → Prop} {ob:Nat} {data:List Int} {k:Nat} {v:Value} (h:SendFn w S ob data k v) (ho:Only T w w') (hT:∀ k,S k → ¬ T k) (hS:∀ k,S k → S' k):SendFn w' S' ob data k v:=by
  cases h with
  | head => exact .head
  | len b1 b2 s1 s2 h1 h2 => exact .len b1 b2 (hS _ s1) (hS _ s2) (ho.at_ h1 (hT _ s1)) (ho.at_ h2 (hT _ s2))
  | word i b1 b2 b3 hi s1 s2 s3 h1 h2 h3 => exact .word i b1 b2 b3 hi (hS _ s1) (hS _ s2) (hS _ s3) (ho.at_ h1 (hT _ s1)) (ho.at_ h2 (hT _ s2)) (ho.at_ h3 (hT _ s3))
  | tail => exact .tail
  | ring => exact .ring
structure SAtX (w:World) (S:Nat → Prop) (ob:Nat) (F:Qr) (be:Nat) (s:QS) (ce:Nat) (sv:Value) (m:Nat) (fs:List Value):Prop where
  blk:OBlk w ob s.own F.d F.n F.src F.dst ce be sv
  row:OwnsOff w 0 204 1 sv m fs
  rowS:∀ g,sv.ownBlock = some g → S g
  sb:S ob
  low:∀ k,S k → k < w.heap.size
  fn:∀ (j:Nat) (v:Value),fs[j]? = some v → SendFn w S ob s.data (s.no.toNat + j) v
  num:(s.no < 0 ∧ m = 0) ∨ (0 ≤ s.no ∧ s.no ≤ 3 + (s.data.length:Int) ∧ (m:Int) = 4 + (s.data.length:Int) - s.no)
  cell:0 ≤ s.no → s.no ≤ 2 + (s.data.length:Int) → ce = cellQ F s.own
  len:1 ≤ s.data.length ∧ s.data.length ≤ F.n
/-- A send under way at block ob,of the blocks S;its state is s. -/
def SAt (w:World) (S:Nat → Prop) (ob:Nat) (F:Qr) (be:Nat) (s:QS):Prop:=∃ ce sv m fs,SAtX w S ob F be s ce sv m fs
theorem SAt.only {w w':World} {S T:Nat → Prop} {ob:Nat} {F:Qr} {be:Nat} {s:QS} (h:SAt w S ob F be s) (ho:Only T w w') (hT:∀ k,S k → ¬ T k):SAt w' S ob F be s:=by
  obtain ⟨ce,sv,m,fs,h⟩:=h
  exact ⟨ce,sv,m,fs,h.blk.only ho (hT _ h.sb),h.row.kept ho (fun g hg => hT _ (h.rowS g hg)),h.rowS,h.sb,fun k hk => Nat.lt_of_lt_of_le (h.low k hk) ho.size,fun j v hv => (h.fn j v hv).only ho hT (fun _ h => h),h.num,h.cell,h.len⟩
end Go.Proofs.YtjfolhkblbakiaaGreatDoor
end
