/- Texts of the ring, joined, what is used of them. No condition but those in the statements. -/
import Derived.BigQuiet
import Derived.BigRegion
import Derived.Deep.MidRow
import Derived.Deep.RegionHeld3
import Derived.Deep.Upon
import Derived.IntWalk
import Derived.Laws.EntriesVeiled
import Derived.Shelf.Abstract
import Derived.Test.YtjfolhkblbakiaaGreatDoorQLK
import Derived.Test.YtjfolhkblbakiaaGreatDoorQOffB
import Derived.Test.YtjfolhkblbakiaaGreatDoorQgA
import Derived.Test.YtjfolhkblbakiaaGreatDoorQgD
section
namespace Go.Proofs.YtjfolhkblbakiaaGreatDoor
open Go.RowKit Go.Sort
set_option linter.unusedVariables false
set_option linter.unusedSimpArgs false
set_option linter.unusedVariables false
set_option linter.unusedSimpArgs false
open Go.Proofs.YtjfolhkblbakiaaGreatDoor.Simp (oddN)
set_option maxRecDepth 100000
set_option maxHeartbeats 3200000
@[reducible] def rV (nx:Value) (A:Pl8) (nw per:Int) (p i:Nat) (len st:Int):Array Value:=#[nx,.int .i64 A.la,.int .i64 A.re,.int .i64 A.s0,.int .i64 A.s1,.int .i64 A.b00,.int .i64 A.b01,.int .i64 A.b10,.int .i64 A.b11,.int .i64 nw,.int .i64 per,.int .u32 p,.int .u32 i,.int .i64 len,.int .u32 st]
def RBlk (w:World) (wb:Nat) (nx:Value) (A:Pl8) (nw per:Int) (p i:Nat) (len st:Int):Prop:=w.heap[wb]? = some (.cells (rV nx A nw per p i len st) 202 (0,0))
section
variable {w:World} {wb:Nat} {nx:Value} {A:Pl8} {nw per:Int} {p i:Nat} {len st:Int}
theorem RBlk.lt (h:RBlk w wb nx A nw per p i len st):wb < w.heap.size:=(Array.getElem?_eq_some_iff.1 h).1
theorem RBlk.cell (h:RBlk w wb nx A nw per p i len st) {j:Nat} {v:Value} (hv:(rV nx A nw per p i len st)[j]? = some v):w.cell? ⟨wb,j,none⟩ = some v:=by
  unfold RBlk at h
  simp [World.cell?,h,hv]
theorem RBlk.frozen (h:RBlk w wb nx A nw per p i len st) (j:Nat):w.frozen? ⟨wb,j,none⟩ = false:=by
  unfold RBlk at h
  simp [World.frozen?,h]
theorem RBlk.only (h:RBlk w wb nx A nw per p i len st) {S:Nat → Prop} {w':World} (ho:Only S w w') (hs:¬ S wb):RBlk w' wb nx A nw per p i len st:=ho.at_ h hs
theorem RBlk.drew (h:RBlk w wb nx A nw per p i len st):RBlk w.drew wb nx A nw per p i len st:=h
end
end Go.Proofs.YtjfolhkblbakiaaGreatDoor
end
section
namespace Go.Proofs.YtjfolhkblbakiaaGreatDoor
open Go.RowKit Go.Sort
set_option linter.unusedVariables false
set_option linter.unusedSimpArgs false
set_option linter.unusedVariables false
set_option linter.unusedSimpArgs false
open Go.Proofs.YtjfolhkblbakiaaGreatDoor.Simp
set_option maxRecDepth 100000
set_option maxHeartbeats 3200000
def P8 (F:Fr):Pl8:=⟨F.src,F.dst,F.src + 1,F.src + 2,bufA F 0 0,bufA F 0 1,bufA F 1 0,bufA F 1 1⟩
/-- The channel's words lie within n words. -/
structure FIn (F:Fr) (n:Nat):Prop where
  src:F.src + 3 + 4 * (F.n + 2) ≤ n
  dst:F.dst < n
  max:n ≤ 1000000
  n1:1 ≤ F.n
  n2:F.n ≤ 1000
theorem FIn.buf {F:Fr} {n p i:Nat} (h:FIn F n) (hp:p ≤ 1) (hi:i ≤ 1):bufA F p i + (F.n + 2) ≤ n:=by
  have:=buf_in F hp hi;have:=h.src;omega
/-- Which function does the next step. -/
structure NextOf (w:World) (S:Nat → Prop) (wb:Nat) (s:FS) (nx:Value):Prop where
  z:s.no < 0 → nx = .nilFunc
  a0:s.no = 0 → nx = .func (.func 99) #[.pointer (some ⟨wb,0,none⟩)] #[]
  a1:s.no = 1 → nx = .func (.func 143) #[.pointer (some ⟨wb,0,none⟩)] #[]
  a2:s.no = 2 → nx = .func (.func 173) #[.pointer (some ⟨wb,0,none⟩)] #[]
  a3:s.no = 3 → nx = .func (.func 187) #[.pointer (some ⟨wb,0,none⟩)] #[]
  a4:∀ j:Nat,s.no = 4 + (j:Int) → j < s.data.length → ∃ bw bi,nx = .func (.func 224) #[] #[.pointer (some ⟨bw,0,none⟩),.pointer (some ⟨bi,0,none⟩)] ∧ S bw ∧ S bi ∧ w.heap[bw]? = some (.cells #[.pointer (some ⟨wb,0,none⟩)] 151 (0,0)) ∧ w.heap[bi]? = some (.cells #[.int .i64 (j:Int)] 3 (0,0))
  a5:s.no = 4 + (s.data.length:Int) → nx = .func (.func 223) #[.pointer (some ⟨wb,0,none⟩)] #[]
  a6:s.no = 5 + (s.data.length:Int) → nx = .func (.func 228) #[.pointer (some ⟨wb,0,none⟩)] #[]
structure WAtX (w:World) (S:Nat → Prop) (wb:Nat) (F:Fr) (s:FS) (nx:Value) (db do_ dc:Nat):Prop where
  blk:WBlk w wb nx (P8 F) (.slice (some ⟨db,do_,none⟩) s.data.length dc) s.pair s.index s.marked
  sb:S wb
  sd:S db
  ne:db ≠ wb
  low:∀ k,S k → k < w.heap.size
  row:∀ (k:Nat) (x:Int),s.data[k]? = some x → w.cell? ⟨db,do_ + k,none⟩ = some (.int .u32 x)
  nxt:NextOf w S wb s nx
  pi:s.pair ≤ 1 ∧ s.index ≤ 1
  len:1 ≤ s.data.length ∧ s.data.length ≤ F.n
  no:s.no ≤ 5 + (s.data.length:Int)
/-- A write under way at block wb,of the blocks S;its state is s. -/
def WAt (w:World) (S:Nat → Prop) (wb:Nat) (F:Fr) (s:FS):Prop:=∃ nx db do_ dc,WAtX w S wb F s nx db do_ dc
theorem cell_of_blk {w w':World} {b o:Nat} {v:Value} (h:w.cell? ⟨b,o,none⟩ = some v) (e:w'.heap[b]? = w.heap[b]?):w'.cell? ⟨b,o,none⟩ = some v:=by
  unfold World.cell? at h ⊢;rw [e];exact h
theorem WAt.only {w w':World} {S T:Nat → Prop} {wb:Nat} {F:Fr} {s:FS} (h:WAt w S wb F s) (ho:Only T w w') (hT:∀ k,S k → ¬ T k):WAt w' S wb F s:=by
  obtain ⟨nx,db,do_,dc,h⟩:=h
  refine ⟨nx,db,do_,dc,h.blk.only ho (hT _ h.sb),h.sb,h.sd,h.ne,fun k hk => Nat.lt_of_lt_of_le (h.low k hk) ho.size,fun k x hx => cell_of_blk (h.row k x hx) (ho.block db (h.low _ h.sd) (hT _ h.sd)),⟨h.nxt.z,h.nxt.a0,h.nxt.a1,h.nxt.a2,h.nxt.a3,fun j e hj => ?_,h.nxt.a5,h.nxt.a6⟩,h.pi,h.len,h.no⟩
  obtain ⟨bw,bi,e1,s1,s2,h1,h2⟩:=h.nxt.a4 j e hj
  exact ⟨bw,bi,e1,s1,s2,ho.at_ h1 (hT _ s1),ho.at_ h2 (hT _ s2)⟩
end Go.Proofs.YtjfolhkblbakiaaGreatDoor
namespace Go.Proofs.YtjfolhkblbakiaaGreatDoor
open Go.RowKit Go.Sort
set_option linter.unusedVariables false
set_option linter.unusedSimpArgs false
set_option linter.unusedVariables false
set_option linter.unusedSimpArgs false
open Go.Proofs.YtjfolhkblbakiaaGreatDoor.Simp
set_option maxRecDepth 100000
set_option maxHeartbeats 3200000
theorem nextOf_mv {w:World} {S:Nat → Prop} {wb:Nat} {s:FS} {nx:Value} (hl:0 < s.data.length) (h:(s.no = 0 ∧ nx = .func (.func 99) #[.pointer (some ⟨wb,0,none⟩)] #[]) ∨ (s.no = 1 ∧ nx = .func (.func 143) #[.pointer (some ⟨wb,0,none⟩)] #[]) ∨ (s.no = 2 ∧ nx = .func (.func 173) #[.pointer (some ⟨wb,0,none⟩)] #[]) ∨ (s.no = 3 ∧ nx = .func (.func 187) #[.pointer (some ⟨wb,0,none⟩)] #[]) ∨ (s.no = 4 + (s.data.length:Int) ∧ nx = .func (.func 223) #[.pointer (some ⟨wb,0,none⟩)] #[]) ∨ (s.no = 5 + (s.data.length:Int) ∧ nx = .func (.func 228) #[.pointer (some ⟨wb,0,none⟩)] #[]) ∨ (s.no = -1 ∧ nx = .nilFunc)):NextOf w S wb s nx:=by
  rcases h with ⟨h,e⟩ | ⟨h,e⟩ | ⟨h,e⟩ | ⟨h,e⟩ | ⟨h,e⟩ | ⟨h,e⟩ | ⟨h,e⟩
  all_goals exact ⟨fun x => by first | exact e | omega,fun x => by first | exact e | omega,fun x => by first | exact e | omega,fun x => by first | exact e | omega,fun x => by first | exact e | omega,fun j x y => by omega,fun x => by first | exact e | omega,fun x => by first | exact e | omega⟩
end Go.Proofs.YtjfolhkblbakiaaGreatDoor
namespace Go.Proofs.YtjfolhkblbakiaaGreatDoor
open Go.RowKit Go.Sort
set_option linter.unusedVariables false
set_option linter.unusedSimpArgs false
set_option linter.unusedVariables false
set_option linter.unusedSimpArgs false
open Go.Proofs.YtjfolhkblbakiaaGreatDoor.Simp
set_option maxRecDepth 100000
set_option maxHeartbeats 3200000
/-- Which function does the next step of a read;what was loaded,v. -/
structure RTail (w:World) (S:Nat → Prop) (wb:Nat) (F:Fr) (s:FS) (nx v:Value):Prop where
  z:s.no < 0 → nx = .nilFunc
  a0:s.no = 0 → nx = .func (.func 100) #[.pointer (some ⟨wb,0,none⟩)] #[]
  a1:s.no = 1 → nx = .func (.func 144) #[.pointer (some ⟨wb,0,none⟩)] #[]
  a2:s.no = 2 → nx = .func (.func 175) #[.pointer (some ⟨wb,0,none⟩)] #[]
  a3:s.no = 3 → nx = .func (.func 188) #[.pointer (some ⟨wb,0,none⟩)] #[]
  a4:s.no = 4 → nx = .func (.func 214) #[.pointer (some ⟨wb,0,none⟩)] #[]
  a5:5 ≤ s.no → (∃ bl br,nx = .func (.func 229) #[] #[.pointer (some ⟨bl,0,none⟩),.pointer (some ⟨br,0,none⟩)] ∧ S bl ∧ S br ∧ w.heap[br]? = some (.cells #[.pointer (some ⟨wb,0,none⟩)] 157 (0,0)) ∧ w.heap[bl]? = some (.cells #[v] 34 (0,0))) ∧ OwnsOff w 0 45 1 v (s.data).length (wcells (s.data)) ∧ (∀ g,v.ownBlock = some g → S g) ∧ s.no = 5 + (s.data.length:Int) ∧ (s.data.length:Int) < s.len ∧ s.len ≤ F.n
  d0:0 ≤ s.no → s.no ≤ 4 → s.data = []
  l4:s.no = 4 → 1 ≤ s.len ∧ s.len ≤ F.n
  l3:0 ≤ s.no → s.no ≤ 3 → s.len = 0
theorem RTail.over {w w':World} {S S':Nat → Prop} {wb:Nat} {F:Fr} {s:FS} {nx v:Value} (h:RTail w S wb F s nx v) (hk:∀ k o,S k → w.heap[k]? = some o → w'.heap[k]? = some o) (hs:∀ k,S k → S' k):RTail w' S' wb F s nx v:=by
  refine ⟨h.z,h.a0,h.a1,h.a2,h.a3,h.a4,fun x => ?_,h.d0,h.l4,h.l3⟩
  obtain ⟨⟨bl,br,e,s1,s2,h1,h2⟩,ho,hv,r⟩:=h.a5 x
  refine ⟨⟨bl,br,e,hs _ s1,hs _ s2,hk _ _ s2 h1,hk _ _ s1 h2⟩,⟨ho.1,?_⟩,fun g hg => hs _ (hv g hg),r⟩
  rcases ho.2 with hn | ⟨g,off,cap,cur,rfl,hb,hg,rest⟩
  · exact .inl hn
  · exact .inr ⟨g,off,cap,cur,rfl,hb,hk _ _ (hv g rfl) hg,rest⟩
structure RAtX (w:World) (S:Nat → Prop) (wb:Nat) (F:Fr) (s:FS) (nx v:Value):Prop where
  blk:RBlk w wb nx (P8 F) F.n F.per s.pair s.index s.len s.stamp
  sb:S wb
  low:∀ k,S k → k < w.heap.size
  tail:RTail w S wb F s nx v
  pi:s.pair ≤ 1 ∧ s.index ≤ 1
  st:0 ≤ s.stamp ∧ s.stamp ≤ 4294967295
/-- A read under way at block wb,of the blocks S;its state is s. -/
def RAt (w:World) (S:Nat → Prop) (wb:Nat) (F:Fr) (s:FS):Prop:=∃ nx v,RAtX w S wb F s nx v
theorem RAt.only {w w':World} {S T:Nat → Prop} {wb:Nat} {F:Fr} {s:FS} (h:RAt w S wb F s) (ho:Only T w w') (hT:∀ k,S k → ¬ T k):RAt w' S wb F s:=by
  obtain ⟨nx,v,h⟩:=h
  exact ⟨nx,v,h.blk.only ho (hT _ h.sb),h.sb,fun k hk => Nat.lt_of_lt_of_le (h.low k hk) ho.size,h.tail.over (fun k o hk hw => ho.at_ hw (hT _ hk)) (fun _ h => h),h.pi,h.st⟩
end Go.Proofs.YtjfolhkblbakiaaGreatDoor
namespace Go.Proofs.YtjfolhkblbakiaaGreatDoor
open Go.RowKit Go.Sort
set_option linter.unusedVariables false
set_option linter.unusedSimpArgs false
set_option linter.unusedVariables false
set_option linter.unusedSimpArgs false
open Go.Proofs.YtjfolhkblbakiaaGreatDoor.Simp
set_option maxRecDepth 100000
set_option maxHeartbeats 3200000
theorem rtail_mv {w:World} {S:Nat → Prop} {wb:Nat} {F:Fr} {s:FS} {nx v:Value} (h:(s.no = 0 ∧ nx = .func (.func 100) #[.pointer (some ⟨wb,0,none⟩)] #[] ∧ s.data = [] ∧ s.len = 0) ∨ (s.no = 1 ∧ nx = .func (.func 144) #[.pointer (some ⟨wb,0,none⟩)] #[] ∧ s.data = [] ∧ s.len = 0) ∨ (s.no = 2 ∧ nx = .func (.func 175) #[.pointer (some ⟨wb,0,none⟩)] #[] ∧ s.data = [] ∧ s.len = 0) ∨ (s.no = 3 ∧ nx = .func (.func 188) #[.pointer (some ⟨wb,0,none⟩)] #[] ∧ s.data = [] ∧ s.len = 0)
    ∨ (s.no = 4 ∧ nx = .func (.func 214) #[.pointer (some ⟨wb,0,none⟩)] #[] ∧ s.data = [] ∧ 1 ≤ s.len ∧ s.len ≤ F.n) ∨ (s.no = -1 ∧ nx = .nilFunc)):RTail w S wb F s nx v:=by
  rcases h with ⟨h,e,d,l⟩ | ⟨h,e,d,l⟩ | ⟨h,e,d,l⟩ | ⟨h,e,d,l⟩ | ⟨h,e,d,l⟩ | ⟨h,e⟩
  all_goals exact ⟨fun x => by first | exact e | omega,fun x => by first | exact e | omega,fun x => by first | exact e | omega,fun x => by first | exact e | omega,fun x => by first | exact e | omega,fun x => by first | exact e | omega,fun x => by omega,fun x y => by first | exact d | omega,fun x => by first | exact l | omega,fun x y => by first | exact l | omega⟩
end Go.Proofs.YtjfolhkblbakiaaGreatDoor
end
section
namespace Go.Proofs.YtjfolhkblbakiaaGreatDoor
open Go.RowKit Go.Sort
set_option linter.unusedVariables false
set_option linter.unusedSimpArgs false
set_option linter.unusedVariables false
set_option linter.unusedSimpArgs false
open Go.Proofs.YtjfolhkblbakiaaGreatDoor.Simp
set_option maxRecDepth 100000
set_option maxHeartbeats 3200000
/-- Channel k of a configuration is a sampling channel whose words are F's. -/
structure FrOf (c:Cfg) (k:Nat) (F:Fr):Prop where
  src:(srcSpan c k).1 = F.src
  dst:(dstSpan c k).1 = F.dst
  buf:∀ p i:Nat,p ≤ 1 → i ≤ 1 → (bufSpan c k p i).1 = bufA F p i
  lk:k < c.chans.length
  fin:FIn F (sizeN c).toNat
  size:0 ≤ sizeN c ∧ sizeN c ≤ 65536
  words:fld (row c.chans k) 3 = F.n
  per:fld (row c.chans k) 5 = F.per
  low:0 ≤ F.per ∧ F.per ≤ 1048576 ∧ F.n ≤ 16
theorem chanUp_mono {c:Cfg} (h:Accd c) (k:Nat) (hk:k < c.chans.length):beforeN c k + srcN (row c.chans k) + 1 ≤ beforeN c c.chans.length:=by
  have step:∀ d,k + 1 + d ≤ c.chans.length → beforeN c (k + 1) ≤ beforeN c (k + 1 + d):=by
    intro d
    induction d with
    | zero => intro _;exact Int.le_refl _
    | succ d ih =>
      intro hd
      have h1:=ih (by omega)
      have h2:=beforeN_succ c (k + 1 + d)
      have h3:=srcN_of h (i:=k + 1 + d) (by omega)
      have e:k + 1 + (d + 1) = k + 1 + d + 1:=by omega
      rw [e];omega
  have h1:=step (c.chans.length - (k + 1)) (by omega)
  rw [show k + 1 + (c.chans.length - (k + 1)) = c.chans.length by omega] at h1
  have h2:=beforeN_succ c k
  omega
theorem frOf {c:Cfg} (ha:acceptsB c = true) (k:Nat) (hk:k < c.chans.length) (h1:fld (row c.chans k) 0 = 1) (hp:0 ≤ fld (row c.chans k) 5 ∧ fld (row c.chans k) 5 ≤ 1048576) :
    FrOf c k ⟨(beforeN c k).toNat,(beforeN c k + srcN (row c.chans k)).toNat,(fld (row c.chans k) 3).toNat,fld (row c.chans k) 5⟩:=by
  have hA:=accd_of ha
  have hc:chanB c k = true:=(chanB_iff ha k).2 ⟨by omega,by omega⟩
  have hb:=beforeN_in hA (k:=k) (by omega)
  have hb2:=beforeN_in hA (k:=c.chans.length) (Nat.le_refl _)
  obtain ⟨-,w1,w2,-⟩:=hA.chan k hk
  have hm:=chanUp_mono hA k hk
  have hs:srcN (row c.chans k) = 11 + 4 * fld (row c.chans k) 3:=by unfold srcN;rw [if_pos h1]
  have hz:sizeN c = beforeN c c.chans.length:=if_pos ha
  have e1:srcSpan c k = (beforeN c k,srcN (row c.chans k)):=(if_pos hc).trans (by rw [Int.toNat_natCast])
  have e2:dstSpan c k = (beforeN c k + srcN (row c.chans k),1):=(if_pos hc).trans (by rw [Int.toNat_natCast])
  refine ⟨?_,?_,fun p i hp hi => ?_,hk,?_,?_,?_,rfl,hp.1,hp.2,?_⟩
  · rw [e1];show beforeN c k = ((beforeN c k).toNat:Int);omega
  · rw [e2];show beforeN c k + srcN (row c.chans k) = ((beforeN c k + srcN (row c.chans k)).toNat:Int);omega
  · have e3:bufSpan c k p i = (beforeN c k + 3 + (p:Int) * 2 * (fld (row c.chans k) 3 + 2) + (i:Int) * (fld (row c.chans k) 3 + 2),fld (row c.chans k) 3 + 2):=
      (if_pos ⟨hc,by rw [Int.toNat_natCast];exact ⟨h1,by omega,by omega,by omega,by omega⟩⟩).trans (by rw [Int.toNat_natCast])
    rw [e3]
    show beforeN c k + 3 + (p:Int) * 2 * (fld (row c.chans k) 3 + 2) + (i:Int) * (fld (row c.chans k) 3 + 2) = ((bufA _ p i:Nat):Int)
    unfold bufA
    show _ = (((beforeN c k).toNat + 3 + (2 * p + i) * ((fld (row c.chans k) 3).toNat + 2):Nat):Int)
    obtain ⟨n,hn⟩:=Int.eq_ofNat_of_zero_le (show 0 ≤ fld (row c.chans k) 3 by omega)
    obtain ⟨b,hbn⟩:=Int.eq_ofNat_of_zero_le hb.1
    rw [hn,hbn]
    have hp2:p = 0 ∨ p = 1:=by omega
    have hi2:i = 0 ∨ i = 1:=by omega
    rcases hp2 with rfl | rfl <;> rcases hi2 with rfl | rfl <;> (simp;try omega)
  · exact ⟨by show (beforeN c k).toNat + 3 + 4 * ((fld (row c.chans k) 3).toNat + 2) ≤ _;omega,by show (beforeN c k + srcN (row c.chans k)).toNat < _;omega,by omega,by show 1 ≤ (fld (row c.chans k) 3).toNat;omega,by show (fld (row c.chans k) 3).toNat ≤ 1000;omega⟩
  · omega
  · show fld (row c.chans k) 3 = ((fld (row c.chans k) 3).toNat:Int);omega
  · show (fld (row c.chans k) 3).toNat ≤ 16;omega
end Go.Proofs.YtjfolhkblbakiaaGreatDoor
namespace Go.Proofs.YtjfolhkblbakiaaGreatDoor
open Go.RowKit Go.Sort
set_option linter.unusedVariables false
set_option linter.unusedSimpArgs false
set_option linter.unusedVariables false
set_option linter.unusedSimpArgs false
open Go.Proofs.YtjfolhkblbakiaaGreatDoor.Simp
set_option maxRecDepth 100000
set_option maxHeartbeats 3200000
theorem below_set {B:Nat} {w W:World} {a o:Nat} {v:Value} (h:Below B w W) (ha:B ≤ a):Below B w (W.setCell ⟨a,o,none⟩ v):=h.setCell (p:=⟨a,o,none⟩) ha v
theorem keepS {B:Nat} {w W:World} {P:World → Prop} (h:∀ W,Below B w W → P W) (hb:Below B w W):Below B w W ∧ P W:=⟨hb,h W hb⟩
theorem blk_put {W:World} {a o:Nat} {cs cs':Array Value} {v:Value} {t:TypeId} {m:Nat × Nat} (h:W.heap[a]? = some (.cells cs t m)) (e:cs.setIfInBounds o v = cs'):(W.setCell ⟨a,o,none⟩ v).heap[a]? = some (.cells cs' t m):=by
  subst e;simp [World.setCell,Array.getElem?_modify,h]
/-- The addresses,of the buffers the first m. -/
def PBa (F:Fr) (m:Nat):Array Value:=#[.int .i64 (P8 F).la,.int .i64 (P8 F).re,.int .i64 (P8 F).s0,.int .i64 (P8 F).s1,.int .i64 (if 0 < m then (P8 F).b00 else 0:Nat),.int .i64 (if 1 < m then (P8 F).b01 else 0:Nat),.int .i64 (if 2 < m then (P8 F).b10 else 0:Nat),.int .i64 (if 3 < m then (P8 F).b11 else 0:Nat)]
theorem run_span0 (a b:Int) (w:World):(Instr.field 135 (.agg #[.int .i64 a,.int .i64 b]) 0).run Tryz.prog w = .ok (.int .i64 a) w:=by kernel_rfl
theorem places_size:(Tryz.prog.info? 195).map (·.size) = some 8:=by kernel_rfl
theorem clone_b (g off cap:Nat) (xs:List Int) (w:World) (h:∀ (k:Nat) (x:Int),xs[k]? = some x → w.cell? ⟨g,off + k,none⟩ = some (.int .u32 x)) (hn:1 ≤ xs.length) (hl:xs.length ≤ 1000000) :
    Calls Tryz.prog 88 #[.slice (some ⟨g,off,none⟩) xs.length cap] w fun e w' => ∃ v,e = .returned v ∧ OwnsOff w' w.heap.size 45 1 v xs.length (wcells xs) ∧ Below w.heap.size w w':=by
  obtain ⟨i0,hi,hz0,hz1,hz2⟩:=info_parts Tryz.infoW
  have hcell:∀ j u,(wcells xs)[j]? = some u → w.cell? ((⟨g,off,none⟩:Addr).add j) = some u:=fun j u hj => by
    simp [wcells] at hj
    obtain ⟨x,hx,rfl⟩:=hj
    rw [Addr.add_lit];exact h j x hx
  have q:=Lib.run_eql_slice_nil (P:=Tryz.prog) w 34 45 (some ⟨g,off,none⟩) xs.length cap 0 0 Tryz.underlying34
  have hb1:Below w.heap.size w (w.alloc (.cells #[] 45)):=(Below.refl _ _).alloc (Nat.le_refl _) _
  have hown:=World.ownsRow_made (base:=w.heap.size) (e:=45) (size:=1) w #[] 0 (Nat.le_refl _) (by unfold maxLen;omega) (by simp)
  have hcell1:∀ j u,(wcells xs)[j]? = some u → (w.alloc (.cells #[] 45)).cell? ((⟨g,off,none⟩:Addr).add j) = some u:=fun j u hj =>
    (hb1.cell (by have:=World.block_lt_of_cell? _ _ (hcell j u hj);exact this)).trans (hcell j u hj)
  have HO:=Lib.hid (wcells_one xs);have HC:=Lib.hid hcell1
  clear h hcell hcell1
  go_enter Tryz.func88,Tryz.ntmps88
  go_wp2_with (at_builtin;refine wpList_append_own _ rfl _ _ 34 rfl w.heap.size 45 i0 (.int .u32 0) 1 4 Tryz.underlying34 hi hz0 hz1 hz2 rfl (by decide) _ _ _ rfl hown ⟨g,off,none⟩ xs.length cap _ rfl (by simp) HC.out HO.out (by unfold maxLen;omega) (by omega) (by simp) ?_)
  · intro v' w2 hown' hgrow _
    obtain ⟨a',c',rfl,_⟩:=(OwnsOff.of_own hown').slice
    have hb2:Below w.heap.size w w2:=hb1.grown hgrow hb1.size (fun k hk => by cases hk;exact Nat.le_refl _)
    have HH:=Lib.hid hown';have HB:=Lib.hid hb2
    clear hown' hgrow hb1 hown hb2
    go_wp2
    go_ret
    refine ⟨_,rfl,?_,HB.out⟩
    have:=OwnsOff.of_own HH.out
    simpa using this
theorem find_b (c:Cfg) (x:CfgAt) (k:Nat) (F:Fr) (w:World) (hx:CfgIn w w.heap.size c x) (wx:CfgWf c) (lx:CfgFew c) (hF:FrOf c k F) :
    Calls Tryz.prog 98 #[.agg (cfgCells c x),.int .i64 (k:Int)] w fun e w' => e = .returned (.agg (#[.int .i64 (P8 F).la,.int .i64 (P8 F).re,.int .i64 (P8 F).s0,.int .i64 (P8 F).s1,.int .i64 (P8 F).b00,.int .i64 (P8 F).b01,.int .i64 (P8 F).b10,.int .i64 (P8 F).b11])) ∧ Below w.heap.size w w':=by
  obtain ⟨Wc,HWc,hBc,hWs,bx⟩:=one_cbox w c x 29
  obtain ⟨pa,pc,ca,cc,aa,ac,ba,bc⟩:=x
  obtain ⟨W,HW⟩:∃ u,Hid (u = Wc.alloc (.cells #[.int .i64 0,.int .i64 0,.int .i64 0,.int .i64 0,.int .i64 0,.int .i64 0,.int .i64 0,.int .i64 0] 195)):=⟨_,rfl⟩
  obtain ⟨r,hr⟩:∃ r,r = Wc.heap.size:=⟨_,rfl⟩
  have hR:W.heap[r]? = some (.cells #[.int .i64 0,.int .i64 0,.int .i64 0,.int .i64 0,.int .i64 0,.int .i64 0,.int .i64 0,.int .i64 0] 195 (0,0)):=by rw [HW.out,hr];exact heap_alloc_new _ _
  have hBW:Below Wc.heap.size Wc W:=by rw [HW.out];exact (Below.refl _ _).alloc (Nat.le_refl _) _
  have hxW:=hx.later (hBc.trans (hBW.mono hBc.size))
  have HS:=source_b c ⟨pa,pc,ca,cc,aa,ac,ba,bc⟩ k W hxW wx lx
  rw [hF.src] at HS
  have HS:=Lib.hid HS
  have hfl:=run_span0
  obtain ⟨c0,c1,c2,c3,c4,c5⟩:=bx _ hBW
  have HB:=Lib.hid hBc;have HR0:=Lib.hid hR;have HBW:=Lib.hid hBW;have HXC:=Lib.hid (hx.later hBc);have HRR:=Lib.hid hr;have HWS:=Lib.hid hWs
  simp only [cfgCells] at HWc HS bx ⊢
  clear hBc hR hBW hxW hx hr hWs
  go_enter Tryz.func98,Tryz.ntmps98
  go_wp2_with (first | (rw [← HWc.out]) | (rw [← HW.out]))
  refine HS.out.mono ?_
  rintro e w3 ⟨rfl,hb3⟩
  have hB3:=HBW.out.trans (hb3.mono HBW.out.size)
  clear c0 c1 c2 c3 c4 c5
  obtain ⟨c0,c1,c2,c3,c4,c5⟩:=bx _ hB3
  have HD:=dest_b c ⟨pa,pc,ca,cc,aa,ac,ba,bc⟩ k w3 (HXC.out.later hB3) wx lx
  rw [hF.dst] at HD
  have HD:=Lib.hid HD
  simp only [cfgCells] at HD
  simp only [← HRR.out]
  have HB3:=Lib.hid hB3
  have HR3:=Lib.hid ((hb3.block r (Array.getElem?_eq_some_iff.1 HR0.out).1).trans HR0.out)
  have hsr:=hF.fin.src
  have hsm:=hF.fin.max
  have v1:IntKind.i64.wrap ((F.src:Int) + 1) = (((P8 F).s0:Nat):Int):=by rw [IntWalk.i64_in _ (by omega)];rfl
  have v2:IntKind.i64.wrap ((F.src:Int) + 2) = (((P8 F).s1:Nat):Int):=by rw [IntWalk.i64_in _ (by omega)];rfl
  clear hb3 hB3 hsr hsm
  go_wp2_with fail
  refine HD.out.mono ?_
  rintro e w4 ⟨rfl,hb4⟩
  have hB4:=HB3.out.trans (hb4.mono HB3.out.size)
  have HR4:=Lib.hid ((hb4.block r (Array.getElem?_eq_some_iff.1 HR3.out).1).trans HR3.out)
  have HXC4:=Lib.hid (HXC.out.later hB4)
  have BX4:=Lib.hid (fun (W':World) (h:Below w4.heap.size w4 W') => bx W' (hB4.trans (h.mono hB4.size)))
  have HB4:=Lib.hid hB4
  clear hb4 hB4 c0 c1 c2 c3 c4 c5
  obtain ⟨a,ha⟩:∃ a,a = w4.heap.size:=⟨_,rfl⟩
  obtain ⟨wa,HWA⟩:∃ u,Hid (u = w4.alloc (.cells (#[.int .i64 F.src,.int .i64 F.dst,.int .i64 (P8 F).s0,.int .i64 (P8 F).s1,.int .i64 0,.int .i64 0,.int .i64 0,.int .i64 0]) 195)):=⟨_,rfl⟩
  have HAV:Hid (wa.heap[a]? = some (.cells (PBa F 0) 195 (0,0))):=Lib.hid (by rw [HWA.out,ha];exact heap_alloc_new _ _)
  have hBV:Below w4.heap.size w4 wa:=by rw [HWA.out];exact (Below.refl _ _).alloc (Nat.le_refl _) _
  have HA4:Hid (w4.heap.size ≤ a):=Lib.hid (by omega)
  have HAA:=Lib.hid ha
  have HBU0:Hid (∀ W':World,Below w4.heap.size w4 W' → Calls Tryz.prog 140 #[.agg #[.slice pa c.parts.length pc,.slice ca c.chans.length cc,.int .i64 c.len0,.slice aa c.win0.length ac,.int .i64 c.len1,.slice ba c.win1.length bc],.int .i64 (k:Int),.int .i64 0,.int .i64 0] W' fun e w' => e = .returned (.agg #[.int .i64 ((P8 F).b00:Nat),.int .i64 (bufSpan c k 0 0).2]) ∧ Below W'.heap.size W' w'):=Lib.hid (fun W' h => by
    have q:=buffer_b c ⟨pa,pc,ca,cc,aa,ac,ba,bc⟩ k 0 0 W' (HXC4.out.later h) wx lx
    have e:(bufSpan c (k:Int) 0 0).1 = ((bufA F 0 0:Nat):Int):=hF.buf 0 0 (by omega) (by omega)
    rw [e] at q
    exact q)
  have HBU1:Hid (∀ W':World,Below w4.heap.size w4 W' → Calls Tryz.prog 140 #[.agg #[.slice pa c.parts.length pc,.slice ca c.chans.length cc,.int .i64 c.len0,.slice aa c.win0.length ac,.int .i64 c.len1,.slice ba c.win1.length bc],.int .i64 (k:Int),.int .i64 0,.int .i64 1] W' fun e w' => e = .returned (.agg #[.int .i64 ((P8 F).b01:Nat),.int .i64 (bufSpan c k 0 1).2]) ∧ Below W'.heap.size W' w'):=Lib.hid (fun W' h => by
    have q:=buffer_b c ⟨pa,pc,ca,cc,aa,ac,ba,bc⟩ k 0 1 W' (HXC4.out.later h) wx lx
    have e:(bufSpan c (k:Int) 0 1).1 = ((bufA F 0 1:Nat):Int):=hF.buf 0 1 (by omega) (by omega)
    rw [e] at q
    exact q)
  have HBU2:Hid (∀ W':World,Below w4.heap.size w4 W' → Calls Tryz.prog 140 #[.agg #[.slice pa c.parts.length pc,.slice ca c.chans.length cc,.int .i64 c.len0,.slice aa c.win0.length ac,.int .i64 c.len1,.slice ba c.win1.length bc],.int .i64 (k:Int),.int .i64 1,.int .i64 0] W' fun e w' => e = .returned (.agg #[.int .i64 ((P8 F).b10:Nat),.int .i64 (bufSpan c k 1 0).2]) ∧ Below W'.heap.size W' w'):=Lib.hid (fun W' h => by
    have q:=buffer_b c ⟨pa,pc,ca,cc,aa,ac,ba,bc⟩ k 1 0 W' (HXC4.out.later h) wx lx
    have e:(bufSpan c (k:Int) 1 0).1 = ((bufA F 1 0:Nat):Int):=hF.buf 1 0 (by omega) (by omega)
    rw [e] at q
    exact q)
  have HBU3:Hid (∀ W':World,Below w4.heap.size w4 W' → Calls Tryz.prog 140 #[.agg #[.slice pa c.parts.length pc,.slice ca c.chans.length cc,.int .i64 c.len0,.slice aa c.win0.length ac,.int .i64 c.len1,.slice ba c.win1.length bc],.int .i64 (k:Int),.int .i64 1,.int .i64 1] W' fun e w' => e = .returned (.agg #[.int .i64 ((P8 F).b11:Nat),.int .i64 (bufSpan c k 1 1).2]) ∧ Below W'.heap.size W' w'):=Lib.hid (fun W' h => by
    have q:=buffer_b c ⟨pa,pc,ca,cc,aa,ac,ba,bc⟩ k 1 1 W' (HXC4.out.later h) wx lx
    have e:(bufSpan c (k:Int) 1 1).1 = ((bufA F 1 1:Nat):Int):=hF.buf 1 1 (by omega) (by omega)
    rw [e] at q
    exact q)
  clear ha bx
  go_wp2_with (first | (simp only [← HAA.out];rw [← HWA.out]))
  go_loopw [24] (fun ix wr => ∃ j:Int,0 ≤ j ∧ j ≤ 2 ∧ ix = .int .i64 j ∧ wr.heap[a]? = some (.cells (PBa F (2 * j).toNat) 195 (0,0)) ∧ Below w4.heap.size w4 wr) (fun ix _ => (2 - intOf ix).toNat)
  case atStart => exact ⟨0,by omega,by omega,rfl,HAV.out,hBV⟩
  case round =>
    clear HAV hBV
    obtain ⟨j,hj0,hj,rfl,hAV,hBV⟩:=hrel
    have HAV:=Lib.hid hAV
    clear hAV
    rcases (show j = 0 ∨ j = 1 ∨ j = 2 by omega) with hj | hj | hj
    · subst hj
      go_wp2
      go_loopw [27] (fun ix wr => ∃ i:Int,0 ≤ i ∧ i ≤ 2 ∧ ix = .int .i64 i ∧ wr.heap[a]? = some (.cells (PBa F (2 * 0 + i).toNat) 195 (0,0)) ∧ Below w4.heap.size w4 wr) (fun ix _ => (2 - intOf ix).toNat)
      case atStart => exact ⟨0,by omega,by omega,rfl,HAV.out,hBV⟩
      case round =>
        clear HAV hBV
        obtain ⟨i,hi0,hi,rfl,hAV,hBV⟩:=hrel
        have HAV:=Lib.hid hAV
        clear hAV
        rcases (show i = 0 ∨ i = 1 ∨ i = 2 by omega) with hj | hj | hj
        · subst hj
          go_wp2
          refine wp_region_held_drew (S:=(fun W' => Below w4.heap.size w4 W' ∧ W'.cell? ⟨w.heap.size,0,none⟩ = some (.slice pa c.parts.length pc) ∧ W'.cell? ⟨w.heap.size,1,none⟩ = some (.slice ca c.chans.length cc) ∧ W'.cell? ⟨w.heap.size,2,none⟩ = some (.int .i64 c.len0) ∧ W'.cell? ⟨w.heap.size,3,none⟩ = some (.slice aa c.win0.length ac) ∧ W'.cell? ⟨w.heap.size,4,none⟩ = some (.int .i64 c.len1) ∧ W'.cell? ⟨w.heap.size,5,none⟩ = some (.slice ba c.win1.length bc))) (by kernel_rfl) (keepS BX4.out hBV.drew) (fun hHeld => ?_)
          refine wpAnyH_take (i:=0) rfl (by kernel_rfl) (by kernel_rfl) (by kernel_rfl) (fun _ _ _ h => h) (Or.inl ⟨by rfl,by intro w hSw;(skip);(go_simp <;> with_reducible rfl)⟩) (by assumption) ?_
          (try simp only [Act.put,List.setIfInBounds_toArray,List.set_cons_zero,List.set_cons_succ,List.getElem_toArray,List.getElem_cons_zero,List.getElem_cons_succ])
          refine wpAnyH_take (i:=1) rfl (by kernel_rfl) (by kernel_rfl) (by kernel_rfl) (fun _ _ _ h => h) (Or.inl ⟨by rfl,by intro w hSw;(skip);(go_simp <;> with_reducible rfl)⟩) (by assumption) ?_
          (try simp only [Act.put,List.setIfInBounds_toArray,List.set_cons_zero,List.set_cons_succ,List.getElem_toArray,List.getElem_cons_zero,List.getElem_cons_succ])
          refine wpAnyH_take (i:=2) rfl (by kernel_rfl) (by kernel_rfl) (by kernel_rfl) (fun _ _ _ h => h) (Or.inl ⟨by rfl,by intro w hSw;(skip);(go_simp <;> with_reducible rfl)⟩) (by assumption) ?_
          (try simp only [Act.put,List.setIfInBounds_toArray,List.set_cons_zero,List.set_cons_succ,List.getElem_toArray,List.getElem_cons_zero,List.getElem_cons_succ])
          refine wpAnyH_take (i:=3) rfl (by kernel_rfl) (by kernel_rfl) (by kernel_rfl) (fun _ _ _ h => h) (Or.inl ⟨by rfl,by intro w hSw;(skip);(go_simp <;> with_reducible rfl)⟩) (by assumption) ?_
          (try simp only [Act.put,List.setIfInBounds_toArray,List.set_cons_zero,List.set_cons_succ,List.getElem_toArray,List.getElem_cons_zero,List.getElem_cons_succ])
          refine wpAnyH_take (i:=4) rfl (by kernel_rfl) (by kernel_rfl) (by kernel_rfl) (fun _ _ _ h => h) (Or.inl ⟨by rfl,by intro w hSw;(skip);(go_simp <;> with_reducible rfl)⟩) (by assumption) ?_
          (try simp only [Act.put,List.setIfInBounds_toArray,List.set_cons_zero,List.set_cons_succ,List.getElem_toArray,List.getElem_cons_zero,List.getElem_cons_succ])
          refine wpAnyH_take (i:=5) rfl (by kernel_rfl) (by kernel_rfl) (by kernel_rfl) (fun _ _ _ h => h) (Or.inl ⟨by rfl,by intro w hSw;(skip);(go_simp <;> with_reducible rfl)⟩) (by assumption) ?_
          (try simp only [Act.put,List.setIfInBounds_toArray,List.set_cons_zero,List.set_cons_succ,List.getElem_toArray,List.getElem_cons_zero,List.getElem_cons_succ])
          refine wpAnyH_take (i:=8) rfl (by kernel_rfl) (by kernel_rfl) (by kernel_rfl) (fun _ _ _ h => h) (Or.inl ⟨by rfl,by intro w hSw;(skip);(go_simp <;> with_reducible rfl)⟩) (by assumption) ?_
          (try simp only [Act.put,List.setIfInBounds_toArray,List.set_cons_zero,List.set_cons_succ,List.getElem_toArray,List.getElem_cons_zero,List.getElem_cons_succ])
          refine wpAnyH_take (i:=9) rfl (by kernel_rfl) (by kernel_rfl) (by kernel_rfl) (fun _ _ _ h => h) (Or.inl ⟨by rfl,by intro w hSw;(skip);(go_simp <;> with_reducible rfl)⟩) (by assumption) ?_
          (try simp only [Act.put,List.setIfInBounds_toArray,List.set_cons_zero,List.set_cons_succ,List.getElem_toArray,List.getElem_cons_zero,List.getElem_cons_succ])
          refine wpAnyH_ready (rs:=[6]) (by kernel_rfl) (by simp) (AllReadyH.cons rfl (fun K hK => ?_) AllReadyH.nil)
          go_simp
          refine (HBU0.out _ hHeld.1).mono ?_
          rintro e w5 ⟨rfl,hb5⟩
          have hA5:=(hb5.block a (by have:=(Array.getElem?_eq_some_iff.1 HAV.out).1;exact this)).trans HAV.out
          have z4:=cell_blk hA5 (i:=4) rfl
          have f4:w5.frozen? ⟨a,4,none⟩ = false:=by simp [World.frozen?,hA5]
          refine hK.out _ _ (keepS BX4.out (hHeld.1.trans (hb5.mono hHeld.1.size))) (fun hHeld => ?_)
          clear hK K
          (try simp only [Act.put,List.setIfInBounds_toArray,List.set_cons_zero,List.set_cons_succ,List.getElem_toArray,List.getElem_cons_zero,List.getElem_cons_succ])
          refine wpAnyH_take (i:=7) rfl (by kernel_rfl) (by kernel_rfl) (by kernel_rfl) (fun _ _ _ h => h) (Or.inl ⟨by rfl,by intro w hSw;(skip);(go_simp <;> with_reducible rfl)⟩) (by assumption) ?_
          (try simp only [Act.put,List.setIfInBounds_toArray,List.set_cons_zero,List.set_cons_succ,List.getElem_toArray,List.getElem_cons_zero,List.getElem_cons_succ])
          refine wpAnyH_take (i:=10) rfl (by kernel_rfl) (by kernel_rfl) (by kernel_rfl) (fun _ _ _ h => h) (Or.inl ⟨by rfl,by intro w hSw;(skip);(go_simp <;> with_reducible rfl)⟩) (by assumption) ?_
          (try simp only [Act.put,List.setIfInBounds_toArray,List.set_cons_zero,List.set_cons_succ,List.getElem_toArray,List.getElem_cons_zero,List.getElem_cons_succ])
          refine wpAnyH_ready (rs:=[11]) (by kernel_rfl) (by simp) (AllReadyH.cons rfl (fun K hK => ?_) AllReadyH.nil)
          go_simp
          refine hK.out _ _ (keepS BX4.out (below_set hHeld.1 HA4.out)) (fun hHeld => ?_)
          clear hK K
          (try simp only [Act.put,List.setIfInBounds_toArray,List.set_cons_zero,List.set_cons_succ,List.getElem_toArray,List.getElem_cons_zero,List.getElem_cons_succ])
          refine wpAnyH_done (by kernel_rfl) ?_ _
          go_wp2
          go_roundw
          case rel => exact ⟨1,by omega,by omega,rfl,blk_put hA5 rfl,below_set (hBV.drew.trans (hb5.mono hBV.size)) HA4.out⟩
          case measure => simp [intOf]
        · subst hj
          go_wp2
          refine wp_region_held_drew (S:=(fun W' => Below w4.heap.size w4 W' ∧ W'.cell? ⟨w.heap.size,0,none⟩ = some (.slice pa c.parts.length pc) ∧ W'.cell? ⟨w.heap.size,1,none⟩ = some (.slice ca c.chans.length cc) ∧ W'.cell? ⟨w.heap.size,2,none⟩ = some (.int .i64 c.len0) ∧ W'.cell? ⟨w.heap.size,3,none⟩ = some (.slice aa c.win0.length ac) ∧ W'.cell? ⟨w.heap.size,4,none⟩ = some (.int .i64 c.len1) ∧ W'.cell? ⟨w.heap.size,5,none⟩ = some (.slice ba c.win1.length bc))) (by kernel_rfl) (keepS BX4.out hBV.drew) (fun hHeld => ?_)
          refine wpAnyH_take (i:=0) rfl (by kernel_rfl) (by kernel_rfl) (by kernel_rfl) (fun _ _ _ h => h) (Or.inl ⟨by rfl,by intro w hSw;(skip);(go_simp <;> with_reducible rfl)⟩) (by assumption) ?_
          (try simp only [Act.put,List.setIfInBounds_toArray,List.set_cons_zero,List.set_cons_succ,List.getElem_toArray,List.getElem_cons_zero,List.getElem_cons_succ])
          refine wpAnyH_take (i:=1) rfl (by kernel_rfl) (by kernel_rfl) (by kernel_rfl) (fun _ _ _ h => h) (Or.inl ⟨by rfl,by intro w hSw;(skip);(go_simp <;> with_reducible rfl)⟩) (by assumption) ?_
          (try simp only [Act.put,List.setIfInBounds_toArray,List.set_cons_zero,List.set_cons_succ,List.getElem_toArray,List.getElem_cons_zero,List.getElem_cons_succ])
          refine wpAnyH_take (i:=2) rfl (by kernel_rfl) (by kernel_rfl) (by kernel_rfl) (fun _ _ _ h => h) (Or.inl ⟨by rfl,by intro w hSw;(skip);(go_simp <;> with_reducible rfl)⟩) (by assumption) ?_
          (try simp only [Act.put,List.setIfInBounds_toArray,List.set_cons_zero,List.set_cons_succ,List.getElem_toArray,List.getElem_cons_zero,List.getElem_cons_succ])
          refine wpAnyH_take (i:=3) rfl (by kernel_rfl) (by kernel_rfl) (by kernel_rfl) (fun _ _ _ h => h) (Or.inl ⟨by rfl,by intro w hSw;(skip);(go_simp <;> with_reducible rfl)⟩) (by assumption) ?_
          (try simp only [Act.put,List.setIfInBounds_toArray,List.set_cons_zero,List.set_cons_succ,List.getElem_toArray,List.getElem_cons_zero,List.getElem_cons_succ])
          refine wpAnyH_take (i:=4) rfl (by kernel_rfl) (by kernel_rfl) (by kernel_rfl) (fun _ _ _ h => h) (Or.inl ⟨by rfl,by intro w hSw;(skip);(go_simp <;> with_reducible rfl)⟩) (by assumption) ?_
          (try simp only [Act.put,List.setIfInBounds_toArray,List.set_cons_zero,List.set_cons_succ,List.getElem_toArray,List.getElem_cons_zero,List.getElem_cons_succ])
          refine wpAnyH_take (i:=5) rfl (by kernel_rfl) (by kernel_rfl) (by kernel_rfl) (fun _ _ _ h => h) (Or.inl ⟨by rfl,by intro w hSw;(skip);(go_simp <;> with_reducible rfl)⟩) (by assumption) ?_
          (try simp only [Act.put,List.setIfInBounds_toArray,List.set_cons_zero,List.set_cons_succ,List.getElem_toArray,List.getElem_cons_zero,List.getElem_cons_succ])
          refine wpAnyH_take (i:=8) rfl (by kernel_rfl) (by kernel_rfl) (by kernel_rfl) (fun _ _ _ h => h) (Or.inl ⟨by rfl,by intro w hSw;(skip);(go_simp <;> with_reducible rfl)⟩) (by assumption) ?_
          (try simp only [Act.put,List.setIfInBounds_toArray,List.set_cons_zero,List.set_cons_succ,List.getElem_toArray,List.getElem_cons_zero,List.getElem_cons_succ])
          refine wpAnyH_take (i:=9) rfl (by kernel_rfl) (by kernel_rfl) (by kernel_rfl) (fun _ _ _ h => h) (Or.inl ⟨by rfl,by intro w hSw;(skip);(go_simp <;> with_reducible rfl)⟩) (by assumption) ?_
          (try simp only [Act.put,List.setIfInBounds_toArray,List.set_cons_zero,List.set_cons_succ,List.getElem_toArray,List.getElem_cons_zero,List.getElem_cons_succ])
          refine wpAnyH_ready (rs:=[6]) (by kernel_rfl) (by simp) (AllReadyH.cons rfl (fun K hK => ?_) AllReadyH.nil)
          go_simp
          refine (HBU1.out _ hHeld.1).mono ?_
          rintro e w5 ⟨rfl,hb5⟩
          have hA5:=(hb5.block a (by have:=(Array.getElem?_eq_some_iff.1 HAV.out).1;exact this)).trans HAV.out
          have z4:=cell_blk hA5 (i:=5) rfl
          have f4:w5.frozen? ⟨a,5,none⟩ = false:=by simp [World.frozen?,hA5]
          refine hK.out _ _ (keepS BX4.out (hHeld.1.trans (hb5.mono hHeld.1.size))) (fun hHeld => ?_)
          clear hK K
          (try simp only [Act.put,List.setIfInBounds_toArray,List.set_cons_zero,List.set_cons_succ,List.getElem_toArray,List.getElem_cons_zero,List.getElem_cons_succ])
          refine wpAnyH_take (i:=7) rfl (by kernel_rfl) (by kernel_rfl) (by kernel_rfl) (fun _ _ _ h => h) (Or.inl ⟨by rfl,by intro w hSw;(skip);(go_simp <;> with_reducible rfl)⟩) (by assumption) ?_
          (try simp only [Act.put,List.setIfInBounds_toArray,List.set_cons_zero,List.set_cons_succ,List.getElem_toArray,List.getElem_cons_zero,List.getElem_cons_succ])
          refine wpAnyH_take (i:=10) rfl (by kernel_rfl) (by kernel_rfl) (by kernel_rfl) (fun _ _ _ h => h) (Or.inl ⟨by rfl,by intro w hSw;(skip);(go_simp <;> with_reducible rfl)⟩) (by assumption) ?_
          (try simp only [Act.put,List.setIfInBounds_toArray,List.set_cons_zero,List.set_cons_succ,List.getElem_toArray,List.getElem_cons_zero,List.getElem_cons_succ])
          refine wpAnyH_ready (rs:=[11]) (by kernel_rfl) (by simp) (AllReadyH.cons rfl (fun K hK => ?_) AllReadyH.nil)
          go_simp
          refine hK.out _ _ (keepS BX4.out (below_set hHeld.1 HA4.out)) (fun hHeld => ?_)
          clear hK K
          (try simp only [Act.put,List.setIfInBounds_toArray,List.set_cons_zero,List.set_cons_succ,List.getElem_toArray,List.getElem_cons_zero,List.getElem_cons_succ])
          refine wpAnyH_done (by kernel_rfl) ?_ _
          go_wp2
          go_roundw
          case rel => exact ⟨2,by omega,by omega,rfl,blk_put hA5 rfl,below_set (hBV.drew.trans (hb5.mono hBV.size)) HA4.out⟩
          case measure => simp [intOf]
        · subst hj
          go_wp2
          go_roundw
          case rel => exact ⟨1,by omega,by omega,rfl,HAV.out,hBV⟩
          case measure => simp [intOf]
    · subst hj
      go_wp2
      go_loopw [27] (fun ix wr => ∃ i:Int,0 ≤ i ∧ i ≤ 2 ∧ ix = .int .i64 i ∧ wr.heap[a]? = some (.cells (PBa F (2 * 1 + i).toNat) 195 (0,0)) ∧ Below w4.heap.size w4 wr) (fun ix _ => (2 - intOf ix).toNat)
      case atStart => exact ⟨0,by omega,by omega,rfl,HAV.out,hBV⟩
      case round =>
        clear HAV hBV
        obtain ⟨i,hi0,hi,rfl,hAV,hBV⟩:=hrel
        have HAV:=Lib.hid hAV
        clear hAV
        rcases (show i = 0 ∨ i = 1 ∨ i = 2 by omega) with hj | hj | hj
        · subst hj
          go_wp2
          refine wp_region_held_drew (S:=(fun W' => Below w4.heap.size w4 W' ∧ W'.cell? ⟨w.heap.size,0,none⟩ = some (.slice pa c.parts.length pc) ∧ W'.cell? ⟨w.heap.size,1,none⟩ = some (.slice ca c.chans.length cc) ∧ W'.cell? ⟨w.heap.size,2,none⟩ = some (.int .i64 c.len0) ∧ W'.cell? ⟨w.heap.size,3,none⟩ = some (.slice aa c.win0.length ac) ∧ W'.cell? ⟨w.heap.size,4,none⟩ = some (.int .i64 c.len1) ∧ W'.cell? ⟨w.heap.size,5,none⟩ = some (.slice ba c.win1.length bc))) (by kernel_rfl) (keepS BX4.out hBV.drew) (fun hHeld => ?_)
          refine wpAnyH_take (i:=0) rfl (by kernel_rfl) (by kernel_rfl) (by kernel_rfl) (fun _ _ _ h => h) (Or.inl ⟨by rfl,by intro w hSw;(skip);(go_simp <;> with_reducible rfl)⟩) (by assumption) ?_
          (try simp only [Act.put,List.setIfInBounds_toArray,List.set_cons_zero,List.set_cons_succ,List.getElem_toArray,List.getElem_cons_zero,List.getElem_cons_succ])
          refine wpAnyH_take (i:=1) rfl (by kernel_rfl) (by kernel_rfl) (by kernel_rfl) (fun _ _ _ h => h) (Or.inl ⟨by rfl,by intro w hSw;(skip);(go_simp <;> with_reducible rfl)⟩) (by assumption) ?_
          (try simp only [Act.put,List.setIfInBounds_toArray,List.set_cons_zero,List.set_cons_succ,List.getElem_toArray,List.getElem_cons_zero,List.getElem_cons_succ])
          refine wpAnyH_take (i:=2) rfl (by kernel_rfl) (by kernel_rfl) (by kernel_rfl) (fun _ _ _ h => h) (Or.inl ⟨by rfl,by intro w hSw;(skip);(go_simp <;> with_reducible rfl)⟩) (by assumption) ?_
          (try simp only [Act.put,List.setIfInBounds_toArray,List.set_cons_zero,List.set_cons_succ,List.getElem_toArray,List.getElem_cons_zero,List.getElem_cons_succ])
          refine wpAnyH_take (i:=3) rfl (by kernel_rfl) (by kernel_rfl) (by kernel_rfl) (fun _ _ _ h => h) (Or.inl ⟨by rfl,by intro w hSw;(skip);(go_simp <;> with_reducible rfl)⟩) (by assumption) ?_
          (try simp only [Act.put,List.setIfInBounds_toArray,List.set_cons_zero,List.set_cons_succ,List.getElem_toArray,List.getElem_cons_zero,List.getElem_cons_succ])
          refine wpAnyH_take (i:=4) rfl (by kernel_rfl) (by kernel_rfl) (by kernel_rfl) (fun _ _ _ h => h) (Or.inl ⟨by rfl,by intro w hSw;(skip);(go_simp <;> with_reducible rfl)⟩) (by assumption) ?_
          (try simp only [Act.put,List.setIfInBounds_toArray,List.set_cons_zero,List.set_cons_succ,List.getElem_toArray,List.getElem_cons_zero,List.getElem_cons_succ])
          refine wpAnyH_take (i:=5) rfl (by kernel_rfl) (by kernel_rfl) (by kernel_rfl) (fun _ _ _ h => h) (Or.inl ⟨by rfl,by intro w hSw;(skip);(go_simp <;> with_reducible rfl)⟩) (by assumption) ?_
          (try simp only [Act.put,List.setIfInBounds_toArray,List.set_cons_zero,List.set_cons_succ,List.getElem_toArray,List.getElem_cons_zero,List.getElem_cons_succ])
          refine wpAnyH_take (i:=8) rfl (by kernel_rfl) (by kernel_rfl) (by kernel_rfl) (fun _ _ _ h => h) (Or.inl ⟨by rfl,by intro w hSw;(skip);(go_simp <;> with_reducible rfl)⟩) (by assumption) ?_
          (try simp only [Act.put,List.setIfInBounds_toArray,List.set_cons_zero,List.set_cons_succ,List.getElem_toArray,List.getElem_cons_zero,List.getElem_cons_succ])
          refine wpAnyH_take (i:=9) rfl (by kernel_rfl) (by kernel_rfl) (by kernel_rfl) (fun _ _ _ h => h) (Or.inl ⟨by rfl,by intro w hSw;(skip);(go_simp <;> with_reducible rfl)⟩) (by assumption) ?_
          (try simp only [Act.put,List.setIfInBounds_toArray,List.set_cons_zero,List.set_cons_succ,List.getElem_toArray,List.getElem_cons_zero,List.getElem_cons_succ])
          refine wpAnyH_ready (rs:=[6]) (by kernel_rfl) (by simp) (AllReadyH.cons rfl (fun K hK => ?_) AllReadyH.nil)
          go_simp
          refine (HBU2.out _ hHeld.1).mono ?_
          rintro e w5 ⟨rfl,hb5⟩
          have hA5:=(hb5.block a (by have:=(Array.getElem?_eq_some_iff.1 HAV.out).1;exact this)).trans HAV.out
          have z4:=cell_blk hA5 (i:=6) rfl
          have f4:w5.frozen? ⟨a,6,none⟩ = false:=by simp [World.frozen?,hA5]
          refine hK.out _ _ (keepS BX4.out (hHeld.1.trans (hb5.mono hHeld.1.size))) (fun hHeld => ?_)
          clear hK K
          (try simp only [Act.put,List.setIfInBounds_toArray,List.set_cons_zero,List.set_cons_succ,List.getElem_toArray,List.getElem_cons_zero,List.getElem_cons_succ])
          refine wpAnyH_take (i:=7) rfl (by kernel_rfl) (by kernel_rfl) (by kernel_rfl) (fun _ _ _ h => h) (Or.inl ⟨by rfl,by intro w hSw;(skip);(go_simp <;> with_reducible rfl)⟩) (by assumption) ?_
          (try simp only [Act.put,List.setIfInBounds_toArray,List.set_cons_zero,List.set_cons_succ,List.getElem_toArray,List.getElem_cons_zero,List.getElem_cons_succ])
          refine wpAnyH_take (i:=10) rfl (by kernel_rfl) (by kernel_rfl) (by kernel_rfl) (fun _ _ _ h => h) (Or.inl ⟨by rfl,by intro w hSw;(skip);(go_simp <;> with_reducible rfl)⟩) (by assumption) ?_
          (try simp only [Act.put,List.setIfInBounds_toArray,List.set_cons_zero,List.set_cons_succ,List.getElem_toArray,List.getElem_cons_zero,List.getElem_cons_succ])
          refine wpAnyH_ready (rs:=[11]) (by kernel_rfl) (by simp) (AllReadyH.cons rfl (fun K hK => ?_) AllReadyH.nil)
          go_simp
          refine hK.out _ _ (keepS BX4.out (below_set hHeld.1 HA4.out)) (fun hHeld => ?_)
          clear hK K
          (try simp only [Act.put,List.setIfInBounds_toArray,List.set_cons_zero,List.set_cons_succ,List.getElem_toArray,List.getElem_cons_zero,List.getElem_cons_succ])
          refine wpAnyH_done (by kernel_rfl) ?_ _
          go_wp2
          go_roundw
          case rel => exact ⟨1,by omega,by omega,rfl,blk_put hA5 rfl,below_set (hBV.drew.trans (hb5.mono hBV.size)) HA4.out⟩
          case measure => simp [intOf]
        · subst hj
          go_wp2
          refine wp_region_held_drew (S:=(fun W' => Below w4.heap.size w4 W' ∧ W'.cell? ⟨w.heap.size,0,none⟩ = some (.slice pa c.parts.length pc) ∧ W'.cell? ⟨w.heap.size,1,none⟩ = some (.slice ca c.chans.length cc) ∧ W'.cell? ⟨w.heap.size,2,none⟩ = some (.int .i64 c.len0) ∧ W'.cell? ⟨w.heap.size,3,none⟩ = some (.slice aa c.win0.length ac) ∧ W'.cell? ⟨w.heap.size,4,none⟩ = some (.int .i64 c.len1) ∧ W'.cell? ⟨w.heap.size,5,none⟩ = some (.slice ba c.win1.length bc))) (by kernel_rfl) (keepS BX4.out hBV.drew) (fun hHeld => ?_)
          refine wpAnyH_take (i:=0) rfl (by kernel_rfl) (by kernel_rfl) (by kernel_rfl) (fun _ _ _ h => h) (Or.inl ⟨by rfl,by intro w hSw;(skip);(go_simp <;> with_reducible rfl)⟩) (by assumption) ?_
          (try simp only [Act.put,List.setIfInBounds_toArray,List.set_cons_zero,List.set_cons_succ,List.getElem_toArray,List.getElem_cons_zero,List.getElem_cons_succ])
          refine wpAnyH_take (i:=1) rfl (by kernel_rfl) (by kernel_rfl) (by kernel_rfl) (fun _ _ _ h => h) (Or.inl ⟨by rfl,by intro w hSw;(skip);(go_simp <;> with_reducible rfl)⟩) (by assumption) ?_
          (try simp only [Act.put,List.setIfInBounds_toArray,List.set_cons_zero,List.set_cons_succ,List.getElem_toArray,List.getElem_cons_zero,List.getElem_cons_succ])
          refine wpAnyH_take (i:=2) rfl (by kernel_rfl) (by kernel_rfl) (by kernel_rfl) (fun _ _ _ h => h) (Or.inl ⟨by rfl,by intro w hSw;(skip);(go_simp <;> with_reducible rfl)⟩) (by assumption) ?_
          (try simp only [Act.put,List.setIfInBounds_toArray,List.set_cons_zero,List.set_cons_succ,List.getElem_toArray,List.getElem_cons_zero,List.getElem_cons_succ])
          refine wpAnyH_take (i:=3) rfl (by kernel_rfl) (by kernel_rfl) (by kernel_rfl) (fun _ _ _ h => h) (Or.inl ⟨by rfl,by intro w hSw;(skip);(go_simp <;> with_reducible rfl)⟩) (by assumption) ?_
          (try simp only [Act.put,List.setIfInBounds_toArray,List.set_cons_zero,List.set_cons_succ,List.getElem_toArray,List.getElem_cons_zero,List.getElem_cons_succ])
          refine wpAnyH_take (i:=4) rfl (by kernel_rfl) (by kernel_rfl) (by kernel_rfl) (fun _ _ _ h => h) (Or.inl ⟨by rfl,by intro w hSw;(skip);(go_simp <;> with_reducible rfl)⟩) (by assumption) ?_
          (try simp only [Act.put,List.setIfInBounds_toArray,List.set_cons_zero,List.set_cons_succ,List.getElem_toArray,List.getElem_cons_zero,List.getElem_cons_succ])
          refine wpAnyH_take (i:=5) rfl (by kernel_rfl) (by kernel_rfl) (by kernel_rfl) (fun _ _ _ h => h) (Or.inl ⟨by rfl,by intro w hSw;(skip);(go_simp <;> with_reducible rfl)⟩) (by assumption) ?_
          (try simp only [Act.put,List.setIfInBounds_toArray,List.set_cons_zero,List.set_cons_succ,List.getElem_toArray,List.getElem_cons_zero,List.getElem_cons_succ])
          refine wpAnyH_take (i:=8) rfl (by kernel_rfl) (by kernel_rfl) (by kernel_rfl) (fun _ _ _ h => h) (Or.inl ⟨by rfl,by intro w hSw;(skip);(go_simp <;> with_reducible rfl)⟩) (by assumption) ?_
          (try simp only [Act.put,List.setIfInBounds_toArray,List.set_cons_zero,List.set_cons_succ,List.getElem_toArray,List.getElem_cons_zero,List.getElem_cons_succ])
          refine wpAnyH_take (i:=9) rfl (by kernel_rfl) (by kernel_rfl) (by kernel_rfl) (fun _ _ _ h => h) (Or.inl ⟨by rfl,by intro w hSw;(skip);(go_simp <;> with_reducible rfl)⟩) (by assumption) ?_
          (try simp only [Act.put,List.setIfInBounds_toArray,List.set_cons_zero,List.set_cons_succ,List.getElem_toArray,List.getElem_cons_zero,List.getElem_cons_succ])
          refine wpAnyH_ready (rs:=[6]) (by kernel_rfl) (by simp) (AllReadyH.cons rfl (fun K hK => ?_) AllReadyH.nil)
          go_simp
          refine (HBU3.out _ hHeld.1).mono ?_
          rintro e w5 ⟨rfl,hb5⟩
          have hA5:=(hb5.block a (by have:=(Array.getElem?_eq_some_iff.1 HAV.out).1;exact this)).trans HAV.out
          have z4:=cell_blk hA5 (i:=7) rfl
          have f4:w5.frozen? ⟨a,7,none⟩ = false:=by simp [World.frozen?,hA5]
          refine hK.out _ _ (keepS BX4.out (hHeld.1.trans (hb5.mono hHeld.1.size))) (fun hHeld => ?_)
          clear hK K
          (try simp only [Act.put,List.setIfInBounds_toArray,List.set_cons_zero,List.set_cons_succ,List.getElem_toArray,List.getElem_cons_zero,List.getElem_cons_succ])
          refine wpAnyH_take (i:=7) rfl (by kernel_rfl) (by kernel_rfl) (by kernel_rfl) (fun _ _ _ h => h) (Or.inl ⟨by rfl,by intro w hSw;(skip);(go_simp <;> with_reducible rfl)⟩) (by assumption) ?_
          (try simp only [Act.put,List.setIfInBounds_toArray,List.set_cons_zero,List.set_cons_succ,List.getElem_toArray,List.getElem_cons_zero,List.getElem_cons_succ])
          refine wpAnyH_take (i:=10) rfl (by kernel_rfl) (by kernel_rfl) (by kernel_rfl) (fun _ _ _ h => h) (Or.inl ⟨by rfl,by intro w hSw;(skip);(go_simp <;> with_reducible rfl)⟩) (by assumption) ?_
          (try simp only [Act.put,List.setIfInBounds_toArray,List.set_cons_zero,List.set_cons_succ,List.getElem_toArray,List.getElem_cons_zero,List.getElem_cons_succ])
          refine wpAnyH_ready (rs:=[11]) (by kernel_rfl) (by simp) (AllReadyH.cons rfl (fun K hK => ?_) AllReadyH.nil)
          go_simp
          refine hK.out _ _ (keepS BX4.out (below_set hHeld.1 HA4.out)) (fun hHeld => ?_)
          clear hK K
          (try simp only [Act.put,List.setIfInBounds_toArray,List.set_cons_zero,List.set_cons_succ,List.getElem_toArray,List.getElem_cons_zero,List.getElem_cons_succ])
          refine wpAnyH_done (by kernel_rfl) ?_ _
          go_wp2
          go_roundw
          case rel => exact ⟨2,by omega,by omega,rfl,blk_put hA5 rfl,below_set (hBV.drew.trans (hb5.mono hBV.size)) HA4.out⟩
          case measure => simp [intOf]
        · subst hj
          go_wp2
          go_roundw
          case rel => exact ⟨2,by omega,by omega,rfl,HAV.out,hBV⟩
          case measure => simp [intOf]
    · subst hj
      have HRV:=Lib.hid ((hBV.block r (Array.getElem?_eq_some_iff.1 HR4.out).1).trans HR4.out)
      have hAV:wr.heap[a]? = some (.cells (#[.int .i64 (P8 F).la,.int .i64 (P8 F).re,.int .i64 (P8 F).s0,.int .i64 (P8 F).s1,.int .i64 (P8 F).b00,.int .i64 (P8 F).b01,.int .i64 (P8 F).b10,.int .i64 (P8 F).b11]) 195 (0,0)):=HAV.out
      have HAX:=Lib.hid hAV
      have hs8:(Tryz.prog.info? 195).map (·.size) = some (#[.int .i64 (P8 F).la,.int .i64 (P8 F).re,.int .i64 (P8 F).s0,.int .i64 (P8 F).s1,.int .i64 (P8 F).b00,.int .i64 (P8 F).b01,.int .i64 (P8 F).b10,.int .i64 (P8 F).b11]:Array Value).size:=places_size
      have hth:=there_at (W:=wr) HRV.out (n:=(#[.int .i64 (P8 F).la,.int .i64 (P8 F).re,.int .i64 (P8 F).s0,.int .i64 (P8 F).s1,.int .i64 (P8 F).b00,.int .i64 (P8 F).b01,.int .i64 (P8 F).b10,.int .i64 (P8 F).b11]:Array Value).size) rfl
      clear hAV
      go_wp2_with (first | (with_reducible refine wpList_loadW (by kernel_rfl) 195 _ rfl _ (by kernel_rfl) _ _ _ _ HAX.out Tryz.underlying195 (by kernel_rfl) hs8 ?_) | (with_reducible refine wpList_store_mid (by kernel_rfl) _ _ _ rfl r 0 (#[.int .i64 (P8 F).la,.int .i64 (P8 F).re,.int .i64 (P8 F).s0,.int .i64 (P8 F).s1,.int .i64 (P8 F).b00,.int .i64 (P8 F).b01,.int .i64 (P8 F).b10,.int .i64 (P8 F).b11]) (by kernel_rfl) (by kernel_rfl) hth hs8 (by kernel_rfl) ?_))
      have hrg:=World.rangeAt_setCells_same wr r 0 (#[.int .i64 (P8 F).la,.int .i64 (P8 F).re,.int .i64 (P8 F).s0,.int .i64 (P8 F).s1,.int .i64 (P8 F).b00,.int .i64 (P8 F).b01,.int .i64 (P8 F).b10,.int .i64 (P8 F).b11]:Array Value).toList hth
      (try simp only [Exit.inBlock,Exit.then])
      refine bodyPost_ret (results_cell_row rfl _ _ r (#[.int .i64 (P8 F).la,.int .i64 (P8 F).re,.int .i64 (P8 F).s0,.int .i64 (P8 F).s1,.int .i64 (P8 F).b00,.int .i64 (P8 F).b01,.int .i64 (P8 F).b10,.int .i64 (P8 F).b11]:Array Value).toList _ rfl hrg Tryz.underlying195 rfl hs8) rfl ?_
      have hrw:w.heap.size ≤ r:=by have:=HRR.out;have:=HWS.out;omega
      have hsz:=(HB.out.trans (HB4.out.mono HB.out.size)).size
      exact ⟨rfl,((HB.out.trans (HB4.out.mono HB.out.size)).trans (hBV.mono hsz)).trans ((Only.sets (S:=fun k => k = r) rfl _ 0 (Only.refl _ wr)).below (Nat.le_trans hsz hBV.size) (fun k e => by omega))⟩
end Go.Proofs.YtjfolhkblbakiaaGreatDoor
namespace Go.Proofs.YtjfolhkblbakiaaGreatDoor
open Go.RowKit Go.Sort
set_option linter.unusedVariables false
set_option linter.unusedSimpArgs false
set_option linter.unusedVariables false
set_option linter.unusedSimpArgs false
open Go.Proofs.YtjfolhkblbakiaaGreatDoor.Simp
set_option maxRecDepth 100000
set_option maxHeartbeats 3200000
/-- A new write at block wb. -/
def GivesNewW (w:World) (F:Fr) (ds:List Int) (e:Ending) (w':World):Prop:=∃ wb S,e = .returned (.pointer (some ⟨wb,0,none⟩)) ∧ WAt w' S wb F (Simp.start ds) ∧ (∀ k,S k → w.heap.size ≤ k) ∧ Below w.heap.size w w'
def GivesNewR (w:World) (F:Fr) (e:Ending) (w':World):Prop:=∃ wb S,e = .returned (.pointer (some ⟨wb,0,none⟩)) ∧ RAt w' S wb F (Simp.start []) ∧ (∀ k,S k → w.heap.size ≤ k) ∧ Below w.heap.size w w'
theorem newW_b (c:Cfg) (x:CfgAt) (k:Nat) (F:Fr) (ds:List Int) (g off cap:Nat) (w:World) (hx:CfgIn w w.heap.size c x) (wx:CfgWf c) (lx:CfgFew c) (hF:FrOf c k F) (hd:∀ (k:Nat) (x:Int),ds[k]? = some x → w.cell? ⟨g,off + k,none⟩ = some (.int .u32 x)) (hn:1 ≤ ds.length ∧ ds.length ≤ F.n) :
    Calls Tryz.prog 72 #[.agg (cfgCells c x),.int .i64 (k:Int),.slice (some ⟨g,off,none⟩) ds.length cap] w (GivesNewW w F ds):=by
  obtain ⟨Wc,HWc,hBc,hWs,bx⟩:=one_cbox w c x 29
  have hn2:=hF.fin.n2
  have HFD:=find_b c x k F Wc (hx.later hBc) wx lx hF
  obtain ⟨pa,pc,ca,cc,aa,ac,ba,bc⟩:=x
  obtain ⟨c0,c1,c2,c3,c4,c5⟩:=bx _ (Below.refl _ _)
  have HD:Hid (∀ (k:Nat) (x:Int),ds[k]? = some x → Wc.cell? ⟨g,off + k,none⟩ = some (.int .u32 x)):=Lib.hid (fun k x h => (hBc.cell (p:=⟨g,off + k,none⟩) (World.block_lt_of_cell? w ⟨g,off + k,none⟩ (hd k x h))).trans (hd k x h))
  have HB:=Lib.hid hBc
  have HFD:=Lib.hid HFD
  simp only [cfgCells] at HWc HFD ⊢
  clear hx wx lx hF hd bx hBc hWs
  go_enter Tryz.func72,Tryz.ntmps72
  go_wp2_with (first | (rw [← HWc.out]))
  refine HFD.out.mono ?_
  rintro e w3 ⟨rfl,hb3⟩
  have HD3:Hid (∀ (k:Nat) (x:Int),ds[k]? = some x → w3.cell? ⟨g,off + k,none⟩ = some (.int .u32 x)):=Lib.hid (fun k x h => (hb3.cell (p:=⟨g,off + k,none⟩) (World.block_lt_of_cell? Wc ⟨g,off + k,none⟩ (HD.out k x h))).trans (HD.out k x h))
  have HCL:=Lib.hid (clone_b g off cap ds w3 HD3.out hn.1 (by omega))
  have HB3:=Lib.hid (HB.out.trans (hb3.mono HB.out.size))
  clear hb3 c0 c1 c2 c3 c4 c5
  go_wp2_with fail
  refine HCL.out.mono ?_
  rintro e w4 ⟨v,rfl,hown,hb4⟩
  obtain ⟨db,do_,dc,rfl,hdb,hdl,-,-,-,hrow⟩:=hown.lies (by omega)
  have HB4:=Lib.hid (HB3.out.trans (hb4.mono HB3.out.size))
  have HROW:=Lib.hid hrow
  obtain ⟨wb,hwb⟩:∃ b,b = w4.heap.size:=⟨_,rfl⟩
  obtain ⟨W5,HW5⟩:∃ u,Hid (u = w4.alloc (.cells (wV (.func (.func 99) #[.pointer (some ⟨wb,0,none⟩)] #[]) (P8 F) (.slice (some ⟨db,do_,none⟩) ds.length dc) 0 0 false) 200)):=⟨_,rfl⟩
  have HBK:Hid (WBlk W5 wb (.func (.func 99) #[.pointer (some ⟨wb,0,none⟩)] #[]) (P8 F) (.slice (some ⟨db,do_,none⟩) ds.length dc) 0 0 false):=Lib.hid (by rw [HW5.out,hwb];exact heap_alloc_new _ _)
  have HB5:Hid (Below w4.heap.size w4 W5):=Lib.hid (by rw [HW5.out];exact (Below.refl _ _).alloc (Nat.le_refl _) _)
  have HWB:=Lib.hid hwb;have HSZ:=Lib.hid hb4.size;have HN:=Lib.hid hn;have HDB:=Lib.hid hdb;have HDL:=Lib.hid hdl;have HN2:=Lib.hid hn2
  clear hown hb4 hrow hwb hdb hdl hn hn2
  go_wp2
  simp only [← HWB.out]
  go_ret
  have hs4:=HB4.out.size
  have hsz:=HSZ.out
  have hdb:=HDB.out
  have hdl:=HDL.out
  have hwb:=HWB.out
  have hs3:=HB3.out.size
  have hs5:=HB5.out.size
  have hn:=HN.out
  have hwl:=HBK.out.lt
  suffices hfin:GivesNewW w F ds (.returned (.pointer (some ⟨wb,0,none⟩))) W5 by rw [HW5.out] at hfin;exact hfin
  refine ⟨wb,fun k => k = wb ∨ k = db,rfl,⟨_,db,do_,dc,HBK.out,.inl rfl,.inr rfl,by omega,fun k h => ?_,fun k x hx => ?_,nextOf_mv (by show 0 < ds.length;omega) (.inl ⟨rfl,rfl⟩),⟨Nat.zero_le _,Nat.zero_le _⟩,hn,by show (0:Int) ≤ _;omega⟩,fun k h => by omega,?_⟩
  · have:=HB5.out.size
    rcases h with rfl | rfl <;> omega
  · exact cell_of_blk (w:=w4) (HROW.out k _ (by simp [wcells];exact hx)) (HB5.out.block db hdl)
  · exact HB4.out.trans (HB5.out.mono hs4)
theorem newR_b (c:Cfg) (x:CfgAt) (k:Nat) (F:Fr) (w:World) (hx:CfgIn w w.heap.size c x) (wx:CfgWf c) (lx:CfgFew c) (hF:FrOf c k F) :
    Calls Tryz.prog 73 #[.agg (cfgCells c x),.int .i64 (k:Int)] w (GivesNewR w F):=by
  obtain ⟨w4,HWc,hBc,hWs,bx⟩:=one_cbox w c x 29
  have hxc:=hx.later hBc
  have HFD:=Lib.hid (fun (W':World) (h:Below w4.heap.size w4 W') => find_b c x k F W' (hxc.later h) wx lx hF)
  obtain ⟨pa,pc,ca,cc,aa,ac,ba,bc⟩:=x
  obtain ⟨b,o,x0,x1,x2,x3,x4,x5,x6,e0,hbl,e1,-,hrw⟩:=hxc.rc.at7 wx.wc hF.lk
  have h3:x3 = F.n:=by have:=hF.words;rw [row_at e1] at this;exact this
  have h5:x5 = F.per:=by have:=hF.per;rw [row_at e1] at this;exact this
  have HB:=Lib.hid hBc;have H35:=Lib.hid (And.intro h3 h5)
  have s0:(0:Int) ≤ (k:Int):=by omega
  have s1:(k:Int) < (c.chans.length:Int):=by have:=hF.lk;omega
  have hlk:=hF.lk
  have BX4:=Lib.hid (fun (W':World) (h:Below w4.heap.size w4 W') => And.intro (bx W' h) (And.intro (hrw W' h).2.2.2.1 (hrw W' h).2.2.2.2.2.1))
  have HSTART:=keepS BX4.out (Below.refl w4.heap.size w4).drew
  have HLOW:=Lib.hid hWs
  simp only [cfgCells] at HWc HFD bx BX4 HSTART ⊢
  clear hx wx lx hF hxc bx hBc hWs e1 hrw hbl h3 h5
  subst e0
  go_enter Tryz.func73,Tryz.ntmps73
  go_wp2_with (first | (rw [← HWc.out]))
  refine wp_region_held_drew (S:=(fun W' => Below w4.heap.size w4 W' ∧ (W'.cell? ⟨w.heap.size,0,none⟩ = some (.slice pa c.parts.length pc) ∧ W'.cell? ⟨w.heap.size,1,none⟩ = some (.slice (some ⟨b,o,none⟩) c.chans.length cc) ∧ W'.cell? ⟨w.heap.size,2,none⟩ = some (.int .i64 c.len0) ∧ W'.cell? ⟨w.heap.size,3,none⟩ = some (.slice aa c.win0.length ac) ∧ W'.cell? ⟨w.heap.size,4,none⟩ = some (.int .i64 c.len1) ∧ W'.cell? ⟨w.heap.size,5,none⟩ = some (.slice ba c.win1.length bc)) ∧ W'.cell? ⟨b,o + k * 7 + 3,none⟩ = some (.int .i64 x3) ∧ W'.cell? ⟨b,o + k * 7 + 5,none⟩ = some (.int .i64 x5))) (by kernel_rfl) (HSTART) (fun hHeld => ?_)
  refine wpAnyH_take (i:=0) rfl (by kernel_rfl) (by kernel_rfl) (by kernel_rfl) (fun _ _ _ h => h) (Or.inl ⟨by rfl,by intro w hSw;(skip);(go_simp <;> with_reducible rfl)⟩) (by assumption) ?_
  (try simp only [Act.put,List.setIfInBounds_toArray,List.set_cons_zero,List.set_cons_succ,List.getElem_toArray,List.getElem_cons_zero,List.getElem_cons_succ])
  refine wpAnyH_take (i:=1) rfl (by kernel_rfl) (by kernel_rfl) (by kernel_rfl) (fun _ _ _ h => h) (Or.inl ⟨by rfl,by intro w hSw;(skip);(go_simp <;> with_reducible rfl)⟩) (by assumption) ?_
  (try simp only [Act.put,List.setIfInBounds_toArray,List.set_cons_zero,List.set_cons_succ,List.getElem_toArray,List.getElem_cons_zero,List.getElem_cons_succ])
  refine wpAnyH_take (i:=3) rfl (by kernel_rfl) (by kernel_rfl) (by kernel_rfl) (fun _ _ _ h => h) (Or.inl ⟨by rfl,by intro w hSw;(skip);(go_simp <;> with_reducible rfl)⟩) (by assumption) ?_
  (try simp only [Act.put,List.setIfInBounds_toArray,List.set_cons_zero,List.set_cons_succ,List.getElem_toArray,List.getElem_cons_zero,List.getElem_cons_succ])
  refine wpAnyH_take (i:=4) rfl (by kernel_rfl) (by kernel_rfl) (by kernel_rfl) (fun _ _ _ h => h) (Or.inl ⟨by rfl,by intro w hSw;(skip);(go_simp <;> with_reducible rfl)⟩) (by assumption) ?_
  (try simp only [Act.put,List.setIfInBounds_toArray,List.set_cons_zero,List.set_cons_succ,List.getElem_toArray,List.getElem_cons_zero,List.getElem_cons_succ])
  refine wpAnyH_take (i:=5) rfl (by kernel_rfl) (by kernel_rfl) (by kernel_rfl) (fun _ _ _ h => h) (Or.inl ⟨by rfl,by intro w hSw;(skip);(go_simp <;> with_reducible rfl)⟩) (by assumption) ?_
  (try simp only [Act.put,List.setIfInBounds_toArray,List.set_cons_zero,List.set_cons_succ,List.getElem_toArray,List.getElem_cons_zero,List.getElem_cons_succ])
  refine wpAnyH_take (i:=6) rfl (by kernel_rfl) (by kernel_rfl) (by kernel_rfl) (fun _ _ _ h => h) (Or.inl ⟨by rfl,by intro w hSw;(skip);(go_simp <;> with_reducible rfl)⟩) (by assumption) ?_
  (try simp only [Act.put,List.setIfInBounds_toArray,List.set_cons_zero,List.set_cons_succ,List.getElem_toArray,List.getElem_cons_zero,List.getElem_cons_succ])
  refine wpAnyH_take (i:=7) rfl (by kernel_rfl) (by kernel_rfl) (by kernel_rfl) (fun _ _ _ h => h) (Or.inl ⟨by rfl,by intro w hSw;(skip);(go_simp <;> with_reducible rfl)⟩) (by assumption) ?_
  (try simp only [Act.put,List.setIfInBounds_toArray,List.set_cons_zero,List.set_cons_succ,List.getElem_toArray,List.getElem_cons_zero,List.getElem_cons_succ])
  refine wpAnyH_take (i:=8) rfl (by kernel_rfl) (by kernel_rfl) (by kernel_rfl) (fun _ _ _ h => h) (Or.inl ⟨by rfl,by intro w hSw;(skip);(go_simp <;> with_reducible rfl)⟩) (by assumption) ?_
  (try simp only [Act.put,List.setIfInBounds_toArray,List.set_cons_zero,List.set_cons_succ,List.getElem_toArray,List.getElem_cons_zero,List.getElem_cons_succ])
  refine wpAnyH_take (i:=9) rfl (by kernel_rfl) (by kernel_rfl) (by kernel_rfl) (fun _ _ _ h => h) (Or.inl ⟨by rfl,by intro w hSw;(skip);(go_simp <;> with_reducible rfl)⟩) (by assumption) ?_
  (try simp only [Act.put,List.setIfInBounds_toArray,List.set_cons_zero,List.set_cons_succ,List.getElem_toArray,List.getElem_cons_zero,List.getElem_cons_succ])
  refine wpAnyH_take (i:=10) rfl (by kernel_rfl) (by kernel_rfl) (by kernel_rfl) (fun _ _ _ h => h) (Or.inl ⟨by rfl,by intro w hSw;(skip);(go_simp <;> with_reducible rfl)⟩) (by assumption) ?_
  (try simp only [Act.put,List.setIfInBounds_toArray,List.set_cons_zero,List.set_cons_succ,List.getElem_toArray,List.getElem_cons_zero,List.getElem_cons_succ])
  refine wpAnyH_take (i:=11) rfl (by kernel_rfl) (by kernel_rfl) (by kernel_rfl) (fun _ _ _ h => h) (Or.inl ⟨by rfl,by intro w hSw;(skip);(go_simp <;> with_reducible rfl)⟩) (by assumption) ?_
  (try simp only [Act.put,List.setIfInBounds_toArray,List.set_cons_zero,List.set_cons_succ,List.getElem_toArray,List.getElem_cons_zero,List.getElem_cons_succ])
  refine wpAnyH_take (i:=12) rfl (by kernel_rfl) (by kernel_rfl) (by kernel_rfl) (fun _ _ _ h => h) (Or.inl ⟨by rfl,by intro w hSw;(skip);(go_simp <;> with_reducible rfl)⟩) (by assumption) ?_
  (try simp only [Act.put,List.setIfInBounds_toArray,List.set_cons_zero,List.set_cons_succ,List.getElem_toArray,List.getElem_cons_zero,List.getElem_cons_succ])
  refine wpAnyH_take (i:=13) rfl (by kernel_rfl) (by kernel_rfl) (by kernel_rfl) (fun _ _ _ h => h) (Or.inl ⟨by rfl,by intro w hSw;(skip);(go_simp <;> with_reducible rfl)⟩) (by assumption) ?_
  (try simp only [Act.put,List.setIfInBounds_toArray,List.set_cons_zero,List.set_cons_succ,List.getElem_toArray,List.getElem_cons_zero,List.getElem_cons_succ])
  refine wpAnyH_take (i:=14) rfl (by kernel_rfl) (by kernel_rfl) (by kernel_rfl) (fun _ _ _ h => h) (Or.inl ⟨by rfl,by intro w hSw;(skip);(go_simp <;> with_reducible rfl)⟩) (by assumption) ?_
  (try simp only [Act.put,List.setIfInBounds_toArray,List.set_cons_zero,List.set_cons_succ,List.getElem_toArray,List.getElem_cons_zero,List.getElem_cons_succ])
  refine wpAnyH_ready (rs:=[2]) (by kernel_rfl) (by simp) (AllReadyH.cons rfl (fun K hK => ?_) AllReadyH.nil)
  go_simp
  refine (HFD.out _ hHeld.1).mono ?_
  rintro e w5 ⟨rfl,hb5⟩
  refine hK.out _ _ (keepS BX4.out (hHeld.1.trans (hb5.mono hHeld.1.size))) (fun hHeld => ?_)
  clear hK K
  (try simp only [Act.put,List.setIfInBounds_toArray,List.set_cons_zero,List.set_cons_succ,List.getElem_toArray,List.getElem_cons_zero,List.getElem_cons_succ])
  refine wpAnyH_take (i:=15) rfl (by kernel_rfl) (by kernel_rfl) (by kernel_rfl) (fun _ _ _ h => h) (Or.inl ⟨by rfl,by intro w hSw;(skip);(go_simp <;> with_reducible rfl)⟩) (by assumption) ?_
  (try simp only [Act.put,List.setIfInBounds_toArray,List.set_cons_zero,List.set_cons_succ,List.getElem_toArray,List.getElem_cons_zero,List.getElem_cons_succ])
  refine wpAnyH_ready (rs:=[16]) (by kernel_rfl) (by simp) (AllReadyH.cons rfl (fun K hK => ?_) AllReadyH.nil)
  go_simp
  refine hK.out _ _ (keepS BX4.out (hHeld.1.alloc hHeld.1.size _)) (fun hHeld => ?_)
  clear hK K
  (try simp only [Act.put,List.setIfInBounds_toArray,List.set_cons_zero,List.set_cons_succ,List.getElem_toArray,List.getElem_cons_zero,List.getElem_cons_succ])
  refine wpAnyH_take (i:=17) rfl (by kernel_rfl) (by kernel_rfl) (by kernel_rfl) (fun _ _ _ h => h) (Or.inl ⟨by rfl,by intro w hSw;(skip);(go_simp <;> with_reducible rfl)⟩) (by assumption) ?_
  (try simp only [Act.put,List.setIfInBounds_toArray,List.set_cons_zero,List.set_cons_succ,List.getElem_toArray,List.getElem_cons_zero,List.getElem_cons_succ])
  refine wpAnyH_done (by kernel_rfl) ?_ _
  obtain ⟨wb,hwb⟩:∃ b,b = w5.heap.size:=⟨_,rfl⟩
  obtain ⟨W5,HW5⟩:∃ u,Hid (u = w5.alloc (.cells (rV (.func (.func 100) #[.pointer (some ⟨wb,0,none⟩)] #[]) (P8 F) x3 x5 0 0 0 0) 202)):=⟨_,rfl⟩
  have HBK:Hid (RBlk W5 wb (.func (.func 100) #[.pointer (some ⟨wb,0,none⟩)] #[]) (P8 F) x3 x5 0 0 0 0):=Lib.hid (by rw [HW5.out,hwb];exact heap_alloc_new _ _)
  have HB5:Hid (Below w5.heap.size w5 W5):=Lib.hid (by rw [HW5.out];exact (Below.refl _ _).alloc (Nat.le_refl _) _)
  have HWB:=Lib.hid hwb;have HBB:=Lib.hid hb5
  clear hwb hb5 HSTART hHeld
  go_wp2
  simp only [← HWB.out]
  go_ret
  have hs4:=HB.out.size
  have hs5:=HB5.out.size
  have hwb:=HWB.out
  have hbb:=HBB.out
  have hwl:=HBK.out.lt
  have hsb:=hbb.size
  obtain ⟨h3,h5⟩:=H35.out
  have hblk:=HBK.out
  rw [h3,h5] at hblk
  suffices hfin:GivesNewR w F (.returned (.pointer (some ⟨wb,0,none⟩))) W5 by rw [HW5.out] at hfin;exact hfin
  refine ⟨wb,fun k => k = wb,rfl,⟨_,.slice none 0 0,hblk,rfl,fun k h => ?_,rtail_mv (.inl ⟨rfl,rfl,rfl,rfl⟩),⟨Nat.zero_le _,Nat.zero_le _⟩,by show (0:Int) ≤ 0 ∧ (0:Int) ≤ 4294967295;omega⟩,fun k h => ?_,?_⟩
  · subst h;exact hwl
  · have:w4.heap.size ≤ w5.heap.size:=hsb
    omega
  · have hbd:Below w.heap.size w w4.drew:=HB.out.drew
    have hbe:=hbd.trans (hbb.mono hbd.size)
    exact hbe.trans (HB5.out.mono hbe.size)
end Go.Proofs.YtjfolhkblbakiaaGreatDoor
end
