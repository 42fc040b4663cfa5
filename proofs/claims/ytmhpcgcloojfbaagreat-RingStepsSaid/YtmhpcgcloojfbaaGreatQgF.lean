/- Texts of the ring, joined, what is used of them. No condition but those in the statements. -/
import Derived.BigQuiet
import Derived.BigRegion
import Derived.Deep.MidRow
import Derived.Deep.RegionHeld3
import Derived.Deep.Upon
import Derived.IntWalk
import Derived.Laws.EntriesVeiled
import Derived.Shelf.Abstract
import Derived.Test.YtmhpcgcloojfbaaGreatQRK
import Derived.Test.YtmhpcgcloojfbaaGreatQRLl
import Derived.Test.YtmhpcgcloojfbaaGreatQgA
import Derived.Test.YtmhpcgcloojfbaaGreatQgJ
import Derived.Test.YtmhpcgcloojfbaaGreatQgO
section
namespace Go.Proofs.YtmhpcgcloojfbaaGreat
open Go.RowKit Go.Sort
set_option linter.unusedVariables false
set_option linter.unusedSimpArgs false
set_option linter.unusedVariables false
set_option linter.unusedSimpArgs false
open Go.Proofs.YtmhpcgcloojfbaaGreat.Simp
set_option maxRecDepth 100000
set_option maxHeartbeats 3200000
/-- Which function does which step of a receive,from the first word on. -/
inductive RecvFn (w:World) (S:Nat → Prop) (ob db L:Nat):Nat → Value → Prop
  | word (i b1 b2 b3:Nat):i < L → S b1 → S b2 → S b3 → w.heap[b1]? = some (.cells #[.pointer (some ⟨ob,0,none⟩)] 66 (0,0)) → w.heap[b2]? = some (.cells #[.int .i64 (i:Int)] 3 (0,0)) → w.heap[b3]? = some (.cells #[.slice (some ⟨db,0,none⟩) L L] 30 (0,0)) → RecvFn w S ob db L i (.func (.func 99) #[] #[.pointer (some ⟨b1,0,none⟩),.pointer (some ⟨b2,0,none⟩),.pointer (some ⟨b3,0,none⟩)])
  | head (c1 c2:Nat):S c1 → S c2 → w.heap[c1]? = some (.cells #[.pointer (some ⟨ob,0,none⟩)] 66 (0,0)) → w.heap[c2]? = some (.cells #[.slice (some ⟨db,0,none⟩) L L] 30 (0,0)) → RecvFn w S ob db L L (.func (.func 100) #[] #[.pointer (some ⟨c1,0,none⟩),.pointer (some ⟨c2,0,none⟩)])
theorem RecvFn.keeps {w w':World} {S S':Nat → Prop} {ob db L k:Nat} {v:Value} (h:RecvFn w S ob db L k v) (hk:∀ (b:Nat) (u:Value) (t:TypeId),S b → w.heap[b]? = some (.cells #[u] t (0,0)) → t ≠ 107 → t ≠ 111 → t ≠ 34 → w'.heap[b]? = some (.cells #[u] t (0,0))) (hS:∀ k,S k → S' k):RecvFn w' S' ob db L k v:=by
  cases h with
  | word i b1 b2 b3 hi s1 s2 s3 h1 h2 h3 => exact .word _ b1 b2 b3 hi (hS _ s1) (hS _ s2) (hS _ s3) (hk _ _ _ s1 h1 (by decide) (by decide) (by decide)) (hk _ _ _ s2 h2 (by decide) (by decide) (by decide)) (hk _ _ _ s3 h3 (by decide) (by decide) (by decide))
  | head c1 c2 s1 s2 h1 h2 => exact .head c1 c2 (hS _ s1) (hS _ s2) (hk _ _ _ s1 h1 (by decide) (by decide) (by decide)) (hk _ _ _ s2 h2 (by decide) (by decide) (by decide))
/-- The words that a receive has loaded,and the steps that are left. -/
structure GLater (w:World) (S:Nat → Prop) (ob:Nat) (F:Qr) (t:QS) (m:Nat) (fs:List Value) (db L:Nat) (ds:List Int):Prop where
  len:t.len = (L:Int)
  le:L ≤ F.n
  sd:S db
  row:WordsAt w db ds
  dl:ds.length = L
  take:ds.take t.data.length = t.data
  no:t.no = 2 + (t.data.length:Int)
  tl:t.data.length ≤ L
  num:m = L + 1 - t.data.length
  fn:∀ (j:Nat) (v:Value),fs[j]? = some v → RecvFn w S ob db L (t.data.length + j) v
structure GAtX (w:World) (S:Nat → Prop) (ob:Nat) (F:Qr) (be:Nat) (t:QS) (ce:Nat) (sv:Value) (m:Nat) (fs:List Value):Prop where
  blk:OBlk w ob t.own F.d F.n F.src F.dst ce be sv
  row:OwnsOff w 0 107 1 sv m fs
  rowS:∀ g,sv.ownBlock = some g → S g
  sb:S ob
  low:∀ k,S k → k < w.heap.size
  cell:0 ≤ t.no → ce = cellQ F t.own
  d0:0 ≤ t.no → t.no ≤ 1 → t.data = []
  ph:(t.no < 0 ∧ fs = []) ∨ (t.no = 0 ∧ fs = [.func (.func 51) #[.pointer (some ⟨ob,0,none⟩)] #[],.func (.func 52) #[.pointer (some ⟨ob,0,none⟩)] #[]]) ∨ (t.no = 1 ∧ fs = [.func (.func 52) #[.pointer (some ⟨ob,0,none⟩)] #[]]) ∨ ∃ db L ds,GLater w S ob F t m fs db L ds
/-- A receive under way at block ob,of the blocks S;its state is t. -/
def GAt (w:World) (S:Nat → Prop) (ob:Nat) (F:Qr) (be:Nat) (t:QS):Prop:=∃ ce sv m fs,GAtX w S ob F be t ce sv m fs
theorem GAt.only {w w':World} {S T:Nat → Prop} {ob:Nat} {F:Qr} {be:Nat} {t:QS} (h:GAt w S ob F be t) (ho:Only T w w') (hT:∀ k,S k → ¬ T k):GAt w' S ob F be t:=by
  obtain ⟨ce,sv,m,fs,h⟩:=h
  refine ⟨ce,sv,m,fs,h.blk.only ho (hT _ h.sb),h.row.kept ho (fun g hg => hT _ (h.rowS g hg)),h.rowS,h.sb,fun k hk => Nat.lt_of_lt_of_le (h.low k hk) ho.size,h.cell,h.d0,h.ph.imp id (Or.imp id (Or.imp id ?_))⟩
  rintro ⟨db,L,ds,g⟩
  exact ⟨db,L,ds,g.len,g.le,g.sd,g.row.of (ho.block db g.row.lt (hT _ g.sd)),g.dl,g.take,g.no,g.tl,g.num,fun j v hv => (g.fn j v hv).keeps (fun b u t hb hh _ _ _ => ho.at_ hh (hT _ hb)) (fun _ h => h)⟩
theorem newG_b (c:Cfg) (x:CfgAt) (k:Nat) (F:Qr) (own:Int) (w:World) (hx:CfgIn w w.heap.size c x) (wx:CfgWf c) (lx:CfgFew c) (hF:QrOf c k F) (h0:0 ≤ own ∧ own ≤ 4294967295) :
    Calls Tryz.prog 23 #[.agg (cfgCells c x),.int .i64 (k:Int),.int .u32 own] w fun e w' => ∃ ob S,e = .returned (.pointer (some ⟨ob,0,none⟩)) ∧ GAt w' S ob F (2 * k + 1) (startQ [] own) ∧ (∀ k,S k → w.heap.size ≤ k) ∧ Below w.heap.size w w':=by
  obtain ⟨W,HW,hB,hWs,bx⟩:=one_cbox w c x 29
  have HBG:=Lib.hid (begin_b c x k F own W (hx.later hB) wx lx hF h0)
  obtain ⟨pa,pc,ca,cc,aa,ac,ba,bc⟩:=x
  obtain ⟨w0,w1,w2,w3,w4,w5⟩:=bx _ (Below.refl _ _)
  simp only [cfgCells] at HW HBG ⊢
  have HB:=Lib.hid hB
  clear hx bx hB
  go_enter Tryz.func23,Tryz.ntmps23
  go_wp2_with (rw [← HW.out])
  refine HBG.out.mono ?_
  rintro e v1 ⟨ob,rfl,hob,hlo,hb1⟩
  have c7:v1.cell? ⟨ob,7,none⟩ = some (.slice none 0 0):=hob.cell rfl
  have g7:=hob.frozen 7
  have HOB:=Lib.hid hob;have HB1:=Lib.hid hb1
  have hol:=hob.lt
  clear hob hb1 w0 w1 w2 w3 w4 w5
  go_wp2
  go_ret
  obtain ⟨g,hg⟩:∃ g,g = v1.heap.size:=⟨_,rfl⟩
  obtain ⟨X,hX⟩:∃ u,u = (v1.setCell ⟨ob,7,none⟩ (.slice (some ⟨g,0,none⟩) 2 2)).alloc (.cells #[.func (.func 51) #[.pointer (some ⟨ob,0,none⟩)] #[],.func (.func 52) #[.pointer (some ⟨ob,0,none⟩)] #[]] 107):=⟨_,rfl⟩
  rw [← hg,← hX]
  have hgo:g ≠ ob:=by omega
  have hXg:X.heap[g]? = some (.cells #[.func (.func 51) #[.pointer (some ⟨ob,0,none⟩)] #[],.func (.func 52) #[.pointer (some ⟨ob,0,none⟩)] #[]] 107 (0,0)):=by rw [hX];exact heap_new_q _ _ (by simp [World.setCell,hg])
  have hBX:OBlk X ob own F.d F.n F.src F.dst (cellQ F own) (2 * k + 1) (.slice (some ⟨g,0,none⟩) 2 2):=by
    rw [hX]
    exact (OBlk.setSteps (sv:=.slice none 0 0) HOB.out _).at_ (Below.heap_alloc _ _ _ (by simpa [World.setCell] using hol))
  have hs1:=HB1.out.size
  have hsB:=HB.out.size
  have hXb:Below w.heap.size w X:=by
    rw [hX]
    exact ((HB.out.trans (HB1.out.mono hsB)).setCell (p:=⟨ob,7,none⟩) (by show w.heap.size ≤ ob;omega) _).alloc (by simp [World.setCell];omega) _
  refine ⟨ob,(fun i => w.heap.size ≤ i ∧ i < X.heap.size),rfl,⟨cellQ F own,_,2,_,⟨hBX,⟨rfl,.inr ⟨g,0,2,_,rfl,Nat.zero_le _,hXg,Nat.le_refl _,by unfold maxLen;omega,by simp,rfl⟩⟩,fun i hi => (fun (e:g = i) => e ▸ (show _ from (⟨by omega,(Array.getElem?_eq_some_iff.1 hXg).1⟩:w.heap.size ≤ g ∧ g < X.heap.size))) (by simpa [Value.ownBlock] using hi),⟨by omega,hBX.lt⟩,fun i hi => hi.2,fun _ => rfl,fun _ _ => rfl,.inr (.inl ⟨rfl,rfl⟩)⟩⟩,fun i hi => hi.1,hXb⟩
end Go.Proofs.YtmhpcgcloojfbaaGreat
end
section
namespace Go.Proofs.YtmhpcgcloojfbaaGreat
open Go.RowKit Go.Sort
set_option linter.unusedVariables false
set_option linter.unusedSimpArgs false
set_option linter.unusedVariables false
set_option linter.unusedSimpArgs false
open Go.Proofs.YtmhpcgcloojfbaaGreat.Simp
set_option maxRecDepth 100000
set_option maxHeartbeats 3200000
def GivesG (w:World) (mb rb bb br ob:Nat) (F:Qr) (S:Nat → Prop) (be:Nat) (t':QS) (ws':List Int) (bs:List Bool) (d:QD) (e:Ending) (w':World):Prop:=
  ∃ S' v,e = .returned (.agg (qdOf d v)) ∧ GAt w' S' ob F be t' ∧ OwnsOff w' 0 34 1 v d.data.length (wcells d.data) ∧ (∀ g,v.ownBlock = some g → S' g) ∧ MemAt w' mb rb ws' ∧ Bel.SetAt w' bb br bs ∧ Only (fun k => S k ∨ k = rb) w w' ∧ ∀ k,S' k → S k ∨ w.heap.size ≤ k
section
variable {w:World} {mb rb bb br ob:Nat} {F:Qr} {S:Nat → Prop} {be:Nat} {t:QS} {ce:Nat} {sv:Value} {ws:List Int} {bs:List Bool} {own:Int}
theorem gpop (now:Int) {m g:Nat} {xs cs fs:List Value} (blk:OBlk w ob (own) F.d F.n F.src F.dst ce be (sv)) (row:OwnsOff w 0 107 1 sv (m + 1) (.func (.func g) xs.toArray cs.toArray :: fs)) (hm:MemAt w mb rb ws) (hb:Bel.SetAt w bb br bs) (hob:mb ≠ ob ∧ rb ≠ ob ∧ bb ≠ ob ∧ br ≠ ob)
    (eg:∀ args w,(callFunc g args).run Tryz.prog w = .ok (.enter g args) w) (Spec:World → Value → Array Value → World → Prop)
    (hC:∀ W v',OBlk W ob (own) F.d F.n F.src F.dst ce be (v') → Only (fun k => k = ob) w W → OwnsOff W 0 107 1 v' m fs → v'.ownBlock = sv.ownBlock → MemAt W mb rb ws → Bel.SetAt W bb br bs → Calls Tryz.prog g (xs ++ (.pointer (some ⟨mb,0,none⟩)) :: (.pointer (some ⟨bb,0,none⟩)) :: cs).toArray W fun e w1 => ∃ D,e = .returned (.agg D) ∧ Spec W v' D w1)
    (hR:∀ W v' D w1,w.heap.size < W.heap.size → OBlk W ob (own) F.d F.n F.src F.dst ce be (v') → v'.ownBlock = sv.ownBlock → Spec W v' D w1 → D.size = 9 ∧ D.all (·.oneCell') = true ∧ ∃ T:Nat → Prop,Only T W w1 ∧ ¬ T w.heap.size) :
    Calls Tryz.prog 25 #[.pointer (some ⟨ob,0,none⟩),.pointer (some ⟨mb,0,none⟩),.pointer (some ⟨bb,0,none⟩),.int .i64 now] w fun e w' => ∃ W v' D w1,e = .returned (.agg D) ∧ OBlk W ob (own) F.d F.n F.src F.dst ce be (v') ∧ Only (fun k => k = ob) w W ∧ OwnsOff W 0 107 1 v' m fs ∧ v'.ownBlock = sv.ownBlock ∧ MemAt W mb rb ws ∧ Bel.SetAt W bb br bs ∧ Spec W v' D w1 ∧ Only (fun k => k = w.heap.size) w1 w' ∧ w.heap.size < W.heap.size:=by
  refine (qstep_b mb bb ob g xs cs now own F.d F.n F.src F.dst ce be sv m fs w blk row (fun D w1 => ∃ W v',OBlk W ob (own) F.d F.n F.src F.dst ce be (v') ∧ Only (fun k => k = ob) w W ∧ OwnsOff W 0 107 1 v' m fs ∧ v'.ownBlock = sv.ownBlock ∧ MemAt W mb rb ws ∧ Bel.SetAt W bb br bs ∧ Spec W v' D w1 ∧ W.heap[w.heap.size]? = some (.cells #[.bool false,.int .i64 0,.slice none 0 0,.bool false,.int .i64 0,.bool false,.bool false,.bool false,.int .i64 0] 56 (0,0))) eg ?_ ?_).mono ?_
  · intro W v' h1 h2 h3 h4 h5
    exact (hC W v' h1 h2 h3 h4 (hm.only h2 hob.1 hob.2.1) (hb.kept h2 hob.2.2.1 hob.2.2.2)).mono fun e w1 ⟨D,e1,e2⟩ => ⟨D,e1,W,v',h1,h2,h3,h4,hm.only h2 hob.1 hob.2.1,hb.kept h2 hob.2.2.1 hob.2.2.2,e2,h5⟩
  · rintro D w1 ⟨W,v',h1,h2,h3,h4,h5,h6,h7,h8⟩
    obtain ⟨q1,q2,T,q3,q4⟩:=hR W v' D w1 (Array.getElem?_eq_some_iff.1 h8).1 h1 h4 h7
    exact ⟨q1,q2,q3.at_ h8 q4⟩
  · rintro e w' ⟨D,w1,rfl,⟨W,v',h1,h2,h3,h4,h5,h6,h7,h8⟩,hT⟩
    exact ⟨W,v',D,w1,rfl,h1,h2,h3,h4,h5,h6,h7,hT,(Array.getElem?_eq_some_iff.1 h8).1⟩
theorem qr_over {F:Qr} {s:QS} {m:List Int} (h:s.no < 0):qrecv F s m = (s,m,qd0):=by unfold qrecv;rw [if_pos h]
theorem take_set12 (ds l:List Int) (x:Int) (hi:l.length < ds.length) (ht:ds.take l.length = l):(ds.set l.length x).take (l.length + 1) = l ++ [x]:=by
  rw [List.take_succ_eq_append_getElem (by simpa using hi),List.take_set,List.set_eq_of_length_le (by simp;omega),ht]
  simp
theorem WordsAt.off {W:World} {b:Nat} {ds:List Int} (h:WordsAt W b ds) {L:Nat} (hL:ds.length = L) (hl:L ≤ 1000000):OwnsOff W 0 34 1 (.slice (some ⟨b,0,none⟩) L L) L (wcells ds):=by
  subst hL
  exact ⟨by simp,.inr ⟨b,0,ds.length,_,rfl,Nat.zero_le _,h,Nat.le_refl _,by unfold maxLen;omega,by simp,by simp;rw [List.take_of_length_le (by simp)]⟩⟩
/-- What loadLength leaves. -/
def LLPost (W:World) (mb rb ob:Nat) (ws:List Int) (own:Int) (F:Qr) (ce be:Nat) (sv:Value) (L:Nat) (w':World):Prop:=∃ sv' fs db,OBlk w' ob (own) F.d F.n F.src F.dst ce be (sv') ∧ MemAt w' mb rb ws ∧ Only (fun k => k = ob ∨ sv.ownBlock = some k) W w' ∧ OwnsOff w' 0 107 1 sv' (L + 1) fs ∧ (∀ g,sv'.ownBlock = some g → sv.ownBlock = some g ∨ W.heap.size ≤ g)
      ∧ WordsAt w' db (List.replicate L 0) ∧ W.heap.size ≤ db ∧ (∀ (j:Nat) (v:Value),fs[j]? = some v → j < L → IsGet ob j db L W.heap.size v w') ∧ (∀ v,fs[L]? = some v → ∃ c1 c2,v = .func (.func 100) #[] #[.pointer (some ⟨c1,0,none⟩),.pointer (some ⟨c2,0,none⟩)] ∧ (W.heap.size ≤ c1 ∧ W.heap.size ≤ c2) ∧ w'.heap[c1]? = some (.cells #[.pointer (some ⟨ob,0,none⟩)] 66 (0,0)) ∧ w'.heap[c2]? = some (.cells #[.slice (some ⟨db,0,none⟩) L L] 30 (0,0)))
theorem qrecvStep_b (now:Int) (hat:GAt w S ob F be t) (hm:MemAt w mb rb ws) (hb:Bel.SetAt w bb br bs) (hS:¬ S mb ∧ ¬ S rb ∧ ¬ S bb ∧ ¬ S br) (hF:QIn F ws.length) (h32:W32 ws) :
    Calls Tryz.prog 25 #[.pointer (some ⟨ob,0,none⟩),.pointer (some ⟨mb,0,none⟩),.pointer (some ⟨bb,0,none⟩),.int .i64 now] w (GivesG w mb rb bb br ob F S be (qrecv F t ws).1 (qrecv F t ws).2.1 bs (qrecv F t ws).2.2):=by
  obtain ⟨ce,sv,m,fs,hat⟩:=hat
  have hl:=hF.max
  have hin:=hF.inn
  have hlo:=hF.low
  have hob:mb ≠ ob ∧ rb ≠ ob ∧ bb ≠ ob ∧ br ≠ ob:=⟨fun e => hS.1 (e ▸ hat.sb),fun e => hS.2.1 (e ▸ hat.sb),fun e => hS.2.2.1 (e ▸ hat.sb),fun e => hS.2.2.2 (e ▸ hat.sb)⟩
  have hml:=hm.lt
  have hbl:=hb.lt
  have hol:=hat.blk.lt
  have hbr:bb ≠ rb ∧ br ≠ rb:=⟨by rintro rfl;have:=hb.head.symm.trans hm.row;simp at this,by rintro rfl;have:=hb.row.symm.trans hm.row;simp at this⟩
  have hfl:fs.length = m:=by have:=hat.row.1;simpa using this
  by_cases z:t.no < 0
  · rw [qr_over z]
    have hfs:fs = []:=by
      rcases hat.ph with h | h | h | ⟨db,L,ds,h⟩
      · exact h.2
      · omega
      · omega
      · have:=h.no;omega
    subst hfs
    obtain rfl:m = 0:=by simpa using hfl.symm
    refine (qstep_nil mb bb ob now t.own F.d F.n F.src F.dst ce be sv w hat.blk hat.row).mono ?_
    rintro e w' ⟨rfl,ho⟩
    exact ⟨S,.slice none 0 0,rfl,GAt.only ⟨ce,sv,0,[],hat⟩ ho (fun _ _ h => h),OwnsOff.nil ..,(fun g hg => by cases hg),hm.only ho (fun h => h) (fun h => h),hb.kept ho (fun h => h) (fun h => h),ho.mono fun _ _ h => h.elim,fun k h => .inl h⟩
  have hce:=hat.cell (by omega)
  have fin:∀ {W w1 w':World} {T:Nat → Prop},Only (fun k => k = ob) w W → Only T W w1 → (∀ k,T k → k = ob ∨ k = rb ∨ S k ∨ w.heap.size ≤ k) → Only (fun k => k = w.heap.size) w1 w' → Only (fun k => S k ∨ k = rb) w w':=fun a b c d => by
    have h1:Only (New w.heap.size fun k => S k ∨ k = rb) w _:=a.mono fun k _ h => .inr (.inl (h ▸ hat.sb))
    refine ((h1.trans (b.mono fun k _ h => ?_)).trans (d.mono fun k _ h => .inl (Nat.le_of_eq h.symm))).old
    rcases c k h with h | h | h | h
    · exact .inr (.inl (h ▸ hat.sb))
    · exact .inr (.inr h)
    · exact .inr (.inl h)
    · exact .inl h
  have rk:∀ {W w1 w':World} {v':Value} {m':Nat} {fs':List Value} {T:Nat → Prop},OBlk W ob (t.own) F.d F.n F.src F.dst ce be (v') → OwnsOff W 0 107 1 v' m' fs' → v'.ownBlock = sv.ownBlock → Only T W w1 → (∀ k,T k → k = ob ∨ k = rb ∨ ∃ cs,W.heap[k]? = some (.cells cs 34 (0,0))) → Only (fun k => k = w.heap.size) w1 w' → OwnsOff w' 0 107 1 v' m' fs':=fun a b c d e f => by
    refine (b.kept d (fun k hk hT => ?_)).kept f (fun k hk hT => by have:=hat.low k (hat.rowS k (c ▸ hk));omega)
    obtain ⟨cs,hc⟩:=b.typed k hk
    rcases e k hT with rfl | rfl | ⟨cs',hc'⟩
    · have:=hc.symm.trans a;simp at this
    · exact hS.2.1 (hat.rowS _ (c ▸ hk))
    · rw [hc] at hc';cases hc'
  rcases hat.ph with h | ⟨hno,rfl⟩ | ⟨hno,rfl⟩ | ⟨db,L,ds,hg⟩
  · omega
  · obtain rfl:m = 2:=hfl.symm
    have hd0:=hat.d0 (by omega) (by omega)
    by_cases he:rd ws F.src = t.own
    · rw [qr0f hno he]
      refine (gpop (g:=51) (xs:=[.pointer (some ⟨ob,0,none⟩)]) (cs:=[]) now hat.blk hat.row hm hb hob (enters_of Tryz.func51 (by kernel_rfl) rfl) (fun W v' D w1 => D = (qdV true (2) (.slice none 0 0) (0) true false) ∧ StepQ (fun k => k = ob ∨ k = rb) W mb rb ob ws t.own F.d F.n F.src F.dst ce be (.slice none 0 0) w1) (fun W v' hB hO hR hv hM hB2 => ?_) ?_).mono ?_
      · refine (q_none_b mb rb ob (.pointer (some ⟨bb,0,none⟩)) ws t.own F.d F.n F.src F.dst ce be v' W hB hM hl (by omega) (by rw [beq_iff_eq];exact he)).mono ?_
        rintro e w1 ⟨rfl,hst⟩
        exact ⟨_,rfl,rfl,hst⟩
      · rintro W v' D w1 hW hB hv ⟨rfl,hst⟩
        exact ⟨rfl,by simp [Value.oneCell'],fun k => k = ob ∨ k = rb,hst.only,(fun h => by omega)⟩
      rintro e w' ⟨W,v',D,w1,rfl,h1,h2,h3,h4,hM,hB2,⟨rfl,hst⟩,hT,hWs⟩
      have hs2:=h2.size
      have hs5:=(hst.only).size
      have hs6:=hT.size
      have q:=toQ hst hB2 hM hob.2.2.1 hob.2.2.2
      exact ⟨S,.slice none 0 0,rfl,⟨ce,_,0,[],⟨hst.blk.only hT (by omega),OwnsOff.nil ..,(fun g hg => by cases hg),hat.sb,fun k hk => Nat.lt_of_lt_of_le (hat.low k hk) (by omega),(fun a => by exact absurd (show (0:Int) ≤ -1 from a) (by omega)),(fun a => by exact absurd (show (0:Int) ≤ -1 from a) (by omega)),.inl ⟨by show (-1:Int) < 0;omega,rfl⟩⟩⟩,OwnsOff.nil ..,(fun g hg => by cases hg),hst.mem.only hT (by omega) (by omega),q.2.kept hT (by omega) (by omega),fin h2 hst.only (fun k h => h.elim .inl (fun h => .inr (.inl h))) hT,fun k h => .inl h⟩
    · rw [qr0 hno he]
      refine (gpop (g:=51) (xs:=[.pointer (some ⟨ob,0,none⟩)]) (cs:=[]) now hat.blk hat.row hm hb hob (enters_of Tryz.func51 (by kernel_rfl) rfl) (fun W v' D w1 => D = (qdV false (0) (.slice none 0 0) (0) false false) ∧ StepQ (fun k => k = ob ∨ k = rb) W mb rb ob ws t.own F.d F.n F.src F.dst ce be v' w1) (fun W v' hB hO hR hv hM hB2 => ?_) ?_).mono ?_
      · refine (q_tail_b mb rb ob (.pointer (some ⟨bb,0,none⟩)) ws t.own F.d F.n F.src F.dst ce be v' W hB hM hl (by omega) (by rw [beq_eq_false_iff_ne];exact he)).mono ?_
        rintro e w1 ⟨rfl,hst⟩
        exact ⟨_,rfl,rfl,hst⟩
      · rintro W v' D w1 hW hB hv ⟨rfl,hst⟩
        exact ⟨rfl,by simp [Value.oneCell'],fun k => k = ob ∨ k = rb,hst.only,(fun h => by omega)⟩
      rintro e w' ⟨W,v',D,w1,rfl,h1,h2,h3,h4,hM,hB2,⟨rfl,hst⟩,hT,hWs⟩
      have hs2:=h2.size
      have hs5:=(hst.only).size
      have hs6:=hT.size
      have q:=toQ hst hB2 hM hob.2.2.1 hob.2.2.2
      exact ⟨S,.slice none 0 0,rfl,⟨ce,v',1,_,⟨hst.blk.only hT (by omega),rk h1 h3 h4 hst.only (fun k h => h.elim .inl (fun h => .inr (.inl h))) hT,fun g hg => hat.rowS g (h4 ▸ hg),hat.sb,fun k hk => Nat.lt_of_lt_of_le (hat.low k hk) (by omega),fun _ => hce,fun _ _ => hd0,.inr (.inr (.inl ⟨rfl,rfl⟩))⟩⟩,OwnsOff.nil ..,(fun g hg => by cases hg),hst.mem.only hT (by omega) (by omega),q.2.kept hT (by omega) (by omega),fin h2 hst.only (fun k h => h.elim .inl (fun h => .inr (.inl h))) hT,fun k h => .inl h⟩
  · obtain rfl:m = 1:=hfl.symm
    have hd0:=hat.d0 (by omega) (by omega)
    have hcin:=hF.cell t.own
    rw [qr1 hno]
    obtain ⟨L,hL⟩:∃ L:Nat,lenQ F (rd ws (cellQ F t.own)) = (L:Int):=⟨(lenQ F (rd ws (cellQ F t.own))).toNat,by
      have:=(h32 (cellQ F t.own)).1
      unfold lenQ;split <;> omega⟩
    have hLn:L ≤ F.n:=by unfold lenQ at hL;split at hL <;> omega
    refine (gpop (g:=52) (xs:=[.pointer (some ⟨ob,0,none⟩)]) (cs:=[]) now hat.blk hat.row hm hb hob (enters_of Tryz.func52 (by kernel_rfl) rfl) (fun W v' D w1 => D = (qdV false (0) (.slice none 0 0) (0) false false) ∧ LLPost W mb rb ob ws t.own F ce be v' L w1) (fun W v' hB hO hR hv hM hB2 => ?_) ?_).mono ?_
    · refine (callsIn_wide.1 (q_llen_in mb rb ob (.pointer (some ⟨bb,0,none⟩)) ws t.own F ce be v' W hB hM hl hR (by rw [hce];omega) (by omega) L (by rw [hce];exact hL) (by rw [hce];exact (h32 _).1))).mono ?_
      rintro e w1 ⟨rfl,hst⟩
      exact ⟨_,rfl,rfl,hst⟩
    · rintro W v' D w1 hW hB hv ⟨rfl,sv',fs,db,-,-,ho,-⟩
      refine ⟨rfl,by simp [Value.oneCell'],_,ho,fun h => ?_⟩
      rcases h with h | h
      · omega
      · have:=hat.low _ (hat.rowS _ (hv ▸ h));omega
    rintro e w' ⟨W,v',D,w1,rfl,h1,h2,h3,h4,hM,hB2,⟨rfl,sv',fs,db,p1,p2,p3,p4,p5,p6,p7,p8,p9⟩,hT,hWs⟩
    have hs2:=h2.size
    have hs5:=p3.size
    have hs6:=hT.size
    have hvS:∀ g,v'.ownBlock = some g → S g:=fun g hg => hat.rowS g (h4 ▸ hg)
    have hblk:∀ (b:Nat) (cs:Array Value) (tt:TypeId),W.heap.size ≤ b → w1.heap[b]? = some (.cells cs tt (0,0)) → w'.heap[b]? = some (.cells cs tt (0,0)):=fun b cs tt h hh => hT.at_ hh (by omega)
    have hSn:∀ b,W.heap.size ≤ b → b < w1.heap.size → S b ∨ w.heap.size ≤ b ∧ b < w'.heap.size:=fun b h hh => .inr ⟨by omega,by omega⟩
    refine ⟨fun k => S k ∨ (w.heap.size ≤ k ∧ k < w'.heap.size),.slice none 0 0,rfl,⟨ce,sv',L + 1,fs,⟨p1.only hT (by omega),p4.kept hT (fun k hk e => ?_),fun g hg => ?_,.inl hat.sb,fun k hk => hk.elim (fun h => Nat.lt_of_lt_of_le (hat.low k h) (by omega)) (fun h => h.2),fun _ => hce,(fun _ a => by exact absurd (show (2:Int) ≤ 1 from a) (by omega)),.inr (.inr (.inr ⟨db,L,List.replicate L 0,?_⟩))⟩⟩,OwnsOff.nil ..,(fun g hg => by cases hg),p2.only hT (by omega) (by omega),(hB2.kept p3 (fun h => h.elim hob.2.2.1 (fun h => hS.2.2.1 (hvS _ h))) (fun h => h.elim hob.2.2.2 (fun h => hS.2.2.2 (hvS _ h)))).kept hT (by omega) (by omega),fin h2 p3 (fun k h => h.elim .inl (fun h => .inr (.inr (.inl (hvS k h))))) hT,fun k h => h.imp id (fun h => h.1)⟩
    · rcases p5 k hk with h | h
      · have:=hat.low _ (hvS _ h);omega
      · omega
    · rcases p5 g hg with h | h
      · exact .inl (hvS _ h)
      · exact hSn g h (p4.lt g hg).2
    · have hlt:=p6.lt
      refine ⟨hL,hLn,hSn db p7 hlt,hblk _ _ _ p7 p6,by simp,by show List.take t.data.length _ = t.data;rw [hd0];rfl,by show (2:Int) = 2 + (t.data.length:Int);rw [hd0];rfl,by show t.data.length ≤ L;rw [hd0];exact Nat.zero_le _,by show L + 1 = L + 1 - t.data.length;rw [hd0];rfl,fun j v hv => ?_⟩
      show RecvFn _ _ ob db L (t.data.length + j) v
      rw [hd0]
      show RecvFn _ _ ob db L (0 + j) v
      rw [Nat.zero_add]
      have hfl2:fs.length = L + 1:=by have:=p4.1;simpa using this
      have hjl:=(List.getElem?_eq_some_iff.1 hv).1
      rcases Nat.lt_or_ge j L with hj | hj
      · obtain ⟨b1,b2,b3,rfl,⟨l1,l2,l3⟩,e1,e2,e3⟩:=p8 j v hv hj
        exact .word j b1 b2 b3 hj (hSn _ l1 (Array.getElem?_eq_some_iff.1 e1).1) (hSn _ l2 (Array.getElem?_eq_some_iff.1 e2).1) (hSn _ l3 (Array.getElem?_eq_some_iff.1 e3).1) (hblk _ _ _ l1 e1) (hblk _ _ _ l2 e2) (hblk _ _ _ l3 e3)
      · obtain rfl:j = L:=by omega
        obtain ⟨c1,c2,rfl,⟨l1,l2⟩,e1,e2⟩:=p9 v hv
        exact .head c1 c2 (hSn _ l1 (Array.getElem?_eq_some_iff.1 e1).1) (hSn _ l2 (Array.getElem?_eq_some_iff.1 e2).1) (hblk _ _ _ l1 e1) (hblk _ _ _ l2 e2)
  · have hnum:=hg.num
    have htl:=hg.tl
    obtain ⟨M,rfl⟩:∃ M,m = M + 1:=⟨m - 1,by omega⟩
    obtain ⟨f,fs',rfl⟩:∃ f fs',fs = f :: fs':=by
      cases fs with
      | nil => simp at hfl
      | cons f fs' => exact ⟨f,fs',rfl⟩
    have hf:=hg.fn 0 f rfl
    have hcin:=hF.cell t.own
    have hno:=hg.no
    have hdl:=hg.row.lt
    have hle:=hg.le
    obtain ⟨k,hk⟩:∃ k,t.data.length + 0 = k:=⟨_,rfl⟩
    rw [hk] at hf
    have hdS:=hg.sd
    have hdn:db ≠ rb ∧ db ≠ mb ∧ db ≠ bb ∧ db ≠ br:=⟨fun e => hS.2.1 (e ▸ hdS),fun e => hS.1 (e ▸ hdS),fun e => hS.2.2.1 (e ▸ hdS),fun e => hS.2.2.2 (e ▸ hdS)⟩
    have hdo:db ≠ ob:=by
      rintro rfl
      have:=hat.blk.symm.trans hg.row
      simp at this
    have o0:∀ (b:Nat) (v:Value) (t:TypeId),w.heap[b]? = some (.cells #[v] t (0,0)) → b ≠ ob:=fun b v t h e => by
      subst e
      have:=h.symm.trans hat.blk
      simp at this
    have keep:∀ {W w1 w':World} {T:Nat → Prop},Only (fun k => k = ob) w W → Only T W w1 → (∀ k,T k → k = ob ∨ k = rb ∨ k = db) → Only (fun k => k = w.heap.size) w1 w' → ∀ (b:Nat) (u:Value) (tt:TypeId),S b → w.heap[b]? = some (.cells #[u] tt (0,0)) → tt ≠ 107 → tt ≠ 111 → tt ≠ 34 → w'.heap[b]? = some (.cells #[u] tt (0,0)):=fun a b c d bl u tt hb hh t1 t2 t3 => by
      have h1:=a.at_ hh (o0 _ _ _ hh)
      have h2:=b.at_ h1 (fun h => by
        rcases c bl h with e | e | e
        · exact o0 _ _ _ hh e
        · exact hS.2.1 (e ▸ hb)
        · subst e
          have:=hh.symm.trans hg.row
          simp at this;exact t3 this.2)
      exact d.at_ h2 (by have:=hat.low bl hb;omega)
    cases hf with
    | word i b1 b2 b3 hi s1 s2 s3 h1 h2 h3 =>
      have hi2:t.data.length < L:=by omega
      have e2:=h2
      rw [show k = t.data.length by omega] at e2
      rw [qr2s (by omega) (by rw [hg.len];omega)]
      refine (gpop (g:=99) (xs:=[]) (cs:=[.pointer (some ⟨b1,0,none⟩),.pointer (some ⟨b2,0,none⟩),.pointer (some ⟨b3,0,none⟩)]) now hat.blk hat.row hm hb hob (enters_of Tryz.func99 (by kernel_rfl) rfl) (fun W v' D w1 => D = (qdV false (0) (.slice none 0 0) (0) false false) ∧ StepQ (fun k => k = db) W mb rb ob ws t.own F.d F.n F.src F.dst ce be v' w1 ∧ WordsAt w1 db (ds.set t.data.length (ws.getD (ce + 1 + t.data.length) 0))) (fun W v' hB hO hR hv hM hB2 => ?_) ?_).mono ?_
      · refine (q_get_b mb rb ob (.pointer (some ⟨bb,0,none⟩)) ws t.own F.d F.n F.src F.dst ce be v' W b1 b2 b3 db t.data.length L ds hB hM hl (hO.at_ h1 (o0 _ _ _ h1)) (hO.at_ e2 (o0 _ _ _ e2)) (hO.at_ h3 (o0 _ _ _ h3)) (hg.row.of (hO.block db hdl hdo)) hdn.1 hi2 (by rw [hg.dl];omega) (by omega) (by rw [hce];omega)).mono ?_
        rintro e w1 ⟨rfl,hst,hwd⟩
        exact ⟨_,rfl,rfl,hst,hwd⟩
      · rintro W v' D w1 hW hB hv ⟨rfl,hst,hwd⟩
        exact ⟨rfl,by simp [Value.oneCell'],fun k => k = db,hst.only,(fun h => by omega)⟩
      rintro e w' ⟨W,v',D,w1,rfl,j1,j2,j3,h4,hM,hB2,⟨rfl,hst,hwd⟩,hT,hWs⟩
      have hs2:=j2.size
      have hs5:=(hst.only).size
      have hs6:=hT.size
      have hkp:=keep j2 hst.only (fun k h => .inr (.inr h)) hT
      have hdr:(ds.set t.data.length (ws.getD (ce + 1 + t.data.length) 0)).length = L:=by rw [List.length_set];exact hg.dl
      rw [hce] at hwd hdr
      have hWd:WordsAt W db ds:=hg.row.of (j2.block db hdl hdo)
      have hdW:∀ k,k = db → k = ob ∨ k = rb ∨ ∃ cs,W.heap[k]? = some (.cells cs 34 (0,0)):=fun k h => by rw [h];exact .inr (.inr ⟨_,hWd⟩)
      refine ⟨S,.slice none 0 0,rfl,⟨ce,v',M,fs',⟨hst.blk.only hT (by omega),rk j1 j3 h4 hst.only hdW hT,fun g hg2 => hat.rowS g (h4 ▸ hg2),hat.sb,fun k hk => Nat.lt_of_lt_of_le (hat.low k hk) (by omega),fun _ => hce,(fun _ a => by exact absurd (show t.no + 1 ≤ 1 from a) (by omega)),.inr (.inr (.inr ⟨db,L,ds.set t.data.length (ws.getD (cellQ F t.own + 1 + t.data.length) 0),?_⟩))⟩⟩,OwnsOff.nil w' 0 34 1,(fun g hg => by cases hg),hst.mem.only hT (by omega) (by omega),(hB2.kept hst.only (fun h => hdn.2.2.1 h.symm) (fun h => hdn.2.2.2 h.symm)).kept hT (by omega) (by omega),fin j2 hst.only (fun k h => .inr (.inr (.inl (h ▸ hdS)))) hT,fun k h => .inl h⟩
      refine ⟨hg.len,hg.le,hdS,hwd.of (hT.block db (by omega) (by have:=hat.low db hdS;omega)),hdr,?_,?_,?_,?_,fun j v hv => ?_⟩
      · show List.take (t.data ++ [_]).length _ = t.data ++ [_]
        rw [List.length_append]
        exact take_set12 ds t.data _ (by rw [hg.dl];exact hi2) hg.take
      · show t.no + 1 = 2 + ((t.data ++ [_]).length:Int)
        rw [List.length_append];simp;omega
      · show (t.data ++ [_]).length ≤ L
        rw [List.length_append];simp;omega
      · show M = L + 1 - (t.data ++ [_]).length
        rw [List.length_append];simp;omega
      · show RecvFn _ _ ob db L ((t.data ++ [_]).length + j) v
        rw [List.length_append]
        have q:=(hg.fn (j + 1) v (by simpa using hv)).keeps hkp (fun _ h => h)
        rw [show t.data.length + (j + 1) = t.data.length + [rd ws (cellQ F t.own + 1 + t.data.length)].length + j by simp;omega] at q
        exact q
    | head c1 c2 s1 s2 h1 h2 =>
      have hdL:t.data.length = L:=by omega
      rw [qr3 (by omega) (by rw [hg.len];omega)]
      have hds:ds = t.data:=by
        have:=hg.take
        rw [hdL,List.take_of_length_le (by rw [hg.dl];exact Nat.le_refl _)] at this
        exact this
      refine (gpop (g:=100) (xs:=[]) (cs:=[.pointer (some ⟨c1,0,none⟩),.pointer (some ⟨c2,0,none⟩)]) now hat.blk hat.row hm hb hob (enters_of Tryz.func100 (by kernel_rfl) rfl) (fun W v' D w1 => D = (qdV true (0) (.slice (some ⟨db,0,none⟩) L L) (0) true false) ∧ StepQ (fun k => k = ob ∨ k = rb) W mb rb ob (ws.set F.dst ((t.own + 1) % 4294967296)) ((t.own + 1) % 4294967296) F.d F.n F.src F.dst ce be v' w1) (fun W v' hB hO hR hv hM hB2 => ?_) ?_).mono ?_
      · refine (q_free_b mb rb ob (.pointer (some ⟨bb,0,none⟩)) ws t.own F.d F.n F.src F.dst ce be v' W c1 c2 (some ⟨db,0,none⟩) L L hB hM hl (hO.at_ h1 (o0 _ _ _ h1)) (hO.at_ h2 (o0 _ _ _ h2)) (by omega)).mono ?_
        rintro e w1 ⟨rfl,hst⟩
        exact ⟨_,rfl,rfl,hst⟩
      · rintro W v' D w1 hW hB hv ⟨rfl,hst⟩
        exact ⟨rfl,by simp [Value.oneCell'],fun k => k = ob ∨ k = rb,hst.only,(fun h => by omega)⟩
      rintro e w' ⟨W,v',D,w1,rfl,j1,j2,j3,h4,hM,hB2,⟨rfl,hst⟩,hT,hWs⟩
      have hs2:=j2.size
      have hs5:=(hst.only).size
      have hs6:=hT.size
      have q:=toQ hst hB2 hM hob.2.2.1 hob.2.2.2
      have hM0:M = 0:=by omega
      subst hM0
      have hfs0:fs' = []:=by
        cases fs' with
        | nil => rfl
        | cons a b => simp at hfl
      subst hfs0
      have hD1:WordsAt w' db ds:=((hg.row.of (j2.block db hdl hdo)).of (hst.only.block db (by omega) (fun h => h.elim hdo hdn.1))).of (hT.block db (by omega) (by have:=hat.low db hdS;omega))
      refine ⟨S,.slice (some ⟨db,0,none⟩) L L,rfl,⟨ce,v',0,[],⟨hst.blk.only hT (by omega),rk j1 j3 h4 hst.only (fun k h => h.elim .inl (fun h => .inr (.inl h))) hT,fun g hg2 => hat.rowS g (h4 ▸ hg2),hat.sb,fun k hk => Nat.lt_of_lt_of_le (hat.low k hk) (by omega),(fun a => by exact absurd (show (0:Int) ≤ -1 from a) (by omega)),(fun a => by exact absurd (show (0:Int) ≤ -1 from a) (by omega)),.inl ⟨by show (-1:Int) < 0;omega,rfl⟩⟩⟩,?_,(fun g hg2 => (show db = g by simpa [Value.ownBlock] using hg2) ▸ hdS),hst.mem.only hT (by omega) (by omega),q.2.kept hT (by omega) (by omega),fin j2 hst.only (fun k h => h.elim .inl (fun h => .inr (.inl h))) hT,fun k h => .inl h⟩
      show OwnsOff w' 0 34 1 (.slice (some ⟨db,0,none⟩) L L) t.data.length (wcells t.data)
      rw [hdL,← hds]
      exact hD1.off hg.dl (by omega)
end
end Go.Proofs.YtmhpcgcloojfbaaGreat
end
section
namespace Go.Proofs.YtmhpcgcloojfbaaGreat
open Go.RowKit Go.Sort
set_option linter.unusedVariables false
set_option linter.unusedSimpArgs false
set_option linter.unusedVariables false
set_option linter.unusedSimpArgs false
open Go.Proofs.YtmhpcgcloojfbaaGreat.Simp
set_option maxRecDepth 100000
set_option maxHeartbeats 1600000
@[reducible] def HQ (mb rb bb br k:Nat):Prop:=k = mb ∨ k = rb ∨ k = bb ∨ k = br
def WQ (s:QS):Prop:=W32 s.data ∧ 0 ≤ s.own ∧ s.own ≤ 4294967295
theorem inc32_in (x:Int):0 ≤ inc32 x ∧ inc32 x ≤ 4294967295:=by unfold inc32;omega
theorem qsend_w {F:Qr} {s:QS} {ws:List Int} (h:W32 ws) (hs:WQ s) (hl:s.data.length ≤ 16):W32 (qsend F s ws).2.1 ∧ (qsend F s ws).2.1.length = ws.length ∧ WQ (qsend F s ws).1:=by
  have hi:=inc32_in s.own
  obtain ⟨h1,h2,h3⟩:=hs
  unfold qsend
  split;exact ⟨h,rfl,h1,h2,h3⟩
  split
  · split
    · exact ⟨h,rfl,h1,h2,h3⟩
    · exact ⟨h,rfl,h1,h2,h3⟩
  split;exact ⟨h.set (by omega),List.length_set ..,h1,h2,h3⟩
  split;exact ⟨h.set (h1 (s.no - 2).toNat),List.length_set ..,h1,h2,h3⟩
  split;exact ⟨h.set hi,List.length_set ..,h1,hi⟩
  exact ⟨h,rfl,h1,h2,h3⟩
theorem w32_nil:W32 []:=fun a => by unfold rd;simp
theorem qrecv_w {F:Qr} {s:QS} {ws:List Int} (h:W32 ws) (hs:WQ s):W32 (qrecv F s ws).2.1 ∧ (qrecv F s ws).2.1.length = ws.length ∧ WQ (qrecv F s ws).1 ∧ W32 (qrecv F s ws).2.2.data:=by
  have hi:=inc32_in s.own
  obtain ⟨h1,h2,h3⟩:=hs
  unfold qrecv
  split;exact ⟨h,rfl,⟨h1,h2,h3⟩,w32_nil⟩
  split
  · split
    · exact ⟨h,rfl,⟨h1,h2,h3⟩,w32_nil⟩
    · exact ⟨h,rfl,⟨h1,h2,h3⟩,w32_nil⟩
  split;exact ⟨h,rfl,⟨h1,h2,h3⟩,w32_nil⟩
  split;exact ⟨h,rfl,⟨h1.app (h _),h2,h3⟩,w32_nil⟩
  exact ⟨h.set hi,List.length_set ..,⟨h1,hi⟩,h1⟩
/-- A memory,bells,a send and a receive of one channel (or none),and blocks E that are not theirs;what was there ahead of w1 stands (B: its size,or less). -/
structure Quo (w1 w:World) (B:Nat) (E:Nat → Prop) (mb rb bb br:Nat) (F:Qr) (be:Nat) (ws:List Int) (bs:List Bool) (os og:Option (Nat × QS)):Prop where
  below:Below B w1 w
  mem:MemAt w mb rb ws
  bel:Bel.SetAt w bb br bs
  low:B ≤ mb ∧ B ≤ rb ∧ B ≤ bb ∧ B ≤ br ∧ B ≤ w1.heap.size
  fin:QIn F ws.length
  w32:W32 ws
  belt:be < bs.length
  two:∃ Ss Sg:Nat → Prop,(∀ k,Ss k → ¬ Sg k) ∧ (∀ k,Ss k ∨ Sg k → B ≤ k ∧ ¬ HQ mb rb bb br k ∧ k < w.heap.size) ∧ (∀ k,E k → ¬ Ss k ∧ ¬ Sg k ∧ ¬ HQ mb rb bb br k ∧ k < w.heap.size) ∧
    (∀ ob s,os = some (ob,s) → SAt w Ss ob F be s ∧ WQ s) ∧ (∀ ob s,og = some (ob,s) → GAt w Sg ob F be s ∧ WQ s)
section
variable {w1 w w':World} {B mb rb bb br be:Nat} {E:Nat → Prop} {F:Qr} {ws:List Int} {bs:List Bool} {os og:Option (Nat × QS)}
theorem Quo.first (hb:Below B w1 w) (hm:MemAt w mb rb ws) (hs:Bel.SetAt w bb br bs) (hl:B ≤ mb ∧ B ≤ rb ∧ B ≤ bb ∧ B ≤ br ∧ B ≤ w1.heap.size) (hf:QIn F ws.length) (h32:W32 ws) (hbe:be < bs.length) (hE:∀ k,E k → ¬ HQ mb rb bb br k ∧ k < w.heap.size):Quo w1 w B E mb rb bb br F be ws bs none none:=
  ⟨hb,hm,hs,hl,hf,h32,hbe,fun _ => False,fun _ => False,fun _ h => h.elim,fun _ h => h.elim False.elim False.elim,fun k hk => ⟨fun h => h,fun h => h,hE k hk⟩,(fun _ _ h => by cases h),(fun _ _ h => by cases h)⟩
/-- Other blocks turn,or new ones come;the memory's words and the bells may turn. -/
theorem Quo.turn (h:Quo w1 w B E mb rb bb br F be ws bs os og) {T:Nat → Prop} {ws':List Int} {bs':List Bool} (ho:Only T w w') (hT:∀ k,k < w.heap.size → T k → (E k ∧ B ≤ k) ∨ HQ mb rb bb br k) (hm:MemAt w' mb rb ws') (hs:Bel.SetAt w' bb br bs') (hl:ws'.length = ws.length) (hbl:bs'.length = bs.length) (h32:W32 ws') {E':Nat → Prop} (hE:∀ k,E' k → E k ∨ (w.heap.size ≤ k ∧ k < w'.heap.size)):Quo w1 w' B E' mb rb bb br F be ws' bs' os og:=by
  obtain ⟨Ss,Sg,h1,h2,h3,h4,h5⟩:=h.two
  have hnT:∀ k,Ss k ∨ Sg k → ¬ T k:=fun k hk ht => by
    have q:=h2 k hk
    rcases hT k q.2.2 ht with a | a
    · have:=h3 k a.1;exact hk.elim this.1 this.2.1
    · exact q.2.1 a
  have hml:=h.mem.lt
  have hsl:=h.bel.lt
  have hlo:=h.low
  have hbs:=h.below.size
  have hB:Below B w w':=⟨ho.os,ho.tape,ho.output,ho.size,fun k hk => ho.block k (by omega) (fun ht => by
    rcases hT k (by omega) ht with a | a
    · have:=a.2;omega
    · unfold HQ at a;omega)⟩
  have hsz:=ho.size
  refine ⟨h.below.trans hB,hm,hs,h.low,by rw [hl];exact h.fin,h32,by rw [hbl];exact h.belt,Ss,Sg,h1,fun k hk => ?_,fun k hk => ?_,fun ob s e => ⟨(h4 ob s e).1.only ho (fun k hk => hnT k (.inl hk)),(h4 ob s e).2⟩,fun ob s e => ⟨(h5 ob s e).1.only ho (fun k hk => hnT k (.inr hk)),(h5 ob s e).2⟩⟩
  · have:=h2 k hk;exact ⟨this.1,this.2.1,by omega⟩
  · rcases hE k hk with he | ⟨hk1,hk2⟩
    · have:=h3 k he;exact ⟨this.1,this.2.1,this.2.2.1,by omega⟩
    · refine ⟨fun hx => ?_,fun hx => ?_,fun hx => ?_,hk2⟩
      · have:=(h2 k (.inl hx)).2.2;omega
      · have:=(h2 k (.inr hx)).2.2;omega
      · unfold HQ at hx;omega
theorem Quo.only (h:Quo w1 w B E mb rb bb br F be ws bs os og) {T:Nat → Prop} (ho:Only T w w') (hT:∀ k,k < w.heap.size → T k → E k ∧ B ≤ k) {E':Nat → Prop} (hE:∀ k,E' k → E k ∨ (w.heap.size ≤ k ∧ k < w'.heap.size)):Quo w1 w' B E' mb rb bb br F be ws bs os og:=by
  have hq:∀ k,HQ mb rb bb br k → k < w.heap.size → ¬ T k:=fun k hk hl ht => by
    obtain ⟨Ss,Sg,h1,h2,h3,h4,h5⟩:=h.two
    exact (h3 k (hT k hl ht).1).2.2.1 hk
  have hml:=h.mem.lt
  have hsl:=h.bel.lt
  exact h.turn ho (fun k a b => .inl (hT k a b)) (h.mem.only ho (hq mb (.inl rfl) hml.1) (hq rb (.inr (.inl rfl)) hml.2)) (h.bel.kept ho (hq bb (.inr (.inr (.inl rfl))) hsl.1) (hq br (.inr (.inr (.inr rfl))) hsl.2)) rfl rfl h.w32 hE
theorem Quo.later (h:Quo w1 w B E mb rb bb br F be ws bs os og) (hb:Below w.heap.size w w'):Quo w1 w' B E mb rb bb br F be ws bs os og:=h.only (T:=fun _ => False) (Only.of_below hb) (fun _ _ h => h.elim) (fun _ h => .inl h)
theorem Quo.fewer (h:Quo w1 w B E mb rb bb br F be ws bs os og) {E':Nat → Prop} (hE:∀ k,E' k → E k):Quo w1 w B E' mb rb bb br F be ws bs os og:=h.only (T:=fun _ => False) (Only.refl _ _) (fun _ _ h => h.elim) (fun k hk => .inl (hE k hk))
/-- The send's blocks among those that are not theirs. -/
theorem Quo.freeS {ob:Nat} {s:QS} (h:Quo w1 w B E mb rb bb br F be ws bs (some (ob,s)) og):∃ S:Nat → Prop,SAt w S ob F be s ∧ WQ s ∧ (∀ k,S k → ¬ E k ∧ B ≤ k ∧ ¬ HQ mb rb bb br k ∧ k < w.heap.size) ∧ Quo w1 w B (fun k => E k ∨ S k) mb rb bb br F be ws bs none og:=by
  obtain ⟨Ss,Sg,h1,h2,h3,h4,h5⟩:=h.two
  refine ⟨Ss,(h4 ob s rfl).1,(h4 ob s rfl).2,fun k hk => ⟨fun he => (h3 k he).1 hk,h2 k (.inl hk)⟩,h.below,h.mem,h.bel,h.low,h.fin,h.w32,h.belt,fun _ => False,Sg,fun _ h => h.elim,fun k hk => h2 k (hk.elim False.elim .inr),fun k hk => ⟨fun h => h,?_⟩,(fun _ _ e => by cases e),h5⟩
  rcases hk with hk | hk
  · have:=h3 k hk;exact this.2
  · have:=h2 k (.inl hk);exact ⟨h1 k hk,this.2⟩
theorem Quo.freeG {ob:Nat} {s:QS} (h:Quo w1 w B E mb rb bb br F be ws bs os (some (ob,s))):∃ S:Nat → Prop,GAt w S ob F be s ∧ WQ s ∧ (∀ k,S k → ¬ E k ∧ B ≤ k ∧ ¬ HQ mb rb bb br k ∧ k < w.heap.size) ∧ Quo w1 w B (fun k => E k ∨ S k) mb rb bb br F be ws bs os none:=by
  obtain ⟨Ss,Sg,h1,h2,h3,h4,h5⟩:=h.two
  refine ⟨Sg,(h5 ob s rfl).1,(h5 ob s rfl).2,fun k hk => ⟨fun he => (h3 k he).2.1 hk,h2 k (.inr hk)⟩,h.below,h.mem,h.bel,h.low,h.fin,h.w32,h.belt,Ss,fun _ => False,fun _ _ h => h,fun k hk => h2 k (hk.elim .inl False.elim),fun k hk => ?_,h4,(fun _ _ e => by cases e)⟩
  rcases hk with hk | hk
  · have:=h3 k hk;exact ⟨this.1,fun h => h,this.2.2⟩
  · have:=h2 k (.inr hk);exact ⟨fun hs => h1 k hs hk,fun h => h,this.2⟩
theorem Quo.putS {ob:Nat} {s:QS} {S:Nat → Prop} (h:Quo w1 w B (fun k => E k ∨ S k) mb rb bb br F be ws bs os og) (hat:SAt w S ob F be s) (hw:WQ s) (hS:∀ k,S k → ¬ E k ∧ B ≤ k):Quo w1 w B E mb rb bb br F be ws bs (some (ob,s)) og:=by
  obtain ⟨Ss,Sg,h1,h2,h3,h4,h5⟩:=h.two
  refine ⟨h.below,h.mem,h.bel,h.low,h.fin,h.w32,h.belt,S,Sg,fun k hk => (h3 k (.inr hk)).2.1,fun k hk => ?_,fun k hk => ?_,(fun _ _ e => by cases e;exact ⟨hat,hw⟩),h5⟩
  · rcases hk with hk | hk
    · exact ⟨(hS k hk).2,(h3 k (.inr hk)).2.2⟩
    · exact h2 k (.inr hk)
  · have:=h3 k (.inl hk);exact ⟨fun hs => (hS k hs).1 hk,this.2⟩
theorem Quo.putG {ob:Nat} {s:QS} {S:Nat → Prop} (h:Quo w1 w B (fun k => E k ∨ S k) mb rb bb br F be ws bs os og) (hat:GAt w S ob F be s) (hw:WQ s) (hS:∀ k,S k → ¬ E k ∧ B ≤ k):Quo w1 w B E mb rb bb br F be ws bs os (some (ob,s)):=by
  obtain ⟨Ss,Sg,h1,h2,h3,h4,h5⟩:=h.two
  refine ⟨h.below,h.mem,h.bel,h.low,h.fin,h.w32,h.belt,Ss,S,fun k hk hs => (h3 k (.inr hs)).1 hk,fun k hk => ?_,fun k hk => ?_,h4,(fun _ _ e => by cases e;exact ⟨hat,hw⟩)⟩
  · rcases hk with hk | hk
    · exact h2 k (.inl hk)
    · exact ⟨(hS k hk).2,(h3 k (.inr hk)).2.2⟩
  · have:=h3 k (.inl hk);exact ⟨this.1,fun hs => (hS k hs).1 hk,this.2.2⟩
theorem Quo.newS (h:Quo w1 w B E mb rb bb br F be ws bs os og) {S:Nat → Prop} {ob:Nat} {s:QS} (hat:SAt w' S ob F be s) (hS:∀ k,S k → w.heap.size ≤ k) (hb:Below w.heap.size w w') (hw:WQ s):Quo w1 w' B E mb rb bb br F be ws bs (some (ob,s)) og:=by
  have hlow:∀ k,S k → k < w'.heap.size:=by obtain ⟨_,_,_,_,hx⟩:=hat;exact hx.low
  have hE:∀ k,E k → k < w.heap.size:=by obtain ⟨_,_,_,_,h3,_⟩:=h.two;exact fun k hk => (h3 k hk).2.2.2
  have hB:B ≤ w.heap.size:=by have:=h.mem.lt;have:=h.low;omega
  exact Quo.putS (h.only (T:=fun _ => False) (Only.of_below hb) (fun _ _ h => h.elim) (fun k hk => hk.imp id (fun hk => ⟨hS k hk,hlow k hk⟩))) hat hw (fun k hk => ⟨fun he => by have:=hE k he;have:=hS k hk;omega,by have:=hS k hk;omega⟩)
theorem Quo.newG (h:Quo w1 w B E mb rb bb br F be ws bs os og) {S:Nat → Prop} {ob:Nat} {s:QS} (hat:GAt w' S ob F be s) (hS:∀ k,S k → w.heap.size ≤ k) (hb:Below w.heap.size w w') (hw:WQ s):Quo w1 w' B E mb rb bb br F be ws bs os (some (ob,s)):=by
  have hlow:∀ k,S k → k < w'.heap.size:=by obtain ⟨_,_,_,_,hx⟩:=hat;exact hx.low
  have hE:∀ k,E k → k < w.heap.size:=by obtain ⟨_,_,_,_,h3,_⟩:=h.two;exact fun k hk => (h3 k hk).2.2.2
  have hB:B ≤ w.heap.size:=by have:=h.mem.lt;have:=h.low;omega
  exact Quo.putG (h.only (T:=fun _ => False) (Only.of_below hb) (fun _ _ h => h.elim) (fun k hk => hk.imp id (fun hk => ⟨hS k hk,hlow k hk⟩))) hat hw (fun k hk => ⟨fun he => by have:=hE k he;have:=hS k hk;omega,by have:=hS k hk;omega⟩)
theorem ringB12_len (b:Bool) (be:Nat) (bs:List Bool):(ringB12 b be bs).length = bs.length:=by
  cases b
  · rfl
  · exact List.length_set ..
theorem Quo.stepS {ob:Nat} {s:QS} (now:Int) (h:Quo w1 w B E mb rb bb br F be ws bs (some (ob,s)) og) :
    Calls Tryz.prog 25 #[.pointer (some ⟨ob,0,none⟩),.pointer (some ⟨mb,0,none⟩),.pointer (some ⟨bb,0,none⟩),.int .i64 now] w fun e w' => e = .returned (.agg (qdOf (qsend F s ws).2.2 (.slice none 0 0))) ∧ Quo w1 w' B E mb rb bb br F be (qsend F s ws).2.1 (ringB12 (qsend F s ws).2.2.ring be bs) (some (ob,(qsend F s ws).1)) og ∧ WQ (qsend F s ws).1 ∧ Only (fun k => ¬ E k ∧ B ≤ k) w w':=by
  obtain ⟨S,hat,hw,hS,hq⟩:=h.freeS
  have hl16:s.data.length ≤ 16:=by obtain ⟨_,_,_,_,hx⟩:=hat;have:=hx.len;have:=h.fin.low;omega
  obtain ⟨q1,q2,q3⟩:=qsend_w (F:=F) h.w32 hw hl16
  have hn:∀ k,HQ mb rb bb br k → ¬ S k:=fun k a b => (hS k b).2.2.1 a
  have hEQ:∀ k,HQ mb rb bb br k → ¬ E k:=by obtain ⟨_,_,_,_,h3,_⟩:=h.two;exact fun k a b => (h3 k b).2.2.1 a
  have hlo:=h.low
  refine (qsendStep_b now hat h.mem h.bel ⟨hn mb (.inl rfl),hn rb (.inr (.inl rfl)),hn bb (.inr (.inr (.inl rfl))),hn br (.inr (.inr (.inr rfl)))⟩ h.fin h.belt).mono ?_
  rintro e w' ⟨rfl,hat',hm',hb',ho⟩
  have hsz:=ho.size
  have ho2:Only (fun k => ¬ E k ∧ B ≤ k) w w':=ho.mono (fun k hk a => by
    rcases a with a | rfl | rfl
    · exact ⟨(hS k a).1,(hS k a).2.1⟩
    · exact ⟨hEQ _ (.inr (.inl rfl)),hlo.2.1⟩
    · exact ⟨hEQ _ (.inr (.inr (.inr rfl))),hlo.2.2.2.1⟩)
  refine ⟨rfl,Quo.putS (hq.turn (T:=fun k => S k ∨ k = rb ∨ k = br) (E':=fun k => E k ∨ S k) ho (fun k hk a => ?_) hm' hb' q2 (ringB12_len _ _ _) q1 (fun k hk => .inl hk)) hat' q3 (fun k hk => ⟨(hS k hk).1,(hS k hk).2.1⟩),q3,ho2⟩
  rcases a with a | rfl | rfl
  · exact .inl ⟨.inr a,(hS k a).2.1⟩
  · exact .inr (.inr (.inl rfl))
  · exact .inr (.inr (.inr (.inr rfl)))
theorem Quo.stepG {ob:Nat} {s:QS} (now:Int) (h:Quo w1 w B E mb rb bb br F be ws bs os (some (ob,s))) :
    Calls Tryz.prog 25 #[.pointer (some ⟨ob,0,none⟩),.pointer (some ⟨mb,0,none⟩),.pointer (some ⟨bb,0,none⟩),.int .i64 now] w fun e w' => ∃ v,e = .returned (.agg (qdOf (qrecv F s ws).2.2 v)) ∧ OwnsOff w' 0 34 1 v (qrecv F s ws).2.2.data.length (wcells (qrecv F s ws).2.2.data) ∧ Quo w1 w' B E mb rb bb br F be (qrecv F s ws).2.1 bs os (some (ob,(qrecv F s ws).1)) ∧
      Quo w1 w' B (fun k => E k ∨ v.ownBlock = some k) mb rb bb br F be (qrecv F s ws).2.1 bs os none ∧ (∀ g,v.ownBlock = some g → ¬ E g ∧ B ≤ g) ∧ WQ (qrecv F s ws).1 ∧ W32 (qrecv F s ws).2.2.data ∧ Only (fun k => ¬ E k ∧ B ≤ k) w w':=by
  obtain ⟨S,hat,hw,hS,hq⟩:=h.freeG
  obtain ⟨q1,q2,q3,q4⟩:=qrecv_w (F:=F) h.w32 hw
  have hn:∀ k,HQ mb rb bb br k → ¬ S k:=fun k a b => (hS k b).2.2.1 a
  have hEQ:∀ k,E k → ¬ HQ mb rb bb br k ∧ k < w.heap.size:=by obtain ⟨_,_,_,_,h3,_⟩:=h.two;exact fun k b => (h3 k b).2.2
  have hlo:=h.low
  have hml:=h.mem.lt
  refine (qrecvStep_b now hat h.mem h.bel ⟨hn mb (.inl rfl),hn rb (.inr (.inl rfl)),hn bb (.inr (.inr (.inl rfl))),hn br (.inr (.inr (.inr rfl)))⟩ h.fin h.w32).mono ?_
  rintro e w' ⟨S',v,rfl,hat',hv,hvS,hm',hb',ho,hS'⟩
  have hlow:∀ k,S' k → k < w'.heap.size:=by obtain ⟨_,_,_,_,hx⟩:=hat';exact hx.low
  have ho2:Only (fun k => ¬ E k ∧ B ≤ k) w w':=ho.mono (fun k hk a => by
    rcases a with a | rfl
    · exact ⟨(hS k a).1,(hS k a).2.1⟩
    · exact ⟨fun he => (hEQ _ he).1 (.inr (.inl rfl)),hlo.2.1⟩)
  have hnew:∀ k,S' k → ¬ E k ∧ B ≤ k:=fun k hk => by
    rcases hS' k hk with a | a
    · exact ⟨(hS k a).1,(hS k a).2.1⟩
    · exact ⟨fun he => by have:=(hEQ k he).2;omega,by omega⟩
  have ht:∀ E':Nat → Prop,(∀ k,E' k → E k ∨ S' k) → Quo w1 w' B E' mb rb bb br F be (qrecv F s ws).2.1 bs os none:=fun E' hE' => hq.turn (T:=fun k => S k ∨ k = rb) ho (fun k hk a => by
    rcases a with a | rfl
    · exact .inl ⟨.inr a,(hS k a).2.1⟩
    · exact .inr (.inr (.inl rfl))) hm' hb' q2 rfl q1 (fun k hk => by
    rcases hE' k hk with a | a
    · exact .inl (.inl a)
    · rcases hS' k a with b | b
      · exact .inl (.inr b)
      · exact .inr ⟨b,hlow k a⟩)
  exact ⟨v,rfl,hv,Quo.putG (ht (fun k => E k ∨ S' k) (fun k hk => hk)) hat' q3 hnew,ht _ (fun k hk => hk.imp id (hvS k)),fun g hg => hnew g (hvS g hg),q3,q4,ho2⟩
end
end Go.Proofs.YtmhpcgcloojfbaaGreat
end
section
namespace Go.Proofs.YtmhpcgcloojfbaaGreat
open Go.RowKit Go.Sort
set_option linter.unusedVariables false
set_option linter.unusedSimpArgs false
set_option linter.unusedVariables false
set_option linter.unusedSimpArgs false
open Go.Proofs.YtmhpcgcloojfbaaGreat.Simp
set_option maxRecDepth 100000
set_option maxHeartbeats 1600000
set_option linter.unusedSectionVars false
def cfgQ (n d boot:Int):Cfg:=⟨[[0,1],[1,0]],[[2,0,1,n,d,0,boot]],1,[[0,0,1]],1,[[1,0,1]]⟩
theorem cfgQ_acc {n d boot:Int} (h1:1 ≤ n) (h2:n ≤ 16) (h3:d = 1 ∨ d = 2 ∨ d = 4 ∨ d = 8):acceptsB (cfgQ n d boot) = true:=by
  have h8:holdsB (cfgQ n d boot) 8 = false:=by
    show (chanBad 2 8 [2,0,1,n,d,0,boot] || false) = false
    rw [Bool.or_false]
    show decide (n < 1 ∨ 16 < n) = false
    exact decide_eq_false (by omega)
  have h9:holdsB (cfgQ n d boot) 9 = false:=by
    show (chanBad 2 9 [2,0,1,n,d,0,boot] || false) = false
    rw [Bool.or_false]
    show decide (((2:Int) = 1 ∧ d ≠ 0) ∨ ((2:Int) = 2 ∧ d ≠ 1 ∧ d ≠ 2 ∧ d ≠ 4 ∧ d ≠ 8)) = false
    exact decide_eq_false (by omega)
  unfold acceptsB allB
  rw [decide_eq_true_eq,List.filter_eq_nil_iff]
  intro k hk
  obtain ⟨i,hi,rfl⟩:=List.mem_map.1 hk
  have hi:=List.mem_range.1 hi
  rw [Bool.not_eq_true]
  match i,hi with
  | 0,_ => exact rfl
  | 1,_ => exact rfl
  | 2,_ => exact rfl
  | 3,_ => exact rfl
  | 4,_ => exact rfl
  | 5,_ => exact rfl
  | 6,_ => exact rfl
  | 7,_ => exact h8
  | 8,_ => exact h9
  | 9,_ => exact rfl
  | 10,_ => exact rfl
  | 11,_ => exact rfl
  | 12,_ => exact rfl
  | 13,_ => exact rfl
  | 14,_ => exact rfl
  | 15,_ => exact rfl
  | 16,_ => exact rfl
  | j + 17,hj => exact absurd hj (by omega)
theorem cfgQ_wf {n d boot:Int} (h1:(Lit.int .i64 n).wf = true) (h2:(Lit.int .i64 d).wf = true) (h3:(Lit.int .u32 boot).wf = true):CfgWf (cfgQ n d boot):=
  ⟨fun q hq => by simp [cfgQ] at hq;rcases hq with rfl | rfl <;> exact wfN2_mk rfl rfl,fun q hq => by simp [cfgQ] at hq;subst hq;exact wfN7_mk rfl rfl rfl h1 h2 rfl h3,fun q hq => by simp [cfgQ] at hq;subst hq;exact wfN3_mk rfl rfl rfl,fun q hq => by simp [cfgQ] at hq;subst hq;exact wfN3_mk rfl rfl rfl,rfl,rfl⟩
theorem cfgQ_few (n d boot:Int):CfgFew (cfgQ n d boot):=⟨by simp [cfgQ],by simp [cfgQ],by simp [cfgQ],by simp [cfgQ]⟩
section
variable {N D:Nat} {boot:Int} (h1:1 ≤ N) (h2:N ≤ 16) (h3:D = 1 ∨ D = 2 ∨ D = 4 ∨ D = 8)
include h1 h2 h3
theorem cfgQ_ok:acceptsB (cfgQ N D boot) = true:=cfgQ_acc (by omega) (by omega) (by omega)
theorem cfgQ_srcN:srcN (row (cfgQ N D boot).chans 0) = 1 + ((D * (N + 1):Nat):Int):=by
  show srcN [2,0,1,(N:Int),(D:Int),0,boot] = _
  unfold srcN
  rw [if_neg (by show ¬ (2:Int) = 1;decide)]
  show 1 + (D:Int) + (D:Int) * (N:Int) = _
  rw [Nat.mul_add];push_cast;omega
theorem cfgQ_qr:QrOf (cfgQ N D boot) 0 (qr2 N D):=by
  have h:=qrOf (cfgQ_ok (boot:=boot) h1 h2 h3) 0 (by show 0 < 1;omega) rfl
  have hs:=cfgQ_srcN (boot:=boot) h1 h2 h3
  have hb:beforeN (cfgQ N D boot) 0 = 1:=rfl
  have e:qrOfN (cfgQ N D boot) 0 = qr2 N D:=by
    unfold qrOfN qr2
    rw [hs,hb]
    congr 1
    omega
  rw [← e];exact h
theorem cfgQ_size:sizeN (cfgQ N D boot) = ((3 + D * (N + 1):Nat):Int):=by
  have hs:=cfgQ_srcN (boot:=boot) h1 h2 h3
  unfold sizeN
  rw [if_pos (cfgQ_ok h1 h2 h3)]
  show beforeN (cfgQ N D boot) 1 = _
  unfold beforeN
  show privUp [[0,1],[1,0]] 2 + (0 + srcN (row (cfgQ N D boot).chans 0) + 1) = _
  rw [hs]
  show (0 + 1 + 0:Int) + (0 + (1 + ((D * (N + 1):Nat):Int)) + 1) = _
  push_cast;omega
theorem cfgQ_in:QIn (qr2 N D) (3 + D * (N + 1)):=by
  refine ⟨⟨?_,?_⟩,?_,h1,h2,by show 1 ≤ D;omega,by show D ≤ 8;omega⟩
  · show 1 + 1 + D * (N + 1) ≤ 2 + D * (N + 1);omega
  · show 2 + D * (N + 1) < _;omega
  · have:=Nat.mul_le_mul (show D ≤ 8 by omega) (show N + 1 ≤ 17 by omega);omega
end
end Go.Proofs.YtmhpcgcloojfbaaGreat
end
section
namespace Go.Proofs.YtmhpcgcloojfbaaGreat
open Go.RowKit Go.Sort
set_option linter.unusedVariables false
set_option linter.unusedSimpArgs false
set_option linter.unusedVariables false
set_option linter.unusedSimpArgs false
open Go.Proofs.YtmhpcgcloojfbaaGreat.Simp
set_option maxRecDepth 100000
set_option maxHeartbeats 1600000
theorem twoQ_b (n d boot:Int) (w:World) (q1:(Lit.int .i64 n).wf = true) (q2:(Lit.int .i64 d).wf = true) (q3:(Lit.int .u32 boot).wf = true):Calls Tryz.prog 42 #[.int .i64 n,.int .i64 d,.int .u32 boot] w fun e w' => ∃ x,e = .returned (.agg (cfgCells (cfgQ n d boot) x)) ∧ CfgIn w' w'.heap.size (cfgQ n d boot) x ∧ Below w.heap.size w w':=by
  have hwf:=cfgQ_wf q1 q2 q3
  go_enter Tryz.func42,Tryz.ntmps42
  go_wp2
  obtain ⟨V,hV⟩:∃ u,Hid (u = ((((((w.alloc (.cells #[.slice (some ⟨w.heap.size + 1,0,none⟩) 2 2,.slice (some ⟨w.heap.size + 1 + 1,0,none⟩) 1 1,.int .i64 1,.slice (some ⟨w.heap.size + 1 + 1 + 1 + 1,0,none⟩) 1 1,.int .i64 1,.slice (some ⟨w.heap.size + 1 + 1 + 1 + 1 + 1,0,none⟩) 1 1] 29)).alloc (.cells #[.int .i64 0,.int .i64 1,.int .i64 1,.int .i64 0] 123)).alloc (.cells #[.int .i64 2,.int .i64 0,.int .i64 1,.int .i64 n,.int .i64 d,.int .i64 0,.int .u32 boot] 36)).alloc (.cells #[.slice (some ⟨w.heap.size + 1,0,none⟩) 2 2,.slice (some ⟨w.heap.size + 1 + 1,0,none⟩) 1 1,.int .i64 1,.slice (some ⟨w.heap.size + 1 + 1 + 1 + 1,0,none⟩) 1 1,.int .i64 1,.slice (some ⟨w.heap.size + 1 + 1 + 1 + 1 + 1,0,none⟩) 1 1] 29)).alloc (.cells #[.int .i64 0,.int .i64 0,.int .i64 1] 125)).alloc (.cells #[.int .i64 1,.int .i64 0,.int .i64 1] 125))):=⟨_,rfl⟩
  rw [← hV.out]
  have h0:V.heap[w.heap.size]? = some (.cells #[.slice (some ⟨w.heap.size + 1,0,none⟩) 2 2,.slice (some ⟨w.heap.size + 1 + 1,0,none⟩) 1 1,.int .i64 1,.slice (some ⟨w.heap.size + 1 + 1 + 1 + 1,0,none⟩) 1 1,.int .i64 1,.slice (some ⟨w.heap.size + 1 + 1 + 1 + 1 + 1,0,none⟩) 1 1] 29):=by rw [hV.out];rw [Below.heap_alloc _ _ _ (by simp;try omega)];rw [Below.heap_alloc _ _ _ (by simp;try omega)];rw [Below.heap_alloc _ _ _ (by simp;try omega)];rw [Below.heap_alloc _ _ _ (by simp;try omega)];rw [Below.heap_alloc _ _ _ (by simp;try omega)];exact heap_new_at _ _ (by simp)
  have h1:V.heap[w.heap.size + 1]? = some (.cells #[.int .i64 0,.int .i64 1,.int .i64 1,.int .i64 0] 123):=by rw [hV.out];rw [Below.heap_alloc _ _ _ (by simp;try omega)];rw [Below.heap_alloc _ _ _ (by simp;try omega)];rw [Below.heap_alloc _ _ _ (by simp;try omega)];rw [Below.heap_alloc _ _ _ (by simp;try omega)];exact heap_new_at _ _ (by simp)
  have h2:V.heap[w.heap.size + 1 + 1]? = some (.cells #[.int .i64 2,.int .i64 0,.int .i64 1,.int .i64 n,.int .i64 d,.int .i64 0,.int .u32 boot] 36):=by rw [hV.out];rw [Below.heap_alloc _ _ _ (by simp;try omega)];rw [Below.heap_alloc _ _ _ (by simp;try omega)];rw [Below.heap_alloc _ _ _ (by simp;try omega)];exact heap_new_at _ _ (by simp)
  have h3:V.heap[w.heap.size + 1 + 1 + 1]? = some (.cells #[.slice (some ⟨w.heap.size + 1,0,none⟩) 2 2,.slice (some ⟨w.heap.size + 1 + 1,0,none⟩) 1 1,.int .i64 1,.slice (some ⟨w.heap.size + 1 + 1 + 1 + 1,0,none⟩) 1 1,.int .i64 1,.slice (some ⟨w.heap.size + 1 + 1 + 1 + 1 + 1,0,none⟩) 1 1] 29):=by rw [hV.out];rw [Below.heap_alloc _ _ _ (by simp;try omega)];rw [Below.heap_alloc _ _ _ (by simp;try omega)];exact heap_new_at _ _ (by simp)
  have h4:V.heap[w.heap.size + 1 + 1 + 1 + 1]? = some (.cells #[.int .i64 0,.int .i64 0,.int .i64 1] 125):=by rw [hV.out];rw [Below.heap_alloc _ _ _ (by simp;try omega)];exact heap_new_at _ _ (by simp)
  have h5:V.heap[w.heap.size + 1 + 1 + 1 + 1 + 1]? = some (.cells #[.int .i64 1,.int .i64 0,.int .i64 1] 125):=by rw [hV.out];exact heap_new_at _ _ (by simp)
  have hB:Below w.heap.size w V:=by rw [hV.out];exact ((((((Below.refl _ _).alloc (Nat.le_refl _) _).alloc (by simp;try omega) _).alloc (by simp;try omega) _).alloc (by simp;try omega) _).alloc (by simp;try omega) _).alloc (by simp;try omega) _
  have hS:V.heap.size = w.heap.size + 6:=by rw [hV.out];simp
  have y0:=cell_blk h0 (i:=0) rfl
  have y1:=cell_blk h0 (i:=1) rfl
  have y2:=cell_blk h0 (i:=2) rfl
  have y3:=cell_blk h0 (i:=3) rfl
  have y4:=cell_blk h0 (i:=4) rfl
  have y5:=cell_blk h0 (i:=5) rfl
  clear hV
  refine bodyPost_ret (v:=.agg #[.slice (some ⟨w.heap.size + 1,0,none⟩) 2 2,.slice (some ⟨w.heap.size + 1 + 1,0,none⟩) 1 1,.int .i64 1,.slice (some ⟨w.heap.size + 1 + 1 + 1 + 1,0,none⟩) 1 1,.int .i64 1,.slice (some ⟨w.heap.size + 1 + 1 + 1 + 1 + 1,0,none⟩) 1 1]) (by simp [results,Tryz.results42,go_sem,y0,y1,y2,y3,y4,y5]) rfl ⟨⟨some ⟨w.heap.size + 1,0,none⟩,2,some ⟨w.heap.size + 1 + 1,0,none⟩,1,some ⟨w.heap.size + 1 + 1 + 1 + 1,0,none⟩,1,some ⟨w.heap.size + 1 + 1 + 1 + 1 + 1,0,none⟩,1⟩,rfl,⟨?_,?_,?_,?_,?_,?_,?_,?_⟩,hB⟩
  · exact row_lit [.i64,.i64] (l:=(cfgQ n d boot).parts) h1 (by omega) hwf.wp rfl
  · exact row_lit [.i64,.i64,.i64,.i64,.i64,.i64,.u32] (l:=(cfgQ n d boot).chans) h2 (by omega) hwf.wc rfl
  · exact row_lit [.i64,.i64,.i64] (l:=(cfgQ n d boot).win0) h4 (by omega) hwf.wa rfl
  · exact row_lit [.i64,.i64,.i64] (l:=(cfgQ n d boot).win1) h5 (by omega) hwf.wb rfl
  all_goals exact ⟨by simp [cfgQ],by simp [maxLen],fun h => by cases h⟩
end Go.Proofs.YtmhpcgcloojfbaaGreat
end
