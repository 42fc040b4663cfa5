/- Texts of the ring, joined, what is used of them. No condition but those in the statements. -/
import Derived.BigQuiet
import Derived.BigRegion
import Derived.Deep.MidRow
import Derived.Deep.RegionHeld3
import Derived.Deep.Upon
import Derived.IntWalk
import Derived.Shelf.Abstract
import Derived.Test.YtmhpcgcloojfbaaGreatQRSn
import Derived.Test.YtmhpcgcloojfbaaGreatQgA
import Derived.Test.YtmhpcgcloojfbaaGreatQgQ
section
namespace Go.Proofs.YtmhpcgcloojfbaaGreat
open Go.RowKit Go.Sort
set_option linter.unusedVariables false
set_option linter.unusedSimpArgs false
set_option linter.unusedVariables false
set_option linter.unusedSimpArgs false
open Go.Proofs.YtmhpcgcloojfbaaGreat.Simp
set_option maxRecDepth 100000
set_option maxHeartbeats 3200000
/-- The queue's words lie within n words. -/
structure QIn (F:Qr) (n:Nat):Prop where
  inn:F.src + 1 + F.d * (F.n + 1) ≤ F.dst ∧ F.dst < n
  max:n ≤ 1000000
  low:1 ≤ F.n ∧ F.n ≤ 16 ∧ 1 ≤ F.d ∧ F.d ≤ 8
theorem QIn.cell {F:Qr} {n:Nat} (h:QIn F n) (x:Int):cellQ F x + (F.n + 1) ≤ n:=by
  have h1:=Int.emod_nonneg x (show (F.d:Int) ≠ 0 by have:=h.low;omega)
  have h2:=Int.emod_lt_of_pos x (show (0:Int) < F.d by have:=h.low;omega)
  have h3:=Nat.mul_le_mul_right (F.n + 1) (show (x % (F.d:Int)).toNat + 1 ≤ F.d by omega)
  rw [Nat.add_mul] at h3
  have h4:=h.inn
  unfold cellQ
  omega
/-- What a step did,as it lies in memory. -/
@[reducible] def qdOf (d:QD) (v:Value):Array Value:=qdV d.done d.code v 0 d.mark d.ring
def GivesS (w:World) (mb rb bb br ob:Nat) (F:Qr) (S:Nat → Prop) (be:Nat) (s':QS) (ws':List Int) (bs':List Bool) (D:Array Value) (e:Ending) (w':World):Prop:=
  e = .returned (.agg D) ∧ SAt w' S ob F be s' ∧ MemAt w' mb rb ws' ∧ Bel.SetAt w' bb br bs' ∧ Only (fun k => S k ∨ k = rb ∨ k = br) w w'
section
variable {w:World} {mb rb bb br ob:Nat} {F:Qr} {S:Nat → Prop} {be:Nat} {s:QS} {ce:Nat} {sv:Value} {ws:List Int} {bs:List Bool}
theorem scase (now:Int) {m g:Nat} {xs cs fs:List Value} (hat:SAtX w S ob F be s ce sv (m + 1) (.func (.func g) xs.toArray cs.toArray :: fs)) (hm:MemAt w mb rb ws) (hb:Bel.SetAt w bb br bs) (hS:¬ S mb ∧ ¬ S rb ∧ ¬ S bb ∧ ¬ S br)
    (eg:∀ args w,(callFunc g args).run Tryz.prog w = .ok (.enter g args) w) (s':QS) (ws':List Int) (bs':List Bool) (D:Array Value) (full:Bool)
    (hC:∀ W v',OBlk W ob (s.own) F.d F.n F.src F.dst ce be (v') → Only (fun k => k = ob) w W → MemAt W mb rb ws → Bel.SetAt W bb br bs → Calls Tryz.prog g (xs ++ (.pointer (some ⟨mb,0,none⟩)) :: (.pointer (some ⟨bb,0,none⟩)) :: cs).toArray W fun e w' => e = .returned (.agg D) ∧ StepQ (fun k => k = ob ∨ k = rb ∨ k = br) W mb rb ob ws' s'.own F.d F.n F.src F.dst ce be (if full then (.slice none 0 0) else v') w' ∧ Bel.SetAt w' bb br bs')
    (hD:D.size = 9 ∧ D.all (·.oneCell') = true) (hd:s'.data = s.data) (hno:0 ≤ s.no) (hn:(s'.no < 0 ∧ (full = true ∨ m = 0)) ∨ (full = false ∧ s'.no = s.no + 1 ∧ s'.no ≤ 3 + (s.data.length:Int))) (hce:0 ≤ s'.no → s'.no ≤ 2 + (s.data.length:Int) → s'.own = s.own) :
    Calls Tryz.prog 25 #[.pointer (some ⟨ob,0,none⟩),.pointer (some ⟨mb,0,none⟩),.pointer (some ⟨bb,0,none⟩),.int .i64 now] w (GivesS w mb rb bb br ob F S be s' ws' bs' D):=by
  have hol:=hat.blk.lt
  have hml:=hm.lt
  have hbl:=hb.lt
  have hob:mb ≠ ob ∧ rb ≠ ob ∧ bb ≠ ob ∧ br ≠ ob:=⟨fun e => hS.1 (e ▸ hat.sb),fun e => hS.2.1 (e ▸ hat.sb),fun e => hS.2.2.1 (e ▸ hat.sb),fun e => hS.2.2.2 (e ▸ hat.sb)⟩
  refine (qstep_b mb bb ob g xs cs now s.own F.d F.n F.src F.dst ce be sv m fs w hat.blk hat.row (fun D' w1 => D' = D ∧ ∃ W v',OBlk W ob (s.own) F.d F.n F.src F.dst ce be (v') ∧ Only (fun k => k = ob) w W ∧ OwnsOff W 0 107 1 v' m fs ∧ v'.ownBlock = sv.ownBlock ∧ StepQ (fun k => k = ob ∨ k = rb ∨ k = br) W mb rb ob ws' s'.own F.d F.n F.src F.dst ce be (if full then (.slice none 0 0) else v') w1 ∧ Bel.SetAt w1 bb br bs' ∧ W.heap[w.heap.size]? = some (.cells #[.bool false,.int .i64 0,.slice none 0 0,.bool false,.int .i64 0,.bool false,.bool false,.bool false,.int .i64 0] 56 (0,0))) eg ?_ ?_).mono ?_
  · intro W v' h1 h2 h3 h4 h5
    exact (hC W v' h1 h2 (hm.only h2 hob.1 hob.2.1) (hb.kept h2 hob.2.2.1 hob.2.2.2)).mono fun e w1 ⟨e1,e2,e3⟩ => ⟨D,e1,rfl,W,v',h1,h2,h3,h4,e2,e3,h5⟩
  · rintro D' w1 ⟨rfl,W,v',h1,h2,h3,h4,h5,h6,h7⟩
    refine ⟨hD.1,hD.2,h5.only.at_ h7 (fun h => ?_)⟩
    rcases h with h | h | h <;> omega
  rintro e w' ⟨D',w1,rfl,⟨rfl,W,v',h1,h2,h3,h4,h5,h6,h7⟩,hT⟩
  have hs2:=h2.size
  have hs5:=h5.only.size
  have hne:∀ k t cs',S k → w.heap[k]? = some (.cells cs' t (0,0)) → t ≠ 107 → t ≠ 111 → ¬ (k = ob ∨ k = rb ∨ k = br ∨ k = w.heap.size):=fun k t cs' hk hc _ ht h => by
    rcases h with rfl | rfl | rfl | rfl
    · have:=hc.symm.trans hat.blk
      simp at this;exact ht this.2
    · exact hS.2.1 hk
    · exact hS.2.2.2 hk
    · have:=hat.low _ hk;omega
  have ho4:Only (fun k => k = ob ∨ k = rb ∨ k = br ∨ k = w.heap.size) w w':=((h2.mono fun _ _ h => .inl h).trans (h5.only.mono fun _ _ h => h.elim .inl (fun h => h.elim (fun h => .inr (.inl h)) (fun h => .inr (.inr (.inl h)))))).trans (hT.mono fun _ _ h => .inr (.inr (.inr h)))
  have ho1:Only (fun k => S k ∨ k = rb ∨ k = br) w w':=(ho4.mono (T:=New w.heap.size fun k => S k ∨ k = rb ∨ k = br) fun k _ h => by
    rcases h with h | h | h | h
    · exact .inr (.inl (h ▸ hat.sb))
    · exact .inr (.inr (.inl h))
    · exact .inr (.inr (.inr h))
    · exact .inl (by omega)).old
  have hmem:MemAt w' mb rb ws':=h5.mem.only hT (by omega) (by omega)
  have hbel:Bel.SetAt w' bb br bs':=h6.kept hT (by omega) (by omega)
  refine ⟨rfl,?_,hmem,hbel,ho1⟩
  have hlow:∀ k,S k → k < w'.heap.size:=fun k hk => Nat.lt_of_lt_of_le (hat.low k hk) ho1.size
  have hlen:1 ≤ s'.data.length ∧ s'.data.length ≤ F.n:=by rw [hd];exact hat.len
  have hcell:0 ≤ s'.no → s'.no ≤ 2 + (s'.data.length:Int) → ce = cellQ F s'.own:=fun a b => by
    rw [hd] at b
    have hno2:s'.no = s.no + 1:=by
      rcases hn with h | h
      · omega
      · exact h.2.1
    rw [hce a b]
    exact hat.cell hno (by omega)
  cases full with
  | true =>
    have hz:s'.no < 0:=by
      rcases hn with h | h
      · exact h.1
      · cases h.1
    exact ⟨ce,_,0,[],⟨h5.blk.only hT (by omega),OwnsOff.nil ..,(fun g hg => by cases hg),hat.sb,hlow,(fun j v h => by cases h),.inl ⟨hz,rfl⟩,hcell,hlen⟩⟩
  | false =>
    have hvS:∀ g,v'.ownBlock = some g → S g:=fun g hg => hat.rowS g (h4 ▸ hg)
    have hrow:OwnsOff w' 0 107 1 v' m fs:=(h3.kept h5.only (fun k hk e => by
      have hSk:=hvS k hk
      rcases e with rfl | rfl | rfl
      · obtain ⟨cs',hc⟩:=h3.typed k hk
        have:=hc.symm.trans h1
        simp at this
      · exact hS.2.1 hSk
      · exact hS.2.2.2 hSk)).kept hT (fun k hk e => by have:=hat.low k (hvS k hk);omega)
    refine ⟨ce,_,m,fs,⟨h5.blk.only hT (by omega),hrow,hvS,hat.sb,hlow,fun j v hv => ?_,?_,hcell,hlen⟩⟩
    · have q:=(hat.fn (j + 1) v (by simpa using hv)).onlyN ho4 hne (fun _ h => h)
      rw [hd]
      have hml0:m ≠ 0:=fun e => by
        have:=hrow.1
        rw [e] at this
        have hfl:fs.length = 0:=by simpa using this
        rw [List.getElem?_eq_none (by omega)] at hv
        cases hv
      rcases hn with ⟨_,h | h⟩ | ⟨_,h,_⟩
      · cases h
      · exact absurd h hml0
      · rw [show s'.no.toNat + j = s.no.toNat + (j + 1) by omega];exact q
    · have hmn:=hat.num
      rw [hd]
      rcases hn with ⟨h,h2 | h2⟩ | ⟨_,h,h3⟩
      · cases h2
      · exact .inl ⟨h,h2⟩
      · refine .inr ⟨by omega,h3,?_⟩
        rcases hmn with h0 | h0
        · omega
        · have:=h0.2.2;omega
end
end Go.Proofs.YtmhpcgcloojfbaaGreat
end
section
namespace Go.Proofs.YtmhpcgcloojfbaaGreat
open Go.RowKit Go.Sort
set_option linter.unusedVariables false
set_option linter.unusedSimpArgs false
set_option linter.unusedVariables false
set_option linter.unusedSimpArgs false
open Go.Proofs.YtmhpcgcloojfbaaGreat.Simp
set_option maxRecDepth 100000
set_option maxHeartbeats 3200000
theorem toQ {W w1:World} {mb rb bb br ob:Nat} {ws' ws:List Int} {own:Int} {d n tl hd ce be:Nat} {sv:Value} {bs:List Bool} (h:StepQ (fun k => k = ob ∨ k = rb) W mb rb ob ws' own d n tl hd ce be sv w1) (hb:Bel.SetAt W bb br bs) (hm:MemAt W mb rb ws) (n1:bb ≠ ob) (n2:br ≠ ob) :
    StepQ (fun k => k = ob ∨ k = rb ∨ k = br) W mb rb ob ws' own d n tl hd ce be sv w1 ∧ Bel.SetAt w1 bb br bs:=by
  have n3:bb ≠ rb:=by rintro rfl;have:=hb.head.symm.trans hm.row;simp at this
  have n4:br ≠ rb:=by rintro rfl;have:=hb.row.symm.trans hm.row;simp at this
  exact ⟨⟨h.blk,h.mem,h.only.mono fun _ _ h => h.elim .inl (fun h => .inr (.inl h))⟩,hb.kept h.only (fun h => h.elim n1 n3) (fun h => h.elim n2 n4)⟩
theorem qs_over {F:Qr} {s:QS} {m:List Int} (h:s.no < 0):qsend F s m = (s,m,qd0):=by unfold qsend;rw [if_pos h]
def ringB12:Bool → Nat → List Bool → List Bool
  | true,be,bs => bs.set be true
  | false,_,bs => bs
theorem qsendStep_b {w:World} {mb rb bb br ob:Nat} {F:Qr} {S:Nat → Prop} {be:Nat} {s:QS} {ws:List Int} {bs:List Bool} (now:Int) (hat:SAt w S ob F be s) (hm:MemAt w mb rb ws) (hb:Bel.SetAt w bb br bs) (hS:¬ S mb ∧ ¬ S rb ∧ ¬ S bb ∧ ¬ S br) (hF:QIn F ws.length) (hbe:be < bs.length) :
    Calls Tryz.prog 25 #[.pointer (some ⟨ob,0,none⟩),.pointer (some ⟨mb,0,none⟩),.pointer (some ⟨bb,0,none⟩),.int .i64 now] w (GivesS w mb rb bb br ob F S be (qsend F s ws).1 (qsend F s ws).2.1 (ringB12 (qsend F s ws).2.2.ring be bs) (qdOf (qsend F s ws).2.2 (.slice none 0 0))):=by
  obtain ⟨ce,sv,m,fs,hat⟩:=hat
  have hl:=hF.max
  have hin:=hF.inn
  have hlo:=hF.low
  have hln:=hat.len
  have hob:mb ≠ ob ∧ rb ≠ ob ∧ bb ≠ ob ∧ br ≠ ob:=⟨fun e => hS.1 (e ▸ hat.sb),fun e => hS.2.1 (e ▸ hat.sb),fun e => hS.2.2.1 (e ▸ hat.sb),fun e => hS.2.2.2 (e ▸ hat.sb)⟩
  have hfl:fs.length = m:=by have:=hat.row.1;simpa using this
  by_cases z:s.no < 0
  · rw [qs_over z]
    have hm0:m = 0:=by rcases hat.num with h | h <;> omega
    subst hm0
    have hfs:fs = []:=List.eq_nil_of_length_eq_zero hfl
    subst hfs
    refine (qstep_nil mb bb ob now s.own F.d F.n F.src F.dst ce be sv w hat.blk hat.row).mono ?_
    rintro e w' ⟨rfl,ho⟩
    exact ⟨rfl,SAt.only ⟨ce,sv,0,[],hat⟩ ho (fun _ _ h => h),hm.only ho (fun h => h) (fun h => h),hb.kept ho (fun h => h) (fun h => h),ho.mono fun _ _ h => h.elim⟩
  have hnum:=hat.num.resolve_left (fun h => z h.1)
  obtain ⟨M,rfl⟩:∃ M,m = M + 1:=⟨m - 1,by
    have:=hnum.2
    omega⟩
  obtain ⟨f,fs',rfl⟩:∃ f fs',fs = f :: fs':=by
    cases fs with
    | nil => simp at hfl
    | cons f fs' => exact ⟨f,fs',rfl⟩
  have hcell:=hat.cell (by omega)
  have hcin:=hF.cell s.own
  have hf:=hat.fn 0 f rfl
  obtain ⟨k,hk⟩:∃ k,s.no.toNat + 0 = k:=⟨_,rfl⟩
  rw [hk] at hf
  have hsk:s.no = (k:Int):=by omega
  have o0:∀ (b:Nat) (v:Value) (t:TypeId),w.heap[b]? = some (.cells #[v] t (0,0)) → b ≠ ob:=fun b v t h e => by
    subst e
    have:=h.symm.trans hat.blk
    simp at this
  cases hf with
  | head =>
    by_cases hfu:(F.d:Int) ≤ (s.own - rd ws F.dst) % 4294967296
    · have hsk:s.no = 0:=hsk
      rw [qs0f hsk hfu]
      refine scase (g:=44) (xs:=[.pointer (some ⟨ob,0,none⟩)]) (cs:=[]) now hat hm hb hS (enters_of Tryz.func44 (by kernel_rfl) rfl) _ _ _ _ true (fun W v' hB hO hM hB2 => ?_) ⟨rfl,by simp [Value.oneCell']⟩ rfl (by omega) (.inl ⟨by show (-1:Int) < 0;omega,.inl rfl⟩) (fun a => by exact absurd (show (0:Int) ≤ -1 from a) (by omega))
      refine (q_full_b mb rb ob _ ws s.own F.d F.n F.src F.dst ce be v' W hB hM hl hin.2 hfu).mono ?_
      rintro e w1 ⟨rfl,hst⟩
      have q:=toQ hst hB2 hM hob.2.2.1 hob.2.2.2
      exact ⟨rfl,q.1,q.2⟩
    · have hsk:s.no = 0:=hsk
      rw [qs0 hsk hfu]
      refine scase (g:=44) (xs:=[.pointer (some ⟨ob,0,none⟩)]) (cs:=[]) now hat hm hb hS (enters_of Tryz.func44 (by kernel_rfl) rfl) _ _ _ _ false (fun W v' hB hO hM hB2 => ?_) ⟨rfl,by simp [Value.oneCell']⟩ rfl (by omega) (.inr ⟨rfl,by show (1:Int) = s.no + 1;omega,by show (1:Int) ≤ 3 + (s.data.length:Int);omega⟩) (fun _ _ => rfl)
      refine (q_head_b mb rb ob _ ws s.own F.d F.n F.src F.dst ce be v' W hB hM hl hin.2 hfu).mono ?_
      rintro e w1 ⟨rfl,hst⟩
      have q:=toQ hst hB2 hM hob.2.2.1 hob.2.2.2
      exact ⟨rfl,q.1,q.2⟩
  | len b1 b2 s1 s2 h1 h2 =>
    have hsk:s.no = 1:=hsk
    obtain rfl:=hcell (by omega)
    rw [qs1 hsk]
    refine scase (g:=75) (xs:=[]) (cs:=[.pointer (some ⟨b1,0,none⟩),.pointer (some ⟨b2,0,none⟩)]) now hat hm hb hS (enters_of Tryz.func75 (by kernel_rfl) rfl) _ _ _ _ false (fun W v' hB hO hM hB2 => ?_) ⟨rfl,by simp [Value.oneCell']⟩ rfl (by omega) (.inr ⟨rfl,by show (2:Int) = s.no + 1;omega,by show (2:Int) ≤ 3 + (s.data.length:Int);omega⟩) (fun _ _ => rfl)
    refine (q_len_b mb rb ob _ ws s.own F.d F.n F.src F.dst _ be v' W b1 b2 s.data.length hB hM hl (hO.at_ h1 (o0 _ _ _ h1)) (hO.at_ h2 (o0 _ _ _ h2)) (by omega) (by omega)).mono ?_
    rintro e w1 ⟨rfl,hst⟩
    have q:=toQ hst hB2 hM hob.2.2.1 hob.2.2.2
    exact ⟨rfl,q.1,q.2⟩
  | word i b1 b2 b3 hi s1 s2 s3 h1 h2 h3 =>
    have hsk:s.no = 2 + (i:Int):=by rw [hsk];push_cast;rfl
    obtain rfl:=hcell (by omega)
    rw [qs2 hsk hi]
    refine scase (g:=78) (xs:=[]) (cs:=[.pointer (some ⟨b1,0,none⟩),.pointer (some ⟨b2,0,none⟩),.pointer (some ⟨b3,0,none⟩)]) now hat hm hb hS (enters_of Tryz.func78 (by kernel_rfl) rfl) _ _ _ _ false (fun W v' hB hO hM hB2 => ?_) ⟨rfl,by simp [Value.oneCell']⟩ rfl (by omega) (.inr ⟨rfl,by show 3 + (i:Int) = s.no + 1;omega,by show 3 + (i:Int) ≤ 3 + (s.data.length:Int);omega⟩) (fun _ _ => rfl)
    refine (q_word_b mb rb ob _ ws s.own F.d F.n F.src F.dst _ be v' W b1 b2 b3 i (s.data.getD i 0) hB hM hl (hO.at_ h1 (o0 _ _ _ h1)) (hO.at_ h2 (o0 _ _ _ h2)) (hO.at_ h3 (o0 _ _ _ h3)) (fun e => hS.2.1 (e ▸ s3)) (by omega)).mono ?_
    rintro e w1 ⟨rfl,hst⟩
    have q:=toQ hst hB2 hM hob.2.2.1 hob.2.2.2
    exact ⟨rfl,q.1,q.2⟩
  | tail =>
    have hsk:s.no = 2 + (s.data.length:Int):=by rw [hsk];push_cast;rfl
    rw [qs3 hsk]
    refine scase (g:=49) (xs:=[.pointer (some ⟨ob,0,none⟩)]) (cs:=[]) now hat hm hb hS (enters_of Tryz.func49 (by kernel_rfl) rfl) _ _ _ _ false (fun W v' hB hO hM hB2 => ?_) ⟨rfl,by simp [Value.oneCell']⟩ rfl (by omega) (.inr ⟨rfl,by show 3 + (s.data.length:Int) = s.no + 1;omega,by show 3 + (s.data.length:Int) ≤ 3 + (s.data.length:Int);omega⟩) (fun _ a => by exact absurd (show 3 + (s.data.length:Int) ≤ 2 + (s.data.length:Int) from a) (by omega))
    refine (q_mark_b mb rb ob _ ws s.own F.d F.n F.src F.dst ce be v' W hB hM hl (by omega)).mono ?_
    rintro e w1 ⟨rfl,hst⟩
    have q:=toQ hst hB2 hM hob.2.2.1 hob.2.2.2
    exact ⟨rfl,q.1,q.2⟩
  | ring =>
    have hsk:s.no = 3 + (s.data.length:Int):=by rw [hsk];push_cast;rfl
    have hM0:M = 0:=by have:=hnum.2.2;omega
    rw [qs4 hsk]
    refine scase (g:=50) (xs:=[.pointer (some ⟨ob,0,none⟩)]) (cs:=[]) now hat hm hb hS (enters_of Tryz.func50 (by kernel_rfl) rfl) _ _ _ _ false (fun W v' hB hO hM hB2 => ?_) ⟨rfl,by simp [Value.oneCell']⟩ rfl (by omega) (.inl ⟨by show (-1:Int) < 0;omega,.inr hM0⟩) (fun a => by exact absurd (show (0:Int) ≤ -1 from a) (by omega))
    refine (q_ring_b br bb bs mb rb ob ws s.own F.d F.n F.src F.dst ce be v' W hB hM hl hB2 hbe).mono ?_
    rintro e w1 ⟨rfl,hst,hb3⟩
    exact ⟨rfl,⟨hst.blk,hst.mem,hst.only.mono fun _ _ h => .inr (.inr h)⟩,hb3⟩
end Go.Proofs.YtmhpcgcloojfbaaGreat
end
