/- Texts of the ring, joined, what is used of them. No condition but those in the statements. -/
import Derived.BigQuiet
import Derived.BigRegion
import Derived.Deep.MidRow
import Derived.Deep.RegionHeld3
import Derived.Deep.Upon
import Derived.IntWalk
import Derived.Shelf.Abstract
import Derived.Test.YtmhpcgcloojfbaaGreatQRCt
import Derived.Test.YtmhpcgcloojfbaaGreatQREa
import Derived.Test.YtmhpcgcloojfbaaGreatQREb
import Derived.Test.YtmhpcgcloojfbaaGreatQgG
import Derived.Test.YtmhpcgcloojfbaaGreatQgN
section
namespace Go.Proofs.YtmhpcgcloojfbaaGreat
open Go.RowKit Go.Sort
set_option linter.unusedVariables false
set_option linter.unusedSimpArgs false
set_option linter.unusedVariables false
set_option linter.unusedSimpArgs false
open Go.Proofs.YtmhpcgcloojfbaaGreat.Simp
set_option maxRecDepth 100000
set_option maxHeartbeats 12800000
/-- The program's four operations;ED: blocks that are none of theirs. -/
structure P4 (W w:World) (ED:Nat → Prop) (mb rb bb br:Nat) (F:Qr) (be:Nat) (own:Int) (sq rq c1 c2:Nat) (ws:List Int) (bs:List Bool) (s g:QS) (n3 n4:Int):Prop where
  ex:∃ S3 S4:Nat → Prop,Quo W w W.heap.size (fun k => ED k ∨ S3 k ∨ S4 k) mb rb bb br F be ws bs (some (sq,s)) (some (rq,g)) ∧ CAt w S3 c1 F be own true n3 ∧ CAt w S4 c2 F be own false n4 ∧ (∀ k,S3 k → ¬ ED k ∧ ¬ S4 k ∧ W.heap.size ≤ k) ∧ (∀ k,S4 k → ¬ ED k ∧ W.heap.size ≤ k)
section
variable {W w w':World} {ED:Nat → Prop} {mb rb bb br be sq rq c1 c2:Nat} {F:Qr} {own:Int} {ws:List Int} {bs:List Bool} {s g:QS} {n3 n4:Int}
/-- What is none of theirs turns,or new blocks come. -/
theorem P4.only (h:P4 W w ED mb rb bb br F be own sq rq c1 c2 (ws) (bs) (s) (g) (n3) (n4)) {T:Nat → Prop} (ho:Only T w w') (hT:∀ k,k < w.heap.size → T k → ED k ∧ W.heap.size ≤ k) {ED':Nat → Prop} (hE:∀ k,ED' k → ED k ∨ (w.heap.size ≤ k ∧ k < w'.heap.size)):P4 W w' ED' mb rb bb br F be own sq rq c1 c2 (ws) (bs) (s) (g) (n3) (n4):=by
  obtain ⟨S3,S4,hq,h3,h4,d3,d4⟩:=h
  have hl3:∀ k,S3 k → k < w.heap.size:=by obtain ⟨_,_,_,_,_,_,_,_,h5,_⟩:=h3;exact h5
  have hl4:∀ k,S4 k → k < w.heap.size:=by obtain ⟨_,_,_,_,_,_,_,_,h5,_⟩:=h4;exact h5
  refine ⟨S3,S4,hq.only ho (fun k a b => ⟨.inl (hT k a b).1,(hT k a b).2⟩) (fun k a => a.elim (fun a => (hE k a).imp .inl id) (fun a => .inl (.inr a))),h3.only ho (fun k a b => (d3 k a).1 (hT k (hl3 k a) b).1),h4.only ho (fun k a b => (d4 k a).1 (hT k (hl4 k a) b).1),fun k a => ⟨fun b => (hE k b).elim (d3 k a).1 (fun b => by have:=hl3 k a;omega),(d3 k a).2⟩,fun k a => ⟨fun b => (hE k b).elim (d4 k a).1 (fun b => by have:=hl4 k a;omega),(d4 k a).2⟩⟩
theorem P4.send (now:Int) (h:P4 W w ED mb rb bb br F be own sq rq c1 c2 (ws) (bs) (s) (g) (n3) (n4)):Calls Tryz.prog 25 #[.pointer (some ⟨sq,0,none⟩),.pointer (some ⟨mb,0,none⟩),.pointer (some ⟨bb,0,none⟩),.int .i64 now] w fun e w' => e = .returned (.agg (qdOf (qsend F s ws).2.2 (.slice none 0 0))) ∧ P4 W w' ED mb rb bb br F be own sq rq c1 c2 ((qsend F s ws).2.1) (ringB12 (qsend F s ws).2.2.ring be bs) ((qsend F s ws).1) (g) (n3) (n4) ∧ Only (fun k => ¬ ED k ∧ W.heap.size ≤ k) w w':=by
  obtain ⟨S3,S4,hq,h3,h4,d3,d4⟩:=h
  refine (hq.stepS now).mono ?_
  rintro e w' ⟨rfl,hq',hw,ho⟩
  exact ⟨rfl,⟨S3,S4,hq',h3.only ho (fun k a b => b.1 (.inr (.inl a))),h4.only ho (fun k a b => b.1 (.inr (.inr a))),d3,d4⟩,ho.mono fun k _ a => ⟨fun b => a.1 (.inl b),a.2⟩⟩
theorem P4.recv (now:Int) (h:P4 W w ED mb rb bb br F be own sq rq c1 c2 (ws) (bs) (s) (g) (n3) (n4)):Calls Tryz.prog 25 #[.pointer (some ⟨rq,0,none⟩),.pointer (some ⟨mb,0,none⟩),.pointer (some ⟨bb,0,none⟩),.int .i64 now] w fun e w' => ∃ v,e = .returned (.agg (qdOf (qrecv F g ws).2.2 v)) ∧ OwnsOff w' 0 34 1 v (qrecv F g ws).2.2.data.length (wcells (qrecv F g ws).2.2.data) ∧ P4 W w' ED mb rb bb br F be own sq rq c1 c2 ((qrecv F g ws).2.1) (bs) (s) ((qrecv F g ws).1) (n3) (n4) ∧ (∀ b,v.ownBlock = some b → ¬ ED b ∧ W.heap.size ≤ b) ∧ W32 (qrecv F g ws).2.2.data ∧ Only (fun k => ¬ ED k ∧ W.heap.size ≤ k) w w':=by
  obtain ⟨S3,S4,hq,h3,h4,d3,d4⟩:=h
  refine (hq.stepG now).mono ?_
  rintro e w' ⟨v,rfl,hv,hq',-,hg,hw,h32,ho⟩
  exact ⟨v,rfl,hv,⟨S3,S4,hq',h3.only ho (fun k a b => b.1 (.inr (.inl a))),h4.only ho (fun k a b => b.1 (.inr (.inr a))),d3,d4⟩,fun b hb => ⟨fun a => (hg b hb).1 (.inl a),(hg b hb).2⟩,h32,ho.mono fun k _ a => ⟨fun b => a.1 (.inl b),a.2⟩⟩
theorem P4.cs (now:Int) (h:P4 W w ED mb rb bb br F be own sq rq c1 c2 (ws) (bs) (s) (g) (0) (n4)):Calls Tryz.prog 25 #[.pointer (some ⟨c1,0,none⟩),.pointer (some ⟨mb,0,none⟩),.pointer (some ⟨bb,0,none⟩),.int .i64 now] w fun e w' => e = .returned (.agg (qdV true 0 (.slice none 0 0) (cntQ F own true ws) true false)) ∧ P4 W w' ED mb rb bb br F be own sq rq c1 c2 (ws) (bs) (s) (g) (-1) (n4) ∧ Only (fun k => ¬ ED k ∧ W.heap.size ≤ k) w w':=by
  obtain ⟨S3,S4,hq,h3,h4,d3,d4⟩:=h
  have hE:∀ k,HQ mb rb bb br k → ¬ (ED k ∨ S3 k ∨ S4 k):=fun k a b => by obtain ⟨_,_,_,_,h3,_⟩:=hq.two;exact (h3 k b).2.2.1 a
  have hlo:=hq.low
  refine (cstep_b now h3 hq.mem hq.bel ⟨fun a => hE mb (.inl rfl) (.inr (.inl a)),fun a => hE rb (.inr (.inl rfl)) (.inr (.inl a)),fun a => hE bb (.inr (.inr (.inl rfl))) (.inr (.inl a)),fun a => hE br (.inr (.inr (.inr rfl))) (.inr (.inl a))⟩ hq.fin).mono ?_
  rintro e w' ⟨rfl,hc',hm',hb',ho⟩
  have hq':=hq.turn (E':=fun k => ED k ∨ S3 k ∨ S4 k) ho (fun k _ a => a.elim (fun a => .inl ⟨.inr (.inl a),((d3 k a).2.2)⟩) (fun e => .inr (.inr (.inl e)))) hm' hb' rfl rfl hq.w32 (fun k h => .inl h)
  refine ⟨rfl,⟨S3,S4,hq',hc',h4.only ho (fun k a b => b.elim (fun b => (d3 k b).2.1 a) (fun e => hE rb (.inr (.inl rfl)) (.inr (.inr (e ▸ a))))),d3,d4⟩,ho.mono fun k _ a => a.elim (fun a => ⟨(d3 k a).1,(d3 k a).2.2⟩) (fun e => ⟨fun b => hE rb (.inr (.inl rfl)) (.inl (e ▸ b)),by rw [e];exact hlo.2.1⟩)⟩
theorem P4.csn (now:Int) (h:P4 W w ED mb rb bb br F be own sq rq c1 c2 (ws) (bs) (s) (g) (-1) (n4)):Calls Tryz.prog 25 #[.pointer (some ⟨c1,0,none⟩),.pointer (some ⟨mb,0,none⟩),.pointer (some ⟨bb,0,none⟩),.int .i64 now] w fun e w' => e = .returned (.agg (qdV false 0 (.slice none 0 0) 0 false false)) ∧ P4 W w' ED mb rb bb br F be own sq rq c1 c2 (ws) (bs) (s) (g) (-1) (n4) ∧ Only (fun k => ¬ ED k ∧ W.heap.size ≤ k) w w':=by
  obtain ⟨S3,S4,hq,h3,h4,d3,d4⟩:=h
  refine (cstep_nil (mb:=mb) now h3 bb).mono ?_
  rintro e w' ⟨rfl,hc',ho⟩
  have hq':=hq.only (T:=fun _ => False) (E':=fun k => ED k ∨ S3 k ∨ S4 k) ho (fun _ _ h => h.elim) (fun k h => .inl h)
  exact ⟨rfl,⟨S3,S4,hq',hc',h4.only ho (fun _ _ h => h),d3,d4⟩,ho.mono fun _ _ h => h.elim⟩
theorem P4.cr (now:Int) (h:P4 W w ED mb rb bb br F be own sq rq c1 c2 (ws) (bs) (s) (g) (n3) (0)):Calls Tryz.prog 25 #[.pointer (some ⟨c2,0,none⟩),.pointer (some ⟨mb,0,none⟩),.pointer (some ⟨bb,0,none⟩),.int .i64 now] w fun e w' => e = .returned (.agg (qdV true 0 (.slice none 0 0) (cntQ F own false ws) true false)) ∧ P4 W w' ED mb rb bb br F be own sq rq c1 c2 (ws) (bs) (s) (g) (n3) (-1) ∧ Only (fun k => ¬ ED k ∧ W.heap.size ≤ k) w w':=by
  obtain ⟨S3,S4,hq,h3,h4,d3,d4⟩:=h
  have hE:∀ k,HQ mb rb bb br k → ¬ (ED k ∨ S3 k ∨ S4 k):=fun k a b => by obtain ⟨_,_,_,_,h3,_⟩:=hq.two;exact (h3 k b).2.2.1 a
  have hlo:=hq.low
  refine (cstep_b now h4 hq.mem hq.bel ⟨fun a => hE mb (.inl rfl) (.inr (.inr a)),fun a => hE rb (.inr (.inl rfl)) (.inr (.inr a)),fun a => hE bb (.inr (.inr (.inl rfl))) (.inr (.inr a)),fun a => hE br (.inr (.inr (.inr rfl))) (.inr (.inr a))⟩ hq.fin).mono ?_
  rintro e w' ⟨rfl,hc',hm',hb',ho⟩
  have hq':=hq.turn (E':=fun k => ED k ∨ S3 k ∨ S4 k) ho (fun k _ a => a.elim (fun a => .inl ⟨.inr (.inr a),((d4 k a).2)⟩) (fun e => .inr (.inr (.inl e)))) hm' hb' rfl rfl hq.w32 (fun k h => .inl h)
  refine ⟨rfl,⟨S3,S4,hq',h3.only ho (fun k a b => b.elim (fun b => (d3 k a).2.1 b) (fun e => hE rb (.inr (.inl rfl)) (.inr (.inl (e ▸ a))))),hc',d3,d4⟩,ho.mono fun k _ a => a.elim (fun a => ⟨(d4 k a).1,(d4 k a).2⟩) (fun e => ⟨fun b => hE rb (.inr (.inl rfl)) (.inl (e ▸ b)),by rw [e];exact hlo.2.1⟩)⟩
theorem P4.crn (now:Int) (h:P4 W w ED mb rb bb br F be own sq rq c1 c2 (ws) (bs) (s) (g) (n3) (-1)):Calls Tryz.prog 25 #[.pointer (some ⟨c2,0,none⟩),.pointer (some ⟨mb,0,none⟩),.pointer (some ⟨bb,0,none⟩),.int .i64 now] w fun e w' => e = .returned (.agg (qdV false 0 (.slice none 0 0) 0 false false)) ∧ P4 W w' ED mb rb bb br F be own sq rq c1 c2 (ws) (bs) (s) (g) (n3) (-1) ∧ Only (fun k => ¬ ED k ∧ W.heap.size ≤ k) w w':=by
  obtain ⟨S3,S4,hq,h3,h4,d3,d4⟩:=h
  refine (cstep_nil (mb:=mb) now h4 bb).mono ?_
  rintro e w' ⟨rfl,hc',ho⟩
  have hq':=hq.only (T:=fun _ => False) (E':=fun k => ED k ∨ S3 k ∨ S4 k) ho (fun _ _ h => h.elim) (fun k h => .inl h)
  exact ⟨rfl,⟨S3,S4,hq',h3.only ho (fun _ _ h => h),hc',d3,d4⟩,ho.mono fun _ _ h => h.elim⟩
end
end Go.Proofs.YtmhpcgcloojfbaaGreat
end
section
namespace Go.Proofs.YtmhpcgcloojfbaaGreat
open Go.RowKit Go.Sort
set_option linter.unusedVariables false
set_option linter.unusedSimpArgs false
set_option linter.unusedVariables false
set_option linter.unusedSimpArgs false
open Go.Proofs.YtmhpcgcloojfbaaGreat.Simp
set_option maxRecDepth 100000
set_option maxHeartbeats 12800000
/-- How far a send,a receive may have come. -/
def SB (F:Qr) (s:QS):Prop:=s.no ≤ 3 + (s.data.length:Int) ∧ s.data.length ≤ F.n
def GB (F:Qr) (g:QS):Prop:=g.data.length ≤ F.n ∧ g.len ≤ F.n ∧ (0 ≤ g.no → g.no ≤ 1 → g.data = []) ∧ (2 ≤ g.no → g.no = 2 + (g.data.length:Int) ∧ (g.data.length:Int) ≤ g.len)
theorem SB.step {F:Qr} {s:QS} {ws:List Int} (h:SB F s):SB F (qsend F s ws).1 ∧ (qsend F s ws).1.data = s.data:=by
  obtain ⟨h1,h2⟩:=h
  unfold qsend
  split;exact ⟨⟨h1,h2⟩,rfl⟩
  split
  · split
    · exact ⟨⟨by show (-1:Int) ≤ 3 + (s.data.length:Int);omega,h2⟩,rfl⟩
    · exact ⟨⟨by show (1:Int) ≤ 3 + (s.data.length:Int);omega,h2⟩,rfl⟩
  split;exact ⟨⟨by show (2:Int) ≤ 3 + (s.data.length:Int);omega,h2⟩,rfl⟩
  split;exact ⟨⟨by show s.no + 1 ≤ 3 + (s.data.length:Int);omega,h2⟩,rfl⟩
  split;exact ⟨⟨by show s.no + 1 ≤ 3 + (s.data.length:Int);omega,h2⟩,rfl⟩
  exact ⟨⟨by show (-1:Int) ≤ 3 + (s.data.length:Int);omega,h2⟩,rfl⟩
theorem GB.step {F:Qr} {g:QS} {ws:List Int} (h:GB F g) (h32:W32 ws):GB F (qrecv F g ws).1:=by
  obtain ⟨h1,h2,h3,h4⟩:=h
  have hl:=h32 (cellQ F g.own)
  unfold qrecv
  split;exact ⟨h1,h2,h3,h4⟩
  split
  · split
    · exact ⟨h1,h2,fun a _ => absurd (show (0:Int) ≤ -1 from a) (by omega),fun a => absurd (show (2:Int) ≤ -1 from a) (by omega)⟩
    · exact ⟨h1,h2,fun _ _ => h3 (by omega) (by omega),fun a => absurd (show (2:Int) ≤ 1 from a) (by omega)⟩
  split
  · have hd:=h3 (by omega) (by omega)
    refine ⟨h1,?_,fun _ a => absurd (show (2:Int) ≤ 1 from a) (by omega),fun _ => ?_⟩
    · show lenQ F (rd ws (cellQ F g.own)) ≤ F.n
      unfold lenQ;split <;> omega
    · show (2:Int) = 2 + (g.data.length:Int) ∧ (g.data.length:Int) ≤ lenQ F (rd ws (cellQ F g.own))
      rw [hd]
      refine ⟨rfl,?_⟩
      show ((0:Nat):Int) ≤ lenQ F (rd ws (cellQ F g.own))
      unfold lenQ;split <;> omega
  split
  · rename_i z0 z1 z2 z3
    obtain ⟨p1,p2⟩:=h4 (by omega)
    have hlen:(g.data ++ [rd ws (cellQ F g.own + 1 + g.data.length)]).length = g.data.length + 1:=by simp
    refine ⟨?_,h2,fun _ a => absurd (show g.no + 1 ≤ 1 from a) (by omega),fun _ => ?_⟩
    · show (g.data ++ [rd ws (cellQ F g.own + 1 + g.data.length)]).length ≤ F.n
      rw [hlen];omega
    · show g.no + 1 = 2 + ((g.data ++ [rd ws (cellQ F g.own + 1 + g.data.length)]).length:Int) ∧ ((g.data ++ [rd ws (cellQ F g.own + 1 + g.data.length)]).length:Int) ≤ g.len
      rw [hlen];push_cast;omega
  · exact ⟨h1,h2,fun a _ => absurd (show (0:Int) ≤ -1 from a) (by omega),fun a => absurd (show (2:Int) ≤ -1 from a) (by omega)⟩
/-- The document's four operations on one list of words (block yb) and one of bells (zb). -/
structure D4 (W w:World) (ED:Nat → Prop) (v5 v6 v7 v8 yb zb db dof dc k:Nat) (c:Cfg) (x:CfgAt) (F:Qr) (own:Int) (ws:List Int) (bs:List Bool) (s g:QS) (n3 n4:Int):Prop where
  a5:DAt w v5 yb zb c x k (5) (s.own) (false) ((.slice (some ⟨db,dof,none⟩) s.data.length dc)) (s.no) (0) (ws) (bs)
  a6:∃ A cp,DAt w v6 yb zb c x k (6) (g.own) (false) ((.slice A g.data.length cp)) (g.no) (g.len) (ws) (bs) ∧ OwnsOff w 0 34 1 (.slice A g.data.length cp) g.data.length (wcells g.data) ∧ ∀ b,Value.ownBlock (.slice A g.data.length cp) = some b → ED b ∧ W.heap.size ≤ b ∧ b ≠ yb ∧ b ≠ db
  a7:DAt w v7 yb zb c x k (7) (own) (true) (.slice none 0 0) (n3) (0) (ws) (bs)
  a8:DAt w v8 yb zb c x k (7) (own) (false) (.slice none 0 0) (n4) (0) (ws) (bs)
  dat:∃ cs mm,w.heap[db]? = some (.cells cs 34 mm) ∧ ∀ j,j < s.data.length → cs[dof + j]? = some (.int .u32 (s.data.getD j 0))
  dif:v5 ≠ v6 ∧ v5 ≠ v7 ∧ v5 ≠ v8 ∧ v6 ≠ v7 ∧ v6 ≠ v8 ∧ v7 ≠ v8 ∧ db ≠ yb
  inn:(ED v5 ∧ ED v6 ∧ ED v7 ∧ ED v8 ∧ ED yb ∧ ED zb) ∧ (W.heap.size ≤ v5 ∧ W.heap.size ≤ v6 ∧ W.heap.size ≤ v7 ∧ W.heap.size ≤ v8 ∧ W.heap.size ≤ yb ∧ W.heap.size ≤ zb)
  bel:Below W.heap.size W w
  cfg:CfgIn W W.heap.size c x ∧ CfgWf c ∧ CfgFew c ∧ QrOf c k F ∧ QIn F ws.length ∧ 2 * k + 1 < bs.length
  nums:SB F s ∧ GB F g ∧ WQ s ∧ WQ g ∧ W32 ws ∧ 0 ≤ own ∧ own ≤ 4294967295
section
variable {W w w':World} {ED:Nat → Prop} {v5 v6 v7 v8 yb zb db dof dc k:Nat} {c:Cfg} {x:CfgAt} {F:Qr} {own:Int} {ws:List Int} {bs:List Bool} {s g:QS} {n3 n4:Int}
theorem DAt.with {vb vb':Nat} {op own':Int} {src:Bool} {dv:Value} {a len:Int} {op2 own2:Int} {src2:Bool} {dv2:Value} {a2 len2:Int} {ws2:List Int} {bs2:List Bool} (h:DAt w vb yb zb c x k op own' src dv a len ws bs) (h2:DAt w' vb' yb zb c x k op2 own2 src2 dv2 a2 len2 ws2 bs2) (e:w'.heap[vb]? = w.heap[vb]?):DAt w' vb yb zb c x k op own' src dv a len ws2 bs2:=⟨e.trans h.blk,h2.row,h2.bel⟩
/-- What is none of theirs turns,or new blocks come. -/
theorem D4.only (h:D4 W w ED v5 v6 v7 v8 yb zb db dof dc k c x F own (ws) (bs) (s) (g) (n3) (n4)) {T:Nat → Prop} (ho:Only T w w') (hT:∀ k,T k → ¬ ED k ∧ k ≠ db) (hb:Below W.heap.size W w') {ED':Nat → Prop} (hE:∀ k,ED k → ED' k):D4 W w' ED' v5 v6 v7 v8 yb zb db dof dc k c x F own (ws) (bs) (s) (g) (n3) (n4):=by
  obtain ⟨a5,⟨A,cp,a6,r6,o6⟩,a7,a8,dat,dif,inn,bel,cfg,nums⟩:=h
  have hy:¬ T yb:=fun a => (hT yb a).1 inn.1.2.2.2.2.1
  have hz:¬ T zb:=fun a => (hT zb a).1 inn.1.2.2.2.2.2
  refine ⟨a5.only ho ⟨fun a => (hT _ a).1 inn.1.1,hy,hz⟩,⟨A,cp,a6.only ho ⟨fun a => (hT _ a).1 inn.1.2.1,hy,hz⟩,r6.kept ho (fun b hb a => (hT b a).1 (o6 b hb).1),fun b hb => ⟨hE b (o6 b hb).1,(o6 b hb).2⟩⟩,a7.only ho ⟨fun a => (hT _ a).1 inn.1.2.2.1,hy,hz⟩,a8.only ho ⟨fun a => (hT _ a).1 inn.1.2.2.2.1,hy,hz⟩,?_,dif,⟨⟨hE _ inn.1.1,hE _ inn.1.2.1,hE _ inn.1.2.2.1,hE _ inn.1.2.2.2.1,hE _ inn.1.2.2.2.2.1,hE _ inn.1.2.2.2.2.2⟩,inn.2⟩,hb,cfg,nums⟩
  obtain ⟨cs,mm,h1,h2⟩:=dat
  exact ⟨cs,mm,(ho.block db (Array.getElem?_eq_some_iff.1 h1).1 (fun a => (hT db a).2 rfl)).trans h1,h2⟩
end
end Go.Proofs.YtmhpcgcloojfbaaGreat
end
section
namespace Go.Proofs.YtmhpcgcloojfbaaGreat
open Go.RowKit Go.Sort
set_option linter.unusedVariables false
set_option linter.unusedSimpArgs false
set_option linter.unusedVariables false
set_option linter.unusedSimpArgs false
open Go.Proofs.YtmhpcgcloojfbaaGreat.Simp
set_option maxRecDepth 100000
set_option maxHeartbeats 12800000
section
variable {W w w':World} {ED:Nat → Prop} {v5 v6 v7 v8 yb zb db dof dc k:Nat} {c:Cfg} {x:CfgAt} {F:Qr} {own:Int} {ws:List Int} {bs:List Bool} {s g:QS} {n3 n4:Int} {vb n cp:Nat} {A:Option Addr} {op own':Int} {src:Bool} {dv:Value} {a len:Int} {B:Nat} {xs:List Value}
theorem rowne (h:DAt w vb yb zb c x k op own' src dv a len ws bs) (hr:OwnsOff w 0 34 1 (.slice A n cp) n xs) {P:Nat → Prop} (ho:∀ b,Value.ownBlock (.slice A n cp) = some b → P b ∧ B ≤ b ∧ b ≠ yb ∧ b ≠ db):∀ b,Value.ownBlock (.slice A n cp) = some b → ¬ (b = vb ∨ b = yb ∨ b = zb):=fun b hb e => by
  obtain ⟨cs,hc⟩:=hr.typed b hb
  rcases e with rfl | rfl | rfl
  · have q:=h.blk;rw [hc] at q;injection q with q3;injection q3 with q4 q5;exact absurd q5 (by decide)
  · exact (ho _ hb).2.2.1 rfl
  · have q:w.heap[b]? = some (.cells _ _ _):=h.bel;rw [hc] at q;injection q with q3;injection q3 with q4 q5;exact absurd q5 (by decide)
theorem datne (h:DAt w vb yb zb c x k op own' src dv a len ws bs) {cs:Array Value} {mm:Nat × Nat} (hc:w.heap[db]? = some (.cells cs 34 mm)) (hy:db ≠ yb):¬ (db = vb ∨ db = yb ∨ db = zb):=by
  rintro (e | e | e)
  · rw [e] at hc;have q:=h.blk;rw [hc] at q;injection q with q3;injection q3 with q4 q5;exact absurd q5 (by decide)
  · exact hy e
  · rw [e] at hc;have q:w.heap[zb]? = some (.cells _ _ _):=h.bel;rw [hc] at q;injection q with q3;injection q3 with q4 q5;exact absurd q5 (by decide)
theorem datk (h:DAt w vb yb zb c x k op own' src dv a len ws bs) {ds:List Int} (hd:∃ cs mm,w.heap[db]? = some (.cells cs 34 mm) ∧ ∀ j,j < ds.length → cs[dof + j]? = some (.int .u32 (ds.getD j 0))) (hy:db ≠ yb) (ho:Only (fun j => j = vb ∨ j = yb ∨ j = zb) w w'):∃ cs mm,w'.heap[db]? = some (.cells cs 34 mm) ∧ ∀ j,j < ds.length → cs[dof + j]? = some (.int .u32 (ds.getD j 0)):=by
  obtain ⟨cs,mm,h1,h2⟩:=hd
  exact ⟨cs,mm,(ho.block db (Array.getElem?_eq_some_iff.1 h1).1 (datne h h1 hy)).trans h1,h2⟩
theorem belk {T:Nat → Prop} (hb:Below B W w) (ho:Only T w w') (hT:∀ k,T k → B ≤ k) (hB:B ≤ W.heap.size):Below B W w':=hb.trans ⟨ho.os,ho.tape,ho.output,ho.size,fun j hj => ho.block j (by have:=hb.size;omega) (fun e => by have:=hT j e;omega)⟩
theorem D4.cs (h:D4 W w ED v5 v6 v7 v8 yb zb db dof dc k c x F own (ws) (bs) (s) (g) (0) (n4)):Calls Tryz.prog 26 #[.pointer (some ⟨v7,0,none⟩),.slice (some ⟨yb,0,none⟩) ws.length ws.length,.slice (some ⟨zb,0,none⟩) bs.length bs.length] w fun e w' => e = .returned (.agg (qdV true 0 (.slice none 0 0) (cntQ F own true ws) true false)) ∧ D4 W w' ED v5 v6 v7 v8 yb zb db dof dc k c x F own (ws) (bs) (s) (g) (-1) (n4) ∧ Only (fun k => ED k ∧ W.heap.size ≤ k) w w':=by
  obtain ⟨a5,⟨A,cp,a6,r6,o6⟩,a7,a8,dat,dif,inn,bel,cfg,nums⟩:=h
  have n5:=a5.ne;have n6:=a6.ne;have n7:=a7.ne;have n8:=a8.ne
  have l5:=a5.lt;have l6:=a6.lt;have l7:=a7.lt;have l8:=a8.lt
  refine (dstepC_b 0 rfl a7 bel ⟨by have:=inn.2;omega,by have:=inn.2;omega,by have:=inn.2;omega⟩ cfg.1 cfg.2.1 cfg.2.2.1 cfg.2.2.2.1 cfg.2.2.2.2.1 nums.2.2.2.2.2 nums.2.2.2.2.1).mono ?_
  rintro e w' ⟨rfl,hd,ho⟩
  exact ⟨rfl,⟨a5.with hd (ho.block v5 l5.1 (by rintro (e | e | e) <;> omega)),⟨A,cp,a6.with hd (ho.block v6 l6.1 (by rintro (e | e | e) <;> omega)),r6.kept ho (rowne a7 r6 o6),o6⟩,hd,a8.with hd (ho.block v8 l8.1 (by rintro (e | e | e) <;> omega)),datk a7 dat dif.2.2.2.2.2.2 ho,dif,inn,belk bel ho (by have:=inn.2;intro k hk;rcases hk with rfl | rfl | rfl <;> omega) (Nat.le_refl _),cfg,nums⟩,ho.mono fun k _ hk => by rcases hk with rfl | rfl | rfl;exact ⟨inn.1.2.2.1,by have:=inn.2;omega⟩;exact ⟨inn.1.2.2.2.2.1,by have:=inn.2;omega⟩;exact ⟨inn.1.2.2.2.2.2,by have:=inn.2;omega⟩⟩
theorem D4.csn (h:D4 W w ED v5 v6 v7 v8 yb zb db dof dc k c x F own (ws) (bs) (s) (g) (-1) (n4)):Calls Tryz.prog 26 #[.pointer (some ⟨v7,0,none⟩),.slice (some ⟨yb,0,none⟩) ws.length ws.length,.slice (some ⟨zb,0,none⟩) bs.length bs.length] w fun e w' => e = .returned (.agg (qdV false 0 (.slice none 0 0) 0 false false)) ∧ D4 W w' ED v5 v6 v7 v8 yb zb db dof dc k c x F own (ws) (bs) (s) (g) (-1) (n4) ∧ Only (fun k => ED k ∧ W.heap.size ≤ k) w w':=by
  obtain ⟨a5,⟨A,cp,a6,r6,o6⟩,a7,a8,dat,dif,inn,bel,cfg,nums⟩:=h
  have n5:=a5.ne;have n6:=a6.ne;have n7:=a7.ne;have n8:=a8.ne
  have l5:=a5.lt;have l6:=a6.lt;have l7:=a7.lt;have l8:=a8.lt
  refine (dzero_b a7 (by omega)).mono ?_
  rintro e w' ⟨rfl,hd,ho⟩
  exact ⟨rfl,⟨a5.with hd (ho.block v5 l5.1 (by rintro (e | e | e) <;> omega)),⟨A,cp,a6.with hd (ho.block v6 l6.1 (by rintro (e | e | e) <;> omega)),r6.kept ho (rowne a7 r6 o6),o6⟩,hd,a8.with hd (ho.block v8 l8.1 (by rintro (e | e | e) <;> omega)),datk a7 dat dif.2.2.2.2.2.2 ho,dif,inn,belk bel ho (by have:=inn.2;intro k hk;rcases hk with rfl | rfl | rfl <;> omega) (Nat.le_refl _),cfg,nums⟩,ho.mono fun k _ hk => by rcases hk with rfl | rfl | rfl;exact ⟨inn.1.2.2.1,by have:=inn.2;omega⟩;exact ⟨inn.1.2.2.2.2.1,by have:=inn.2;omega⟩;exact ⟨inn.1.2.2.2.2.2,by have:=inn.2;omega⟩⟩
theorem D4.cr (h:D4 W w ED v5 v6 v7 v8 yb zb db dof dc k c x F own (ws) (bs) (s) (g) (n3) (0)):Calls Tryz.prog 26 #[.pointer (some ⟨v8,0,none⟩),.slice (some ⟨yb,0,none⟩) ws.length ws.length,.slice (some ⟨zb,0,none⟩) bs.length bs.length] w fun e w' => e = .returned (.agg (qdV true 0 (.slice none 0 0) (cntQ F own false ws) true false)) ∧ D4 W w' ED v5 v6 v7 v8 yb zb db dof dc k c x F own (ws) (bs) (s) (g) (n3) (-1) ∧ Only (fun k => ED k ∧ W.heap.size ≤ k) w w':=by
  obtain ⟨a5,⟨A,cp,a6,r6,o6⟩,a7,a8,dat,dif,inn,bel,cfg,nums⟩:=h
  have n5:=a5.ne;have n6:=a6.ne;have n7:=a7.ne;have n8:=a8.ne
  have l5:=a5.lt;have l6:=a6.lt;have l7:=a7.lt;have l8:=a8.lt
  refine (dstepC_b 0 rfl a8 bel ⟨by have:=inn.2;omega,by have:=inn.2;omega,by have:=inn.2;omega⟩ cfg.1 cfg.2.1 cfg.2.2.1 cfg.2.2.2.1 cfg.2.2.2.2.1 nums.2.2.2.2.2 nums.2.2.2.2.1).mono ?_
  rintro e w' ⟨rfl,hd,ho⟩
  exact ⟨rfl,⟨a5.with hd (ho.block v5 l5.1 (by rintro (e | e | e) <;> omega)),⟨A,cp,a6.with hd (ho.block v6 l6.1 (by rintro (e | e | e) <;> omega)),r6.kept ho (rowne a8 r6 o6),o6⟩,a7.with hd (ho.block v7 l7.1 (by rintro (e | e | e) <;> omega)),hd,datk a8 dat dif.2.2.2.2.2.2 ho,dif,inn,belk bel ho (by have:=inn.2;intro k hk;rcases hk with rfl | rfl | rfl <;> omega) (Nat.le_refl _),cfg,nums⟩,ho.mono fun k _ hk => by rcases hk with rfl | rfl | rfl;exact ⟨inn.1.2.2.2.1,by have:=inn.2;omega⟩;exact ⟨inn.1.2.2.2.2.1,by have:=inn.2;omega⟩;exact ⟨inn.1.2.2.2.2.2,by have:=inn.2;omega⟩⟩
theorem D4.crn (h:D4 W w ED v5 v6 v7 v8 yb zb db dof dc k c x F own (ws) (bs) (s) (g) (n3) (-1)):Calls Tryz.prog 26 #[.pointer (some ⟨v8,0,none⟩),.slice (some ⟨yb,0,none⟩) ws.length ws.length,.slice (some ⟨zb,0,none⟩) bs.length bs.length] w fun e w' => e = .returned (.agg (qdV false 0 (.slice none 0 0) 0 false false)) ∧ D4 W w' ED v5 v6 v7 v8 yb zb db dof dc k c x F own (ws) (bs) (s) (g) (n3) (-1) ∧ Only (fun k => ED k ∧ W.heap.size ≤ k) w w':=by
  obtain ⟨a5,⟨A,cp,a6,r6,o6⟩,a7,a8,dat,dif,inn,bel,cfg,nums⟩:=h
  have n5:=a5.ne;have n6:=a6.ne;have n7:=a7.ne;have n8:=a8.ne
  have l5:=a5.lt;have l6:=a6.lt;have l7:=a7.lt;have l8:=a8.lt
  refine (dzero_b a8 (by omega)).mono ?_
  rintro e w' ⟨rfl,hd,ho⟩
  exact ⟨rfl,⟨a5.with hd (ho.block v5 l5.1 (by rintro (e | e | e) <;> omega)),⟨A,cp,a6.with hd (ho.block v6 l6.1 (by rintro (e | e | e) <;> omega)),r6.kept ho (rowne a8 r6 o6),o6⟩,a7.with hd (ho.block v7 l7.1 (by rintro (e | e | e) <;> omega)),hd,datk a8 dat dif.2.2.2.2.2.2 ho,dif,inn,belk bel ho (by have:=inn.2;intro k hk;rcases hk with rfl | rfl | rfl <;> omega) (Nat.le_refl _),cfg,nums⟩,ho.mono fun k _ hk => by rcases hk with rfl | rfl | rfl;exact ⟨inn.1.2.2.2.1,by have:=inn.2;omega⟩;exact ⟨inn.1.2.2.2.2.1,by have:=inn.2;omega⟩;exact ⟨inn.1.2.2.2.2.2,by have:=inn.2;omega⟩⟩
theorem D4.send (h:D4 W w ED v5 v6 v7 v8 yb zb db dof dc k c x F own (ws) (bs) (s) (g) (n3) (n4)):Calls Tryz.prog 26 #[.pointer (some ⟨v5,0,none⟩),.slice (some ⟨yb,0,none⟩) ws.length ws.length,.slice (some ⟨zb,0,none⟩) bs.length bs.length] w fun e w' => e = .returned (.agg (qdOf (qsend F s ws).2.2 (.slice none 0 0))) ∧ D4 W w' ED v5 v6 v7 v8 yb zb db dof dc k c x F own ((qsend F s ws).2.1) (ringB12 (qsend F s ws).2.2.ring (2 * k + 1) bs) ((qsend F s ws).1) (g) (n3) (n4) ∧ Only (fun k => ED k ∧ W.heap.size ≤ k) w w':=by
  obtain ⟨a5,⟨A,cp,a6,r6,o6⟩,a7,a8,dat,dif,inn,bel,cfg,nums⟩:=h
  have n5:=a5.ne;have n6:=a6.ne;have n7:=a7.ne;have n8:=a8.ne
  have l5:=a5.lt;have l6:=a6.lt;have l7:=a7.lt;have l8:=a8.lt
  have hlow:=cfg.2.2.2.2.1.low
  obtain ⟨q1,q2,q3⟩:=qsend_w (F:=F) nums.2.2.2.2.1 nums.2.2.1 (by have:=nums.1.2;omega)
  obtain ⟨q4,q5⟩:=nums.1.step (ws:=ws)
  refine (dstepS_b s a5 bel ⟨by have:=inn.2;omega,by have:=inn.2;omega,by have:=inn.2;omega⟩ cfg.1 cfg.2.1 cfg.2.2.1 cfg.2.2.2.1 cfg.2.2.2.2.1 dat nums.1.2 cfg.2.2.2.2.2 (by have:=nums.1;unfold SB at this;omega) dif.2.2.2.2.2.2 nums.2.2.1).mono ?_
  rintro e w' ⟨rfl,hd,ho⟩
  have hl2:=ringB12_len (qsend F s ws).2.2.ring (2 * k + 1) bs
  exact ⟨rfl,⟨(by rw [q5];exact hd),⟨A,cp,a6.with hd (ho.block v6 l6.1 (by rintro (e | e | e) <;> omega)),r6.kept ho (rowne a5 r6 o6),o6⟩,a7.with hd (ho.block v7 l7.1 (by rintro (e | e | e) <;> omega)),a8.with hd (ho.block v8 l8.1 (by rintro (e | e | e) <;> omega)),(by rw [q5];exact datk a5 dat dif.2.2.2.2.2.2 ho),dif,inn,belk bel ho (by have:=inn.2;intro k hk;rcases hk with rfl | rfl | rfl <;> omega) (Nat.le_refl _),⟨cfg.1,cfg.2.1,cfg.2.2.1,cfg.2.2.2.1,by rw [q2];exact cfg.2.2.2.2.1,by rw [hl2];exact cfg.2.2.2.2.2⟩,⟨q4,nums.2.1,q3,nums.2.2.2.1,q1,nums.2.2.2.2.2⟩⟩,ho.mono fun k _ hk => by rcases hk with rfl | rfl | rfl;exact ⟨inn.1.1,by have:=inn.2;omega⟩;exact ⟨inn.1.2.2.2.2.1,by have:=inn.2;omega⟩;exact ⟨inn.1.2.2.2.2.2,by have:=inn.2;omega⟩⟩
theorem D4.recv (h:D4 W w ED v5 v6 v7 v8 yb zb db dof dc k c x F own (ws) (bs) (s) (g) (n3) (n4)):Calls Tryz.prog 26 #[.pointer (some ⟨v6,0,none⟩),.slice (some ⟨yb,0,none⟩) ws.length ws.length,.slice (some ⟨zb,0,none⟩) bs.length bs.length] w fun e w' => ∃ sa sn sc,e = .returned (.agg (qdOf (qrecv F g ws).2.2 (.slice sa sn sc))) ∧ OwnsOff w' 0 34 1 (.slice sa sn sc) sn (wcells (qrecv F g ws).2.2.data) ∧ sn = (qrecv F g ws).2.2.data.length ∧ D4 W w' (fun k => ED k ∨ (w.heap.size ≤ k ∧ k < w'.heap.size)) v5 v6 v7 v8 yb zb db dof dc k c x F own ((qrecv F g ws).2.1) (bs) (s) ((qrecv F g ws).1) (n3) (n4) ∧ Only (fun k => ED k ∧ W.heap.size ≤ k) w w':=by
  obtain ⟨a5,⟨A,cp,a6,r6,o6⟩,a7,a8,dat,dif,inn,bel,cfg,nums⟩:=h
  have n5:=a5.ne;have n6:=a6.ne;have n7:=a7.ne;have n8:=a8.ne
  have l5:=a5.lt;have l6:=a6.lt;have l7:=a7.lt;have l8:=a8.lt
  have hlow:=cfg.2.2.2.2.1.low
  obtain ⟨q1,q2,q3,q4⟩:=qrecv_w (F:=F) nums.2.2.2.2.1 nums.2.2.2.1
  have q5:=nums.2.1.step (ws:=ws) nums.2.2.2.2.1
  have hgb:=nums.2.1
  have hno:g.no ≤ 99:=by
    obtain ⟨g1,g2,g3,g4⟩:=hgb
    by_cases h2:2 ≤ g.no
    · have:=(g4 h2).1;omega
    · omega
  refine (dstepG_b g a6 bel ⟨by have:=inn.2;omega,by have:=inn.2;omega,by have:=inn.2;omega⟩ cfg.1 cfg.2.1 cfg.2.2.1 cfg.2.2.2.1 cfg.2.2.2.2.1 r6 (fun e => (o6 yb e).2.2.1 rfl) hgb.1 hgb.2.1 hno nums.2.2.2.1 nums.2.2.2.2.1).mono ?_
  rintro e w' ⟨A',cp',sa,sn,sc,rfl,⟨hsn,hv⟩,hd,hrow,hg,ho⟩
  have hws:=ho.size
  have hbs:=bel.size
  have hdl:db < w.heap.size:=by obtain ⟨cs,mm,h1,-⟩:=dat;exact (Array.getElem?_eq_some_iff.1 h1).1
  have hT:∀ k,(k = v6 ∨ k = yb ∨ k = zb ∨ Value.ownBlock (.slice A g.data.length cp) = some k) → ED k ∧ W.heap.size ≤ k:=fun k hk => by
    rcases hk with rfl | rfl | rfl | hk
    · exact ⟨inn.1.2.1,by have:=inn.2;omega⟩
    · exact ⟨inn.1.2.2.2.2.1,by have:=inn.2;omega⟩
    · exact ⟨inn.1.2.2.2.2.2,by have:=inn.2;omega⟩
    · exact ⟨(o6 k hk).1,(o6 k hk).2.1⟩
  have k5:¬ (v5 = v6 ∨ v5 = yb ∨ v5 = zb ∨ Value.ownBlock (.slice A g.data.length cp) = some v5):=by
    rintro (e | e | e | e);omega;omega;omega;exact rowne a5 r6 o6 v5 e (.inl rfl)
  have k7:¬ (v7 = v6 ∨ v7 = yb ∨ v7 = zb ∨ Value.ownBlock (.slice A g.data.length cp) = some v7):=by
    rintro (e | e | e | e);omega;omega;omega;exact rowne a7 r6 o6 v7 e (.inl rfl)
  have k8:¬ (v8 = v6 ∨ v8 = yb ∨ v8 = zb ∨ Value.ownBlock (.slice A g.data.length cp) = some v8):=by
    rintro (e | e | e | e);omega;omega;omega;exact rowne a8 r6 o6 v8 e (.inl rfl)
  have hdd:(qrecv F g ws).2.2.done = true ∧ (qrecv F g ws).2.2.code = 0 → (qrecv F g ws).2.2.data = (qrecv F g ws).1.data ∧ (qrecv F g ws).1.data = g.data:=by
    unfold qrecv
    split;simp [qd0]
    split;split <;> simp [qd0]
    split;simp [qd0]
    split;simp [qd0]
    simp [qd0]
  have hdn:¬ ((qrecv F g ws).2.2.done = true ∧ (qrecv F g ws).2.2.code = 0) → (qrecv F g ws).2.2.data = []:=by
    unfold qrecv
    split;simp [qd0]
    split;split <;> simp [qd0]
    split;simp [qd0]
    split;simp [qd0]
    simp [qd0]
  have hro:OwnsOff w' 0 34 1 (.slice sa sn sc) sn (wcells (qrecv F g ws).2.2.data):=by
    by_cases hc:(qrecv F g ws).2.2.done = true ∧ (qrecv F g ws).2.2.code = 0
    · rw [if_pos hc] at hv
      obtain ⟨e1,e2⟩:=hdd hc
      rw [hv,hsn,e1]
      rw [← e2]
      exact hrow
    · rw [if_neg hc] at hv
      have e0:=hdn hc
      rw [hv,hsn,e0]
      exact OwnsOff.nil ..
  refine ⟨sa,sn,sc,rfl,hro,hsn,⟨a5.with hd (ho.block v5 l5.1 k5),⟨A',cp',hd,hrow,fun b hb => ?_⟩,a7.with hd (ho.block v7 l7.1 k7),a8.with hd (ho.block v8 l8.1 k8),?_,dif,⟨⟨.inl inn.1.1,.inl inn.1.2.1,.inl inn.1.2.2.1,.inl inn.1.2.2.2.1,.inl inn.1.2.2.2.2.1,.inl inn.1.2.2.2.2.2⟩,inn.2⟩,belk bel ho (fun k hk => (hT k hk).2) (Nat.le_refl _),⟨cfg.1,cfg.2.1,cfg.2.2.1,cfg.2.2.2.1,by rw [q2];exact cfg.2.2.2.2.1,cfg.2.2.2.2.2⟩,⟨nums.1,q5,nums.2.2.1,q3,q1,nums.2.2.2.2.2⟩⟩,ho.mono fun k _ hk => hT k hk⟩
  · rcases hg b hb with h | h
    · exact ⟨.inl (o6 b h).1,(o6 b h).2⟩
    · exact ⟨.inr ⟨h,(hrow.lt b hb).2⟩,by omega,by omega,by omega⟩
  · obtain ⟨cs,mm,h1,h2⟩:=dat
    refine ⟨cs,mm,(ho.block db hdl (fun e => ?_)).trans h1,h2⟩
    rcases e with e | e | e | e
    · exact datne a6 h1 dif.2.2.2.2.2.2 (.inl e)
    · exact datne a6 h1 dif.2.2.2.2.2.2 (.inr (.inl e))
    · exact datne a6 h1 dif.2.2.2.2.2.2 (.inr (.inr e))
    · exact (o6 db e).2.2.2 rfl
end
end Go.Proofs.YtmhpcgcloojfbaaGreat
end
section
namespace Go.Proofs.YtmhpcgcloojfbaaGreat
open Go.RowKit Go.Sort
set_option linter.unusedVariables false
set_option linter.unusedSimpArgs false
set_option linter.unusedVariables false
set_option linter.unusedSimpArgs false
open Go.Proofs.YtmhpcgcloojfbaaGreat.Simp
set_option maxRecDepth 100000
set_option maxHeartbeats 12800000
structure RSb (W w:World) (ED LK:Nat → Prop) (mb rb bb br sq rq c1 c2 v5 v6 v7 v8 yb zb db dof dc k:Nat) (c:Cfg) (x:CfgAt) (F:Qr) (own:Int) (ws:List Int) (bs:List Bool) (s g:QS) (n3 n4:Int):Prop where
  p4:P4 W w (fun k => ED k ∨ LK k) mb rb bb br F (2 * k + 1) own sq rq c1 c2 (ws) (bs) (s) (g) (n3) (n4)
  d4:D4 W w ED v5 v6 v7 v8 yb zb db dof dc k c x F own (ws) (bs) (s) (g) (n3) (n4)
  edb:ED db
  lk:∀ k,LK k → ¬ ED k ∧ W.heap.size ≤ k ∧ k < w.heap.size
section
variable {W w w':World} {ED LK:Nat → Prop} {mb rb bb br sq rq c1 c2 v5 v6 v7 v8 yb zb db dof dc k:Nat} {c:Cfg} {x:CfgAt} {F:Qr} {own:Int} {ws:List Int} {bs:List Bool} {s g:QS} {n3 n4:Int}
theorem RSb.send (h:RSb W w ED LK mb rb bb br sq rq c1 c2 v5 v6 v7 v8 yb zb db dof dc k c x F own (ws) (bs) (s) (g) (n3) (n4)):Calls Tryz.prog 25 #[.pointer (some ⟨sq,0,none⟩),.pointer (some ⟨mb,0,none⟩),.pointer (some ⟨bb,0,none⟩),.int .i64 0] w fun e w1 => e = .returned (.agg (qdOf (qsend F s ws).2.2 (.slice none 0 0))) ∧ Only (fun k => ¬ LK k ∧ W.heap.size ≤ k) w w1 ∧ (Calls Tryz.prog 26 #[.pointer (some ⟨v5,0,none⟩),.slice (some ⟨yb,0,none⟩) ws.length ws.length,.slice (some ⟨zb,0,none⟩) bs.length bs.length] w1 fun e w' => e = .returned (.agg (qdOf (qsend F s ws).2.2 (.slice none 0 0))) ∧ RSb W w' ED LK mb rb bb br sq rq c1 c2 v5 v6 v7 v8 yb zb db dof dc k c x F own ((qsend F s ws).2.1) (ringB12 (qsend F s ws).2.2.ring (2 * k + 1) bs) ((qsend F s ws).1) (g) (n3) (n4) ∧ Only (fun k => ¬ LK k ∧ W.heap.size ≤ k) w w'):=by
  obtain ⟨hp,hd,hdb,hlk⟩:=h
  refine (hp.send 0).mono ?_
  rintro e w1 ⟨rfl,hp1,ho1⟩
  have hb1:=belk hd.bel ho1 (fun _ a => a.2) (Nat.le_refl _)
  have hd1:=hd.only (ED':=ED) ho1 (fun k a => ⟨fun e => a.1 (.inl e),fun e => a.1 (.inl (e ▸ hdb))⟩) hb1 (fun _ a => a)
  have ho3:Only (fun k => ¬ LK k ∧ W.heap.size ≤ k) w w1:=ho1.mono fun _ _ a => ⟨fun e => a.1 (.inr e),a.2⟩
  refine ⟨rfl,ho3,hd1.send.mono ?_⟩
  rintro e w' ⟨rfl,hd2,ho2⟩
  have h1:=ho1.size;have h2:=ho2.size
  exact ⟨rfl,⟨hp1.only (ED':=fun k => ED k ∨ LK k) ho2 (fun _ _ a => ⟨.inl a.1,a.2⟩) (fun _ a => .inl a),hd2,hdb,fun k hk => ⟨(hlk k hk).1,by have:=(hlk k hk).2;omega⟩⟩,ho3.trans (ho2.mono fun k _ a => ⟨fun e => (hlk k e).1 a.1,a.2⟩)⟩
theorem RSb.cs (h:RSb W w ED LK mb rb bb br sq rq c1 c2 v5 v6 v7 v8 yb zb db dof dc k c x F own (ws) (bs) (s) (g) (0) (n4)):Calls Tryz.prog 25 #[.pointer (some ⟨c1,0,none⟩),.pointer (some ⟨mb,0,none⟩),.pointer (some ⟨bb,0,none⟩),.int .i64 0] w fun e w1 => e = .returned (.agg (qdV true 0 (.slice none 0 0) (cntQ F own true ws) true false)) ∧ Only (fun k => ¬ LK k ∧ W.heap.size ≤ k) w w1 ∧ (Calls Tryz.prog 26 #[.pointer (some ⟨v7,0,none⟩),.slice (some ⟨yb,0,none⟩) ws.length ws.length,.slice (some ⟨zb,0,none⟩) bs.length bs.length] w1 fun e w' => e = .returned (.agg (qdV true 0 (.slice none 0 0) (cntQ F own true ws) true false)) ∧ RSb W w' ED LK mb rb bb br sq rq c1 c2 v5 v6 v7 v8 yb zb db dof dc k c x F own (ws) (bs) (s) (g) (-1) (n4) ∧ Only (fun k => ¬ LK k ∧ W.heap.size ≤ k) w w'):=by
  obtain ⟨hp,hd,hdb,hlk⟩:=h
  refine (hp.cs 0).mono ?_
  rintro e w1 ⟨rfl,hp1,ho1⟩
  have hb1:=belk hd.bel ho1 (fun _ a => a.2) (Nat.le_refl _)
  have hd1:=hd.only (ED':=ED) ho1 (fun k a => ⟨fun e => a.1 (.inl e),fun e => a.1 (.inl (e ▸ hdb))⟩) hb1 (fun _ a => a)
  have ho3:Only (fun k => ¬ LK k ∧ W.heap.size ≤ k) w w1:=ho1.mono fun _ _ a => ⟨fun e => a.1 (.inr e),a.2⟩
  refine ⟨rfl,ho3,hd1.cs.mono ?_⟩
  rintro e w' ⟨rfl,hd2,ho2⟩
  have h1:=ho1.size;have h2:=ho2.size
  exact ⟨rfl,⟨hp1.only (ED':=fun k => ED k ∨ LK k) ho2 (fun _ _ a => ⟨.inl a.1,a.2⟩) (fun _ a => .inl a),hd2,hdb,fun k hk => ⟨(hlk k hk).1,by have:=(hlk k hk).2;omega⟩⟩,ho3.trans (ho2.mono fun k _ a => ⟨fun e => (hlk k e).1 a.1,a.2⟩)⟩
theorem RSb.csn (h:RSb W w ED LK mb rb bb br sq rq c1 c2 v5 v6 v7 v8 yb zb db dof dc k c x F own (ws) (bs) (s) (g) (-1) (n4)):Calls Tryz.prog 25 #[.pointer (some ⟨c1,0,none⟩),.pointer (some ⟨mb,0,none⟩),.pointer (some ⟨bb,0,none⟩),.int .i64 0] w fun e w1 => e = .returned (.agg (qdV false 0 (.slice none 0 0) 0 false false)) ∧ Only (fun k => ¬ LK k ∧ W.heap.size ≤ k) w w1 ∧ (Calls Tryz.prog 26 #[.pointer (some ⟨v7,0,none⟩),.slice (some ⟨yb,0,none⟩) ws.length ws.length,.slice (some ⟨zb,0,none⟩) bs.length bs.length] w1 fun e w' => e = .returned (.agg (qdV false 0 (.slice none 0 0) 0 false false)) ∧ RSb W w' ED LK mb rb bb br sq rq c1 c2 v5 v6 v7 v8 yb zb db dof dc k c x F own (ws) (bs) (s) (g) (-1) (n4) ∧ Only (fun k => ¬ LK k ∧ W.heap.size ≤ k) w w'):=by
  obtain ⟨hp,hd,hdb,hlk⟩:=h
  refine (hp.csn 0).mono ?_
  rintro e w1 ⟨rfl,hp1,ho1⟩
  have hb1:=belk hd.bel ho1 (fun _ a => a.2) (Nat.le_refl _)
  have hd1:=hd.only (ED':=ED) ho1 (fun k a => ⟨fun e => a.1 (.inl e),fun e => a.1 (.inl (e ▸ hdb))⟩) hb1 (fun _ a => a)
  have ho3:Only (fun k => ¬ LK k ∧ W.heap.size ≤ k) w w1:=ho1.mono fun _ _ a => ⟨fun e => a.1 (.inr e),a.2⟩
  refine ⟨rfl,ho3,hd1.csn.mono ?_⟩
  rintro e w' ⟨rfl,hd2,ho2⟩
  have h1:=ho1.size;have h2:=ho2.size
  exact ⟨rfl,⟨hp1.only (ED':=fun k => ED k ∨ LK k) ho2 (fun _ _ a => ⟨.inl a.1,a.2⟩) (fun _ a => .inl a),hd2,hdb,fun k hk => ⟨(hlk k hk).1,by have:=(hlk k hk).2;omega⟩⟩,ho3.trans (ho2.mono fun k _ a => ⟨fun e => (hlk k e).1 a.1,a.2⟩)⟩
theorem RSb.cr (h:RSb W w ED LK mb rb bb br sq rq c1 c2 v5 v6 v7 v8 yb zb db dof dc k c x F own (ws) (bs) (s) (g) (n3) (0)):Calls Tryz.prog 25 #[.pointer (some ⟨c2,0,none⟩),.pointer (some ⟨mb,0,none⟩),.pointer (some ⟨bb,0,none⟩),.int .i64 0] w fun e w1 => e = .returned (.agg (qdV true 0 (.slice none 0 0) (cntQ F own false ws) true false)) ∧ Only (fun k => ¬ LK k ∧ W.heap.size ≤ k) w w1 ∧ (Calls Tryz.prog 26 #[.pointer (some ⟨v8,0,none⟩),.slice (some ⟨yb,0,none⟩) ws.length ws.length,.slice (some ⟨zb,0,none⟩) bs.length bs.length] w1 fun e w' => e = .returned (.agg (qdV true 0 (.slice none 0 0) (cntQ F own false ws) true false)) ∧ RSb W w' ED LK mb rb bb br sq rq c1 c2 v5 v6 v7 v8 yb zb db dof dc k c x F own (ws) (bs) (s) (g) (n3) (-1) ∧ Only (fun k => ¬ LK k ∧ W.heap.size ≤ k) w w'):=by
  obtain ⟨hp,hd,hdb,hlk⟩:=h
  refine (hp.cr 0).mono ?_
  rintro e w1 ⟨rfl,hp1,ho1⟩
  have hb1:=belk hd.bel ho1 (fun _ a => a.2) (Nat.le_refl _)
  have hd1:=hd.only (ED':=ED) ho1 (fun k a => ⟨fun e => a.1 (.inl e),fun e => a.1 (.inl (e ▸ hdb))⟩) hb1 (fun _ a => a)
  have ho3:Only (fun k => ¬ LK k ∧ W.heap.size ≤ k) w w1:=ho1.mono fun _ _ a => ⟨fun e => a.1 (.inr e),a.2⟩
  refine ⟨rfl,ho3,hd1.cr.mono ?_⟩
  rintro e w' ⟨rfl,hd2,ho2⟩
  have h1:=ho1.size;have h2:=ho2.size
  exact ⟨rfl,⟨hp1.only (ED':=fun k => ED k ∨ LK k) ho2 (fun _ _ a => ⟨.inl a.1,a.2⟩) (fun _ a => .inl a),hd2,hdb,fun k hk => ⟨(hlk k hk).1,by have:=(hlk k hk).2;omega⟩⟩,ho3.trans (ho2.mono fun k _ a => ⟨fun e => (hlk k e).1 a.1,a.2⟩)⟩
theorem RSb.crn (h:RSb W w ED LK mb rb bb br sq rq c1 c2 v5 v6 v7 v8 yb zb db dof dc k c x F own (ws) (bs) (s) (g) (n3) (-1)):Calls Tryz.prog 25 #[.pointer (some ⟨c2,0,none⟩),.pointer (some ⟨mb,0,none⟩),.pointer (some ⟨bb,0,none⟩),.int .i64 0] w fun e w1 => e = .returned (.agg (qdV false 0 (.slice none 0 0) 0 false false)) ∧ Only (fun k => ¬ LK k ∧ W.heap.size ≤ k) w w1 ∧ (Calls Tryz.prog 26 #[.pointer (some ⟨v8,0,none⟩),.slice (some ⟨yb,0,none⟩) ws.length ws.length,.slice (some ⟨zb,0,none⟩) bs.length bs.length] w1 fun e w' => e = .returned (.agg (qdV false 0 (.slice none 0 0) 0 false false)) ∧ RSb W w' ED LK mb rb bb br sq rq c1 c2 v5 v6 v7 v8 yb zb db dof dc k c x F own (ws) (bs) (s) (g) (n3) (-1) ∧ Only (fun k => ¬ LK k ∧ W.heap.size ≤ k) w w'):=by
  obtain ⟨hp,hd,hdb,hlk⟩:=h
  refine (hp.crn 0).mono ?_
  rintro e w1 ⟨rfl,hp1,ho1⟩
  have hb1:=belk hd.bel ho1 (fun _ a => a.2) (Nat.le_refl _)
  have hd1:=hd.only (ED':=ED) ho1 (fun k a => ⟨fun e => a.1 (.inl e),fun e => a.1 (.inl (e ▸ hdb))⟩) hb1 (fun _ a => a)
  have ho3:Only (fun k => ¬ LK k ∧ W.heap.size ≤ k) w w1:=ho1.mono fun _ _ a => ⟨fun e => a.1 (.inr e),a.2⟩
  refine ⟨rfl,ho3,hd1.crn.mono ?_⟩
  rintro e w' ⟨rfl,hd2,ho2⟩
  have h1:=ho1.size;have h2:=ho2.size
  exact ⟨rfl,⟨hp1.only (ED':=fun k => ED k ∨ LK k) ho2 (fun _ _ a => ⟨.inl a.1,a.2⟩) (fun _ a => .inl a),hd2,hdb,fun k hk => ⟨(hlk k hk).1,by have:=(hlk k hk).2;omega⟩⟩,ho3.trans (ho2.mono fun k _ a => ⟨fun e => (hlk k e).1 a.1,a.2⟩)⟩
theorem RSb.recv (h:RSb W w ED LK mb rb bb br sq rq c1 c2 v5 v6 v7 v8 yb zb db dof dc k c x F own (ws) (bs) (s) (g) (n3) (n4)):Calls Tryz.prog 25 #[.pointer (some ⟨rq,0,none⟩),.pointer (some ⟨mb,0,none⟩),.pointer (some ⟨bb,0,none⟩),.int .i64 0] w fun e w1 => ∃ v,e = .returned (.agg (qdOf (qrecv F g ws).2.2 v)) ∧ OwnsOff w1 0 34 1 v (qrecv F g ws).2.2.data.length (wcells (qrecv F g ws).2.2.data) ∧ Only (fun k => ¬ LK k ∧ W.heap.size ≤ k) w w1 ∧ (Calls Tryz.prog 26 #[.pointer (some ⟨v6,0,none⟩),.slice (some ⟨yb,0,none⟩) ws.length ws.length,.slice (some ⟨zb,0,none⟩) bs.length bs.length] w1 fun e w' => ∃ sa sn sc,e = .returned (.agg (qdOf (qrecv F g ws).2.2 (.slice sa sn sc))) ∧ sn = (qrecv F g ws).2.2.data.length ∧ OwnsOff w' 0 34 1 (.slice sa sn sc) sn (wcells (qrecv F g ws).2.2.data) ∧ OwnsOff w' 0 34 1 v (qrecv F g ws).2.2.data.length (wcells (qrecv F g ws).2.2.data) ∧ W32 (qrecv F g ws).2.2.data ∧ (∃ ED':Nat → Prop,RSb W w' ED' LK mb rb bb br sq rq c1 c2 v5 v6 v7 v8 yb zb db dof dc k c x F own ((qrecv F g ws).2.1) (bs) (s) ((qrecv F g ws).1) (n3) (n4)) ∧ Only (fun k => ¬ LK k ∧ W.heap.size ≤ k) w w'):=by
  obtain ⟨hp,hd,hdb,hlk⟩:=h
  refine (hp.recv 0).mono ?_
  rintro e w1 ⟨v,rfl,hv,hp1,hvb,h32,ho1⟩
  have hb1:=belk hd.bel ho1 (fun _ a => a.2) (Nat.le_refl _)
  have hd1:=hd.only (ED':=ED) ho1 (fun k a => ⟨fun e => a.1 (.inl e),fun e => a.1 (.inl (e ▸ hdb))⟩) hb1 (fun _ a => a)
  have ho3:Only (fun k => ¬ LK k ∧ W.heap.size ≤ k) w w1:=ho1.mono fun _ _ a => ⟨fun e => a.1 (.inr e),a.2⟩
  refine ⟨v,rfl,hv,ho3,hd1.recv.mono ?_⟩
  rintro e w' ⟨sa,sn,sc,rfl,hro,hsn,hd2,ho2⟩
  have h1:=ho1.size;have h2:=ho2.size
  refine ⟨sa,sn,sc,rfl,hsn,hro,hv.kept ho2 (fun b hb a => (hvb b hb).1 (.inl a.1)),h32,⟨_,hp1.only ho2 (fun _ _ a => ⟨.inl a.1,a.2⟩) (fun k a => ?_),hd2,.inl hdb,fun k hk => ⟨?_,by have:=(hlk k hk).2;omega⟩⟩,ho3.trans (ho2.mono fun k _ a => ⟨fun e => (hlk k e).1 a.1,a.2⟩)⟩
  · rcases a with (a | a) | a
    · exact .inl (.inl a)
    · exact .inr a
    · exact .inl (.inr a)
  · rintro (a | a)
    · exact (hlk k hk).1 a
    · have:=(hlk k hk).2;omega
end
end Go.Proofs.YtmhpcgcloojfbaaGreat
end
section
namespace Go.Proofs.YtmhpcgcloojfbaaGreat
open Go.RowKit Go.Sort
set_option linter.unusedVariables false
set_option linter.unusedSimpArgs false
set_option linter.unusedVariables false
set_option linter.unusedSimpArgs false
open Go.Proofs.YtmhpcgcloojfbaaGreat.Simp
set_option maxRecDepth 100000
set_option maxHeartbeats 12800000
section
variable {W w7 w8 w9:World} {E S3 S4:Nat → Prop} {mb rb bb br be sq rq c1 c2:Nat} {F:Qr} {own:Int} {ws:List Int} {bs:List Bool} {s g:QS}
theorem P4.start (hq:Quo W w7 W.heap.size E mb rb bb br F be ws bs (some (sq,s)) (some (rq,g))) (hc1:CAt w8 S3 c1 F be own true 0) (h3:∀ k,S3 k → w7.heap.size ≤ k) (hb8:Below w7.heap.size w7 w8) (hc2:CAt w9 S4 c2 F be own false 0) (h4:∀ k,S4 k → w8.heap.size ≤ k) (hb9:Below w8.heap.size w8 w9):P4 W w9 E mb rb bb br F be own sq rq c1 c2 ws bs s g 0 0:=by
  have hE:∀ k,E k → k < w7.heap.size:=by obtain ⟨_,_,_,_,h3',_⟩:=hq.two;exact fun k hk => (h3' k hk).2.2.2
  have l3:∀ k,S3 k → k < w8.heap.size:=by obtain ⟨_,_,_,_,_,_,_,_,h5,_⟩:=hc1;exact h5
  have l4:∀ k,S4 k → k < w9.heap.size:=by obtain ⟨_,_,_,_,_,_,_,_,h5,_⟩:=hc2;exact h5
  have e7:=hb8.size;have e8:=hb9.size
  have hB:=hq.below.size
  have h79:Below w7.heap.size w7 w9:=hb8.trans (hb9.mono e7)
  refine ⟨S3,S4,hq.only (T:=fun _ => False) (Only.of_below h79) (fun _ _ h => h.elim) (fun k a => ?_),hc1.only (Only.of_below (S:=fun _ => False) hb9) (fun _ _ h => h),hc2,fun k a => ⟨fun e => ?_,fun e => ?_,?_⟩,fun k a => ⟨fun e => ?_,?_⟩⟩
  · rcases a with a | a | a
    · exact .inl a
    · exact .inr ⟨h3 k a,by have:=l3 k a;omega⟩
    · exact .inr ⟨by have:=h4 k a;omega,l4 k a⟩
  · have:=hE k e;have:=h3 k a;omega
  · have:=h4 k e;have:=l3 k a;omega
  · have:=h3 k a;omega
  · have:=hE k e;have:=h4 k a;omega
  · have:=h4 k a;omega
end
section
variable {W w w':World} {ED LK:Nat → Prop} {mb rb bb br sq rq c1 c2 v5 v6 v7 v8 yb zb db dof dc k:Nat} {c:Cfg} {x:CfgAt} {F:Qr} {own:Int} {ws:List Int} {bs:List Bool} {s g:QS} {n3 n4:Int}
theorem D4.start {data:List Int} (hb:Below W.heap.size W w) (hx:CfgIn W W.heap.size c x) (wx:CfgWf c) (lx:CfgFew c) (hF:QrOf c k F) (hqi:QIn F ws.length) (hbl:2 * k + 1 < bs.length) (h0:0 ≤ own ∧ own ≤ 4294967295) (h32:W32 ws) (hdl:data.length ≤ F.n) (hd32:W32 data)
    (hy:WordsAt w yb ws) (hz:Bel.BellsAt w zb bs)
    (b5:w.heap[v5]? = some (.cells (dqV c x k 5 own false (.slice (some ⟨db,dof,none⟩) data.length dc) 0 0) 73 (0,0)))
    (b6:w.heap[v6]? = some (.cells (dqV c x k 6 own false (.slice none 0 0) 0 0) 73 (0,0)))
    (b7:w.heap[v7]? = some (.cells (dqV c x k 7 own true (.slice none 0 0) 0 0) 73 (0,0)))
    (b8:w.heap[v8]? = some (.cells (dqV c x k 7 own false (.slice none 0 0) 0 0) 73 (0,0)))
    (hdat:∃ cs mm,w.heap[db]? = some (.cells cs 34 mm) ∧ ∀ j,j < data.length → cs[dof + j]? = some (.int .u32 (data.getD j 0)))
    (dif:v5 ≠ v6 ∧ v5 ≠ v7 ∧ v5 ≠ v8 ∧ v6 ≠ v7 ∧ v6 ≠ v8 ∧ v7 ≠ v8 ∧ db ≠ yb)
    (inn:(ED v5 ∧ ED v6 ∧ ED v7 ∧ ED v8 ∧ ED yb ∧ ED zb) ∧ (W.heap.size ≤ v5 ∧ W.heap.size ≤ v6 ∧ W.heap.size ≤ v7 ∧ W.heap.size ≤ v8 ∧ W.heap.size ≤ yb ∧ W.heap.size ≤ zb)) :
    D4 W w ED v5 v6 v7 v8 yb zb db dof dc k c x F own (ws) (bs) (startQ data own) (startQ [] own) (0) (0):=by
  refine ⟨⟨b5,hy,hz⟩,⟨none,0,⟨b6,hy,hz⟩,OwnsOff.nil ..,fun b hb => by cases hb⟩,⟨b7,hy,hz⟩,⟨b8,hy,hz⟩,hdat,dif,inn,hb,⟨hx,wx,lx,hF,hqi,hbl⟩,⟨⟨?_,hdl⟩,⟨Nat.zero_le _,?_,fun _ _ => rfl,fun a => ?_⟩,⟨hd32,h0⟩,⟨w32_nil,h0⟩,h32,h0⟩⟩
  · show (0:Int) ≤ 3 + (data.length:Int);omega
  · show (0:Int) ≤ F.n;omega
  · exact absurd (show (2:Int) ≤ 0 from a) (by omega)
/-- New blocks come. -/
theorem RSb.later (h:RSb W w ED LK mb rb bb br sq rq c1 c2 v5 v6 v7 v8 yb zb db dof dc k c x F own (ws) (bs) (s) (g) (n3) (n4)) (hb:Below w.heap.size w w'):RSb W w' ED LK mb rb bb br sq rq c1 c2 v5 v6 v7 v8 yb zb db dof dc k c x F own (ws) (bs) (s) (g) (n3) (n4):=by
  obtain ⟨hp,hd,hdb,hlk⟩:=h
  have ho:Only (fun _ => False) w w':=Only.of_below hb
  have hs:=hb.size
  exact ⟨hp.only ho (fun _ _ a => a.elim) (fun _ a => .inl a),hd.only (ED':=ED) ho (fun _ a => a.elim) (hd.bel.trans (hb.mono hd.bel.size)) (fun _ a => a),hdb,fun k hk => ⟨(hlk k hk).1,by have:=(hlk k hk).2;omega⟩⟩
end
@[reducible] def po (a b c d:Nat):Nat → Nat
  | 0 => a
  | 1 => b
  | 2 => c
  | _ => d
/-- The eight,however far they have come;L words,nb bells. -/
def RSx (W w:World) (LK:Nat → Prop) (mb rb bb br sq rq c1 c2 v5 v6 v7 v8 yb zb L nb k:Nat) (c:Cfg) (x:CfgAt) (F:Qr) (own:Int):Prop:=
  ∃ ED db dof dc ws bs s g n3 n4,RSb W w ED LK mb rb bb br sq rq c1 c2 v5 v6 v7 v8 yb zb db dof dc k c x F own (ws) (bs) (s) (g) (n3) (n4) ∧ ws.length = L ∧ bs.length = nb ∧ (n3 = 0 ∨ n3 = -1) ∧ (n4 = 0 ∨ n4 = -1)
/-- What a step of the program's operation i leaves,and the document's behind it. -/
def SX (W w:World) (LK:Nat → Prop) (mb rb bb br sq rq c1 c2 v5 v6 v7 v8 yb zb L nb k:Nat) (c:Cfg) (x:CfgAt) (F:Qr) (own:Int) (i:Nat) (e:Ending) (w1:World):Prop:=
  ∃ (dn:Bool) (cd cnt:Int) (mk rg:Bool) (ds:List Int) (A:Option Addr) (n cp:Nat),e = .returned (.agg (qdV dn cd (.slice A n cp) cnt mk rg)) ∧ n = ds.length ∧ Only (fun k => ¬ LK k ∧ W.heap.size ≤ k) w w1 ∧
    Calls Tryz.prog 26 #[.pointer (some ⟨po v5 v6 v7 v8 i,0,none⟩),.slice (some ⟨yb,0,none⟩) L L,.slice (some ⟨zb,0,none⟩) nb nb] w1 fun e w' => ∃ A' cp',e = .returned (.agg (qdV dn cd (.slice A' ds.length cp') cnt mk rg)) ∧ IntRowK .u32 w' w'.heap.size A ds ∧ IntRowK .u32 w' w'.heap.size A' ds ∧ ds.length ≤ 1000000 ∧ RSx W w' LK mb rb bb br sq rq c1 c2 v5 v6 v7 v8 yb zb L nb k c x F own ∧ Only (fun k => ¬ LK k ∧ W.heap.size ≤ k) w w'
theorem opown_b (ob:Nat) (o:Int) (w:World) (h:w.cell? ⟨ob,0,none⟩ = some (.int .u32 o)):Calls Tryz.prog 27 #[.pointer (some ⟨ob,0,none⟩)] w fun e w' => e = .returned (.int .u32 o) ∧ w = w':=by
  go_enter Tryz.func27,Tryz.ntmps27
  go_wp2
  go_ret
  exact ⟨rfl,rfl⟩
section
variable {W w w':World} {LK:Nat → Prop} {mb rb bb br sq rq c1 c2 v5 v6 v7 v8 yb zb L nb k:Nat} {c:Cfg} {x:CfgAt} {F:Qr} {own:Int}
theorem RSx.later (h:RSx W w LK mb rb bb br sq rq c1 c2 v5 v6 v7 v8 yb zb L nb k c x F own) (hb:Below w.heap.size w w'):RSx W w' LK mb rb bb br sq rq c1 c2 v5 v6 v7 v8 yb zb L nb k c x F own:=by
  obtain ⟨ED,db,dof,dc,ws,bs,s,g,n3,n4,h,r⟩:=h
  exact ⟨ED,db,dof,dc,ws,bs,s,g,n3,n4,h.later hb,r⟩
theorem RSx.lk (h:RSx W w LK mb rb bb br sq rq c1 c2 v5 v6 v7 v8 yb zb L nb k c x F own):∀ k,LK k → W.heap.size ≤ k ∧ k < w.heap.size:=by
  obtain ⟨ED,db,dof,dc,ws,bs,s,g,n3,n4,h,r⟩:=h
  exact fun k hk => (h.lk k hk).2
theorem RSx.below (h:RSx W w LK mb rb bb br sq rq c1 c2 v5 v6 v7 v8 yb zb L nb k c x F own):Below W.heap.size W w:=by
  obtain ⟨ED,db,dof,dc,ws,bs,s,g,n3,n4,h,r⟩:=h
  exact h.d4.bel
theorem RSx.open (h:RSx W w LK mb rb bb br sq rq c1 c2 v5 v6 v7 v8 yb zb L nb k c x F own):∃ ws bs,MemAt w mb rb ws ∧ Bel.SetAt w bb br bs ∧ WordsAt w yb ws ∧ Bel.BellsAt w zb bs ∧ ws.length = L ∧ bs.length = nb ∧ W32 ws ∧ L ≤ 1000000:=by
  obtain ⟨ED,db,dof,dc,ws,bs,s,g,n3,n4,h,rfl,rfl,-⟩:=h
  obtain ⟨S3,S4,hq,-⟩:=h.p4.ex
  exact ⟨ws,bs,hq.mem,hq.bel,h.d4.a5.row,h.d4.a5.bel,rfl,rfl,hq.w32,hq.fin.max⟩
theorem RSx.num (h:RSx W w LK mb rb bb br sq rq c1 c2 v5 v6 v7 v8 yb zb L nb k c x F own) (i:Nat) (hi:i < 4):∃ o,w.cell? ⟨po sq rq c1 c2 i,0,none⟩ = some (.int .u32 o) ∧ w.cell? ⟨po v5 v6 v7 v8 i,8,none⟩ = some (.int .u32 o):=by
  obtain ⟨ED,db,dof,dc,ws,bs,s,g,n3,n4,h,-⟩:=h
  obtain ⟨S3,S4,hq,h3,h4,-⟩:=h.p4.ex
  match i,hi with
  | 0,_ => obtain ⟨ce,sv,hb⟩:=hq.ownS;exact ⟨s.own,hb.cell rfl,cell_blk h.d4.a5.blk rfl⟩
  | 1,_ => obtain ⟨ce,sv,hb⟩:=hq.ownG;obtain ⟨A,cp,h6,-⟩:=h.d4.a6;exact ⟨g.own,hb.cell rfl,cell_blk h6.blk rfl⟩
  | 2,_ => obtain ⟨ce,sv,m,fs,hb,-⟩:=h3;exact ⟨own,hb.cell rfl,cell_blk h.d4.a7.blk rfl⟩
  | 3,_ => obtain ⟨ce,sv,m,fs,hb,-⟩:=h4;exact ⟨own,hb.cell rfl,cell_blk h.d4.a8.blk rfl⟩
theorem qrecv_len (F:Qr) (g:QS) (ws:List Int):(qrecv F g ws).2.2.data.length ≤ g.data.length:=by
  unfold qrecv
  split;simp [qd0]
  split;split <;> simp [qd0]
  split;simp [qd0]
  split;simp [qd0]
  simp [qd0]
theorem RSx.step (h:RSx W w LK mb rb bb br sq rq c1 c2 v5 v6 v7 v8 yb zb L nb k c x F own) (i:Nat) (hi:i < 4):Calls Tryz.prog 25 #[.pointer (some ⟨po sq rq c1 c2 i,0,none⟩),.pointer (some ⟨mb,0,none⟩),.pointer (some ⟨bb,0,none⟩),.int .i64 0] w (SX W w LK mb rb bb br sq rq c1 c2 v5 v6 v7 v8 yb zb L nb k c x F own i):=by
  obtain ⟨ED,db,dof,dc,ws,bs,s,g,n3,n4,hb,e1,e2,hn3,hn4⟩:=h
  have hq0:=hb.d4.cfg.2.2.2.2
  have hnum:=hb.d4.nums
  match i,hi with
  | 0,_ =>
    refine (RSb.send hb).mono ?_
    rintro e w1 ⟨rfl,ho1,hC⟩
    refine ⟨_,_,_,_,_,[],none,0,0,rfl,rfl,ho1,?_⟩
    rw [e1,e2] at hC
    refine hC.mono ?_
    rintro e w' ⟨rfl,hx,ho⟩
    refine ⟨none,0,rfl,(OwnsOff.row32 (ds:=[]) (OwnsOff.nil w' 0 34 1)).2,(OwnsOff.row32 (ds:=[]) (OwnsOff.nil w' 0 34 1)).2,by show 0 ≤ 1000000;omega,?_,ho⟩

    exact ⟨ED,db,dof,dc,_,_,_,g,n3,n4,hx,by rw [(qsend_w (F:=F) hnum.2.2.2.2.1 hnum.2.2.1 (by have:=hnum.1.2;have:=hq0.1.low;omega)).2.1,e1],by rw [ringB12_len,e2],hn3,hn4⟩
  | 1,_ =>
    refine hb.recv.mono ?_
    rintro e w1 ⟨v,rfl,hv,ho1,hC⟩
    obtain ⟨A,cp,rfl,-⟩:=hv.slice
    refine ⟨_,_,_,_,_,(qrecv F g ws).2.2.data,A,_,cp,rfl,rfl,ho1,?_⟩
    rw [e1,e2] at hC
    refine hC.mono ?_
    rintro e w' ⟨A',sn,cp',rfl,rfl,hr',hr,h32,⟨ED',hx⟩,ho⟩
    refine ⟨A',cp',rfl,hr.row32.2,hr'.row32.2,by have:=qrecv_len F g ws;have:=hnum.2.1.1;have:=hq0.1.low;omega,⟨ED',db,dof,dc,_,_,s,_,n3,n4,hx,by rw [(qrecv_w (F:=F) hnum.2.2.2.2.1 hnum.2.2.2.1).2.1,e1],e2,hn3,hn4⟩,ho⟩
  | 2,_ =>
    rcases hn3 with rfl | rfl
    · skip
      refine (RSb.cs hb).mono ?_
      rintro e w1 ⟨rfl,ho1,hC⟩
      refine ⟨_,_,_,_,_,[],none,0,0,rfl,rfl,ho1,?_⟩
      rw [e1,e2] at hC
      refine hC.mono ?_
      rintro e w' ⟨rfl,hx,ho⟩
      refine ⟨none,0,rfl,(OwnsOff.row32 (ds:=[]) (OwnsOff.nil w' 0 34 1)).2,(OwnsOff.row32 (ds:=[]) (OwnsOff.nil w' 0 34 1)).2,by show 0 ≤ 1000000;omega,?_,ho⟩

      exact ⟨ED,db,dof,dc,_,_,s,g,-1,n4,hx,e1,e2,.inr rfl,hn4⟩
    · skip
      refine (RSb.csn hb).mono ?_
      rintro e w1 ⟨rfl,ho1,hC⟩
      refine ⟨_,_,_,_,_,[],none,0,0,rfl,rfl,ho1,?_⟩
      rw [e1,e2] at hC
      refine hC.mono ?_
      rintro e w' ⟨rfl,hx,ho⟩
      refine ⟨none,0,rfl,(OwnsOff.row32 (ds:=[]) (OwnsOff.nil w' 0 34 1)).2,(OwnsOff.row32 (ds:=[]) (OwnsOff.nil w' 0 34 1)).2,by show 0 ≤ 1000000;omega,?_,ho⟩

      exact ⟨ED,db,dof,dc,_,_,s,g,-1,n4,hx,e1,e2,.inr rfl,hn4⟩
  | 3,_ =>
    rcases hn4 with rfl | rfl
    · skip
      refine (RSb.cr hb).mono ?_
      rintro e w1 ⟨rfl,ho1,hC⟩
      refine ⟨_,_,_,_,_,[],none,0,0,rfl,rfl,ho1,?_⟩
      rw [e1,e2] at hC
      refine hC.mono ?_
      rintro e w' ⟨rfl,hx,ho⟩
      refine ⟨none,0,rfl,(OwnsOff.row32 (ds:=[]) (OwnsOff.nil w' 0 34 1)).2,(OwnsOff.row32 (ds:=[]) (OwnsOff.nil w' 0 34 1)).2,by show 0 ≤ 1000000;omega,?_,ho⟩

      exact ⟨ED,db,dof,dc,_,_,s,g,n3,-1,hx,e1,e2,hn3,.inr rfl⟩
    · skip
      refine (RSb.crn hb).mono ?_
      rintro e w1 ⟨rfl,ho1,hC⟩
      refine ⟨_,_,_,_,_,[],none,0,0,rfl,rfl,ho1,?_⟩
      rw [e1,e2] at hC
      refine hC.mono ?_
      rintro e w' ⟨rfl,hx,ho⟩
      refine ⟨none,0,rfl,(OwnsOff.row32 (ds:=[]) (OwnsOff.nil w' 0 34 1)).2,(OwnsOff.row32 (ds:=[]) (OwnsOff.nil w' 0 34 1)).2,by show 0 ≤ 1000000;omega,?_,ho⟩

      exact ⟨ED,db,dof,dc,_,_,s,g,n3,-1,hx,e1,e2,hn3,.inr rfl⟩
end
/-- What is held may be made more,on the way. -/
theorem wpAnyH_more {P:Program} {md:Region.Mode} {ops:Array Oper} {Q:Exit → Act → World → Prop} {S S':World → Prop} (hS:∀ w,S' w → S w):∀ (fuel:Nat) {listed:Array Bool} {a:Act} {w:World},wpAnyH P md ops Q S' fuel listed a w → wpAnyH P md ops Q S fuel listed a w
  | 0,_,_,_,h => h
  | fuel + 1,_,_,_,h => ⟨h.1,fun i hi => wpOp_mono (fun a' w' h' => ⟨hS _ h'.1,wpAnyH_more hS fuel h'.2⟩) (h.2 i hi)⟩
end Go.Proofs.YtmhpcgcloojfbaaGreat
end
section
namespace Go.Proofs.YtmhpcgcloojfbaaGreat
open Go.RowKit Go.Sort
set_option linter.unusedVariables false
set_option linter.unusedSimpArgs false
set_option linter.unusedVariables false
set_option linter.unusedSimpArgs false
open Go.Proofs.YtmhpcgcloojfbaaGreat.Simp
set_option maxRecDepth 100000
set_option maxHeartbeats 12800000
theorem lcell {w:World} {b a0 a1 a2 a3:Nat} {t:TypeId} (h:w.heap[b]? = some (.cells #[.pointer (some ⟨a0,0,none⟩),.pointer (some ⟨a1,0,none⟩),.pointer (some ⟨a2,0,none⟩),.pointer (some ⟨a3,0,none⟩)] t (0,0))) {i:Nat} (hi:i < 4):w.cell? ⟨b,i,none⟩ = some (.pointer (some ⟨po a0 a1 a2 a3 i,0,none⟩)):=by
  match i,hi with
  | 0,_ => exact cell_blk h rfl
  | 1,_ => exact cell_blk h rfl
  | 2,_ => exact cell_blk h rfl
  | 3,_ => exact cell_blk h rfl
theorem RSx.begin {W w6 w7 w8 w9 w10 w:World} {S1 S2 S3 S4:Nat → Prop} {mb rb bb br sq rq c1 c2 v5 v6 v7 v8 yb zb db dof dc k lb qb:Nat} {c:Cfg} {x:CfgAt} {F:Qr} {own:Int} {ws data:List Int} {bs:List Bool}
    (hq:Quo W w6 W.heap.size (fun k => k = yb ∨ k = zb ∨ k = db) mb rb bb br F (2 * k + 1) ws bs none none)
    (hs:SAt w7 S1 sq F (2 * k + 1) (startQ data own)) (hS1:∀ k,S1 k → w6.heap.size ≤ k) (hb7:Below w6.heap.size w6 w7)
    (hg:GAt w8 S2 rq F (2 * k + 1) (startQ [] own)) (hS2:∀ k,S2 k → w7.heap.size ≤ k) (hb8:Below w7.heap.size w7 w8)
    (hc1:CAt w9 S3 c1 F (2 * k + 1) own true 0) (hS3:∀ k,S3 k → w8.heap.size ≤ k) (hb9:Below w8.heap.size w8 w9)
    (hc2:CAt w10 S4 c2 F (2 * k + 1) own false 0) (hS4:∀ k,S4 k → w9.heap.size ≤ k) (hb10:Below w9.heap.size w9 w10)
    (hb:Below w10.heap.size w10 w)
    (hn:(w10.heap.size ≤ v5 ∧ w10.heap.size ≤ v6 ∧ w10.heap.size ≤ v7 ∧ w10.heap.size ≤ v8 ∧ w10.heap.size ≤ lb ∧ w10.heap.size ≤ qb) ∧ (v5 < w.heap.size ∧ v6 < w.heap.size ∧ v7 < w.heap.size ∧ v8 < w.heap.size ∧ lb < w.heap.size ∧ qb < w.heap.size))
    (hne:v5 ≠ lb ∧ v6 ≠ lb ∧ v7 ≠ lb ∧ v8 ≠ lb ∧ v5 ≠ qb ∧ v6 ≠ qb ∧ v7 ≠ qb ∧ v8 ≠ qb)
    (hx:CfgIn W W.heap.size c x) (wx:CfgWf c) (lx:CfgFew c) (hF:QrOf c k F) (h0:0 ≤ own ∧ own ≤ 4294967295) (hdl:data.length ≤ F.n) (hd32:W32 data)
    (hy:WordsAt w6 yb ws) (hz:Bel.BellsAt w6 zb bs)
    (b5:w.heap[v5]? = some (.cells (dqV c x k 5 own false (.slice (some ⟨db,dof,none⟩) data.length dc) 0 0) 73 (0,0)))
    (b6:w.heap[v6]? = some (.cells (dqV c x k 6 own false (.slice none 0 0) 0 0) 73 (0,0)))
    (b7:w.heap[v7]? = some (.cells (dqV c x k 7 own true (.slice none 0 0) 0 0) 73 (0,0)))
    (b8:w.heap[v8]? = some (.cells (dqV c x k 7 own false (.slice none 0 0) 0 0) 73 (0,0)))
    (hdat:∃ cs mm,w6.heap[db]? = some (.cells cs 34 mm) ∧ ∀ j,j < data.length → cs[dof + j]? = some (.int .u32 (data.getD j 0)))
    (dif:v5 ≠ v6 ∧ v5 ≠ v7 ∧ v5 ≠ v8 ∧ v6 ≠ v7 ∧ v6 ≠ v8 ∧ v7 ≠ v8 ∧ db ≠ yb) (hBy:W.heap.size ≤ yb ∧ W.heap.size ≤ zb) :
    RSx W w (fun q => q = lb ∨ q = qb) mb rb bb br sq rq c1 c2 v5 v6 v7 v8 yb zb ws.length bs.length k c x F own:=by
  have e7:=hb7.size;have e8:=hb8.size;have e9:=hb9.size;have e10:=hb10.size;have e:=hb.size
  have hBw:=hq.below.size
  have hyl:=hy.lt;have hzl:=hz.lt
  have h610:Below w6.heap.size w6 w10:=hb7.trans ((hb8.trans ((hb9.trans (hb10.mono e9)).mono e8)).mono e7)
  have h6w:Below w6.heap.size w6 w:=h610.trans (hb.mono (by omega))
  have hdl2:db < w6.heap.size:=by obtain ⟨cs,mm,h1,-⟩:=hdat;exact (Array.getElem?_eq_some_iff.1 h1).1
  have hp:=P4.start ((hq.newS hs hS1 hb7 ⟨hd32,h0⟩).newG hg hS2 hb8 ⟨w32_nil,h0⟩) hc1 hS3 hb9 hc2 hS4 hb10
  refine ⟨fun q => q = v5 ∨ q = v6 ∨ q = v7 ∨ q = v8 ∨ q = yb ∨ q = zb ∨ q = db,db,dof,dc,ws,bs,startQ data own,startQ [] own,0,0,⟨hp.only (T:=fun _ => False) (Only.of_below hb) (fun _ _ h => h.elim) (fun q hq => ?_),D4.start (hq.below.trans (h6w.mono hBw)) hx wx lx hF hq.fin hq.belt h0 hq.w32 hdl hd32 (hy.of (h6w.block yb hyl)) (hz.of (h6w.block zb hzl)) b5 b6 b7 b8 ?_ dif ⟨⟨.inl rfl,.inr (.inl rfl),.inr (.inr (.inl rfl)),.inr (.inr (.inr (.inl rfl))),.inr (.inr (.inr (.inr (.inl rfl)))),.inr (.inr (.inr (.inr (.inr (.inl rfl)))))⟩,by omega,by omega,by omega,by omega,hBy.1,hBy.2⟩,.inr (.inr (.inr (.inr (.inr (.inr rfl))))),fun q hq => ?_⟩,rfl,rfl,.inl rfl,.inl rfl⟩
  · rcases hq with (rfl | rfl | rfl | rfl | h | h | h) | (rfl | rfl)
    · exact .inr (by omega)
    · exact .inr (by omega)
    · exact .inr (by omega)
    · exact .inr (by omega)
    · exact .inl (.inl h)
    · exact .inl (.inr (.inl h))
    · exact .inl (.inr (.inr h))
    · exact .inr (by omega)
    · exact .inr (by omega)
  · obtain ⟨cs,mm,h1,h2⟩:=hdat
    exact ⟨cs,mm,(h6w.block db hdl2).trans h1,h2⟩
  · rcases hq with rfl | rfl
    · exact ⟨by omega,by omega⟩
    · exact ⟨by omega,by omega⟩
end Go.Proofs.YtmhpcgcloojfbaaGreat
end
