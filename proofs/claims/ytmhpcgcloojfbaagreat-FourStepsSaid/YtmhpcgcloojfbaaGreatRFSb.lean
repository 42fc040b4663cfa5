/- Texts of the ring, joined, what is used of them. No condition but those in the statements. -/
import Derived.BigQuiet
import Derived.BigRegion
import Derived.Deep.MidRow
import Derived.Deep.RegionHeld3
import Derived.Deep.Upon
import Derived.IntWalk
import Derived.Shelf.Abstract
import Derived.Test.YtmhpcgcloojfbaaGreatRFDv
import Derived.Test.YtmhpcgcloojfbaaGreatRGF
import Derived.Test.YtmhpcgcloojfbaaGreatRgN
namespace Go.Proofs.YtmhpcgcloojfbaaGreat
open Go.RowKit Go.Sort
set_option linter.unusedVariables false
set_option linter.unusedSimpArgs false
set_option linter.unusedVariables false
set_option linter.unusedSimpArgs false
open Go.Proofs.YtmhpcgcloojfbaaGreat.Simp
set_option maxRecDepth 100000
set_option maxHeartbeats 6400000
/-- How far a write,a read may have come. -/
def SWok (F:Fr) (s:FS):Prop:=(s.pair ≤ 1 ∧ s.index ≤ 1) ∧ s.data.length ≤ F.n ∧ s.no ≤ 5 + (s.data.length:Int) ∧ W32 s.data
def SRok (F:Fr) (s:FS):Prop:=(s.pair ≤ 1 ∧ s.index ≤ 1) ∧ s.data.length ≤ F.n ∧ s.no ≤ 30 ∧ (0 ≤ s.no → s.no ≤ 4 → s.data = []) ∧ (s.no = 4 → 1 ≤ s.len ∧ s.len ≤ F.n) ∧ (5 ≤ s.no → s.no = 5 + (s.data.length:Int) ∧ (s.data.length:Int) < s.len ∧ s.len ≤ F.n) ∧ (0 ≤ s.stamp ∧ s.stamp ≤ 4294967295)
theorem SWok.step {F:Fr} {s:FS} {ws:List Int} {now:Int} (h:SWok F s):SWok F (wstep F s ws now).1 ∧ (wstep F s ws now).1.data = s.data:=by
  obtain ⟨⟨h1,h2⟩,h3,h4,h5⟩:=h
  have o1:=oddN_le (rd ws F.dst);have o2:=oddN_le (rd ws (F.src + 1 + s.pair))
  unfold wstep
  split;exact ⟨⟨⟨h1,h2⟩,h3,h4,h5⟩,rfl⟩
  split;exact ⟨⟨⟨by show 1 - oddN (rd ws F.dst) ≤ 1;omega,h2⟩,h3,by show (1:Int) ≤ 5 + (s.data.length:Int);omega,h5⟩,rfl⟩
  split;exact ⟨⟨⟨h1,by show 1 - oddN (rd ws (F.src + 1 + s.pair)) ≤ 1;omega⟩,h3,by show (2:Int) ≤ 5 + (s.data.length:Int);omega,h5⟩,rfl⟩
  split;exact ⟨⟨⟨h1,h2⟩,h3,by show (3:Int) ≤ 5 + (s.data.length:Int);omega,h5⟩,rfl⟩
  split;exact ⟨⟨⟨h1,h2⟩,h3,by show (4:Int) ≤ 5 + (s.data.length:Int);omega,h5⟩,rfl⟩
  split;exact ⟨⟨⟨h1,h2⟩,h3,by show s.no + 1 ≤ 5 + (s.data.length:Int);omega,h5⟩,rfl⟩
  split;exact ⟨⟨⟨h1,h2⟩,h3,by show s.no + 1 ≤ 5 + (s.data.length:Int);omega,h5⟩,rfl⟩
  exact ⟨⟨⟨h1,h2⟩,h3,by show (-1:Int) ≤ 5 + (s.data.length:Int);omega,h5⟩,rfl⟩
theorem lenOf_in {F:Fr} {v:Int} (h:0 ≤ v):0 ≤ lenOf F v ∧ lenOf F v ≤ F.n:=by
  unfold lenOf;split <;> omega
theorem SRok.step {F:Fr} {s:FS} {ws:List Int} {now:Int} (h:SRok F s) (h32:W32 ws) (hn:F.n ≤ 16):SRok F (rstep F s ws now).1 ∧ (rstep F s ws now).2.2.data.length ≤ 1000000 ∧ W32 ws:=by
  obtain ⟨⟨h1,h2⟩,h3,h4,h5,h6,h7,h8⟩:=h
  have o1:=oddN_le (rd ws F.src);have o2:=oddN_le (rd ws (F.src + 1 + s.pair))
  have l1:=lenOf_in (F:=F) (h32 (bufOf F s)).1
  have s1:=h32 (bufOf F s + 1)
  unfold rstep
  split;exact ⟨⟨⟨h1,h2⟩,h3,h4,h5,h6,h7,h8⟩,Nat.zero_le _,h32⟩
  split
  · exact ⟨⟨⟨o1,h2⟩,h3,by show (1:Int) ≤ 30;omega,fun _ _ => h5 (by omega) (by omega),fun a => absurd (show (1:Int) = 4 from a) (by omega),fun a => absurd (show (5:Int) ≤ 1 from a) (by omega),h8⟩,Nat.zero_le _,h32⟩
  split
  · exact ⟨⟨⟨h1,h2⟩,h3,by show (2:Int) ≤ 30;omega,fun _ _ => h5 (by omega) (by omega),fun a => absurd (show (2:Int) = 4 from a) (by omega),fun a => absurd (show (5:Int) ≤ 2 from a) (by omega),h8⟩,Nat.zero_le _,h32⟩
  split
  · exact ⟨⟨⟨h1,o2⟩,h3,by show (3:Int) ≤ 30;omega,fun _ _ => h5 (by omega) (by omega),fun a => absurd (show (3:Int) = 4 from a) (by omega),fun a => absurd (show (5:Int) ≤ 3 from a) (by omega),h8⟩,Nat.zero_le _,h32⟩
  split
  · split
    · exact ⟨⟨⟨h1,h2⟩,h3,by show (-1:Int) ≤ 30;omega,fun a => absurd (show (0:Int) ≤ -1 from a) (by omega),fun a => absurd (show (-1:Int) = 4 from a) (by omega),fun a => absurd (show (5:Int) ≤ -1 from a) (by omega),h8⟩,Nat.zero_le _,h32⟩
    · exact ⟨⟨⟨h1,h2⟩,h3,by show (4:Int) ≤ 30;omega,fun _ _ => h5 (by omega) (by omega),fun _ => by show 1 ≤ lenOf F (rd ws (bufOf F s)) ∧ lenOf F (rd ws (bufOf F s)) ≤ F.n;omega,fun a => absurd (show (5:Int) ≤ 4 from a) (by omega),h8⟩,Nat.zero_le _,h32⟩
  split
  · rename_i z4
    have hd:=h5 (by omega) (by omega)
    obtain ⟨q1,q2⟩:=h6 z4
    refine ⟨⟨⟨h1,h2⟩,h3,by show (5:Int) ≤ 30;omega,fun _ a => absurd (show (5:Int) ≤ 4 from a) (by omega),fun a => absurd (show (5:Int) = 4 from a) (by omega),fun _ => ?_,s1⟩,Nat.zero_le _,h32⟩
    show (5:Int) = 5 + (s.data.length:Int) ∧ (s.data.length:Int) < s.len ∧ s.len ≤ F.n
    rw [hd]
    exact ⟨rfl,by show (0:Int) < s.len;omega,q2⟩
  obtain ⟨p1,p2,p3⟩:=h7 (by omega)
  have hlen:(s.data ++ [rd ws (bufOf F s + (s.no - 3).toNat)]).length = s.data.length + 1:=by simp
  split
  · exact ⟨⟨⟨h1,h2⟩,by show (s.data ++ [rd ws (bufOf F s + (s.no - 3).toNat)]).length ≤ F.n;rw [hlen];omega,by show (-1:Int) ≤ 30;omega,fun a => absurd (show (0:Int) ≤ -1 from a) (by omega),fun a => absurd (show (-1:Int) = 4 from a) (by omega),fun a => absurd (show (5:Int) ≤ -1 from a) (by omega),h8⟩,by show (s.data ++ [rd ws (bufOf F s + (s.no - 3).toNat)]).length ≤ 1000000;rw [hlen];omega,h32⟩
  · refine ⟨⟨⟨h1,h2⟩,by show (s.data ++ [rd ws (bufOf F s + (s.no - 3).toNat)]).length ≤ F.n;rw [hlen];omega,by show s.no + 1 ≤ 30;omega,fun _ a => absurd (show s.no + 1 ≤ 4 from a) (by omega),fun a => absurd (show s.no + 1 = 4 from a) (by omega),fun _ => ?_,h8⟩,Nat.zero_le _,h32⟩
    show s.no + 1 = 5 + ((s.data ++ [rd ws (bufOf F s + (s.no - 3).toNat)]).length:Int) ∧ ((s.data ++ [rd ws (bufOf F s + (s.no - 3).toNat)]).length:Int) < s.len ∧ s.len ≤ F.n
    rw [hlen];push_cast;omega
section
variable {W w w':World} {ED LK:Nat → Prop} {mb rb wb qb vw vr yb db dof cap k:Nat} {c:Cfg} {x:CfgAt} {F:Fr} {ws:List Int} {s r:FS}
theorem VAt.only {vb:Nat} {wr:Bool} {dv:Value} {a:Int} {p i:Nat} {len st:Int} {mk:Bool} (h:VAt W w vb yb c x k F ws wr dv a p i len st mk) {T:Nat → Prop} (ho:Only T w w') (hb:Below W.heap.size W w') (h1:¬ T vb ∧ ¬ T yb):VAt W w' vb yb c x k F ws wr dv a p i len st mk:=
  ⟨hb,ho.at_ h.blk h1.1,h.row.of (ho.block yb h.row.lt h1.2),h.ne,h.cfg,h.wf,h.few,h.fr,h.len,h.w32⟩
theorem VAt.with {vb vb2:Nat} {wr wr2:Bool} {dv dv2:Value} {a a2:Int} {p i p2 i2:Nat} {len st len2 st2:Int} {mk mk2:Bool} {ws2:List Int} (h:VAt W w vb yb c x k F ws wr dv a p i len st mk) (h2:VAt W w' vb2 yb c x k F ws2 wr2 dv2 a2 p2 i2 len2 st2 mk2) (e:w'.heap[vb]? = w.heap[vb]?):VAt W w' vb yb c x k F ws2 wr dv a p i len st mk:=
  ⟨h2.below,e.trans h.blk,h2.row,h.ne,h.cfg,h.wf,h.few,h.fr,h2.len,h2.w32⟩
/-- The document's write and read on one list of words (block yb). -/
structure F4 (W w:World) (ED:Nat → Prop) (vw vr yb db dof cap k:Nat) (c:Cfg) (x:CfgAt) (F:Fr) (ws:List Int) (s r:FS):Prop where
  aw:VAt W w vw yb c x k F ws true (.slice (some ⟨db,dof,none⟩) s.data.length cap) s.no s.pair s.index 0 0 s.marked
  ar:∃ A cp,VAt W w vr yb c x k F ws false (.slice A r.data.length cp) r.no r.pair r.index r.len r.stamp false ∧ OwnsOff w 0 34 1 (.slice A r.data.length cp) r.data.length (wcells r.data) ∧ ∀ b,Value.ownBlock (.slice A r.data.length cp) = some b → ED b ∧ W.heap.size ≤ b ∧ b ≠ yb ∧ b ≠ db
  dat:∃ cs mm,w.heap[db]? = some (.cells cs 34 mm) ∧ ∀ j,j < s.data.length → cs[dof + j]? = some (.int .u32 (s.data.getD j 0))
  dif:vw ≠ vr ∧ db ≠ yb
  inn:ED vw ∧ ED vr ∧ ED yb
  nums:SWok F s ∧ SRok F r ∧ F.n ≤ 16
theorem F4.below (h:F4 W w ED vw vr yb db dof cap k c x F (ws) (s) (r)):Below W.heap.size W w:=h.aw.below
theorem F4.only (h:F4 W w ED vw vr yb db dof cap k c x F (ws) (s) (r)) {T:Nat → Prop} (ho:Only T w w') (hT:∀ q,T q → ¬ ED q ∧ q ≠ db) (hb:Below W.heap.size W w') {ED':Nat → Prop} (hE:∀ q,ED q → ED' q):F4 W w' ED' vw vr yb db dof cap k c x F (ws) (s) (r):=by
  obtain ⟨aw,⟨A,cp,ar,rr,og⟩,dat,dif,inn,nums⟩:=h
  have hy:¬ T yb:=fun a => (hT yb a).1 inn.2.2
  refine ⟨aw.only ho hb ⟨fun a => (hT _ a).1 inn.1,hy⟩,⟨A,cp,ar.only ho hb ⟨fun a => (hT _ a).1 inn.2.1,hy⟩,rr.kept ho (fun b hb a => (hT b a).1 (og b hb).1),fun b hb => ⟨hE b (og b hb).1,(og b hb).2⟩⟩,?_,dif,⟨hE _ inn.1,hE _ inn.2.1,hE _ inn.2.2⟩,nums⟩
  obtain ⟨cs,mm,h1,h2⟩:=dat
  exact ⟨cs,mm,(ho.block db (Array.getElem?_eq_some_iff.1 h1).1 (fun a => (hT db a).2 rfl)).trans h1,h2⟩
theorem vne {vb b n cp:Nat} {wr:Bool} {dv:Value} {a:Int} {p i:Nat} {len st:Int} {mk:Bool} {A:Option Addr} {xs:List Value} (h:VAt W w vb yb c x k F ws wr dv a p i len st mk) (hr:OwnsOff w 0 34 1 (.slice A n cp) n xs) (hb:Value.ownBlock (.slice A n cp) = some b):b ≠ vb:=fun e => by
  obtain ⟨cs,hc⟩:=hr.typed b hb
  rw [e] at hc;have q:=h.blk;rw [hc] at q;injection q with q3;injection q3 with q4 q5;exact absurd q5 (by decide)
theorem dbne {vb:Nat} {wr:Bool} {dv:Value} {a:Int} {p i:Nat} {len st:Int} {mk:Bool} {cs:Array Value} {mm:Nat × Nat} (h:VAt W w vb yb c x k F ws wr dv a p i len st mk) (hc:w.heap[db]? = some (.cells cs 34 mm)):db ≠ vb:=fun e => by
  rw [e] at hc;have q:=h.blk;rw [hc] at q;injection q with q3;injection q3 with q4 q5;exact absurd q5 (by decide)
theorem F4.write (now:Int) (hnow:0 ≤ now ∧ now ≤ 1000000) (h:F4 W w ED vw vr yb db dof cap k c x F (ws) (s) (r)):Calls Tryz.prog 16 #[.pointer (some ⟨vw,0,none⟩),.slice (some ⟨yb,0,none⟩) ws.length ws.length,.int .i64 now] w fun e w' => e = .returned (.agg (didOf (wstep F s ws now).2.2 (.slice none 0 0))) ∧ F4 W w' ED vw vr yb db dof cap k c x F ((wstep F s ws now).2.1) ((wstep F s ws now).1) (r) ∧ Only (fun q => ED q ∧ W.heap.size ≤ q) w w':=by
  obtain ⟨aw,⟨A,cp,ar,rr,og⟩,dat,dif,inn,nums⟩:=h
  obtain ⟨n1,n2⟩:=nums.1.step (ws:=ws) (now:=now)
  refine (fstepW_b s now aw nums.1.1 nums.1.2.1 nums.1.2.2.1 hnow nums.1.2.2.2 dat dif.2).mono ?_
  rintro e w' ⟨rfl,hv,ho⟩
  have hrl:=(Array.getElem?_eq_some_iff.1 ar.blk).1
  refine ⟨rfl,⟨by rw [n2];exact hv,⟨A,cp,ar.with hv (ho.block vr hrl (by rintro (e | e);exact dif.1 e.symm;exact ar.ne.1 e)),rr.kept ho (fun b hb => by rintro (e | e);exact vne aw rr hb e;exact (og b hb).2.2.1 e),og⟩,?_,dif,inn,⟨n1,nums.2⟩⟩,ho.mono fun q _ hq => by rcases hq with rfl | rfl;exact ⟨inn.1,aw.ne.2.1⟩;exact ⟨inn.2.2,aw.ne.2.2⟩⟩
  obtain ⟨cs,mm,h1,h2⟩:=dat
  rw [n2]
  exact ⟨cs,mm,(ho.block db (Array.getElem?_eq_some_iff.1 h1).1 (by rintro (e | e);exact dbne aw h1 e;exact dif.2 e)).trans h1,h2⟩
theorem F4.read (now:Int) (hnow:0 ≤ now ∧ now ≤ 1000000) (h:F4 W w ED vw vr yb db dof cap k c x F (ws) (s) (r)):Calls Tryz.prog 16 #[.pointer (some ⟨vr,0,none⟩),.slice (some ⟨yb,0,none⟩) ws.length ws.length,.int .i64 now] w fun e w' => ∃ sa sn sc,e = .returned (.agg (didOf (rstep F r ws now).2.2 (.slice sa sn sc))) ∧ sn = (rstep F r ws now).2.2.data.length ∧ OwnsOff w' 0 34 1 (.slice sa sn sc) sn (wcells (rstep F r ws now).2.2.data) ∧ F4 W w' (fun q => ED q ∨ (w.heap.size ≤ q ∧ q < w'.heap.size)) vw vr yb db dof cap k c x F ((rstep F r ws now).2.1) (s) ((rstep F r ws now).1) ∧ Only (fun q => ED q ∧ W.heap.size ≤ q) w w':=by
  obtain ⟨aw,⟨A,cp,ar,rr,og⟩,dat,dif,inn,nums⟩:=h
  obtain ⟨n1,n2,-⟩:=nums.2.1.step (now:=now) aw.w32 nums.2.2
  obtain ⟨m1,m2,m3,m4,m5,m6,m7⟩:=nums.2.1
  refine (fstepR_b r now ar m1 m2 m3 m6 m7 hnow rr (fun e => (og yb e).2.2.1 rfl) (fun g hg => (og g hg).2.1)).mono ?_
  rintro e w' ⟨A',cp',sa,sn,sc,rfl,⟨hsn,hv4⟩,hv,hrow,hg,ho⟩
  have hwl:=(Array.getElem?_eq_some_iff.1 aw.blk).1
  have hs:=ho.size;have hbs:=aw.below.size
  have hdl:db < w.heap.size:=by obtain ⟨cs,mm,h1,-⟩:=dat;exact (Array.getElem?_eq_some_iff.1 h1).1
  have hyl:=aw.row.lt
  refine ⟨sa,sn,sc,rfl,hsn,?_,⟨aw.with hv (ho.block vw hwl (by rintro (e | e | e);exact dif.1 e;exact aw.ne.1 e;exact vne aw rr e rfl)),⟨A',cp',hv,hrow,fun b hb => ?_⟩,?_,dif,⟨.inl inn.1,.inl inn.2.1,.inl inn.2.2⟩,⟨nums.1,n1,nums.2.2⟩⟩,ho.mono fun q _ hq => by
    rcases hq with rfl | rfl | hq
    · exact ⟨inn.2.1,ar.ne.2.1⟩
    · exact ⟨inn.2.2,ar.ne.2.2⟩
    · exact ⟨(og q hq).1,(og q hq).2.1⟩⟩
  · rcases hv4 with ⟨e1,e2⟩ | ⟨e1,e2⟩
    · rw [e1,hsn,e2];exact OwnsOff.nil ..
    · rw [e1,hsn,e2];exact hrow
  · rcases hg b hb with q | q
    · exact ⟨.inl (og b q).1,(og b q).2⟩
    · exact ⟨.inr ⟨q,(hrow.lt b hb).2⟩,by omega,by omega,by omega⟩
  · obtain ⟨cs,mm,h1,h2⟩:=dat
    exact ⟨cs,mm,(ho.block db hdl (by rintro (e | e | e);exact dbne ar h1 e;exact dif.2 e;exact (og db e).2.2.2 rfl)).trans h1,h2⟩
structure FSb (W w:World) (ED LK:Nat → Prop) (mb rb wb qb vw vr yb db dof cap k:Nat) (c:Cfg) (x:CfgAt) (F:Fr) (ws:List Int) (s r:FS):Prop where
  duo:Duo W w W.heap.size (fun q => ED q ∨ LK q) mb rb F (ws) (some (wb,s)) (some (qb,r))
  f4:F4 W w ED vw vr yb db dof cap k c x F (ws) (s) (r)
  edb:ED db
  lk:∀ q,LK q → ¬ ED q ∧ W.heap.size ≤ q ∧ q < w.heap.size
theorem belF {B:Nat} {T:Nat → Prop} (hb:Below B W w) (ho:Only T w w') (hT:∀ q,T q → B ≤ q) (hB:B ≤ W.heap.size):Below B W w':=hb.trans ⟨ho.os,ho.tape,ho.output,ho.size,fun j hj => ho.block j (by have:=hb.size;omega) (fun e => by have:=hT j e;omega)⟩
theorem FSb.write (now:Int) (hnow:0 ≤ now ∧ now ≤ 1000000) (h:FSb W w ED LK mb rb wb qb vw vr yb db dof cap k c x F (ws) (s) (r)):Calls Tryz.prog 15 #[.pointer (some ⟨wb,0,none⟩),.pointer (some ⟨mb,0,none⟩),.int .i64 now] w fun e w1 => e = .returned (.agg (didOf (wstep F s ws now).2.2 (.slice none 0 0))) ∧ Only (fun q => ¬ LK q ∧ W.heap.size ≤ q) w w1 ∧ (Calls Tryz.prog 16 #[.pointer (some ⟨vw,0,none⟩),.slice (some ⟨yb,0,none⟩) ws.length ws.length,.int .i64 now] w1 fun e w' => e = .returned (.agg (didOf (wstep F s ws now).2.2 (.slice none 0 0))) ∧ FSb W w' ED LK mb rb wb qb vw vr yb db dof cap k c x F ((wstep F s ws now).2.1) ((wstep F s ws now).1) (r) ∧ Only (fun q => ¬ LK q ∧ W.heap.size ≤ q) w w'):=by
  obtain ⟨hp,hd,hdb,hlk⟩:=h
  refine (hp.stepW now).mono ?_
  rintro e w1 ⟨rfl,hp1,ho1⟩
  have hb1:=belF hd.below ho1 (fun _ a => a.2) (Nat.le_refl _)
  have hd1:=hd.only (ED':=ED) ho1 (fun q a => ⟨fun e => a.1 (.inl e),fun e => a.1 (.inl (e ▸ hdb))⟩) hb1 (fun _ a => a)
  have ho3:Only (fun q => ¬ LK q ∧ W.heap.size ≤ q) w w1:=ho1.mono fun _ _ a => ⟨fun e => a.1 (.inr e),a.2⟩
  refine ⟨rfl,ho3,(hd1.write now hnow).mono ?_⟩
  rintro e w' ⟨rfl,hd2,ho2⟩
  have h1:=ho1.size;have h2:=ho2.size
  exact ⟨rfl,⟨hp1.only (E':=fun q => ED q ∨ LK q) ho2 (fun _ _ a => ⟨.inl a.1,a.2⟩) (fun _ a => .inl a),hd2,hdb,fun q hq => ⟨(hlk q hq).1,by have:=(hlk q hq).2;omega⟩⟩,ho3.trans (ho2.mono fun q _ a => ⟨fun e => (hlk q e).1 a.1,a.2⟩)⟩
theorem FSb.read (now:Int) (hnow:0 ≤ now ∧ now ≤ 1000000) (h:FSb W w ED LK mb rb wb qb vw vr yb db dof cap k c x F (ws) (s) (r)):Calls Tryz.prog 17 #[.pointer (some ⟨qb,0,none⟩),.pointer (some ⟨mb,0,none⟩),.int .i64 now] w fun e w1 => ∃ v,e = .returned (.agg (didOf (rstep F r ws now).2.2 v)) ∧ OwnsOff w1 0 34 1 v (rstep F r ws now).2.2.data.length (wcells (rstep F r ws now).2.2.data) ∧ Only (fun q => ¬ LK q ∧ W.heap.size ≤ q) w w1 ∧ (Calls Tryz.prog 16 #[.pointer (some ⟨vr,0,none⟩),.slice (some ⟨yb,0,none⟩) ws.length ws.length,.int .i64 now] w1 fun e w' => ∃ sa sn sc,e = .returned (.agg (didOf (rstep F r ws now).2.2 (.slice sa sn sc))) ∧ sn = (rstep F r ws now).2.2.data.length ∧ OwnsOff w' 0 34 1 (.slice sa sn sc) sn (wcells (rstep F r ws now).2.2.data) ∧ OwnsOff w' 0 34 1 v (rstep F r ws now).2.2.data.length (wcells (rstep F r ws now).2.2.data) ∧ (∃ ED':Nat → Prop,FSb W w' ED' LK mb rb wb qb vw vr yb db dof cap k c x F ((rstep F r ws now).2.1) (s) ((rstep F r ws now).1)) ∧ Only (fun q => ¬ LK q ∧ W.heap.size ≤ q) w w'):=by
  obtain ⟨hp,hd,hdb,hlk⟩:=h
  refine (hp.stepR now (by omega)).mono ?_
  rintro e w1 ⟨v,rfl,hv,hp1,-,hvb,ho1⟩
  have hb1:=belF hd.below ho1 (fun _ a => a.2) (Nat.le_refl _)
  have hd1:=hd.only (ED':=ED) ho1 (fun q a => ⟨fun e => a.1 (.inl e),fun e => a.1 (.inl (e ▸ hdb))⟩) hb1 (fun _ a => a)
  have ho3:Only (fun q => ¬ LK q ∧ W.heap.size ≤ q) w w1:=ho1.mono fun _ _ a => ⟨fun e => a.1 (.inr e),a.2⟩
  refine ⟨v,rfl,hv,ho3,(hd1.read now hnow).mono ?_⟩
  rintro e w' ⟨sa,sn,sc,rfl,hsn,hro,hd2,ho2⟩
  have h1:=ho1.size;have h2:=ho2.size
  refine ⟨sa,sn,sc,rfl,hsn,hro,hv.kept ho2 (fun b hb a => (hvb b hb).1 (.inl a.1)),⟨_,hp1.only ho2 (fun _ _ a => ⟨.inl a.1,a.2⟩) (fun q a => ?_),hd2,.inl hdb,fun q hq => ⟨?_,by have:=(hlk q hq).2;omega⟩⟩,ho3.trans (ho2.mono fun q _ a => ⟨fun e => (hlk q e).1 a.1,a.2⟩)⟩
  · rcases a with (a | a) | a
    · exact .inl (.inl a)
    · exact .inr a
    · exact .inl (.inr a)
  · rintro (a | a)
    · exact (hlk q hq).1 a
    · have:=(hlk q hq).2;omega
theorem FSb.later (h:FSb W w ED LK mb rb wb qb vw vr yb db dof cap k c x F (ws) (s) (r)) (hb:Below w.heap.size w w'):FSb W w' ED LK mb rb wb qb vw vr yb db dof cap k c x F (ws) (s) (r):=by
  obtain ⟨hp,hd,hdb,hlk⟩:=h
  have ho:Only (fun _ => False) w w':=Only.of_below hb
  have hs:=hb.size
  exact ⟨hp.later hb,hd.only (ED':=ED) ho (fun _ a => a.elim) (hd.below.trans (hb.mono hd.below.size)) (fun _ a => a),hdb,fun q hq => ⟨(hlk q hq).1,by have:=(hlk q hq).2;omega⟩⟩
end
/-- The write and the read,however far they have come;L words. -/
def FSx (W w:World) (LK:Nat → Prop) (mb rb wb qb vw vr yb L k:Nat) (c:Cfg) (x:CfgAt) (F:Fr):Prop:=
  ∃ ED db dof cap ws s r,FSb W w ED LK mb rb wb qb vw vr yb db dof cap k c x F (ws) (s) (r) ∧ ws.length = L
/-- What a step of the program's leaves,and the document's behind it. -/
def FXs (W w:World) (LK:Nat → Prop) (mb rb wb qb vw vr yb L k:Nat) (c:Cfg) (x:CfgAt) (F:Fr) (vb:Nat) (now:Int) (e:Ending) (w1:World):Prop:=
  ∃ (dn:Bool) (cd:Int) (vl mk st:Bool) (bf:Int) (ds:List Int) (A:Option Addr) (n cp:Nat),e = .returned (.agg (didV dn cd (.slice A n cp) vl mk st bf)) ∧ n = ds.length ∧ Only (fun q => ¬ LK q ∧ W.heap.size ≤ q) w w1 ∧
    (Calls Tryz.prog 16 #[.pointer (some ⟨vb,0,none⟩),.slice (some ⟨yb,0,none⟩) L L,.int .i64 now] w1 fun e w' => ∃ A' cp',e = .returned (.agg (didV dn cd (.slice A' ds.length cp') vl mk st bf)) ∧ IntRowK .u32 w' w'.heap.size A ds ∧ IntRowK .u32 w' w'.heap.size A' ds ∧ ds.length ≤ 1000000 ∧ FSx W w' LK mb rb wb qb vw vr yb L k c x F ∧ Only (fun q => ¬ LK q ∧ W.heap.size ≤ q) w w')
section
variable {W w w':World} {LK:Nat → Prop} {mb rb wb qb vw vr yb L k:Nat} {c:Cfg} {x:CfgAt} {F:Fr}
theorem FSx.later (h:FSx W w LK mb rb wb qb vw vr yb L k c x F) (hb:Below w.heap.size w w'):FSx W w' LK mb rb wb qb vw vr yb L k c x F:=by
  obtain ⟨ED,db,dof,cap,ws,s,r,h,e⟩:=h
  exact ⟨ED,db,dof,cap,ws,s,r,h.later hb,e⟩
theorem FSx.below (h:FSx W w LK mb rb wb qb vw vr yb L k c x F):Below W.heap.size W w:=by
  obtain ⟨ED,db,dof,cap,ws,s,r,h,e⟩:=h
  exact h.f4.below
theorem FSx.open (h:FSx W w LK mb rb wb qb vw vr yb L k c x F):∃ ws,MemAt w mb rb ws ∧ WordsAt w yb ws ∧ ws.length = L ∧ L ≤ 1000000:=by
  obtain ⟨ED,db,dof,cap,ws,s,r,h,rfl⟩:=h
  exact ⟨ws,h.duo.mem,h.f4.aw.row,rfl,h.duo.fin.max⟩
theorem FSx.write (now:Int) (hnow:0 ≤ now ∧ now ≤ 1000000) (h:FSx W w LK mb rb wb qb vw vr yb L k c x F):Calls Tryz.prog 15 #[.pointer (some ⟨wb,0,none⟩),.pointer (some ⟨mb,0,none⟩),.int .i64 now] w (FXs W w LK mb rb wb qb vw vr yb L k c x F vw now):=by
  obtain ⟨ED,db,dof,cap,ws,s,r,h,e1⟩:=h
  refine (h.write now hnow).mono ?_
  rintro e w1 ⟨rfl,ho1,hC⟩
  refine ⟨_,_,_,_,_,_,[],none,0,0,rfl,rfl,ho1,?_⟩
  rw [e1] at hC
  refine hC.mono ?_
  rintro e w' ⟨rfl,hx,ho⟩
  exact ⟨none,0,rfl,(OwnsOff.row32 (ds:=[]) (OwnsOff.nil w' 0 34 1)).2,(OwnsOff.row32 (ds:=[]) (OwnsOff.nil w' 0 34 1)).2,by show 0 ≤ 1000000;omega,⟨ED,db,dof,cap,_,_,r,hx,by have hn:=h.f4.nums.1;have h2:=h.f4.aw.len.n2;rw [(wstep_keep h.f4.aw.w32 (by omega) hn.2.2.2 hn.1 (by have:=hn.2.1;omega)).1,e1]⟩,ho⟩
theorem FSx.read (now:Int) (hnow:0 ≤ now ∧ now ≤ 1000000) (h:FSx W w LK mb rb wb qb vw vr yb L k c x F):Calls Tryz.prog 17 #[.pointer (some ⟨qb,0,none⟩),.pointer (some ⟨mb,0,none⟩),.int .i64 now] w (FXs W w LK mb rb wb qb vw vr yb L k c x F vr now):=by
  obtain ⟨ED,db,dof,cap,ws,s,r,h,e1⟩:=h
  refine (h.read now hnow).mono ?_
  rintro e w1 ⟨v,rfl,hv,ho1,hC⟩
  obtain ⟨A,cp,rfl,-⟩:=hv.slice
  refine ⟨_,_,_,_,_,_,(rstep F r ws now).2.2.data,A,_,cp,rfl,rfl,ho1,?_⟩
  rw [e1] at hC
  refine hC.mono ?_
  rintro e w' ⟨A',sn,cp',rfl,rfl,hr',hr,⟨ED',hx⟩,ho⟩
  exact ⟨A',cp',rfl,hr.row32.2,hr'.row32.2,(h.f4.nums.2.1.step (now:=now) h.f4.aw.w32 h.f4.nums.2.2).2.1,⟨ED',db,dof,cap,_,s,_,hx,by rw [(rstep_keep h.f4.aw.w32 h.f4.nums.2.1.1).1,e1]⟩,ho⟩
end
end Go.Proofs.YtmhpcgcloojfbaaGreat
