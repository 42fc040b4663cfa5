/- Texts of the ring, joined, what is used of them. No condition but those in the statements. -/
import Derived.BigQuiet
import Derived.BigRegion
import Derived.Deep.MidRow
import Derived.Deep.RegionHeld3
import Derived.Deep.Upon
import Derived.IntWalk
import Derived.Shelf.Abstract
import Derived.Test.YtmhpcgcloojfbaaGreatRFSc
namespace Go.Proofs.YtmhpcgcloojfbaaGreat
open Go.RowKit Go.Sort
set_option linter.unusedVariables false
set_option linter.unusedSimpArgs false
set_option linter.unusedVariables false
set_option linter.unusedSimpArgs false
open Go.Proofs.YtmhpcgcloojfbaaGreat.Simp
set_option maxRecDepth 100000
set_option maxHeartbeats 6400000
section
variable {W w w':World} {LK:Nat → Prop} {mb rb wb qb vw vr yb L k:Nat} {c:Cfg} {x:CfgAt} {F:Fr}
/-- New blocks,locked. -/
theorem FSx.lock (h:FSx W w LK mb rb wb qb vw vr yb L k c x F) (hb:Below w.heap.size w w') {LK':Nat → Prop} (hl:∀ q,LK' q → LK q ∨ (w.heap.size ≤ q ∧ q < w'.heap.size)):FSx W w' LK' mb rb wb qb vw vr yb L k c x F:=by
  obtain ⟨ED,db,dof,cap,ws,s,r,⟨hp,hd,hdb,hlk⟩,e⟩:=h
  have ho:Only (fun _ => False) w w':=Only.of_below hb
  have hs:=hb.size;have hbs:=hd.below.size
  have hel:∀ q,ED q → q < w.heap.size:=by obtain ⟨_,_,_,_,h3,_⟩:=hp.two;exact fun q hq => (h3 q (.inl hq)).2.2.2.2
  refine ⟨ED,db,dof,cap,ws,s,r,⟨hp.only ho (fun _ _ a => a.elim) (fun q a => ?_),hd.only (ED':=ED) ho (fun _ a => a.elim) (hd.below.trans (hb.mono hd.below.size)) (fun _ a => a),hdb,fun q hq => ?_⟩,e⟩
  · rcases a with a | a
    · exact .inl (.inl a)
    · exact (hl q a).imp .inr id
  · rcases hl q hq with a | a
    · exact ⟨(hlk q a).1,by have:=(hlk q a).2;omega⟩
    · exact ⟨fun e => by have:=hel q e;omega,by omega⟩
/-- Locked blocks turn. -/
theorem FSx.turn (h:FSx W w LK mb rb wb qb vw vr yb L k c x F) {T:Nat → Prop} (ho:Only T w w') (hT:∀ q,T q → LK q):FSx W w' LK mb rb wb qb vw vr yb L k c x F:=by
  obtain ⟨ED,db,dof,cap,ws,s,r,⟨hp,hd,hdb,hlk⟩,e⟩:=h
  have hs:=ho.size
  exact ⟨ED,db,dof,cap,ws,s,r,⟨hp.only ho (fun q _ a => ⟨.inr (hT q a),(hlk q (hT q a)).2.1⟩) (fun _ a => .inl a),hd.only (ED':=ED) ho (fun q a => ⟨(hlk q (hT q a)).1,fun e => (hlk q (hT q a)).1 (e ▸ hdb)⟩) (belF hd.below ho (fun q a => (hlk q (hT q a)).2.1) (Nat.le_refl _)) (fun _ a => a),hdb,fun q hq => ⟨(hlk q hq).1,by have:=(hlk q hq).2;omega⟩⟩,e⟩
theorem FSx.free (h:FSx W w LK mb rb wb qb vw vr yb L k c x F):FSx W w (fun _ => False) mb rb wb qb vw vr yb L k c x F:=h.lock (Below.refl _ _) (fun _ a => a.elim)
end
theorem row_set9 {w w':World} {g:Nat} {A:Option Addr} {ds:List Int} (h:IntRowK .u32 w w.heap.size A ds) (hg:w.heap[g]? = some (.cells #[.bool false,.int .i64 0,.slice none 0 0,.bool false,.int .i64 0,.bool false,.bool false,.bool false,.int .i64 0] 56 (0,0))) (ho:Only (fun q => q = g) w w'):IntRowK .u32 w' w'.heap.size A ds:=fun hp => by
  obtain ⟨b,o,hA,hb,hc⟩:=h hp
  have hne:¬ b = g:=by
    rintro rfl
    have q:=hc 0 hp
    unfold World.cell? at q
    simp only [hg] at q
    match o,q with
    | 0,q => simp at q
    | 1,q => simp at q
    | 2,q => simp at q
    | 3,q => simp at q
    | 4,q => simp at q
    | 5,q => simp at q
    | 6,q => simp at q
    | 7,q => simp at q
    | 8,q => simp at q
    | o + 9,q => simp at q
  have hs:=ho.size
  exact ⟨b,o,hA,by omega,fun i hi => cell_of_blk (hc i hi) (ho.block b hb hne)⟩
theorem per_of {c:Cfg} (h:acceptsB c = true) (k:Nat) (hk:k < c.chans.length) (h1:fld (row c.chans k) 0 = 1):0 ≤ fld (row c.chans k) 5 ∧ fld (row c.chans k) 5 ≤ 1048576:=by
  have hn:allB c 17 = []:=of_decide_eq_true h
  have b:=allB_nil hn (k:=10) (by omega) (by omega)
  have c10:chanBad c.parts.length 10 (row c.chans k) = false:=by
    unfold holdsB at b
    rw [if_neg (by omega),if_neg (by omega),if_neg (by omega),if_pos ⟨by omega,by omega⟩] at b
    exact scan_false.1 b k hk
  have q:=of_decide_eq_false (show decide ((fld (row c.chans k) 0 = 1 ∧ (fld (row c.chans k) 5 < 0 ∨ 1048576 < fld (row c.chans k) 5)) ∨ (fld (row c.chans k) 0 = 2 ∧ fld (row c.chans k) 5 ≠ 0)) = false from c10)
  omega
end Go.Proofs.YtmhpcgcloojfbaaGreat
