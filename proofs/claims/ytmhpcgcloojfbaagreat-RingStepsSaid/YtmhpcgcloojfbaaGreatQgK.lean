/- Texts of the ring, joined, what is used of them. No condition but those in the statements. -/
import Derived.BigQuiet
import Derived.BigRegion
import Derived.Deep.MidRow
import Derived.Deep.RegionHeld3
import Derived.Deep.Upon
import Derived.IntWalk
import Derived.Shelf.Abstract
import Derived.Test.YtmhpcgcloojfbaaGreatQgF
import Derived.Test.YtmhpcgcloojfbaaGreatQgI
section
namespace Go.Proofs.YtmhpcgcloojfbaaGreat
open Go.RowKit Go.Sort
set_option linter.unusedVariables false
set_option linter.unusedSimpArgs false
set_option linter.unusedVariables false
set_option linter.unusedSimpArgs false
open Go.Proofs.YtmhpcgcloojfbaaGreat.Simp
set_option maxRecDepth 100000
set_option maxHeartbeats 12800000
@[reducible] def dqV (c:Cfg) (x:CfgAt) (k:Nat) (op own:Int) (src:Bool) (dv:Value) (a len:Int):Array Value:=#[.slice x.pa c.parts.length x.pc,.slice x.ca c.chans.length x.cc,.int .i64 c.len0,.slice x.aa c.win0.length x.ac,.int .i64 c.len1,.slice x.ba c.win1.length x.bc,.int .i64 (k:Int),.int .i64 op,.int .u32 own,.bool src,dv,.int .i64 a,.int .i64 len]
/-- The document's operation lies in block vb,its words in yb,its bells in zb. -/
structure DAt (w:World) (vb yb zb:Nat) (c:Cfg) (x:CfgAt) (k:Nat) (op own:Int) (src:Bool) (dv:Value) (a len:Int) (ws:List Int) (bs:List Bool):Prop where
  blk:w.heap[vb]? = some (.cells (dqV c x k (op) (own) (src) (dv) (a) (len)) 73 (0,0))
  row:WordsAt w yb ws
  bel:Bel.BellsAt w zb bs
section
variable {w w':World} {vb yb zb:Nat} {c:Cfg} {x:CfgAt} {k:Nat} {op own:Int} {src:Bool} {dv:Value} {a len:Int} {ws:List Int} {bs:List Bool}
theorem DAt.lt (h:DAt w vb yb zb c x k (op) (own) (src) (dv) (a) (len) (ws) (bs)):vb < w.heap.size ∧ yb < w.heap.size ∧ zb < w.heap.size:=⟨(Array.getElem?_eq_some_iff.1 h.blk).1,h.row.lt,h.bel.lt⟩
theorem DAt.ne (h:DAt w vb yb zb c x k (op) (own) (src) (dv) (a) (len) (ws) (bs)):vb ≠ yb ∧ vb ≠ zb ∧ yb ≠ zb:=by
  have hty:∀ {i:Nat} {cs cs':Array Value} {t t':TypeId} {m m':Nat × Nat},w.heap[i]? = some (.cells cs t m) → w.heap[i]? = some (.cells cs' t' m') → t = t':=fun h1 h2 => by
    have e:=Option.some.inj (h1.symm.trans h2)
    injection e
  refine ⟨?_,?_,?_⟩
  · rintro rfl;exact absurd (hty h.blk h.row) (by decide)
  · rintro rfl;exact absurd (hty h.blk h.bel) (by decide)
  · rintro rfl;exact absurd (hty h.row h.bel) (by decide)
theorem DAt.only (h:DAt w vb yb zb c x k (op) (own) (src) (dv) (a) (len) (ws) (bs)) {S:Nat → Prop} (ho:Only S w w') (h1:¬ S vb ∧ ¬ S yb ∧ ¬ S zb):DAt w' vb yb zb c x k (op) (own) (src) (dv) (a) (len) (ws) (bs):=
  ⟨ho.at_ h.blk h1.1,h.row.of (ho.block yb h.row.lt h1.2.1),h.bel.of (ho.block zb h.bel.lt h1.2.2)⟩
theorem DAt.drew (h:DAt w vb yb zb c x k (op) (own) (src) (dv) (a) (len) (ws) (bs)):DAt w.drew vb yb zb c x k (op) (own) (src) (dv) (a) (len) (ws) (bs):=⟨h.blk,h.row,h.bel⟩
theorem DAt.below (h:DAt w vb yb zb c x k (op) (own) (src) (dv) (a) (len) (ws) (bs)) (hb:Below w.heap.size w w'):DAt w' vb yb zb c x k (op) (own) (src) (dv) (a) (len) (ws) (bs):=h.only (Only.of_below (S:=fun _ => False) hb) ⟨fun h => h,fun h => h,fun h => h⟩
/-- A store into its block. -/
theorem DAt.put (h:DAt w vb yb zb c x k (op) (own) (src) (dv) (a) (len) (ws) (bs)) {o:Nat} {v:Value} {op' own':Int} {src':Bool} {dv':Value} {a' len':Int} (e:(dqV c x k (op) (own) (src) (dv) (a) (len)).setIfInBounds o v = dqV c x k (op') (own') (src') (dv') (a') (len')):DAt (w.setCell ⟨vb,o,none⟩ v) vb yb zb c x k (op') (own') (src') (dv') (a') (len') (ws) (bs):=by
  have hn:=h.ne
  exact ⟨blk_put h.blk e,h.row.of (Below.heap_setCell _ _ _ _ (fun e => hn.1 e.symm)),h.bel.of (Below.heap_setCell _ _ _ _ (fun e => hn.2.1 e.symm))⟩
theorem DAt.word (h:DAt w vb yb zb c x k (op) (own) (src) (dv) (a) (len) (ws) (bs)) (j:Nat) (v:Int):DAt (w.setCell ⟨yb,j,none⟩ (.int .u32 v)) vb yb zb c x k (op) (own) (src) (dv) (a) (len) (ws.set j v) (bs):=by
  have hn:=h.ne
  exact ⟨(Below.heap_setCell _ _ _ _ hn.1).trans h.blk,h.row.set j v,h.bel.of (Below.heap_setCell _ _ _ _ (fun e => hn.2.2 e.symm))⟩
theorem DAt.bell (h:DAt w vb yb zb c x k (op) (own) (src) (dv) (a) (len) (ws) (bs)) (j:Nat) (v:Bool):DAt (w.setCell ⟨zb,j,none⟩ (.bool v)) vb yb zb c x k (op) (own) (src) (dv) (a) (len) (ws) (bs.set j v):=by
  have hn:=h.ne
  exact ⟨(Below.heap_setCell _ _ _ _ hn.2.1).trans h.blk,h.row.of (Below.heap_setCell _ _ _ _ hn.2.2),h.bel.set j v⟩
end
/-- What a step of the document's leaves. -/
def DGives (w:World) (vb yb zb:Nat) (c:Cfg) (x:CfgAt) (k:Nat) (op own:Int) (src:Bool) (dv:Value) (a len:Int) (ws:List Int) (bs:List Bool) (D:Array Value) (e:Ending) (w':World):Prop:=
  e = .returned (.agg D) ∧ DAt w' vb yb zb c x k (op) (own) (src) (dv) (a) (len) (ws) (bs) ∧ Only (fun j => j = vb ∨ j = yb ∨ j = zb) w w'
theorem DAt.fin {w X:World} {vb yb zb:Nat} {c:Cfg} {x:CfgAt} {k:Nat} {op own:Int} {src:Bool} {dv:Value} {a len:Int} {ws:List Int} {bs:List Bool} (h:DAt X vb yb zb c x k (op) (own) (src) (dv) (a) (len) (ws) (bs)) (hw:vb < w.heap.size ∧ yb < w.heap.size ∧ zb < w.heap.size) (ho:Only (New w.heap.size (fun j => j = vb ∨ j = yb ∨ j = zb)) w X) (cs:List Value) :
    DAt (X.setCells w.heap.size 0 cs) vb yb zb c x k (op) (own) (src) (dv) (a) (len) (ws) (bs) ∧ Only (fun j => j = vb ∨ j = yb ∨ j = zb) w (X.setCells w.heap.size 0 cs):=by
  have hs:=Only.sets (S:=fun j => j = w.heap.size) rfl cs 0 (Only.refl _ X)
  exact ⟨h.only hs ⟨by omega,by omega,by omega⟩,(ho.trans (hs.mono fun j _ e => .inl (Nat.le_of_eq e.symm))).old⟩
end Go.Proofs.YtmhpcgcloojfbaaGreat
end
section
namespace Go.Proofs.YtmhpcgcloojfbaaGreat
open Go.RowKit Go.Sort
set_option linter.unusedVariables false
set_option linter.unusedSimpArgs false
set_option linter.unusedVariables false
set_option linter.unusedSimpArgs false
open Go.Proofs.YtmhpcgcloojfbaaGreat.Simp
set_option maxRecDepth 100000
set_option maxHeartbeats 12800000
theorem dfull_b {w:World} {vb yb zb:Nat} {c:Cfg} {x:CfgAt} {k:Nat} {op own:Int} {src:Bool} {dv:Value} {a len:Int} {ws:List Int} {bs:List Bool} (h:DAt w vb yb zb c x k (op) (own) (src) (dv) (a) (len) (ws) (bs)):Calls Tryz.prog 85 #[.pointer (some ⟨vb,0,none⟩)] w (DGives w vb yb zb c x k op own src dv (-1) len ws bs (qdV true (2) (.slice none 0 0) (0) true false)):=by
  obtain ⟨W1,HW1,hsz,hO,hz⟩:=did_new w
  have hlt:=h.lt
  have hD1:=h.only hO ⟨fun h => h,fun h => h,fun h => h⟩
  have HD1:=Lib.hid hD1;have HO1:Hid (Only (New w.heap.size (fun j => j = vb ∨ j = yb ∨ j = zb)) w W1):=Lib.hid (hO.mono fun _ _ h => h.elim);have HZ1:=Lib.hid hz
  have x11:W1.cell? ⟨vb,11,none⟩ = some (.int .i64 a):=cell_blk HD1.out.blk rfl
  have g11:=blk_frozen 11 HD1.out.blk
  clear hD1 hO hz h

  obtain ⟨X,HX⟩:∃ u,Hid (u = W1.setCell ⟨vb,11,none⟩ (.int .i64 (-1))):=⟨_,rfl⟩
  have HDX:=Lib.hid (by have q:=HD1.out.put (o:=11) (v:=.int .i64 (-1)) rfl;rw [← HX.out] at q;exact q)
  have HOX:Hid (Only (New w.heap.size (fun j => j = vb ∨ j = yb ∨ j = zb)) w X):=Lib.hid (by rw [HX.out];exact HO1.out.set (p:=⟨vb,11,none⟩) (.inr (.inl rfl)) _)
  have HZX:Hid (X.heap[w.heap.size]? = some (.cells #[.bool false,.int .i64 0,.slice none 0 0,.bool false,.int .i64 0,.bool false,.bool false,.bool false,.int .i64 0] 56 (0,0))):=Lib.hid (by rw [HX.out];exact (Below.heap_setCell _ _ _ _ (by show w.heap.size ≠ vb;omega)).trans HZ1.out)
  have hth:=there_at (W:=X) HZX.out (n:=(qdV true (2) (.slice none 0 0) (0) true false:Array Value).size) rfl
  have hsd:(Tryz.prog.info? 56).map (·.size) = some (qdV true (2) (.slice none 0 0) (0) true false:Array Value).size:=did_size

  go_enter Tryz.func85,Tryz.ntmps85

  go_wp2_with (first | (rw [← HW1.out]) | (rw [← HX.out]) | (with_reducible refine wpList_store_mid (by kernel_rfl) _ _ _ rfl w.heap.size 0 (qdV true (2) (.slice none 0 0) (0) true false) (by kernel_rfl) (by kernel_rfl) hth hsd (by kernel_rfl) ?_))

  have hrg:=World.rangeAt_setCells_same (X) w.heap.size 0 [.bool true,.int .i64 (2),.slice none 0 0,.bool false,.int .i64 (0),.bool true,.bool false,.bool false,.int .i64 0] (there_at (cs:=#[.bool false,.int .i64 0,.slice none 0 0,.bool false,.int .i64 0,.bool false,.bool false,.bool false,.int .i64 0]) (n:=9) (show (X).heap[w.heap.size]? = _ from HZX.out) rfl)
  (try simp only [Exit.inBlock,Exit.then])
  refine bodyPost_ret (results_cell_row rfl _ _ w.heap.size [.bool true,.int .i64 (2),.slice none 0 0,.bool false,.int .i64 (0),.bool true,.bool false,.bool false,.int .i64 0] _ rfl hrg Tryz.underlying56 rfl did_size) rfl ?_
  exact ⟨rfl,HDX.out.fin hlt HOX.out _⟩
end Go.Proofs.YtmhpcgcloojfbaaGreat
end
section
namespace Go.Proofs.YtmhpcgcloojfbaaGreat
open Go.RowKit Go.Sort
set_option linter.unusedVariables false
set_option linter.unusedSimpArgs false
set_option linter.unusedVariables false
set_option linter.unusedSimpArgs false
open Go.Proofs.YtmhpcgcloojfbaaGreat.Simp
set_option maxRecDepth 100000
set_option maxHeartbeats 12800000
section
variable {w:World} {vb yb zb:Nat} {c:Cfg} {x:CfgAt} {k:Nat} {op own:Int} {src:Bool} {dv:Value} {a len:Int} {ws:List Int} {bs:List Bool} {F:Qr} {gb db dof dc ce xx:Nat} {ds:List Int}
theorem dsend_room (h:DAt w vb yb zb c x k (op) (own) (src) ((.slice (some ⟨db,dof,none⟩) ds.length dc)) (1) (len) (ws) (bs)) (hp:w.heap[gb]? = some (.cells #[.int .i64 (F.src:Int),.int .i64 (F.dst:Int),.int .i64 (ce:Int),.int .i64 (xx:Int)] 3 (0,0))) (hdat:∃ cs mm,w.heap[db]? = some (.cells cs 34 mm) ∧ ∀ j,j < ds.length → cs[dof + j]? = some (.int .u32 (ds.getD j 0))) (hl:ws.length ≤ 1000000) (hn:ds.length ≤ 16) (hd:F.dst < ws.length) (hx:xx ≤ 8) (hr:¬ (xx:Int) ≤ (own - ws.getD F.dst 0) % 4294967296):Calls Tryz.prog 58 #[.pointer (some ⟨vb,0,none⟩),.slice (some ⟨yb,0,none⟩) ws.length ws.length,.slice (some ⟨zb,0,none⟩) bs.length bs.length,.slice (some ⟨gb,0,none⟩) 4 4] w (DGives w vb yb zb c x k (op) (own) (src) ((.slice (some ⟨db,dof,none⟩) ds.length dc)) (1) (len) (ws) (bs) (qdV false (0) (.slice none 0 0) (0) false false)):=by
  obtain ⟨W1,HW1,hsz,hO,hz⟩:=did_new w
  have hlt:=h.lt
  have hD1:=h.only hO ⟨fun h => h,fun h => h,fun h => h⟩
  have HD1:=Lib.hid hD1;have HO1:Hid (Only (New w.heap.size (fun j => j = vb ∨ j = yb ∨ j = zb)) w W1):=Lib.hid (hO.mono fun _ _ h => h.elim);have HZ1:=Lib.hid hz


  have x8:W1.cell? ⟨vb,8,none⟩ = some (.int .u32 own):=cell_blk HD1.out.blk rfl
  have x10:W1.cell? ⟨vb,10,none⟩ = some (.slice (some ⟨db,dof,none⟩) ds.length dc):=cell_blk HD1.out.blk rfl
  have x11:W1.cell? ⟨vb,11,none⟩ = some (.int .i64 1):=cell_blk HD1.out.blk rfl
  have HP1:=Lib.hid (hO.at_ hp (fun h => h))
  have p1:W1.cell? ⟨gb,1,none⟩ = some (.int .i64 (F.dst:Int)):=cell_blk HP1.out rfl
  have p3:W1.cell? ⟨gb,3,none⟩ = some (.int .i64 (xx:Int)):=cell_blk HP1.out rfl
  obtain ⟨y,hy0⟩:∃ y,ws.getD (F.dst) 0 = y:=⟨_,rfl⟩
  have yc:W1.cell? ⟨yb,F.dst,none⟩ = some (.int .u32 y):=by rw [← hy0];exact HD1.out.row.cell (by omega)
  rw [hy0] at hr
  obtain ⟨z,hz1⟩:∃ z,(own - y) % 4294967296 = z:=⟨_,rfl⟩
  rw [hz1] at hr
  have n1:IntKind.u32.wrap (own - y) = z:=by rw [IntKind.wrap_u32];exact hz1
  have n2:IntKind.u32.wrap (xx:Int) = (xx:Int):=by rw [IntKind.wrap_u32];omega
  have n3:decide ((xx:Int) ≤ z) = false:=decide_eq_false hr
  clear hy0 hz1 hr
  clear hD1 hO hz h hp

  go_enter Tryz.func58,Tryz.ntmps58

  go_wp2_with (rw [← HW1.out])
  refine wp_region_held_drew (S:=(fun W' => W'.cell? ⟨vb,8,none⟩ = some (.int .u32 own) ∧ W'.cell? ⟨gb,1,none⟩ = some (.int .i64 (F.dst:Int)) ∧ W'.cell? ⟨gb,3,none⟩ = some (.int .i64 (xx:Int)) ∧ W'.cell? ⟨yb,F.dst,none⟩ = some (.int .u32 y))) (by kernel_rfl) (by exact ⟨x8,p1,p3,yc⟩) (fun hHeld => ?_)
  refine wpAnyH_take (i:=0) rfl (by kernel_rfl) (by kernel_rfl) (by kernel_rfl) (fun _ _ _ h => h) (Or.inl ⟨by rfl,by intro w hSw;(have z0:=hSw.1;have z1:=hSw.2.1;have z2:=hSw.2.2.1;have z3:=hSw.2.2.2;clear hSw);(go_simp <;> with_reducible rfl)⟩) (by assumption) ?_
  (try simp only [Act.put,List.setIfInBounds_toArray,List.set_cons_zero,List.set_cons_succ,List.getElem_toArray,List.getElem_cons_zero,List.getElem_cons_succ])
  refine wpAnyH_take (i:=1) rfl (by kernel_rfl) (by kernel_rfl) (by kernel_rfl) (fun _ _ _ h => h) (Or.inl ⟨by rfl,by intro w hSw;(have z0:=hSw.1;have z1:=hSw.2.1;have z2:=hSw.2.2.1;have z3:=hSw.2.2.2;clear hSw);(go_simp <;> with_reducible rfl)⟩) (by assumption) ?_
  (try simp only [Act.put,List.setIfInBounds_toArray,List.set_cons_zero,List.set_cons_succ,List.getElem_toArray,List.getElem_cons_zero,List.getElem_cons_succ])
  refine wpAnyH_take (i:=2) rfl (by kernel_rfl) (by kernel_rfl) (by kernel_rfl) (fun _ _ _ h => h) (Or.inl ⟨by rfl,by intro w hSw;(have z0:=hSw.1;have z1:=hSw.2.1;have z2:=hSw.2.2.1;have z3:=hSw.2.2.2;clear hSw);(go_simp <;> with_reducible rfl)⟩) (by assumption) ?_
  (try simp only [Act.put,List.setIfInBounds_toArray,List.set_cons_zero,List.set_cons_succ,List.getElem_toArray,List.getElem_cons_zero,List.getElem_cons_succ])
  refine wpAnyH_take (i:=3) rfl (by kernel_rfl) (by kernel_rfl) (by kernel_rfl) (fun _ _ _ h => h) (Or.inl ⟨by rfl,by intro w hSw;(have z0:=hSw.1;have z1:=hSw.2.1;have z2:=hSw.2.2.1;have z3:=hSw.2.2.2;clear hSw);(go_simp <;> with_reducible rfl)⟩) (by assumption) ?_
  (try simp only [Act.put,List.setIfInBounds_toArray,List.set_cons_zero,List.set_cons_succ,List.getElem_toArray,List.getElem_cons_zero,List.getElem_cons_succ])
  refine wpAnyH_take (i:=4) rfl (by kernel_rfl) (by kernel_rfl) (by kernel_rfl) (fun _ _ _ h => h) (Or.inl ⟨by rfl,by intro w hSw;(have z0:=hSw.1;have z1:=hSw.2.1;have z2:=hSw.2.2.1;have z3:=hSw.2.2.2;clear hSw);(go_simp <;> with_reducible rfl)⟩) (by assumption) ?_
  (try simp only [Act.put,List.setIfInBounds_toArray,List.set_cons_zero,List.set_cons_succ,List.getElem_toArray,List.getElem_cons_zero,List.getElem_cons_succ])
  refine wpAnyH_take (i:=5) rfl (by kernel_rfl) (by kernel_rfl) (by kernel_rfl) (fun _ _ _ h => h) (Or.inl ⟨by rfl,by intro w hSw;(have z0:=hSw.1;have z1:=hSw.2.1;have z2:=hSw.2.2.1;have z3:=hSw.2.2.2;clear hSw);(go_simp <;> with_reducible rfl)⟩) (by assumption) ?_
  (try simp only [Act.put,List.setIfInBounds_toArray,List.set_cons_zero,List.set_cons_succ,List.getElem_toArray,List.getElem_cons_zero,List.getElem_cons_succ])
  refine wpAnyH_take (i:=6) rfl (by kernel_rfl) (by kernel_rfl) (by kernel_rfl) (fun _ _ _ h => h) (Or.inl ⟨by rfl,by intro w hSw;(have z0:=hSw.1;have z1:=hSw.2.1;have z2:=hSw.2.2.1;have z3:=hSw.2.2.2;clear hSw);(go_simp <;> with_reducible rfl)⟩) (by assumption) ?_
  (try simp only [Act.put,List.setIfInBounds_toArray,List.set_cons_zero,List.set_cons_succ,List.getElem_toArray,List.getElem_cons_zero,List.getElem_cons_succ])
  refine wpAnyH_take (i:=7) rfl (by kernel_rfl) (by kernel_rfl) (by kernel_rfl) (fun _ _ _ h => h) (Or.inl ⟨by rfl,by intro w hSw;(have z0:=hSw.1;have z1:=hSw.2.1;have z2:=hSw.2.2.1;have z3:=hSw.2.2.2;clear hSw);(go_simp <;> with_reducible rfl)⟩) (by assumption) ?_
  (try simp only [Act.put,List.setIfInBounds_toArray,List.set_cons_zero,List.set_cons_succ,List.getElem_toArray,List.getElem_cons_zero,List.getElem_cons_succ])
  refine wpAnyH_take (i:=8) rfl (by kernel_rfl) (by kernel_rfl) (by kernel_rfl) (fun _ _ _ h => h) (Or.inl ⟨by rfl,by intro w hSw;(have z0:=hSw.1;have z1:=hSw.2.1;have z2:=hSw.2.2.1;have z3:=hSw.2.2.2;clear hSw);(go_simp <;> with_reducible rfl)⟩) (by assumption) ?_
  (try simp only [Act.put,List.setIfInBounds_toArray,List.set_cons_zero,List.set_cons_succ,List.getElem_toArray,List.getElem_cons_zero,List.getElem_cons_succ])
  refine wpAnyH_take (i:=9) rfl (by kernel_rfl) (by kernel_rfl) (by kernel_rfl) (fun _ _ _ h => h) (Or.inl ⟨by rfl,by intro w hSw;(have z0:=hSw.1;have z1:=hSw.2.1;have z2:=hSw.2.2.1;have z3:=hSw.2.2.2;clear hSw);(go_simp <;> with_reducible rfl)⟩) (by assumption) ?_
  (try simp only [Act.put,List.setIfInBounds_toArray,List.set_cons_zero,List.set_cons_succ,List.getElem_toArray,List.getElem_cons_zero,List.getElem_cons_succ])
  refine wpAnyH_take (i:=10) rfl (by kernel_rfl) (by kernel_rfl) (by kernel_rfl) (fun _ _ _ h => h) (Or.inl ⟨by rfl,by intro w hSw;(have z0:=hSw.1;have z1:=hSw.2.1;have z2:=hSw.2.2.1;have z3:=hSw.2.2.2;clear hSw);(go_simp <;> with_reducible rfl)⟩) (by assumption) ?_
  (try simp only [Act.put,List.setIfInBounds_toArray,List.set_cons_zero,List.set_cons_succ,List.getElem_toArray,List.getElem_cons_zero,List.getElem_cons_succ])
  refine wpAnyH_take (i:=11) rfl (by kernel_rfl) (by kernel_rfl) (by kernel_rfl) (fun _ _ _ h => h) (Or.inl ⟨by rfl,by intro w hSw;(have z0:=hSw.1;have z1:=hSw.2.1;have z2:=hSw.2.2.1;have z3:=hSw.2.2.2;clear hSw);(go_simp <;> with_reducible rfl)⟩) (by assumption) ?_
  (try simp only [Act.put,List.setIfInBounds_toArray,List.set_cons_zero,List.set_cons_succ,List.getElem_toArray,List.getElem_cons_zero,List.getElem_cons_succ])
  refine wpAnyH_take (i:=12) rfl (by kernel_rfl) (by kernel_rfl) (by kernel_rfl) (fun _ _ _ h => h) (Or.inl ⟨by rfl,by intro w hSw;(have z0:=hSw.1;have z1:=hSw.2.1;have z2:=hSw.2.2.1;have z3:=hSw.2.2.2;clear hSw);(go_simp <;> with_reducible rfl)⟩) (by assumption) ?_
  (try simp only [Act.put,List.setIfInBounds_toArray,List.set_cons_zero,List.set_cons_succ,List.getElem_toArray,List.getElem_cons_zero,List.getElem_cons_succ])
  refine wpAnyH_take (i:=13) rfl (by kernel_rfl) (by kernel_rfl) (by kernel_rfl) (fun _ _ _ h => h) (Or.inl ⟨by rfl,by intro w hSw;(have z0:=hSw.1;have z1:=hSw.2.1;have z2:=hSw.2.2.1;have z3:=hSw.2.2.2;clear hSw);(go_simp <;> with_reducible rfl)⟩) (by assumption) ?_
  (try simp only [Act.put,List.setIfInBounds_toArray,List.set_cons_zero,List.set_cons_succ,List.getElem_toArray,List.getElem_cons_zero,List.getElem_cons_succ])
  refine wpAnyH_take (i:=14) rfl (by kernel_rfl) (by kernel_rfl) (by kernel_rfl) (fun _ _ _ h => h) (Or.inl ⟨by rfl,by intro w hSw;(have z0:=hSw.1;have z1:=hSw.2.1;have z2:=hSw.2.2.1;have z3:=hSw.2.2.2;clear hSw);(go_simp <;> with_reducible rfl)⟩) (by assumption) ?_
  (try simp only [Act.put,List.setIfInBounds_toArray,List.set_cons_zero,List.set_cons_succ,List.getElem_toArray,List.getElem_cons_zero,List.getElem_cons_succ])
  refine wpAnyH_take (i:=15) rfl (by kernel_rfl) (by kernel_rfl) (by kernel_rfl) (fun _ _ _ h => h) (Or.inl ⟨by rfl,by intro w hSw;(have z0:=hSw.1;have z1:=hSw.2.1;have z2:=hSw.2.2.1;have z3:=hSw.2.2.2;clear hSw);(go_simp <;> with_reducible rfl)⟩) (by assumption) ?_
  (try simp only [Act.put,List.setIfInBounds_toArray,List.set_cons_zero,List.set_cons_succ,List.getElem_toArray,List.getElem_cons_zero,List.getElem_cons_succ])
  refine wpAnyH_done (by kernel_rfl) ?_ _
  obtain ⟨X,HX⟩:∃ u,Hid (u = W1.drew):=⟨_,rfl⟩
  have HDX:=Lib.hid (by have q:=HD1.out.drew;rw [← HX.out] at q;exact q)
  have HOX:Hid (Only (New w.heap.size (fun j => j = vb ∨ j = yb ∨ j = zb)) w X):=Lib.hid (by rw [HX.out];exact HO1.out.drew)
  have HZX:Hid (X.heap[w.heap.size]? = some (.cells #[.bool false,.int .i64 0,.slice none 0 0,.bool false,.int .i64 0,.bool false,.bool false,.bool false,.int .i64 0] 56 (0,0))):=Lib.hid (by rw [HX.out];exact HZ1.out)
  rw [← HX.out]
  have hth:=there_at (W:=X) HZX.out (n:=(qdV false (0) (.slice none 0 0) (0) false false:Array Value).size) rfl
  have hsd:(Tryz.prog.info? 56).map (·.size) = some (qdV false (0) (.slice none 0 0) (0) false false:Array Value).size:=did_size
  go_wp2_with (first | (rw [← HX.out]) | (with_reducible refine wpList_store_mid (by kernel_rfl) _ _ _ rfl w.heap.size 0 (qdV false (0) (.slice none 0 0) (0) false false) (by kernel_rfl) (by kernel_rfl) hth hsd (by kernel_rfl) ?_))
  have hrg:=World.rangeAt_setCells_same (X) w.heap.size 0 [.bool false,.int .i64 (0),.slice none 0 0,.bool false,.int .i64 (0),.bool false,.bool false,.bool false,.int .i64 0] (there_at (cs:=#[.bool false,.int .i64 0,.slice none 0 0,.bool false,.int .i64 0,.bool false,.bool false,.bool false,.int .i64 0]) (n:=9) (show (X).heap[w.heap.size]? = _ from HZX.out) rfl)
  (try simp only [Exit.inBlock,Exit.then])
  refine bodyPost_ret (results_cell_row rfl _ _ w.heap.size [.bool false,.int .i64 (0),.slice none 0 0,.bool false,.int .i64 (0),.bool false,.bool false,.bool false,.int .i64 0] _ rfl hrg Tryz.underlying56 rfl did_size) rfl ?_
  exact ⟨rfl,HDX.out.fin hlt HOX.out _⟩
end
end Go.Proofs.YtmhpcgcloojfbaaGreat
end
section
namespace Go.Proofs.YtmhpcgcloojfbaaGreat
open Go.RowKit Go.Sort
set_option linter.unusedVariables false
set_option linter.unusedSimpArgs false
set_option linter.unusedVariables false
set_option linter.unusedSimpArgs false
open Go.Proofs.YtmhpcgcloojfbaaGreat.Simp
set_option maxRecDepth 100000
set_option maxHeartbeats 12800000
section
variable {w:World} {vb yb zb:Nat} {c:Cfg} {x:CfgAt} {k:Nat} {op own:Int} {src:Bool} {dv:Value} {a len:Int} {ws:List Int} {bs:List Bool} {F:Qr} {gb db dof dc ce xx:Nat} {ds:List Int}
theorem dsend_full (h:DAt w vb yb zb c x k (op) (own) (src) ((.slice (some ⟨db,dof,none⟩) ds.length dc)) (1) (len) (ws) (bs)) (hp:w.heap[gb]? = some (.cells #[.int .i64 (F.src:Int),.int .i64 (F.dst:Int),.int .i64 (ce:Int),.int .i64 (xx:Int)] 3 (0,0))) (hdat:∃ cs mm,w.heap[db]? = some (.cells cs 34 mm) ∧ ∀ j,j < ds.length → cs[dof + j]? = some (.int .u32 (ds.getD j 0))) (hl:ws.length ≤ 1000000) (hn:ds.length ≤ 16) (hd:F.dst < ws.length) (hx:xx ≤ 8) (hr:(xx:Int) ≤ (own - ws.getD F.dst 0) % 4294967296):Calls Tryz.prog 58 #[.pointer (some ⟨vb,0,none⟩),.slice (some ⟨yb,0,none⟩) ws.length ws.length,.slice (some ⟨zb,0,none⟩) bs.length bs.length,.slice (some ⟨gb,0,none⟩) 4 4] w (DGives w vb yb zb c x k (op) (own) (src) ((.slice (some ⟨db,dof,none⟩) ds.length dc)) (-1) (len) (ws) (bs) (qdV true (2) (.slice none 0 0) (0) true false)):=by
  obtain ⟨W1,HW1,hsz,hO,hz⟩:=did_new w
  have hlt:=h.lt
  have hD1:=h.only hO ⟨fun h => h,fun h => h,fun h => h⟩
  have HD1:=Lib.hid hD1;have HO1:Hid (Only (New w.heap.size (fun j => j = vb ∨ j = yb ∨ j = zb)) w W1):=Lib.hid (hO.mono fun _ _ h => h.elim);have HZ1:=Lib.hid hz


  have x8:W1.cell? ⟨vb,8,none⟩ = some (.int .u32 own):=cell_blk HD1.out.blk rfl
  have x10:W1.cell? ⟨vb,10,none⟩ = some (.slice (some ⟨db,dof,none⟩) ds.length dc):=cell_blk HD1.out.blk rfl
  have x11:W1.cell? ⟨vb,11,none⟩ = some (.int .i64 1):=cell_blk HD1.out.blk rfl
  have HP1:=Lib.hid (hO.at_ hp (fun h => h))
  have p1:W1.cell? ⟨gb,1,none⟩ = some (.int .i64 (F.dst:Int)):=cell_blk HP1.out rfl
  have p3:W1.cell? ⟨gb,3,none⟩ = some (.int .i64 (xx:Int)):=cell_blk HP1.out rfl
  obtain ⟨y,hy0⟩:∃ y,ws.getD (F.dst) 0 = y:=⟨_,rfl⟩
  have yc:W1.cell? ⟨yb,F.dst,none⟩ = some (.int .u32 y):=by rw [← hy0];exact HD1.out.row.cell (by omega)
  rw [hy0] at hr
  obtain ⟨z,hz1⟩:∃ z,(own - y) % 4294967296 = z:=⟨_,rfl⟩
  rw [hz1] at hr
  have n1:IntKind.u32.wrap (own - y) = z:=by rw [IntKind.wrap_u32];exact hz1
  have n2:IntKind.u32.wrap (xx:Int) = (xx:Int):=by rw [IntKind.wrap_u32];omega
  have n3:decide ((xx:Int) ≤ z) = true:=decide_eq_true hr
  clear hy0 hz1 hr
  clear hD1 hO hz h hp
  go_enter Tryz.func58,Tryz.ntmps58
  go_wp2_with (rw [← HW1.out])
  refine wp_region_held_drew (S:=(fun W' => W'.cell? ⟨vb,8,none⟩ = some (.int .u32 own) ∧ W'.cell? ⟨gb,1,none⟩ = some (.int .i64 (F.dst:Int)) ∧ W'.cell? ⟨gb,3,none⟩ = some (.int .i64 (xx:Int)) ∧ W'.cell? ⟨yb,F.dst,none⟩ = some (.int .u32 y))) (by kernel_rfl) (by exact ⟨x8,p1,p3,yc⟩) (fun hHeld => ?_)
  refine wpAnyH_take (i:=0) rfl (by kernel_rfl) (by kernel_rfl) (by kernel_rfl) (fun _ _ _ h => h) (Or.inl ⟨by rfl,by intro w hSw;(have z0:=hSw.1;have z1:=hSw.2.1;have z2:=hSw.2.2.1;have z3:=hSw.2.2.2;clear hSw);(go_simp <;> with_reducible rfl)⟩) (by assumption) ?_
  (try simp only [Act.put,List.setIfInBounds_toArray,List.set_cons_zero,List.set_cons_succ,List.getElem_toArray,List.getElem_cons_zero,List.getElem_cons_succ])
  refine wpAnyH_take (i:=1) rfl (by kernel_rfl) (by kernel_rfl) (by kernel_rfl) (fun _ _ _ h => h) (Or.inl ⟨by rfl,by intro w hSw;(have z0:=hSw.1;have z1:=hSw.2.1;have z2:=hSw.2.2.1;have z3:=hSw.2.2.2;clear hSw);(go_simp <;> with_reducible rfl)⟩) (by assumption) ?_
  (try simp only [Act.put,List.setIfInBounds_toArray,List.set_cons_zero,List.set_cons_succ,List.getElem_toArray,List.getElem_cons_zero,List.getElem_cons_succ])
  refine wpAnyH_take (i:=2) rfl (by kernel_rfl) (by kernel_rfl) (by kernel_rfl) (fun _ _ _ h => h) (Or.inl ⟨by rfl,by intro w hSw;(have z0:=hSw.1;have z1:=hSw.2.1;have z2:=hSw.2.2.1;have z3:=hSw.2.2.2;clear hSw);(go_simp <;> with_reducible rfl)⟩) (by assumption) ?_
  (try simp only [Act.put,List.setIfInBounds_toArray,List.set_cons_zero,List.set_cons_succ,List.getElem_toArray,List.getElem_cons_zero,List.getElem_cons_succ])
  refine wpAnyH_take (i:=3) rfl (by kernel_rfl) (by kernel_rfl) (by kernel_rfl) (fun _ _ _ h => h) (Or.inl ⟨by rfl,by intro w hSw;(have z0:=hSw.1;have z1:=hSw.2.1;have z2:=hSw.2.2.1;have z3:=hSw.2.2.2;clear hSw);(go_simp <;> with_reducible rfl)⟩) (by assumption) ?_
  (try simp only [Act.put,List.setIfInBounds_toArray,List.set_cons_zero,List.set_cons_succ,List.getElem_toArray,List.getElem_cons_zero,List.getElem_cons_succ])
  refine wpAnyH_take (i:=4) rfl (by kernel_rfl) (by kernel_rfl) (by kernel_rfl) (fun _ _ _ h => h) (Or.inl ⟨by rfl,by intro w hSw;(have z0:=hSw.1;have z1:=hSw.2.1;have z2:=hSw.2.2.1;have z3:=hSw.2.2.2;clear hSw);(go_simp <;> with_reducible rfl)⟩) (by assumption) ?_
  (try simp only [Act.put,List.setIfInBounds_toArray,List.set_cons_zero,List.set_cons_succ,List.getElem_toArray,List.getElem_cons_zero,List.getElem_cons_succ])
  refine wpAnyH_take (i:=5) rfl (by kernel_rfl) (by kernel_rfl) (by kernel_rfl) (fun _ _ _ h => h) (Or.inl ⟨by rfl,by intro w hSw;(have z0:=hSw.1;have z1:=hSw.2.1;have z2:=hSw.2.2.1;have z3:=hSw.2.2.2;clear hSw);(go_simp <;> with_reducible rfl)⟩) (by assumption) ?_
  (try simp only [Act.put,List.setIfInBounds_toArray,List.set_cons_zero,List.set_cons_succ,List.getElem_toArray,List.getElem_cons_zero,List.getElem_cons_succ])
  refine wpAnyH_take (i:=6) rfl (by kernel_rfl) (by kernel_rfl) (by kernel_rfl) (fun _ _ _ h => h) (Or.inl ⟨by rfl,by intro w hSw;(have z0:=hSw.1;have z1:=hSw.2.1;have z2:=hSw.2.2.1;have z3:=hSw.2.2.2;clear hSw);(go_simp <;> with_reducible rfl)⟩) (by assumption) ?_
  (try simp only [Act.put,List.setIfInBounds_toArray,List.set_cons_zero,List.set_cons_succ,List.getElem_toArray,List.getElem_cons_zero,List.getElem_cons_succ])
  refine wpAnyH_take (i:=7) rfl (by kernel_rfl) (by kernel_rfl) (by kernel_rfl) (fun _ _ _ h => h) (Or.inl ⟨by rfl,by intro w hSw;(have z0:=hSw.1;have z1:=hSw.2.1;have z2:=hSw.2.2.1;have z3:=hSw.2.2.2;clear hSw);(go_simp <;> with_reducible rfl)⟩) (by assumption) ?_
  (try simp only [Act.put,List.setIfInBounds_toArray,List.set_cons_zero,List.set_cons_succ,List.getElem_toArray,List.getElem_cons_zero,List.getElem_cons_succ])
  refine wpAnyH_take (i:=8) rfl (by kernel_rfl) (by kernel_rfl) (by kernel_rfl) (fun _ _ _ h => h) (Or.inl ⟨by rfl,by intro w hSw;(have z0:=hSw.1;have z1:=hSw.2.1;have z2:=hSw.2.2.1;have z3:=hSw.2.2.2;clear hSw);(go_simp <;> with_reducible rfl)⟩) (by assumption) ?_
  (try simp only [Act.put,List.setIfInBounds_toArray,List.set_cons_zero,List.set_cons_succ,List.getElem_toArray,List.getElem_cons_zero,List.getElem_cons_succ])
  refine wpAnyH_take (i:=9) rfl (by kernel_rfl) (by kernel_rfl) (by kernel_rfl) (fun _ _ _ h => h) (Or.inl ⟨by rfl,by intro w hSw;(have z0:=hSw.1;have z1:=hSw.2.1;have z2:=hSw.2.2.1;have z3:=hSw.2.2.2;clear hSw);(go_simp <;> with_reducible rfl)⟩) (by assumption) ?_
  (try simp only [Act.put,List.setIfInBounds_toArray,List.set_cons_zero,List.set_cons_succ,List.getElem_toArray,List.getElem_cons_zero,List.getElem_cons_succ])
  refine wpAnyH_take (i:=10) rfl (by kernel_rfl) (by kernel_rfl) (by kernel_rfl) (fun _ _ _ h => h) (Or.inl ⟨by rfl,by intro w hSw;(have z0:=hSw.1;have z1:=hSw.2.1;have z2:=hSw.2.2.1;have z3:=hSw.2.2.2;clear hSw);(go_simp <;> with_reducible rfl)⟩) (by assumption) ?_
  (try simp only [Act.put,List.setIfInBounds_toArray,List.set_cons_zero,List.set_cons_succ,List.getElem_toArray,List.getElem_cons_zero,List.getElem_cons_succ])
  refine wpAnyH_take (i:=11) rfl (by kernel_rfl) (by kernel_rfl) (by kernel_rfl) (fun _ _ _ h => h) (Or.inl ⟨by rfl,by intro w hSw;(have z0:=hSw.1;have z1:=hSw.2.1;have z2:=hSw.2.2.1;have z3:=hSw.2.2.2;clear hSw);(go_simp <;> with_reducible rfl)⟩) (by assumption) ?_
  (try simp only [Act.put,List.setIfInBounds_toArray,List.set_cons_zero,List.set_cons_succ,List.getElem_toArray,List.getElem_cons_zero,List.getElem_cons_succ])
  refine wpAnyH_take (i:=12) rfl (by kernel_rfl) (by kernel_rfl) (by kernel_rfl) (fun _ _ _ h => h) (Or.inl ⟨by rfl,by intro w hSw;(have z0:=hSw.1;have z1:=hSw.2.1;have z2:=hSw.2.2.1;have z3:=hSw.2.2.2;clear hSw);(go_simp <;> with_reducible rfl)⟩) (by assumption) ?_
  (try simp only [Act.put,List.setIfInBounds_toArray,List.set_cons_zero,List.set_cons_succ,List.getElem_toArray,List.getElem_cons_zero,List.getElem_cons_succ])
  refine wpAnyH_take (i:=13) rfl (by kernel_rfl) (by kernel_rfl) (by kernel_rfl) (fun _ _ _ h => h) (Or.inl ⟨by rfl,by intro w hSw;(have z0:=hSw.1;have z1:=hSw.2.1;have z2:=hSw.2.2.1;have z3:=hSw.2.2.2;clear hSw);(go_simp <;> with_reducible rfl)⟩) (by assumption) ?_
  (try simp only [Act.put,List.setIfInBounds_toArray,List.set_cons_zero,List.set_cons_succ,List.getElem_toArray,List.getElem_cons_zero,List.getElem_cons_succ])
  refine wpAnyH_take (i:=14) rfl (by kernel_rfl) (by kernel_rfl) (by kernel_rfl) (fun _ _ _ h => h) (Or.inl ⟨by rfl,by intro w hSw;(have z0:=hSw.1;have z1:=hSw.2.1;have z2:=hSw.2.2.1;have z3:=hSw.2.2.2;clear hSw);(go_simp <;> with_reducible rfl)⟩) (by assumption) ?_
  (try simp only [Act.put,List.setIfInBounds_toArray,List.set_cons_zero,List.set_cons_succ,List.getElem_toArray,List.getElem_cons_zero,List.getElem_cons_succ])
  refine wpAnyH_take (i:=15) rfl (by kernel_rfl) (by kernel_rfl) (by kernel_rfl) (fun _ _ _ h => h) (Or.inl ⟨by rfl,by intro w hSw;(have z0:=hSw.1;have z1:=hSw.2.1;have z2:=hSw.2.2.1;have z3:=hSw.2.2.2;clear hSw);(go_simp <;> with_reducible rfl)⟩) (by assumption) ?_
  (try simp only [Act.put,List.setIfInBounds_toArray,List.set_cons_zero,List.set_cons_succ,List.getElem_toArray,List.getElem_cons_zero,List.getElem_cons_succ])
  refine wpAnyH_done (by kernel_rfl) ?_ _
  go_wp2_with fail
  refine (dfull_b HD1.out.drew).mono ?_
  rintro e w2 ⟨rfl,hd2,ho2⟩
  obtain ⟨X,HX⟩:∃ u,Hid (u = w2):=⟨_,rfl⟩
  have HDX:=Lib.hid (by have q:=hd2;rw [← HX.out] at q;exact q)
  have HOX:Hid (Only (New w.heap.size (fun j => j = vb ∨ j = yb ∨ j = zb)) w X):=Lib.hid (by rw [HX.out];exact HO1.out.drew.trans (ho2.mono fun _ _ h => .inr h))
  have HZX:Hid (X.heap[w.heap.size]? = some (.cells #[.bool false,.int .i64 0,.slice none 0 0,.bool false,.int .i64 0,.bool false,.bool false,.bool false,.int .i64 0] 56 (0,0))):=Lib.hid (by rw [HX.out];exact ho2.at_ (show W1.drew.heap[w.heap.size]? = _ from HZ1.out) (by rintro (h | h | h) <;> omega))
  rw [← HX.out]
  have hth:=there_at (W:=X) HZX.out (n:=(qdV true (2) (.slice none 0 0) (0) true false:Array Value).size) rfl
  have hsd:(Tryz.prog.info? 56).map (·.size) = some (qdV true (2) (.slice none 0 0) (0) true false:Array Value).size:=did_size
  go_wp2_with (first | (rw [← HX.out]) | (with_reducible refine wpList_store_mid (by kernel_rfl) _ _ _ rfl w.heap.size 0 (qdV true (2) (.slice none 0 0) (0) true false) (by kernel_rfl) (by kernel_rfl) hth hsd (by kernel_rfl) ?_))
  have hrg:=World.rangeAt_setCells_same (X) w.heap.size 0 [.bool true,.int .i64 (2),.slice none 0 0,.bool false,.int .i64 (0),.bool true,.bool false,.bool false,.int .i64 0] (there_at (cs:=#[.bool false,.int .i64 0,.slice none 0 0,.bool false,.int .i64 0,.bool false,.bool false,.bool false,.int .i64 0]) (n:=9) (show (X).heap[w.heap.size]? = _ from HZX.out) rfl)
  (try simp only [Exit.inBlock,Exit.then])
  refine bodyPost_ret (results_cell_row rfl _ _ w.heap.size [.bool true,.int .i64 (2),.slice none 0 0,.bool false,.int .i64 (0),.bool true,.bool false,.bool false,.int .i64 0] _ rfl hrg Tryz.underlying56 rfl did_size) rfl ?_
  exact ⟨rfl,HDX.out.fin hlt HOX.out _⟩
theorem dsend_len (h:DAt w vb yb zb c x k (op) (own) (src) ((.slice (some ⟨db,dof,none⟩) ds.length dc)) (2) (len) (ws) (bs)) (hp:w.heap[gb]? = some (.cells #[.int .i64 (F.src:Int),.int .i64 (F.dst:Int),.int .i64 (ce:Int),.int .i64 (xx:Int)] 3 (0,0))) (hdat:∃ cs mm,w.heap[db]? = some (.cells cs 34 mm) ∧ ∀ j,j < ds.length → cs[dof + j]? = some (.int .u32 (ds.getD j 0))) (hl:ws.length ≤ 1000000) (hn:ds.length ≤ 16) (hd:ce < ws.length):Calls Tryz.prog 58 #[.pointer (some ⟨vb,0,none⟩),.slice (some ⟨yb,0,none⟩) ws.length ws.length,.slice (some ⟨zb,0,none⟩) bs.length bs.length,.slice (some ⟨gb,0,none⟩) 4 4] w (DGives w vb yb zb c x k (op) (own) (src) ((.slice (some ⟨db,dof,none⟩) ds.length dc)) (2) (len) (ws.set ce ds.length) (bs) (qdV false (0) (.slice none 0 0) (0) false false)):=by
  obtain ⟨W1,HW1,hsz,hO,hz⟩:=did_new w
  have hlt:=h.lt
  have hD1:=h.only hO ⟨fun h => h,fun h => h,fun h => h⟩
  have HD1:=Lib.hid hD1;have HO1:Hid (Only (New w.heap.size (fun j => j = vb ∨ j = yb ∨ j = zb)) w W1):=Lib.hid (hO.mono fun _ _ h => h.elim);have HZ1:=Lib.hid hz


  have x8:W1.cell? ⟨vb,8,none⟩ = some (.int .u32 own):=cell_blk HD1.out.blk rfl
  have x10:W1.cell? ⟨vb,10,none⟩ = some (.slice (some ⟨db,dof,none⟩) ds.length dc):=cell_blk HD1.out.blk rfl
  have x11:W1.cell? ⟨vb,11,none⟩ = some (.int .i64 2):=cell_blk HD1.out.blk rfl
  have HP1:=Lib.hid (hO.at_ hp (fun h => h))
  have p2:W1.cell? ⟨gb,2,none⟩ = some (.int .i64 (ce:Int)):=cell_blk HP1.out rfl
  obtain ⟨y,hy0⟩:∃ y,ws.getD (ce) 0 = y:=⟨_,rfl⟩
  have yc:W1.cell? ⟨yb,ce,none⟩ = some (.int .u32 y):=by rw [← hy0];exact HD1.out.row.cell (by omega)
  have yf:W1.frozen? ⟨yb,ce,none⟩ = false:=HD1.out.row.frozen _
  have n2:IntKind.u32.wrap (ds.length:Int) = (ds.length:Int):=by rw [IntKind.wrap_u32];omega
  clear hy0
  clear hD1 hO hz h hp
  obtain ⟨X,HX⟩:∃ u,Hid (u = W1.setCell ⟨yb,ce,none⟩ (.int .u32 (ds.length:Int))):=⟨_,rfl⟩
  have HDX:=Lib.hid (by have q:=HD1.out.word ce (ds.length:Int);rw [← HX.out] at q;exact q)
  have HOX:Hid (Only (New w.heap.size (fun j => j = vb ∨ j = yb ∨ j = zb)) w X):=Lib.hid (by rw [HX.out];exact HO1.out.set (p:=⟨yb,ce,none⟩) (.inr (.inr (.inl rfl))) _)
  have HZX:Hid (X.heap[w.heap.size]? = some (.cells #[.bool false,.int .i64 0,.slice none 0 0,.bool false,.int .i64 0,.bool false,.bool false,.bool false,.int .i64 0] 56 (0,0))):=Lib.hid (by rw [HX.out];exact (Below.heap_setCell _ _ _ _ (by show w.heap.size ≠ yb;omega)).trans HZ1.out)
  have hth:=there_at (W:=X) HZX.out (n:=(qdV false (0) (.slice none 0 0) (0) false false:Array Value).size) rfl
  have hsd:(Tryz.prog.info? 56).map (·.size) = some (qdV false (0) (.slice none 0 0) (0) false false:Array Value).size:=did_size
  go_enter Tryz.func58,Tryz.ntmps58
  go_wp2_with (first | (rw [← HW1.out]) | (rw [← HX.out]) | (with_reducible refine wpList_store_mid (by kernel_rfl) _ _ _ rfl w.heap.size 0 (qdV false (0) (.slice none 0 0) (0) false false) (by kernel_rfl) (by kernel_rfl) hth hsd (by kernel_rfl) ?_))
  have hrg:=World.rangeAt_setCells_same (X) w.heap.size 0 [.bool false,.int .i64 (0),.slice none 0 0,.bool false,.int .i64 (0),.bool false,.bool false,.bool false,.int .i64 0] (there_at (cs:=#[.bool false,.int .i64 0,.slice none 0 0,.bool false,.int .i64 0,.bool false,.bool false,.bool false,.int .i64 0]) (n:=9) (show (X).heap[w.heap.size]? = _ from HZX.out) rfl)
  (try simp only [Exit.inBlock,Exit.then])
  refine bodyPost_ret (results_cell_row rfl _ _ w.heap.size [.bool false,.int .i64 (0),.slice none 0 0,.bool false,.int .i64 (0),.bool false,.bool false,.bool false,.int .i64 0] _ rfl hrg Tryz.underlying56 rfl did_size) rfl ?_
  exact ⟨rfl,HDX.out.fin hlt HOX.out _⟩
end
end Go.Proofs.YtmhpcgcloojfbaaGreat
end
section
namespace Go.Proofs.YtmhpcgcloojfbaaGreat
open Go.RowKit Go.Sort
set_option linter.unusedVariables false
set_option linter.unusedSimpArgs false
set_option linter.unusedVariables false
set_option linter.unusedSimpArgs false
open Go.Proofs.YtmhpcgcloojfbaaGreat.Simp
set_option maxRecDepth 100000
set_option maxHeartbeats 12800000
theorem cset12 {W:World} {b i b' j:Nat} {u v:Value} (h:W.cell? ⟨b,i,none⟩ = some u) (hne:b' ≠ b ∨ j ≠ i):(W.setCell ⟨b',j,none⟩ v).cell? ⟨b,i,none⟩ = some u:=by
  rw [World.cell?_setCell_other (h:=fun e => by cases e;rcases hne with h | h <;> exact h rfl)];exact h
section
variable {w:World} {vb yb zb:Nat} {c:Cfg} {x:CfgAt} {k:Nat} {op own:Int} {src:Bool} {dv:Value} {a len:Int} {ws:List Int} {bs:List Bool} {F:Qr} {gb db dof dc ce xx:Nat} {ds:List Int}
theorem dsend_word (h:DAt w vb yb zb c x k (op) (own) (src) ((.slice (some ⟨db,dof,none⟩) ds.length dc)) (a) (len) (ws) (bs)) (hp:w.heap[gb]? = some (.cells #[.int .i64 (F.src:Int),.int .i64 (F.dst:Int),.int .i64 (ce:Int),.int .i64 (xx:Int)] 3 (0,0))) (hdat:∃ cs mm,w.heap[db]? = some (.cells cs 34 mm) ∧ ∀ j,j < ds.length → cs[dof + j]? = some (.int .u32 (ds.getD j 0))) (hl:ws.length ≤ 1000000) (hn:ds.length ≤ 16) (j:Nat) (hj:j < ds.length) (ha:a = 3 + (j:Int)) (hd:ce + 1 + j < ws.length) (hby:db ≠ yb):Calls Tryz.prog 58 #[.pointer (some ⟨vb,0,none⟩),.slice (some ⟨yb,0,none⟩) ws.length ws.length,.slice (some ⟨zb,0,none⟩) bs.length bs.length,.slice (some ⟨gb,0,none⟩) 4 4] w (DGives w vb yb zb c x k (op) (own) (src) ((.slice (some ⟨db,dof,none⟩) ds.length dc)) (a) (len) (ws.set (ce + 1 + j) (ds.getD j 0)) (bs) (qdV false (0) (.slice none 0 0) (0) false false)):=by
  obtain ⟨W1,HW1,hsz,hO,hz⟩:=did_new w
  have hlt:=h.lt
  have hD1:=h.only hO ⟨fun h => h,fun h => h,fun h => h⟩
  have HD1:=Lib.hid hD1;have HO1:Hid (Only (New w.heap.size (fun j => j = vb ∨ j = yb ∨ j = zb)) w W1):=Lib.hid (hO.mono fun _ _ h => h.elim);have HZ1:=Lib.hid hz


  have x8:W1.cell? ⟨vb,8,none⟩ = some (.int .u32 own):=cell_blk HD1.out.blk rfl
  have x10:W1.cell? ⟨vb,10,none⟩ = some (.slice (some ⟨db,dof,none⟩) ds.length dc):=cell_blk HD1.out.blk rfl
  have x11:W1.cell? ⟨vb,11,none⟩ = some (.int .i64 a):=cell_blk HD1.out.blk rfl
  have HP1:=Lib.hid (hO.at_ hp (fun h => h))
  have hgy:gb ≠ yb:=fun e => by have q:=hO.at_ hp (fun h => h);rw [e] at q;have q2:W1.heap[yb]? = some (.cells _ _ _):=HD1.out.row;rw [q] at q2;injection q2 with q3;injection q3 with q4 q5;exact absurd q5 (by decide)
  have p2:W1.cell? ⟨gb,2,none⟩ = some (.int .i64 (ce:Int)):=cell_blk HP1.out rfl
  obtain ⟨T,hT⟩:∃ T:Nat,ce + 1 + j = T:=⟨_,rfl⟩
  rw [hT] at hd ⊢
  obtain ⟨y,hy0⟩:∃ y,ws.getD (T) 0 = y:=⟨_,rfl⟩
  have yc:W1.cell? ⟨yb,T,none⟩ = some (.int .u32 y):=by rw [← hy0];exact HD1.out.row.cell (by omega)
  have yf:W1.frozen? ⟨yb,T,none⟩ = false:=HD1.out.row.frozen _
  obtain ⟨cs,mm,hcs,hc⟩:=hdat
  have hdb:=hO.at_ hcs (fun h => h)
  obtain ⟨v,hv⟩:∃ v,ds.getD j 0 = v:=⟨_,rfl⟩
  have dc0:W1.cell? ⟨db,dof + j,none⟩ = some (.int .u32 v):=by rw [← hv];exact blk_cell hdb (hc j hj)
  rw [hv]
  obtain ⟨s1,hs1⟩:∃ s1:Int,(ce:Int) + a = s1:=⟨_,rfl⟩
  have n1:IntKind.i64.wrap ((ce:Int) + a) = s1:=by rw [hs1];exact IntWalk.i64_in _ (by omega)
  have n2:IntKind.i64.wrap (s1 - 2) = (T:Int):=by rw [IntWalk.i64_in _ (by omega)];omega
  have n3:IntKind.i64.wrap (a - 3) = (j:Int):=by rw [IntWalk.i64_in _ (by omega)];omega
  have b1:(a == 1) = false:=beq_false_of_ne (by omega)
  have b2:(a == 2) = false:=beq_false_of_ne (by omega)
  have n4:IntKind.i64.wrap (2 + (ds.length:Int)) = 2 + (ds.length:Int):=IntWalk.i64_in _ (by omega)
  have n5:IntKind.i64.wrap (3 + (ds.length:Int)) = 3 + (ds.length:Int):=IntWalk.i64_in _ (by omega)
  have b3:decide (a ≤ 2 + (ds.length:Int)) = true:=decide_eq_true (by omega)
  have b4:(a == 3 + (ds.length:Int)) = false:=beq_false_of_ne (by omega)
  have hjl:(j:Int) < (ds.length:Int):=by omega
  clear hy0 hv hs1 hT ha hcs hc hdb
  clear hD1 hO hz h hp
  go_enter Tryz.func58,Tryz.ntmps58
  go_wp2_with (rw [← HW1.out])
  refine wp_region_held_drew (S:=(fun W' => W'.cell? ⟨vb,11,none⟩ = some (.int .i64 a) ∧ W'.cell? ⟨vb,10,none⟩ = some (.slice (some ⟨db,dof,none⟩) ds.length dc) ∧ W'.cell? ⟨gb,2,none⟩ = some (.int .i64 (ce:Int)) ∧ W'.cell? ⟨db,dof + j,none⟩ = some (.int .u32 v))) (by kernel_rfl) (by exact ⟨x11,x10,p2,dc0⟩) (fun hHeld => ?_)
  refine wpAnyH_take (i:=0) rfl (by kernel_rfl) (by kernel_rfl) (by kernel_rfl) (fun _ _ _ h => h) (Or.inl ⟨by rfl,by intro w hSw;(have z0:=hSw.1;have z1:=hSw.2.1;have z2:=hSw.2.2.1;have z3:=hSw.2.2.2;clear hSw);(go_simp <;> with_reducible rfl)⟩) (by assumption) ?_
  (try simp only [Act.put,List.setIfInBounds_toArray,List.set_cons_zero,List.set_cons_succ,List.getElem_toArray,List.getElem_cons_zero,List.getElem_cons_succ])
  refine wpAnyH_take (i:=1) rfl (by kernel_rfl) (by kernel_rfl) (by kernel_rfl) (fun _ _ _ h => h) (Or.inl ⟨by rfl,by intro w hSw;(have z0:=hSw.1;have z1:=hSw.2.1;have z2:=hSw.2.2.1;have z3:=hSw.2.2.2;clear hSw);(go_simp <;> with_reducible rfl)⟩) (by assumption) ?_
  (try simp only [Act.put,List.setIfInBounds_toArray,List.set_cons_zero,List.set_cons_succ,List.getElem_toArray,List.getElem_cons_zero,List.getElem_cons_succ])
  refine wpAnyH_take (i:=2) rfl (by kernel_rfl) (by kernel_rfl) (by kernel_rfl) (fun _ _ _ h => h) (Or.inl ⟨by rfl,by intro w hSw;(have z0:=hSw.1;have z1:=hSw.2.1;have z2:=hSw.2.2.1;have z3:=hSw.2.2.2;clear hSw);(go_simp <;> with_reducible rfl)⟩) (by assumption) ?_
  (try simp only [Act.put,List.setIfInBounds_toArray,List.set_cons_zero,List.set_cons_succ,List.getElem_toArray,List.getElem_cons_zero,List.getElem_cons_succ])
  refine wpAnyH_take (i:=3) rfl (by kernel_rfl) (by kernel_rfl) (by kernel_rfl) (fun _ _ _ h => h) (Or.inl ⟨by rfl,by intro w hSw;(have z0:=hSw.1;have z1:=hSw.2.1;have z2:=hSw.2.2.1;have z3:=hSw.2.2.2;clear hSw);(go_simp <;> with_reducible rfl)⟩) (by assumption) ?_
  (try simp only [Act.put,List.setIfInBounds_toArray,List.set_cons_zero,List.set_cons_succ,List.getElem_toArray,List.getElem_cons_zero,List.getElem_cons_succ])
  refine wpAnyH_take (i:=4) rfl (by kernel_rfl) (by kernel_rfl) (by kernel_rfl) (fun _ _ _ h => h) (Or.inl ⟨by rfl,by intro w hSw;(have z0:=hSw.1;have z1:=hSw.2.1;have z2:=hSw.2.2.1;have z3:=hSw.2.2.2;clear hSw);(go_simp <;> with_reducible rfl)⟩) (by assumption) ?_
  (try simp only [Act.put,List.setIfInBounds_toArray,List.set_cons_zero,List.set_cons_succ,List.getElem_toArray,List.getElem_cons_zero,List.getElem_cons_succ])
  refine wpAnyH_take (i:=5) rfl (by kernel_rfl) (by kernel_rfl) (by kernel_rfl) (fun _ _ _ h => h) (Or.inl ⟨by rfl,by intro w hSw;(have z0:=hSw.1;have z1:=hSw.2.1;have z2:=hSw.2.2.1;have z3:=hSw.2.2.2;clear hSw);(go_simp <;> with_reducible rfl)⟩) (by assumption) ?_
  (try simp only [Act.put,List.setIfInBounds_toArray,List.set_cons_zero,List.set_cons_succ,List.getElem_toArray,List.getElem_cons_zero,List.getElem_cons_succ])
  refine wpAnyH_take (i:=6) rfl (by kernel_rfl) (by kernel_rfl) (by kernel_rfl) (fun _ _ _ h => h) (Or.inl ⟨by rfl,by intro w hSw;(have z0:=hSw.1;have z1:=hSw.2.1;have z2:=hSw.2.2.1;have z3:=hSw.2.2.2;clear hSw);(go_simp <;> with_reducible rfl)⟩) (by assumption) ?_
  (try simp only [Act.put,List.setIfInBounds_toArray,List.set_cons_zero,List.set_cons_succ,List.getElem_toArray,List.getElem_cons_zero,List.getElem_cons_succ])
  refine wpAnyH_take (i:=7) rfl (by kernel_rfl) (by kernel_rfl) (by kernel_rfl) (fun _ _ _ h => h) (Or.inl ⟨by rfl,by intro w hSw;(have z0:=hSw.1;have z1:=hSw.2.1;have z2:=hSw.2.2.1;have z3:=hSw.2.2.2;clear hSw);(go_simp <;> with_reducible rfl)⟩) (by assumption) ?_
  (try simp only [Act.put,List.setIfInBounds_toArray,List.set_cons_zero,List.set_cons_succ,List.getElem_toArray,List.getElem_cons_zero,List.getElem_cons_succ])
  refine wpAnyH_take (i:=8) rfl (by kernel_rfl) (by kernel_rfl) (by kernel_rfl) (fun _ _ _ h => h) (Or.inl ⟨by rfl,by intro w hSw;(have z0:=hSw.1;have z1:=hSw.2.1;have z2:=hSw.2.2.1;have z3:=hSw.2.2.2;clear hSw);(go_simp <;> with_reducible rfl)⟩) (by assumption) ?_
  (try simp only [Act.put,List.setIfInBounds_toArray,List.set_cons_zero,List.set_cons_succ,List.getElem_toArray,List.getElem_cons_zero,List.getElem_cons_succ])
  refine wpAnyH_take (i:=9) rfl (by kernel_rfl) (by kernel_rfl) (by kernel_rfl) (fun _ _ _ h => h) (Or.inl ⟨by rfl,by intro w hSw;(have z0:=hSw.1;have z1:=hSw.2.1;have z2:=hSw.2.2.1;have z3:=hSw.2.2.2;clear hSw);(go_simp <;> with_reducible rfl)⟩) (by assumption) ?_
  (try simp only [Act.put,List.setIfInBounds_toArray,List.set_cons_zero,List.set_cons_succ,List.getElem_toArray,List.getElem_cons_zero,List.getElem_cons_succ])
  refine wpAnyH_take (i:=10) rfl (by kernel_rfl) (by kernel_rfl) (by kernel_rfl) (fun _ _ _ h => h) (Or.inl ⟨by rfl,by intro w hSw;(have z0:=hSw.1;have z1:=hSw.2.1;have z2:=hSw.2.2.1;have z3:=hSw.2.2.2;clear hSw);(go_simp <;> with_reducible rfl)⟩) (by assumption) ?_
  (try simp only [Act.put,List.setIfInBounds_toArray,List.set_cons_zero,List.set_cons_succ,List.getElem_toArray,List.getElem_cons_zero,List.getElem_cons_succ])
  refine wpAnyH_take (i:=11) rfl (by kernel_rfl) (by kernel_rfl) (by kernel_rfl) (fun _ _ _ h => h) (Or.inl ⟨by rfl,by intro w hSw;(have z0:=hSw.1;have z1:=hSw.2.1;have z2:=hSw.2.2.1;have z3:=hSw.2.2.2;clear hSw);(go_simp <;> with_reducible rfl)⟩) (by assumption) ?_
  (try simp only [Act.put,List.setIfInBounds_toArray,List.set_cons_zero,List.set_cons_succ,List.getElem_toArray,List.getElem_cons_zero,List.getElem_cons_succ])
  refine wpAnyH_take (i:=12) rfl (by kernel_rfl) (by kernel_rfl) (by kernel_rfl) (fun _ _ _ h => h) (Or.inl ⟨by rfl,by intro w hSw;(have z0:=hSw.1;have z1:=hSw.2.1;have z2:=hSw.2.2.1;have z3:=hSw.2.2.2;clear hSw);(go_simp <;> with_reducible rfl)⟩) (by assumption) ?_
  (try simp only [Act.put,List.setIfInBounds_toArray,List.set_cons_zero,List.set_cons_succ,List.getElem_toArray,List.getElem_cons_zero,List.getElem_cons_succ])
  refine wpAnyH_take (i:=13) rfl (by kernel_rfl) (by kernel_rfl) (by kernel_rfl) (fun _ _ _ h => h) (Or.inl ⟨by rfl,by intro w hSw;(have z0:=hSw.1;have z1:=hSw.2.1;have z2:=hSw.2.2.1;have z3:=hSw.2.2.2;clear hSw);(go_simp <;> with_reducible rfl)⟩) (by assumption) ?_
  (try simp only [Act.put,List.setIfInBounds_toArray,List.set_cons_zero,List.set_cons_succ,List.getElem_toArray,List.getElem_cons_zero,List.getElem_cons_succ])
  refine wpAnyH_take (i:=14) rfl (by kernel_rfl) (by kernel_rfl) (by kernel_rfl) (fun _ _ _ h => h) (Or.inl ⟨by rfl,by intro w hSw;(have z0:=hSw.1;have z1:=hSw.2.1;have z2:=hSw.2.2.1;have z3:=hSw.2.2.2;clear hSw);(go_simp <;> with_reducible rfl)⟩) (by assumption) ?_
  (try simp only [Act.put,List.setIfInBounds_toArray,List.set_cons_zero,List.set_cons_succ,List.getElem_toArray,List.getElem_cons_zero,List.getElem_cons_succ])
  refine wpAnyH_take (i:=15) rfl (by kernel_rfl) (by kernel_rfl) (by kernel_rfl) (fun _ _ _ h => h) (Or.inl ⟨by rfl,by intro w hSw;(have z0:=hSw.1;have z1:=hSw.2.1;have z2:=hSw.2.2.1;have z3:=hSw.2.2.2;clear hSw);(go_simp <;> with_reducible rfl)⟩) (by assumption) ?_
  (try simp only [Act.put,List.setIfInBounds_toArray,List.set_cons_zero,List.set_cons_succ,List.getElem_toArray,List.getElem_cons_zero,List.getElem_cons_succ])
  refine wpAnyH_take (i:=16) rfl (by kernel_rfl) (by kernel_rfl) (by kernel_rfl) (fun _ _ _ h => h) (Or.inl ⟨by rfl,by intro w hSw;(have z0:=hSw.1;have z1:=hSw.2.1;have z2:=hSw.2.2.1;have z3:=hSw.2.2.2;clear hSw);(go_simp <;> with_reducible rfl)⟩) (by assumption) ?_
  (try simp only [Act.put,List.setIfInBounds_toArray,List.set_cons_zero,List.set_cons_succ,List.getElem_toArray,List.getElem_cons_zero,List.getElem_cons_succ])
  refine wpAnyH_take (i:=17) rfl (by kernel_rfl) (by kernel_rfl) (by kernel_rfl) (fun _ _ _ h => h) (Or.inl ⟨by rfl,by intro w hSw;(have z0:=hSw.1;have z1:=hSw.2.1;have z2:=hSw.2.2.1;have z3:=hSw.2.2.2;clear hSw);(go_simp <;> with_reducible rfl)⟩) (by assumption) ?_
  (try simp only [Act.put,List.setIfInBounds_toArray,List.set_cons_zero,List.set_cons_succ,List.getElem_toArray,List.getElem_cons_zero,List.getElem_cons_succ])
  refine wpAnyH_take (i:=18) rfl (by kernel_rfl) (by kernel_rfl) (by kernel_rfl) (fun _ _ _ h => h) (Or.inl ⟨by rfl,by intro w hSw;(have z0:=hSw.1;have z1:=hSw.2.1;have z2:=hSw.2.2.1;have z3:=hSw.2.2.2;clear hSw);(go_simp <;> with_reducible rfl)⟩) (by assumption) ?_
  (try simp only [Act.put,List.setIfInBounds_toArray,List.set_cons_zero,List.set_cons_succ,List.getElem_toArray,List.getElem_cons_zero,List.getElem_cons_succ])
  refine wpAnyH_take (i:=19) rfl (by kernel_rfl) (by kernel_rfl) (by kernel_rfl) (fun _ _ _ h => h) (Or.inl ⟨by rfl,by intro w hSw;(have z0:=hSw.1;have z1:=hSw.2.1;have z2:=hSw.2.2.1;have z3:=hSw.2.2.2;clear hSw);(go_simp <;> with_reducible rfl)⟩) (by assumption) ?_
  (try simp only [Act.put,List.setIfInBounds_toArray,List.set_cons_zero,List.set_cons_succ,List.getElem_toArray,List.getElem_cons_zero,List.getElem_cons_succ])
  refine wpAnyH_take (i:=20) rfl (by kernel_rfl) (by kernel_rfl) (by kernel_rfl) (fun _ _ _ h => h) (Or.inl ⟨by rfl,by intro w hSw;(have z0:=hSw.1;have z1:=hSw.2.1;have z2:=hSw.2.2.1;have z3:=hSw.2.2.2;clear hSw);(go_simp <;> with_reducible rfl)⟩) (by assumption) ?_
  (try simp only [Act.put,List.setIfInBounds_toArray,List.set_cons_zero,List.set_cons_succ,List.getElem_toArray,List.getElem_cons_zero,List.getElem_cons_succ])
  refine wpAnyH_take (i:=21) rfl (by kernel_rfl) (by kernel_rfl) (by kernel_rfl) (fun _ _ _ h => h) (Or.inl ⟨by rfl,by intro w hSw;(have z0:=hSw.1;have z1:=hSw.2.1;have z2:=hSw.2.2.1;have z3:=hSw.2.2.2;clear hSw);(go_simp <;> with_reducible rfl)⟩) (by assumption) ?_
  (try simp only [Act.put,List.setIfInBounds_toArray,List.set_cons_zero,List.set_cons_succ,List.getElem_toArray,List.getElem_cons_zero,List.getElem_cons_succ])
  have yc2:W1.drew.cell? ⟨yb,T,none⟩ = some (.int .u32 y):=yc
  have yf2:W1.drew.frozen? ⟨yb,T,none⟩ = false:=yf
  refine wpAnyH_ready (rs:=[22]) (by kernel_rfl) (by simp) (AllReadyH.cons rfl (fun K hK => ?_) AllReadyH.nil)
  go_simp
  refine hK.out _ _ (by exact ⟨cset12 hHeld.1 (.inl HD1.out.ne.1.symm),cset12 hHeld.2.1 (.inl HD1.out.ne.1.symm),cset12 hHeld.2.2.1 (.inl hgy.symm),cset12 hHeld.2.2.2 (.inl hby.symm)⟩) (fun hHeld => ?_)
  clear hK K
  (try simp only [Act.put,List.setIfInBounds_toArray,List.set_cons_zero,List.set_cons_succ,List.getElem_toArray,List.getElem_cons_zero,List.getElem_cons_succ])
  refine wpAnyH_done (by kernel_rfl) ?_ _
  obtain ⟨X,HX⟩:∃ u,Hid (u = (W1.setCell ⟨yb,T,none⟩ (.int .u32 v)).drew):=⟨_,rfl⟩
  have HDX:=Lib.hid (by have q:=(HD1.out.word T v).drew;rw [← HX.out] at q;exact q)
  have HOX:Hid (Only (New w.heap.size (fun j => j = vb ∨ j = yb ∨ j = zb)) w X):=Lib.hid (by rw [HX.out];exact (HO1.out.set (p:=⟨yb,T,none⟩) (.inr (.inr (.inl rfl))) _).drew)
  have HZX:Hid (X.heap[w.heap.size]? = some (.cells #[.bool false,.int .i64 0,.slice none 0 0,.bool false,.int .i64 0,.bool false,.bool false,.bool false,.int .i64 0] 56 (0,0))):=Lib.hid (by rw [HX.out];exact (Below.heap_setCell _ _ _ _ (by show w.heap.size ≠ yb;omega)).trans HZ1.out)
  rw [← HX.out]
  have hth:=there_at (W:=X) HZX.out (n:=(qdV false (0) (.slice none 0 0) (0) false false:Array Value).size) rfl
  have hsd:(Tryz.prog.info? 56).map (·.size) = some (qdV false (0) (.slice none 0 0) (0) false false:Array Value).size:=did_size
  go_wp2_with (first | (rw [← HX.out]) | (with_reducible refine wpList_store_mid (by kernel_rfl) _ _ _ rfl w.heap.size 0 (qdV false (0) (.slice none 0 0) (0) false false) (by kernel_rfl) (by kernel_rfl) hth hsd (by kernel_rfl) ?_))
  have hrg:=World.rangeAt_setCells_same (X) w.heap.size 0 [.bool false,.int .i64 (0),.slice none 0 0,.bool false,.int .i64 (0),.bool false,.bool false,.bool false,.int .i64 0] (there_at (cs:=#[.bool false,.int .i64 0,.slice none 0 0,.bool false,.int .i64 0,.bool false,.bool false,.bool false,.int .i64 0]) (n:=9) (show (X).heap[w.heap.size]? = _ from HZX.out) rfl)
  (try simp only [Exit.inBlock,Exit.then])
  refine bodyPost_ret (results_cell_row rfl _ _ w.heap.size [.bool false,.int .i64 (0),.slice none 0 0,.bool false,.int .i64 (0),.bool false,.bool false,.bool false,.int .i64 0] _ rfl hrg Tryz.underlying56 rfl did_size) rfl ?_
  exact ⟨rfl,HDX.out.fin hlt HOX.out _⟩
end
end Go.Proofs.YtmhpcgcloojfbaaGreat
end
section
namespace Go.Proofs.YtmhpcgcloojfbaaGreat
open Go.RowKit Go.Sort
set_option linter.unusedVariables false
set_option linter.unusedSimpArgs false
set_option linter.unusedVariables false
set_option linter.unusedSimpArgs false
open Go.Proofs.YtmhpcgcloojfbaaGreat.Simp
set_option maxRecDepth 100000
set_option maxHeartbeats 12800000
section
variable {w:World} {vb yb zb:Nat} {c:Cfg} {x:CfgAt} {k:Nat} {op own:Int} {src:Bool} {dv:Value} {a len:Int} {ws:List Int} {bs:List Bool} {F:Qr} {gb db dof dc ce xx:Nat} {ds:List Int}
theorem dsend_tail (h:DAt w vb yb zb c x k (op) (own) (src) ((.slice (some ⟨db,dof,none⟩) ds.length dc)) (a) (len) (ws) (bs)) (hp:w.heap[gb]? = some (.cells #[.int .i64 (F.src:Int),.int .i64 (F.dst:Int),.int .i64 (ce:Int),.int .i64 (xx:Int)] 3 (0,0))) (hdat:∃ cs mm,w.heap[db]? = some (.cells cs 34 mm) ∧ ∀ j,j < ds.length → cs[dof + j]? = some (.int .u32 (ds.getD j 0))) (hl:ws.length ≤ 1000000) (hn:ds.length ≤ 16) (ha:a = 3 + (ds.length:Int)) (hd:F.src < ws.length):Calls Tryz.prog 58 #[.pointer (some ⟨vb,0,none⟩),.slice (some ⟨yb,0,none⟩) ws.length ws.length,.slice (some ⟨zb,0,none⟩) bs.length bs.length,.slice (some ⟨gb,0,none⟩) 4 4] w (DGives w vb yb zb c x k (op) (inc32 own) (src) ((.slice (some ⟨db,dof,none⟩) ds.length dc)) (a) (len) (ws.set F.src (inc32 own)) (bs) (qdV false (0) (.slice none 0 0) (0) true false)):=by
  obtain ⟨W1,HW1,hsz,hO,hz⟩:=did_new w
  have hlt:=h.lt
  have hD1:=h.only hO ⟨fun h => h,fun h => h,fun h => h⟩
  have HD1:=Lib.hid hD1;have HO1:Hid (Only (New w.heap.size (fun j => j = vb ∨ j = yb ∨ j = zb)) w W1):=Lib.hid (hO.mono fun _ _ h => h.elim);have HZ1:=Lib.hid hz


  have x8:W1.cell? ⟨vb,8,none⟩ = some (.int .u32 own):=cell_blk HD1.out.blk rfl
  have x10:W1.cell? ⟨vb,10,none⟩ = some (.slice (some ⟨db,dof,none⟩) ds.length dc):=cell_blk HD1.out.blk rfl
  have x11:W1.cell? ⟨vb,11,none⟩ = some (.int .i64 a):=cell_blk HD1.out.blk rfl
  have HP1:=Lib.hid (hO.at_ hp (fun h => h))
  have p0:W1.cell? ⟨gb,0,none⟩ = some (.int .i64 (F.src:Int)):=cell_blk HP1.out rfl
  obtain ⟨y,hy0⟩:∃ y,ws.getD (F.src) 0 = y:=⟨_,rfl⟩
  have yc:W1.cell? ⟨yb,F.src,none⟩ = some (.int .u32 y):=by rw [← hy0];exact HD1.out.row.cell (by omega)
  obtain ⟨o1,ho1⟩:∃ o,inc32 own = o:=⟨_,rfl⟩
  have n1:IntKind.u32.wrap (own + 1) = o1:=by rw [IntKind.wrap_u32];exact ho1
  rw [ho1]
  have b1:(a == 1) = false:=beq_false_of_ne (by omega)
  have b2:(a == 2) = false:=beq_false_of_ne (by omega)
  have n4:IntKind.i64.wrap (2 + (ds.length:Int)) = 2 + (ds.length:Int):=IntWalk.i64_in _ (by omega)
  have n5:IntKind.i64.wrap (3 + (ds.length:Int)) = 3 + (ds.length:Int):=IntWalk.i64_in _ (by omega)
  have b3:decide (a ≤ 2 + (ds.length:Int)) = false:=decide_eq_false (by omega)
  have b4:(a == 3 + (ds.length:Int)) = true:=by rw [ha];exact beq_self_eq_true _
  have g8:=blk_frozen 8 HD1.out.blk
  clear hy0 ho1 ha
  clear hD1 hO hz h hp
  have hgv:gb ≠ vb:=fun e => by have q:=HP1.out;rw [e] at q;have q2:=HD1.out.blk;rw [q] at q2;injection q2 with q3;injection q3 with q4 q5;exact absurd q5 (by decide)
  have hgy:gb ≠ yb:=fun e => by have q:=HP1.out;rw [e] at q;have q2:W1.heap[yb]? = some (.cells _ _ _):=HD1.out.row;rw [q] at q2;injection q2 with q3;injection q3 with q4 q5;exact absurd q5 (by decide)
  obtain ⟨V,HV⟩:∃ u,Hid (u = W1.setCell ⟨vb,8,none⟩ (.int .u32 o1)):=⟨_,rfl⟩
  have HDV:=Lib.hid (by have q:=HD1.out.put (o:=8) (v:=.int .u32 o1) (op':=op) (own':=o1) (src':=src) (dv':=(.slice (some ⟨db,dof,none⟩) ds.length dc)) (a':=a) (len':=len) rfl;rw [← HV.out] at q;exact q)
  have v8:V.cell? ⟨vb,8,none⟩ = some (.int .u32 o1):=cell_blk HDV.out.blk rfl
  have p0V:V.cell? ⟨gb,0,none⟩ = some (.int .i64 (F.src:Int)):=by rw [HV.out];exact cset12 p0 (.inl hgv.symm)
  have ycV:V.cell? ⟨yb,F.src,none⟩ = some (.int .u32 y):=by rw [HV.out];exact cset12 yc (.inl HD1.out.ne.1)
  have yfV:V.frozen? ⟨yb,F.src,none⟩ = false:=HDV.out.row.frozen _
  go_enter Tryz.func58,Tryz.ntmps58
  go_wp2_with (first | (rw [← HW1.out]) | (rw [← HV.out]))
  refine wp_region_held_drew (S:=(fun W' => W'.cell? ⟨gb,0,none⟩ = some (.int .i64 (F.src:Int)) ∧ W'.cell? ⟨vb,8,none⟩ = some (.int .u32 o1))) (by kernel_rfl) (by exact ⟨p0V,v8⟩) (fun hHeld => ?_)
  refine wpAnyH_take (i:=0) rfl (by kernel_rfl) (by kernel_rfl) (by kernel_rfl) (fun _ _ _ h => h) (Or.inl ⟨by rfl,by intro w hSw;(have z0:=hSw.1;have z1:=hSw.2;clear hSw);(go_simp <;> with_reducible rfl)⟩) (by assumption) ?_
  (try simp only [Act.put,List.setIfInBounds_toArray,List.set_cons_zero,List.set_cons_succ,List.getElem_toArray,List.getElem_cons_zero,List.getElem_cons_succ])
  refine wpAnyH_take (i:=1) rfl (by kernel_rfl) (by kernel_rfl) (by kernel_rfl) (fun _ _ _ h => h) (Or.inl ⟨by rfl,by intro w hSw;(have z0:=hSw.1;have z1:=hSw.2;clear hSw);(go_simp <;> with_reducible rfl)⟩) (by assumption) ?_
  (try simp only [Act.put,List.setIfInBounds_toArray,List.set_cons_zero,List.set_cons_succ,List.getElem_toArray,List.getElem_cons_zero,List.getElem_cons_succ])
  refine wpAnyH_take (i:=2) rfl (by kernel_rfl) (by kernel_rfl) (by kernel_rfl) (fun _ _ _ h => h) (Or.inl ⟨by rfl,by intro w hSw;(have z0:=hSw.1;have z1:=hSw.2;clear hSw);(go_simp <;> with_reducible rfl)⟩) (by assumption) ?_
  (try simp only [Act.put,List.setIfInBounds_toArray,List.set_cons_zero,List.set_cons_succ,List.getElem_toArray,List.getElem_cons_zero,List.getElem_cons_succ])
  refine wpAnyH_take (i:=3) rfl (by kernel_rfl) (by kernel_rfl) (by kernel_rfl) (fun _ _ _ h => h) (Or.inl ⟨by rfl,by intro w hSw;(have z0:=hSw.1;have z1:=hSw.2;clear hSw);(go_simp <;> with_reducible rfl)⟩) (by assumption) ?_
  (try simp only [Act.put,List.setIfInBounds_toArray,List.set_cons_zero,List.set_cons_succ,List.getElem_toArray,List.getElem_cons_zero,List.getElem_cons_succ])
  refine wpAnyH_take (i:=4) rfl (by kernel_rfl) (by kernel_rfl) (by kernel_rfl) (fun _ _ _ h => h) (Or.inl ⟨by rfl,by intro w hSw;(have z0:=hSw.1;have z1:=hSw.2;clear hSw);(go_simp <;> with_reducible rfl)⟩) (by assumption) ?_
  (try simp only [Act.put,List.setIfInBounds_toArray,List.set_cons_zero,List.set_cons_succ,List.getElem_toArray,List.getElem_cons_zero,List.getElem_cons_succ])
  refine wpAnyH_take (i:=5) rfl (by kernel_rfl) (by kernel_rfl) (by kernel_rfl) (fun _ _ _ h => h) (Or.inl ⟨by rfl,by intro w hSw;(have z0:=hSw.1;have z1:=hSw.2;clear hSw);(go_simp <;> with_reducible rfl)⟩) (by assumption) ?_
  (try simp only [Act.put,List.setIfInBounds_toArray,List.set_cons_zero,List.set_cons_succ,List.getElem_toArray,List.getElem_cons_zero,List.getElem_cons_succ])
  refine wpAnyH_take (i:=6) rfl (by kernel_rfl) (by kernel_rfl) (by kernel_rfl) (fun _ _ _ h => h) (Or.inl ⟨by rfl,by intro w hSw;(have z0:=hSw.1;have z1:=hSw.2;clear hSw);(go_simp <;> with_reducible rfl)⟩) (by assumption) ?_
  (try simp only [Act.put,List.setIfInBounds_toArray,List.set_cons_zero,List.set_cons_succ,List.getElem_toArray,List.getElem_cons_zero,List.getElem_cons_succ])
  refine wpAnyH_take (i:=7) rfl (by kernel_rfl) (by kernel_rfl) (by kernel_rfl) (fun _ _ _ h => h) (Or.inl ⟨by rfl,by intro w hSw;(have z0:=hSw.1;have z1:=hSw.2;clear hSw);(go_simp <;> with_reducible rfl)⟩) (by assumption) ?_
  (try simp only [Act.put,List.setIfInBounds_toArray,List.set_cons_zero,List.set_cons_succ,List.getElem_toArray,List.getElem_cons_zero,List.getElem_cons_succ])
  refine wpAnyH_take (i:=8) rfl (by kernel_rfl) (by kernel_rfl) (by kernel_rfl) (fun _ _ _ h => h) (Or.inl ⟨by rfl,by intro w hSw;(have z0:=hSw.1;have z1:=hSw.2;clear hSw);(go_simp <;> with_reducible rfl)⟩) (by assumption) ?_
  (try simp only [Act.put,List.setIfInBounds_toArray,List.set_cons_zero,List.set_cons_succ,List.getElem_toArray,List.getElem_cons_zero,List.getElem_cons_succ])
  have yc2:V.drew.cell? ⟨yb,F.src,none⟩ = some (.int .u32 y):=ycV
  have yf2:V.drew.frozen? ⟨yb,F.src,none⟩ = false:=yfV
  refine wpAnyH_ready (rs:=[9]) (by kernel_rfl) (by simp) (AllReadyH.cons rfl (fun K hK => ?_) AllReadyH.nil)
  go_simp
  refine hK.out _ _ (by exact ⟨cset12 hHeld.1 (.inl hgy.symm),cset12 hHeld.2 (.inl HD1.out.ne.1.symm)⟩) (fun hHeld => ?_)
  clear hK K
  (try simp only [Act.put,List.setIfInBounds_toArray,List.set_cons_zero,List.set_cons_succ,List.getElem_toArray,List.getElem_cons_zero,List.getElem_cons_succ])
  refine wpAnyH_done (by kernel_rfl) ?_ _
  obtain ⟨X,HX⟩:∃ u,Hid (u = (V.setCell ⟨yb,F.src,none⟩ (.int .u32 o1)).drew):=⟨_,rfl⟩
  have HDX:=Lib.hid (by have q:=(HDV.out.word F.src o1).drew;rw [← HX.out] at q;exact q)
  have HOX:Hid (Only (New w.heap.size (fun j => j = vb ∨ j = yb ∨ j = zb)) w X):=Lib.hid (by rw [HX.out];exact (show Only (New w.heap.size (fun j => j = vb ∨ j = yb ∨ j = zb)) w (V.setCell ⟨yb,F.src,none⟩ (.int .u32 o1)) from by rw [HV.out];exact (HO1.out.set (p:=⟨vb,8,none⟩) (.inr (.inl rfl)) _).set (p:=⟨yb,F.src,none⟩) (.inr (.inr (.inl rfl))) _).drew)
  have HZX:Hid (X.heap[w.heap.size]? = some (.cells #[.bool false,.int .i64 0,.slice none 0 0,.bool false,.int .i64 0,.bool false,.bool false,.bool false,.int .i64 0] 56 (0,0))):=Lib.hid (by rw [HX.out];exact (Below.heap_setCell _ _ _ _ (by show w.heap.size ≠ yb;omega)).trans (by rw [HV.out];exact (Below.heap_setCell _ _ _ _ (by show w.heap.size ≠ vb;omega)).trans HZ1.out))
  rw [← HX.out]
  have hth:=there_at (W:=X) HZX.out (n:=(qdV false (0) (.slice none 0 0) (0) true false:Array Value).size) rfl
  have hsd:(Tryz.prog.info? 56).map (·.size) = some (qdV false (0) (.slice none 0 0) (0) true false:Array Value).size:=did_size
  go_wp2_with (first | (rw [← HX.out]) | (with_reducible refine wpList_store_mid (by kernel_rfl) _ _ _ rfl w.heap.size 0 (qdV false (0) (.slice none 0 0) (0) true false) (by kernel_rfl) (by kernel_rfl) hth hsd (by kernel_rfl) ?_))
  have hrg:=World.rangeAt_setCells_same (X) w.heap.size 0 [.bool false,.int .i64 (0),.slice none 0 0,.bool false,.int .i64 (0),.bool true,.bool false,.bool false,.int .i64 0] (there_at (cs:=#[.bool false,.int .i64 0,.slice none 0 0,.bool false,.int .i64 0,.bool false,.bool false,.bool false,.int .i64 0]) (n:=9) (show (X).heap[w.heap.size]? = _ from HZX.out) rfl)
  (try simp only [Exit.inBlock,Exit.then])
  refine bodyPost_ret (results_cell_row rfl _ _ w.heap.size [.bool false,.int .i64 (0),.slice none 0 0,.bool false,.int .i64 (0),.bool true,.bool false,.bool false,.int .i64 0] _ rfl hrg Tryz.underlying56 rfl did_size) rfl ?_
  exact ⟨rfl,HDX.out.fin hlt HOX.out _⟩
theorem dsend_ring (h:DAt w vb yb zb c x k (op) (own) (src) ((.slice (some ⟨db,dof,none⟩) ds.length dc)) (a) (len) (ws) (bs)) (hp:w.heap[gb]? = some (.cells #[.int .i64 (F.src:Int),.int .i64 (F.dst:Int),.int .i64 (ce:Int),.int .i64 (xx:Int)] 3 (0,0))) (hdat:∃ cs mm,w.heap[db]? = some (.cells cs 34 mm) ∧ ∀ j,j < ds.length → cs[dof + j]? = some (.int .u32 (ds.getD j 0))) (hl:ws.length ≤ 1000000) (hn:ds.length ≤ 16) (ha:3 + (ds.length:Int) < a) (hk:k ≤ 100) (hd:2 * k + 1 < bs.length):Calls Tryz.prog 58 #[.pointer (some ⟨vb,0,none⟩),.slice (some ⟨yb,0,none⟩) ws.length ws.length,.slice (some ⟨zb,0,none⟩) bs.length bs.length,.slice (some ⟨gb,0,none⟩) 4 4] w (DGives w vb yb zb c x k (op) (own) (src) ((.slice (some ⟨db,dof,none⟩) ds.length dc)) (-1) (len) (ws) (bs.set (2 * k + 1) true) (qdV true (0) (.slice none 0 0) (0) false true)):=by
  obtain ⟨W1,HW1,hsz,hO,hz⟩:=did_new w
  have hlt:=h.lt
  have hD1:=h.only hO ⟨fun h => h,fun h => h,fun h => h⟩
  have HD1:=Lib.hid hD1;have HO1:Hid (Only (New w.heap.size (fun j => j = vb ∨ j = yb ∨ j = zb)) w W1):=Lib.hid (hO.mono fun _ _ h => h.elim);have HZ1:=Lib.hid hz


  have x6:W1.cell? ⟨vb,6,none⟩ = some (.int .i64 (k:Int)):=cell_blk HD1.out.blk rfl
  have x8:W1.cell? ⟨vb,8,none⟩ = some (.int .u32 own):=cell_blk HD1.out.blk rfl
  have x10:W1.cell? ⟨vb,10,none⟩ = some (.slice (some ⟨db,dof,none⟩) ds.length dc):=cell_blk HD1.out.blk rfl
  have x11:W1.cell? ⟨vb,11,none⟩ = some (.int .i64 a):=cell_blk HD1.out.blk rfl
  have HP1:=Lib.hid (hO.at_ hp (fun h => h))
  obtain ⟨be,hbe⟩:∃ b:Nat,2 * k + 1 = b:=⟨_,rfl⟩
  rw [hbe] at hd ⊢
  obtain ⟨y,hy0⟩:∃ y,bs.getD be false = y:=⟨_,rfl⟩
  have zc:W1.cell? ⟨zb,be,none⟩ = some (.bool y):=by rw [← hy0];exact HD1.out.bel.cell hd
  have zf:W1.frozen? ⟨zb,be,none⟩ = false:=HD1.out.bel.frozen _
  have b1:(a == 1) = false:=beq_false_of_ne (by omega)
  have b2:(a == 2) = false:=beq_false_of_ne (by omega)
  have n4:IntKind.i64.wrap (2 + (ds.length:Int)) = 2 + (ds.length:Int):=IntWalk.i64_in _ (by omega)
  have n5:IntKind.i64.wrap (3 + (ds.length:Int)) = 3 + (ds.length:Int):=IntWalk.i64_in _ (by omega)
  have b3:decide (a ≤ 2 + (ds.length:Int)) = false:=decide_eq_false (by omega)
  have b4:(a == 3 + (ds.length:Int)) = false:=beq_false_of_ne (by omega)
  obtain ⟨t2,ht2⟩:∃ t:Int,2 * (k:Int) = t:=⟨_,rfl⟩
  have n6:IntKind.i64.wrap (2 * (k:Int)) = t2:=by rw [ht2];exact IntWalk.i64_in _ (by omega)
  have n7:IntKind.i64.wrap (t2 + 1) = (be:Int):=by rw [IntWalk.i64_in _ (by omega)];omega
  have hbl:(be:Int) < (bs.length:Int):=by omega
  clear hy0 hbe ha ht2
  clear hD1 hO hz h hp
  obtain ⟨V,HV⟩:∃ u,Hid (u = W1.setCell ⟨zb,be,none⟩ (.bool true)):=⟨_,rfl⟩
  have HDV:=Lib.hid (by have q:=HD1.out.bell be true;rw [← HV.out] at q;exact q)
  have v11:V.cell? ⟨vb,11,none⟩ = some (.int .i64 a):=cell_blk HDV.out.blk rfl
  have w11:=blk_frozen 11 HDV.out.blk
  obtain ⟨X,HX⟩:∃ u,Hid (u = V.setCell ⟨vb,11,none⟩ (.int .i64 (-1))):=⟨_,rfl⟩
  have HDX:=Lib.hid (by have q:=HDV.out.put (o:=11) (v:=.int .i64 (-1)) (op':=op) (own':=own) (src':=src) (dv':=(.slice (some ⟨db,dof,none⟩) ds.length dc)) (a':=-1) (len':=len) rfl;rw [← HX.out] at q;exact q)
  have HOX:Hid (Only (New w.heap.size (fun j => j = vb ∨ j = yb ∨ j = zb)) w X):=Lib.hid (by rw [HX.out];exact (show Only (New w.heap.size (fun j => j = vb ∨ j = yb ∨ j = zb)) w (V.setCell ⟨vb,11,none⟩ (.int .i64 (-1))) from by rw [HV.out];exact (HO1.out.set (p:=⟨zb,be,none⟩) (.inr (.inr (.inr rfl))) _).set (p:=⟨vb,11,none⟩) (.inr (.inl rfl)) _))
  have HZX:Hid (X.heap[w.heap.size]? = some (.cells #[.bool false,.int .i64 0,.slice none 0 0,.bool false,.int .i64 0,.bool false,.bool false,.bool false,.int .i64 0] 56 (0,0))):=Lib.hid (by rw [HX.out];exact (Below.heap_setCell _ _ _ _ (by show w.heap.size ≠ vb;omega)).trans (by rw [HV.out];exact (Below.heap_setCell _ _ _ _ (by show w.heap.size ≠ zb;omega)).trans HZ1.out))
  have hth:=there_at (W:=X) HZX.out (n:=(qdV true (0) (.slice none 0 0) (0) false true:Array Value).size) rfl
  have hsd:(Tryz.prog.info? 56).map (·.size) = some (qdV true (0) (.slice none 0 0) (0) false true:Array Value).size:=did_size
  go_enter Tryz.func58,Tryz.ntmps58
  go_wp2_with (first | (rw [← HW1.out]) | (rw [← HV.out]) | (rw [← HX.out]) | (with_reducible refine wpList_store_mid (by kernel_rfl) _ _ _ rfl w.heap.size 0 (qdV true (0) (.slice none 0 0) (0) false true) (by kernel_rfl) (by kernel_rfl) hth hsd (by kernel_rfl) ?_))
  have hrg:=World.rangeAt_setCells_same (X) w.heap.size 0 [.bool true,.int .i64 (0),.slice none 0 0,.bool false,.int .i64 (0),.bool false,.bool true,.bool false,.int .i64 0] (there_at (cs:=#[.bool false,.int .i64 0,.slice none 0 0,.bool false,.int .i64 0,.bool false,.bool false,.bool false,.int .i64 0]) (n:=9) (show (X).heap[w.heap.size]? = _ from HZX.out) rfl)
  (try simp only [Exit.inBlock,Exit.then])
  refine bodyPost_ret (results_cell_row rfl _ _ w.heap.size [.bool true,.int .i64 (0),.slice none 0 0,.bool false,.int .i64 (0),.bool false,.bool true,.bool false,.int .i64 0] _ rfl hrg Tryz.underlying56 rfl did_size) rfl ?_
  exact ⟨rfl,HDX.out.fin hlt HOX.out _⟩
end
end Go.Proofs.YtmhpcgcloojfbaaGreat
end
