/- Texts of the ring, joined, what is used of them. No condition but those in the statements. -/
import Derived.BigQuiet
import Derived.BigRegion
import Derived.Deep.MidRow
import Derived.Deep.RegionHeld3
import Derived.Deep.Upon
import Derived.IntWalk
import Derived.Shelf.Abstract
import Derived.Test.YtmhpcgcloojfbaaGreatRRK
import Derived.Test.YtmhpcgcloojfbaaGreatRgN
namespace Go.Proofs.YtmhpcgcloojfbaaGreat
open Go.RowKit Go.Sort
set_option linter.unusedVariables false
set_option linter.unusedSimpArgs false
set_option linter.unusedVariables false
set_option linter.unusedSimpArgs false
open Go.Proofs.YtmhpcgcloojfbaaGreat.Simp
set_option maxRecDepth 100000
set_option maxHeartbeats 3200000
@[reducible] def vV (c:Cfg) (x:CfgAt) (k:Nat) (wr:Bool) (dv:Value) (a:Int) (p i:Nat) (len st:Int) (mk:Bool):Array Value:=#[.slice x.pa c.parts.length x.pc,.slice x.ca c.chans.length x.cc,.int .i64 c.len0,.slice x.aa c.win0.length x.ac,.int .i64 c.len1,.slice x.ba c.win1.length x.bc,.int .i64 (k:Int),.bool wr,dv,.int .i64 a,.int .i64 (p:Int),.int .i64 (i:Int),.int .i64 len,.int .i64 st,.bool mk]
/-- The document's write,or read,lies in block vb,its memory in block yb;W: the world whose blocks stand. -/
structure VAt (W w:World) (vb yb:Nat) (c:Cfg) (x:CfgAt) (k:Nat) (F:Fr) (ws:List Int) (wr:Bool) (dv:Value) (a:Int) (p i:Nat) (len st:Int) (mk:Bool):Prop where
  below:Below W.heap.size W w
  blk:w.heap[vb]? = some (.cells (vV c x k (wr) (dv) (a) (p) (i) (len) (st) (mk)) 52 (0,0))
  row:WordsAt w yb ws
  ne:vb ≠ yb ∧ W.heap.size ≤ vb ∧ W.heap.size ≤ yb
  cfg:CfgIn W W.heap.size c x
  wf:CfgWf c
  few:CfgFew c
  fr:FrOf c k F
  len:FIn F ws.length
  w32:W32 ws
/-- What a step of the document's leaves. -/
def VGives (W w:World) (vb yb:Nat) (c:Cfg) (x:CfgAt) (k:Nat) (F:Fr) (ws:List Int) (wr:Bool) (dv:Value) (a:Int) (p i:Nat) (len st:Int) (mk:Bool) (D:Array Value) (e:Ending) (w':World):Prop:=
  e = .returned (.agg D) ∧ VAt W w' vb yb c x k F ws wr dv a p i len st mk ∧ Only (fun j => j = vb ∨ j = yb) w w'
theorem cset {W:World} {b i b' j:Nat} {u v:Value} (h:W.cell? ⟨b,i,none⟩ = some u) (hne:b' ≠ b ∨ j ≠ i):(W.setCell ⟨b',j,none⟩ v).cell? ⟨b,i,none⟩ = some u:=by
  rw [World.cell?_setCell_other (h:=fun e => by cases e;rcases hne with h | h <;> exact h rfl)];exact h
theorem VAt.fin {W w X:World} {vb yb:Nat} {c:Cfg} {x:CfgAt} {k:Nat} {F:Fr} {ws ws':List Int} {wr:Bool} {dv dv':Value} {a a':Int} {p p' i i':Nat} {len len' st st':Int} {mk mk':Bool} (h:VAt W w vb yb c x k F ws wr dv a p i len st mk)
    (hv:X.heap[vb]? = some (.cells (vV c x k wr dv' a' p' i' len' st' mk') 52 (0,0))) (hy:WordsAt X yb ws') (ho:Only (New w.heap.size fun j => j = vb ∨ j = yb) w X) (hl:ws'.length = ws.length) (h32:W32 ws') (cs:List Value) :
    VAt W (X.setCells w.heap.size 0 cs) vb yb c x k F ws' wr dv' a' p' i' len' st' mk' ∧ Only (fun j => j = vb ∨ j = yb) w (X.setCells w.heap.size 0 cs):=by
  have hs:=Only.sets (S:=fun j => j = w.heap.size) rfl cs 0 (Only.refl _ X)
  have hvl:=(Array.getElem?_eq_some_iff.1 h.blk).1
  have hyl:=h.row.lt
  have hof:Only (fun j => j = vb ∨ j = yb) w (X.setCells w.heap.size 0 cs):=(ho.trans (hs.mono fun j _ e => .inl (Nat.le_of_eq e.symm))).old
  have hne:=h.ne
  have hbs:=h.below.size
  refine ⟨⟨h.below.trans ⟨hof.os,hof.tape,hof.output,hof.size,fun j hj => hof.block j (by omega) (fun e => by omega)⟩,hs.at_ hv (by omega),?_,h.ne,h.cfg,h.wf,h.few,h.fr,by rw [hl];exact h.len,h32⟩,hof⟩
  exact hy.of (hs.block yb hy.lt (by omega))
theorem vset8 {W:World} {vb:Nat} {c:Cfg} {x:CfgAt} {k:Nat} {wr:Bool} {dv:Value} {a:Int} {p i:Nat} {len st:Int} {mk:Bool} (h:W.heap[vb]? = some (.cells (vV c x k (wr) (dv) (a) (p) (i) (len) (st) (mk)) 52 (0,0))) (q:Value):(W.setCell ⟨vb,8,none⟩ (q)).heap[vb]? = some (.cells (vV c x k (wr) (q) (a) (p) (i) (len) (st) (mk)) 52 (0,0)):=by simp [World.setCell,Array.getElem?_modify,h]
theorem vset9 {W:World} {vb:Nat} {c:Cfg} {x:CfgAt} {k:Nat} {wr:Bool} {dv:Value} {a:Int} {p i:Nat} {len st:Int} {mk:Bool} (h:W.heap[vb]? = some (.cells (vV c x k (wr) (dv) (a) (p) (i) (len) (st) (mk)) 52 (0,0))) (q:Int):(W.setCell ⟨vb,9,none⟩ (.int .i64 q)).heap[vb]? = some (.cells (vV c x k (wr) (dv) (q) (p) (i) (len) (st) (mk)) 52 (0,0)):=by simp [World.setCell,Array.getElem?_modify,h]
theorem vset10 {W:World} {vb:Nat} {c:Cfg} {x:CfgAt} {k:Nat} {wr:Bool} {dv:Value} {a:Int} {p i:Nat} {len st:Int} {mk:Bool} (h:W.heap[vb]? = some (.cells (vV c x k (wr) (dv) (a) (p) (i) (len) (st) (mk)) 52 (0,0))) (q:Nat):(W.setCell ⟨vb,10,none⟩ (.int .i64 (q:Int))).heap[vb]? = some (.cells (vV c x k (wr) (dv) (a) (q) (i) (len) (st) (mk)) 52 (0,0)):=by simp [World.setCell,Array.getElem?_modify,h]
theorem vset11 {W:World} {vb:Nat} {c:Cfg} {x:CfgAt} {k:Nat} {wr:Bool} {dv:Value} {a:Int} {p i:Nat} {len st:Int} {mk:Bool} (h:W.heap[vb]? = some (.cells (vV c x k (wr) (dv) (a) (p) (i) (len) (st) (mk)) 52 (0,0))) (q:Nat):(W.setCell ⟨vb,11,none⟩ (.int .i64 (q:Int))).heap[vb]? = some (.cells (vV c x k (wr) (dv) (a) (p) (q) (len) (st) (mk)) 52 (0,0)):=by simp [World.setCell,Array.getElem?_modify,h]
theorem vset12 {W:World} {vb:Nat} {c:Cfg} {x:CfgAt} {k:Nat} {wr:Bool} {dv:Value} {a:Int} {p i:Nat} {len st:Int} {mk:Bool} (h:W.heap[vb]? = some (.cells (vV c x k (wr) (dv) (a) (p) (i) (len) (st) (mk)) 52 (0,0))) (q:Int):(W.setCell ⟨vb,12,none⟩ (.int .i64 q)).heap[vb]? = some (.cells (vV c x k (wr) (dv) (a) (p) (i) (q) (st) (mk)) 52 (0,0)):=by simp [World.setCell,Array.getElem?_modify,h]
theorem vset13 {W:World} {vb:Nat} {c:Cfg} {x:CfgAt} {k:Nat} {wr:Bool} {dv:Value} {a:Int} {p i:Nat} {len st:Int} {mk:Bool} (h:W.heap[vb]? = some (.cells (vV c x k (wr) (dv) (a) (p) (i) (len) (st) (mk)) 52 (0,0))) (q:Int):(W.setCell ⟨vb,13,none⟩ (.int .i64 q)).heap[vb]? = some (.cells (vV c x k (wr) (dv) (a) (p) (i) (len) (q) (mk)) 52 (0,0)):=by simp [World.setCell,Array.getElem?_modify,h]
theorem vset14 {W:World} {vb:Nat} {c:Cfg} {x:CfgAt} {k:Nat} {wr:Bool} {dv:Value} {a:Int} {p i:Nat} {len st:Int} {mk:Bool} (h:W.heap[vb]? = some (.cells (vV c x k (wr) (dv) (a) (p) (i) (len) (st) (mk)) 52 (0,0))) (q:Bool):(W.setCell ⟨vb,14,none⟩ (.bool q)).heap[vb]? = some (.cells (vV c x k (wr) (dv) (a) (p) (i) (len) (st) (q)) 52 (0,0)):=by simp [World.setCell,Array.getElem?_modify,h]
/-- What a drawn region with a call of Dest reads. -/
structure Cf7 (W:World) (vb yb d:Nat) (c:Cfg) (x:CfgAt) (k:Nat) (v:Int):Prop where
  f0:W.cell? ⟨vb,0,none⟩ = some (.slice x.pa c.parts.length x.pc)
  f1:W.cell? ⟨vb,1,none⟩ = some (.slice x.ca c.chans.length x.cc)
  f2:W.cell? ⟨vb,2,none⟩ = some (.int .i64 c.len0)
  f3:W.cell? ⟨vb,3,none⟩ = some (.slice x.aa c.win0.length x.ac)
  f4:W.cell? ⟨vb,4,none⟩ = some (.int .i64 c.len1)
  f5:W.cell? ⟨vb,5,none⟩ = some (.slice x.ba c.win1.length x.bc)
  f6:W.cell? ⟨vb,6,none⟩ = some (.int .i64 (k:Int))
  fy:W.cell? ⟨yb,d,none⟩ = some (.int .u32 v)
  lt:vb < W.heap.size ∧ yb < W.heap.size
theorem Cf7.below {W w':World} {vb yb d:Nat} {c:Cfg} {x:CfgAt} {k:Nat} {v:Int} (h:Cf7 W vb yb d c x k v) (hb:Below W.heap.size W w'):Cf7 w' vb yb d c x k v:=by
  have e:=hb.block vb h.lt.1
  have ey:=hb.block yb h.lt.2
  exact ⟨cell_of_blk h.f0 e,cell_of_blk h.f1 e,cell_of_blk h.f2 e,cell_of_blk h.f3 e,cell_of_blk h.f4 e,cell_of_blk h.f5 e,cell_of_blk h.f6 e,cell_of_blk h.fy ey,Nat.lt_of_lt_of_le h.lt.1 hb.size,Nat.lt_of_lt_of_le h.lt.2 hb.size⟩
theorem Cf7.set10 {W:World} {vb yb d:Nat} {c:Cfg} {x:CfgAt} {k:Nat} {v:Int} (h:Cf7 W vb yb d c x k v) (hn:vb ≠ yb) (u:Value):Cf7 (W.setCell ⟨vb,10,none⟩ u) vb yb d c x k v:=
  ⟨cset h.f0 (.inr (by decide)),cset h.f1 (.inr (by decide)),cset h.f2 (.inr (by decide)),cset h.f3 (.inr (by decide)),cset h.f4 (.inr (by decide)),cset h.f5 (.inr (by decide)),cset h.f6 (.inr (by decide)),cset h.fy (.inl hn),by simpa [World.setCell] using h.lt.1,by simpa [World.setCell] using h.lt.2⟩
theorem yv_cell {W:World} {b j:Nat} {u v:Int} (h:W.cell? ⟨b,j,none⟩ = some (.int .u32 u)) (e:u = v):W.cell? ⟨b,j,none⟩ = some (.int .u32 v):=e ▸ h
theorem rodd_b (z:Int) (w:World) (h:0 ≤ z):Calls Tryz.prog 71 #[.int .u32 z] w fun e w' => e = .returned (.int .i64 (oddN z:Nat)) ∧ w = w':=by
  have hx:z.tmod 2 = (oddN z:Nat):=by rw [Int.tmod_eq_emod_of_nonneg h];unfold oddN;omega
  have hle:=oddN_le z
  go_enter Tryz.func71,Tryz.ntmps71
  go_wp2
  go_ret
  exact ⟨rfl,rfl⟩
end Go.Proofs.YtmhpcgcloojfbaaGreat
