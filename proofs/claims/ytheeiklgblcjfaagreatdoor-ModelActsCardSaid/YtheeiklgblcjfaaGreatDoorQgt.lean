/- Texts of the ring, joined, what is used of them. No condition but those in the statements. -/
import Derived.BigQuiet
import Derived.BigRegion
import Derived.Deep.MidRow
import Derived.Deep.RegionHeld3
import Derived.Deep.Upon
import Derived.IntWalk
import Derived.Shelf.Abstract
import Derived.Test.YtheeiklgblcjfaaGreatDoorQPkX
import Derived.Test.YtheeiklgblcjfaaGreatDoorQgf
import Derived.Test.YtheeiklgblcjfaaGreatDoorQgo
import Derived.Test.YtheeiklgblcjfaaGreatDoorQgr
import Derived.Test.YtheeiklgblcjfaaGreatDoorQgs
set_option linter.unusedVariables false
set_option linter.unusedSimpArgs false
section
namespace Go.Proofs.YtheeiklgblcjfaaGreatDoor
open Go.Lib (hid)
open Go.RowKit Go.Sort
set_option maxRecDepth 100000
/-- A call of a few fields. -/
def cv8 (part op port:Int) (rd:List Int) (ra:Option Addr) (rc:Nat) (t1 stamp:Int):CV:=⟨part,op,port,0,rd,ra,rc,0,[],none,0,false,0,false,0,0,0,t1,0,0,0,0,stamp,0⟩
theorem cv8_cells (part op port:Int) (rd:List Int) (ra:Option Addr) (rc:Nat) (t1 stamp:Int):(cCells (cv8 part op port rd ra rc t1 stamp)).toArray = #[.int .i64 part,.int .i64 op,.int .i64 port,.int .u64 0,.slice ra rd.length rc,.int .i64 0,.slice none 0 0,.bool false,.int .i64 0,.bool false,.int .i64 0,.int .i64 0,.int .i64 0,.int .i64 t1,.int .i64 0,.int .i64 0,.int .i64 0,.int .i64 0,.int .i64 stamp,.int .i64 0]:=by unfold cCells cv8;rfl
/-- The model of a law: it lies in blocks from n0 on,its own block is mb;what was there ahead of it stands. -/
def LawAt (W:World) (mb:Nat) (c:Cfg) (M:Md8) (w:World):Prop:=(∃ own A,A.b = mb ∧ MAt w own W.heap.size c M A) ∧ Below W.heap.size W w
theorem LawAt.later {W w w':World} {mb:Nat} {c:Cfg} {M:Md8} (h:LawAt W mb c M w) (hb:Below w.heap.size w w'):LawAt W mb c M w':=by
 obtain ⟨⟨own,A,e,h1⟩,h2⟩:=h
 exact ⟨⟨own,A,e,(MAt.still h1 hb).1⟩,h2.trans (hb.mono h2.size)⟩
theorem Turn8.low8 {w w':World} {own:Nat → Tg8} {n0:Nat} {c:Cfg} {M M':Md8} {A:Mx8} (h:MAt w own n0 c M A) (hT:Turn8 w own n0 c M' A w'):Below n0 w w':=by
 obtain ⟨_,_,_,_,_,_,_,h3⟩:=hT
 exact ⟨h3.os,h3.tape,h3.output,h3.size,fun k hk => h3.block k (Nat.lt_of_lt_of_le hk h.n0le) (fun e => by
  have:own k = .free:=by
   cases e2:own k <;> first | rfl | (exfalso;have:=h.base k (by rw [e2];simp);omega)
  rw [this] at e;exact e)⟩
/-- What a call answers in a law,and what it makes of the model. -/
def LawGoes (W:World) (mb:Nat) (c:Cfg) (R:An8) (M':Md8) (e:Ending) (w':World):Prop:=∃ rA rk,e = .returned (.agg #[.int .i64 R.code,.slice rA R.data.length rk,.bool R.valid,.int .i64 R.count]) ∧ (0 < R.data.length → IntRowK .u32 w' w'.heap.size rA R.data) ∧ (R.data.length ≤ rk ∧ rk ≤ maxLen ∧ (rA = none → R.data = [])) ∧ LawAt W mb c M' w'
theorem law_do {W w0 w:World} {mb:Nat} {c:Cfg} {M:Md8} (h:LawAt W mb c M w0) (hb:Below w0.heap.size w0 w) (wx:CfgWf c) (lx:CfgFew c) (hac:acceptsB c = true) (hT:TabsAt W) (ht:M.t ≤ 100000) (x:CV) (hxw:CWf x) (hxr:CRows w w.heap.size x) (hrl:x.rd.length ≤ 1000000)
  (hn:0 < x.rd.length → ∀ a,x.ra = some a → w0.heap.size ≤ a.block) (p:Nat) (hp:p < c.parts.length) (hpp:x.part = (p:Int)) (hst:-1 ≤ x.stamp ∧ x.stamp ≤ 1099511627776) (ht1:-1 ≤ x.t1 ∧ x.t1 ≤ 1099511627776) (R:An8) (M':Md8) (hR:do8 c M x = (R,M')) :
  Calls Tryz.prog 12 #[.pointer (some ⟨mb,0,none⟩),.agg (cCells x).toArray] w (LawGoes W mb c R M'):=by
 obtain ⟨⟨own,A,rfl,h1⟩,h2⟩:=h
 have h3:=(MAt.still h1 hb).1
 have h4:=h2.trans (hb.mono h2.size)
 refine (do_in h3 wx lx x hxw hxr hrl hac ht (hT.later h4) (fun hp a ha e => ?_) p hp hpp hst ht1 R M' hR).mono ?_
 ·have h5:=h1.free a.block (hn hp a ha)
  rw [h5] at e;exact e
 ·rintro e w' ⟨rA,rk,rfl,hd,hc,hTu⟩
  have h6:=Turn8.low8 h3 hTu
  obtain ⟨own',A',e1,e2,e3,h7,h8,h9⟩:=hTu
  exact ⟨rA,rk,rfl,fun hp => (hd hp).1,hc,⟨own',A',e1,h7⟩,h4.trans h6⟩
/-- The same,of a call of a few fields. -/
theorem law_call {W w0 w:World} {mb:Nat} {c:Cfg} {M:Md8} (h:LawAt W mb c M w0) (hb:Below w0.heap.size w0 w) (wx:CfgWf c) (lx:CfgFew c) (hac:acceptsB c = true) (hT:TabsAt W) (ht:M.t ≤ 100000) (p:Nat) (hp:p < c.parts.length) (op port:Int) (rd:List Int) (ra:Option Addr) (n rc:Nat) (t1 stamp:Int) (hn0:n = rd.length)
  (hop:(Lit.int .i64 op).wf = true) (hpo:(Lit.int .i64 port).wf = true) (hxr:IntRowK .u32 w w.heap.size ra rd) (hrc:rd.length ≤ rc ∧ rc ≤ maxLen ∧ (ra = none → rd = [])) (hrl:rd.length ≤ 100)
  (hn:0 < rd.length → ∀ a,ra = some a → w0.heap.size ≤ a.block) (hst:0 ≤ stamp ∧ stamp ≤ 1000000) (ht1:0 ≤ t1 ∧ t1 ≤ 1000000) (R:An8) (M':Md8) (hR:do8 c M (cv8 p op port rd ra rc t1 stamp) = (R,M')) :
  Calls Tryz.prog 12 #[.pointer (some ⟨mb,0,none⟩),.agg #[.int .i64 (p:Int),.int .i64 op,.int .i64 port,.int .u64 0,.slice ra n rc,.int .i64 0,.slice none 0 0,.bool false,.int .i64 0,.bool false,.int .i64 0,.int .i64 0,.int .i64 0,.int .i64 t1,.int .i64 0,.int .i64 0,.int .i64 0,.int .i64 0,.int .i64 stamp,.int .i64 0]] w (LawGoes W mb c R M'):=by
 subst hn0
 have hp6:(p:Int) < 1000000:=by have:=lx.1;omega
 have wz:(Lit.int .i64 0).wf = true:=by decide
 have wu:(Lit.int .u64 0).wf = true:=by decide
 have wp:(Lit.int .i64 (p:Int)).wf = true:=WalkArith.wf_i64 (by omega)
 have w1:(Lit.int .i64 t1).wf = true:=WalkArith.wf_i64 (by omega)
 have w2:(Lit.int .i64 stamp).wf = true:=WalkArith.wf_i64 (by omega)
 have:=law_do h hb wx lx hac hT ht (cv8 p op port rd ra rc t1 stamp) ⟨wp,wz,wz,hop,hpo,wu,w1,w2⟩
  ⟨hxr,hrc,(fun h => absurd h (by simp [cv8])),⟨by simp [cv8],by simp [cv8],fun _ => rfl⟩⟩ (by show rd.length ≤ 1000000;omega) hn p hp rfl (by show -1 ≤ stamp ∧ stamp ≤ 1099511627776;omega) (by show -1 ≤ t1 ∧ t1 ≤ 1099511627776;omega) R M' hR
 rw [cv8_cells] at this
 exact this
theorem law_new {w:World} {c:Cfg} {e:Ending} {w':World} (h:GivesMd w c e w'):∃ mb,e = .returned (.pointer (some ⟨mb,0,none⟩)) ∧ LawAt w mb c (new8 c) w':=by
 obtain ⟨own,A,rfl,h1,h2,h3⟩:=h
 exact ⟨A.b,rfl,⟨own,A,rfl,h1⟩,h2⟩
end Go.Proofs.YtheeiklgblcjfaaGreatDoor
end
section
namespace Go.Proofs.YtheeiklgblcjfaaGreatDoor
open Go.Lib (hid)
open Go.RowKit Go.Sort
set_option maxRecDepth 100000
/-- The example,with a channel of its own: its seven fields. -/
def exK (l:List Int):Cfg:=⟨[[0,4],[1,0]],[l],1,[[0,0,1]],1,[[1,0,1]]⟩
/-- What the example hands back: its four rows' blocks. -/
def GivesEx (w:World) (e:Ending) (w':World):Prop:=∃ pb cb ab bb,e = .returned (.agg #[.slice (some ⟨pb,0,none⟩) 2 2,.slice (some ⟨cb,0,none⟩) 1 1,.int .i64 1,.slice (some ⟨ab,0,none⟩) 1 1,.int .i64 1,.slice (some ⟨bb,0,none⟩) 1 1]) ∧
 w'.heap[pb]? = some (.cells #[.int .i64 0,.int .i64 4,.int .i64 1,.int .i64 0] 131 (0,0)) ∧ w'.heap[cb]? = some (.cells #[.int .i64 2,.int .i64 0,.int .i64 1,.int .i64 3,.int .i64 2,.int .i64 0,.int .u32 0] 91 (0,0)) ∧ w'.heap[ab]? = some (.cells #[.int .i64 0,.int .i64 0,.int .i64 1] 133 (0,0)) ∧ w'.heap[bb]? = some (.cells #[.int .i64 1,.int .i64 0,.int .i64 1] 133 (0,0)) ∧ w.heap.size ≤ pb ∧ w.heap.size ≤ cb ∧ w.heap.size ≤ ab ∧ w.heap.size ≤ bb ∧ Below w.heap.size w w'
set_option maxHeartbeats 3200000 in
theorem example18_b (w:World):Calls Tryz.prog 29 #[] w (GivesEx w):=by
 go_enter Tryz.func29,Tryz.ntmps29
 go_wp2
 obtain ⟨V,hV⟩:∃ u,Hid (u = ((((((w.alloc (.cells #[.slice (some ⟨w.heap.size + 1,0,none⟩) 2 2,.slice (some ⟨w.heap.size + 1 + 1,0,none⟩) 1 1,.int .i64 1,.slice (some ⟨w.heap.size + 1 + 1 + 1 + 1,0,none⟩) 1 1,.int .i64 1,.slice (some ⟨w.heap.size + 1 + 1 + 1 + 1 + 1,0,none⟩) 1 1] 29)).alloc (.cells #[.int .i64 0,.int .i64 4,.int .i64 1,.int .i64 0] 131)).alloc (.cells #[.int .i64 2,.int .i64 0,.int .i64 1,.int .i64 3,.int .i64 2,.int .i64 0,.int .u32 0] 91)).alloc (.cells #[.slice (some ⟨w.heap.size + 1,0,none⟩) 2 2,.slice (some ⟨w.heap.size + 1 + 1,0,none⟩) 1 1,.int .i64 1,.slice (some ⟨w.heap.size + 1 + 1 + 1 + 1,0,none⟩) 1 1,.int .i64 1,.slice (some ⟨w.heap.size + 1 + 1 + 1 + 1 + 1,0,none⟩) 1 1] 29)).alloc (.cells #[.int .i64 0,.int .i64 0,.int .i64 1] 133)).alloc (.cells #[.int .i64 1,.int .i64 0,.int .i64 1] 133))):=⟨_,rfl⟩
 have k0:V.heap[w.heap.size]? = some (.cells #[.slice (some ⟨w.heap.size + 1,0,none⟩) 2 2,.slice (some ⟨w.heap.size + 1 + 1,0,none⟩) 1 1,.int .i64 1,.slice (some ⟨w.heap.size + 1 + 1 + 1 + 1,0,none⟩) 1 1,.int .i64 1,.slice (some ⟨w.heap.size + 1 + 1 + 1 + 1 + 1,0,none⟩) 1 1] 29):=by rw [hV.out];rw [Below.heap_alloc _ _ _ (by simp;try omega)];rw [Below.heap_alloc _ _ _ (by simp;try omega)];rw [Below.heap_alloc _ _ _ (by simp;try omega)];rw [Below.heap_alloc _ _ _ (by simp;try omega)];rw [Below.heap_alloc _ _ _ (by simp;try omega)];exact heap_new_at10 _ _ (by simp)
 have k1:V.heap[w.heap.size + 1]? = some (.cells #[.int .i64 0,.int .i64 4,.int .i64 1,.int .i64 0] 131):=by rw [hV.out];rw [Below.heap_alloc _ _ _ (by simp;try omega)];rw [Below.heap_alloc _ _ _ (by simp;try omega)];rw [Below.heap_alloc _ _ _ (by simp;try omega)];rw [Below.heap_alloc _ _ _ (by simp;try omega)];exact heap_new_at10 _ _ (by simp)
 have k2:V.heap[w.heap.size + 1 + 1]? = some (.cells #[.int .i64 2,.int .i64 0,.int .i64 1,.int .i64 3,.int .i64 2,.int .i64 0,.int .u32 0] 91):=by rw [hV.out];rw [Below.heap_alloc _ _ _ (by simp;try omega)];rw [Below.heap_alloc _ _ _ (by simp;try omega)];rw [Below.heap_alloc _ _ _ (by simp;try omega)];exact heap_new_at10 _ _ (by simp)
 have k3:V.heap[w.heap.size + 1 + 1 + 1]? = some (.cells #[.slice (some ⟨w.heap.size + 1,0,none⟩) 2 2,.slice (some ⟨w.heap.size + 1 + 1,0,none⟩) 1 1,.int .i64 1,.slice (some ⟨w.heap.size + 1 + 1 + 1 + 1,0,none⟩) 1 1,.int .i64 1,.slice (some ⟨w.heap.size + 1 + 1 + 1 + 1 + 1,0,none⟩) 1 1] 29):=by rw [hV.out];rw [Below.heap_alloc _ _ _ (by simp;try omega)];rw [Below.heap_alloc _ _ _ (by simp;try omega)];exact heap_new_at10 _ _ (by simp)
 have k4:V.heap[w.heap.size + 1 + 1 + 1 + 1]? = some (.cells #[.int .i64 0,.int .i64 0,.int .i64 1] 133):=by rw [hV.out];rw [Below.heap_alloc _ _ _ (by simp;try omega)];exact heap_new_at10 _ _ (by simp)
 have k5:V.heap[w.heap.size + 1 + 1 + 1 + 1 + 1]? = some (.cells #[.int .i64 1,.int .i64 0,.int .i64 1] 133):=by rw [hV.out];exact heap_new_at10 _ _ (by simp)
 have hbV:Below w.heap.size w V:=by rw [hV.out];exact (((((((Below.refl _ _).alloc (Nat.le_refl _) _).alloc (by simp;try omega) _).alloc (by simp;try omega) _).alloc (by simp;try omega) _).alloc (by simp;try omega) _).alloc (by simp;try omega) _)
 have hsV:V.heap.size = w.heap.size + 6:=by rw [hV.out];simp
 rw [← hV.out]
 have hrg:V.rangeAt w.heap.size 0 (#[.slice (some ⟨w.heap.size + 1,0,none⟩) 2 2,.slice (some ⟨w.heap.size + 1 + 1,0,none⟩) 1 1,.int .i64 1,.slice (some ⟨w.heap.size + 1 + 1 + 1 + 1,0,none⟩) 1 1,.int .i64 1,.slice (some ⟨w.heap.size + 1 + 1 + 1 + 1 + 1,0,none⟩) 1 1]:Array Value).toList:=fun j x hx => by
  rw [Nat.zero_add]
  exact blk_at k0 (by simpa using hx)
 (try simp only [Exit.inBlock,Exit.then])
 refine bodyPost_ret (results_cell_mid rfl _ _ w.heap.size (#[.slice (some ⟨w.heap.size + 1,0,none⟩) 2 2,.slice (some ⟨w.heap.size + 1 + 1,0,none⟩) 1 1,.int .i64 1,.slice (some ⟨w.heap.size + 1 + 1 + 1 + 1,0,none⟩) 1 1,.int .i64 1,.slice (some ⟨w.heap.size + 1 + 1 + 1 + 1 + 1,0,none⟩) 1 1]:Array Value).toList _ rfl hrg Tryz.underlying29 rfl cfg_size14) rfl ?_
 exact ⟨_,_,_,_,rfl,k1,k2,k4,k5,by omega,by omega,by omega,by omega,hbV⟩
end Go.Proofs.YtheeiklgblcjfaaGreatDoor
end
section
namespace Go.Proofs.YtheeiklgblcjfaaGreatDoor
open Go.Lib (hid)
open Go.RowKit Go.Sort
set_option maxRecDepth 100000
/-- The example in memory,its channel's fields a list of seven. -/
theorem exK_in {w:World} {pb cb ab bb:Nat} {k f t wd d pr bt:Int} (h1:w.heap[pb]? = some (.cells #[.int .i64 0,.int .i64 4,.int .i64 1,.int .i64 0] 131 (0,0))) (h2:w.heap[cb]? = some (.cells #[.int .i64 k,.int .i64 f,.int .i64 t,.int .i64 wd,.int .i64 d,.int .i64 pr,.int .u32 bt] 91 (0,0))) (h3:w.heap[ab]? = some (.cells #[.int .i64 0,.int .i64 0,.int .i64 1] 133 (0,0))) (h4:w.heap[bb]? = some (.cells #[.int .i64 1,.int .i64 0,.int .i64 1] 133 (0,0))) :
  CfgIn w w.heap.size (exK [k,f,t,wd,d,pr,bt]) ⟨some ⟨pb,0,none⟩,2,some ⟨cb,0,none⟩,1,some ⟨ab,0,none⟩,1,some ⟨bb,0,none⟩,1⟩:=by
 have lt:∀ {b:Nat} {o:Obj},w.heap[b]? = some o → b < w.heap.size:=fun h => (Array.getElem?_eq_some_iff.1 h).1
 refine ⟨?_,?_,?_,?_,⟨Nat.le_refl _,(by show 2 ≤ maxLen;unfold maxLen;omega),fun h => by cases h⟩,⟨Nat.le_refl _,(by show 1 ≤ maxLen;unfold maxLen;omega),fun h => by cases h⟩,⟨Nat.le_refl _,(by show 1 ≤ maxLen;unfold maxLen;omega),fun h => by cases h⟩,⟨Nat.le_refl _,(by show 1 ≤ maxLen;unfold maxLen;omega),fun h => by cases h⟩⟩
 ·refine fun _ => ⟨pb,0,rfl,lt h1,fun i x hx j v hv => ?_⟩
  match i,hx with
  | 0,hx => cases hx;match j,hv with | 0,hv => cases hv;exact blk_at h1 rfl | 1,hv => cases hv;exact blk_at h1 rfl
  | 1,hx => cases hx;match j,hv with | 0,hv => cases hv;exact blk_at h1 rfl | 1,hv => cases hv;exact blk_at h1 rfl
 ·refine fun _ => ⟨cb,0,rfl,lt h2,fun i x hx j v hv => ?_⟩
  match i,hx with
  | 0,hx =>
   cases hx
   rw [Nat.zero_mul,Nat.add_zero,Nat.zero_add]
   refine blk_at h2 ?_
   match j,hv with
   | 0,hv => exact hv
   | 1,hv => exact hv
   | 2,hv => exact hv
   | 3,hv => exact hv
   | 4,hv => exact hv
   | 5,hv => exact hv
   | 6,hv => exact hv
 ·refine fun _ => ⟨ab,0,rfl,lt h3,fun i x hx j v hv => ?_⟩
  match i,hx with
  | 0,hx => cases hx;match j,hv with | 0,hv => cases hv;exact blk_at h3 rfl | 1,hv => cases hv;exact blk_at h3 rfl | 2,hv => cases hv;exact blk_at h3 rfl
 ·refine fun _ => ⟨bb,0,rfl,lt h4,fun i x hx j v hv => ?_⟩
  match i,hx with
  | 0,hx => cases hx;match j,hv with | 0,hv => cases hv;exact blk_at h4 rfl | 1,hv => cases hv;exact blk_at h4 rfl | 2,hv => cases hv;exact blk_at h4 rfl
theorem exK_wf {k f t wd d pr bt:Int} (h0:(Lit.int .i64 k).wf = true) (h1:(Lit.int .i64 f).wf = true) (h2:(Lit.int .i64 t).wf = true) (h3:(Lit.int .i64 wd).wf = true) (h4:(Lit.int .i64 d).wf = true) (h5:(Lit.int .i64 pr).wf = true) (h6:(Lit.int .u32 bt).wf = true):CfgWf (exK [k,f,t,wd,d,pr,bt]):=by
 refine ⟨fun x hx => ?_,fun x hx => ?_,fun x hx => ?_,fun x hx => ?_,(show (Lit.int .i64 1).wf = true by decide),(show (Lit.int .i64 1).wf = true by decide)⟩
 ·have hx:x = [0,4] ∨ x = [1,0]:=by simpa [exK] using hx
  rcases hx with rfl | rfl <;> exact wfN2_mk (by decide) (by decide)
 ·obtain rfl:x = [k,f,t,wd,d,pr,bt]:=by simpa [exK] using hx
  exact wfN7_mk h0 h1 h2 h3 h4 h5 h6
 ·obtain rfl:x = [0,0,1]:=by simpa [exK] using hx
  exact wfN3_mk (by decide) (by decide) (by decide)
 ·obtain rfl:x = [1,0,1]:=by simpa [exK] using hx
  exact wfN3_mk (by decide) (by decide) (by decide)
theorem exK_few (l:List Int):CfgFew (exK l):=by refine ⟨?_,?_,?_,?_⟩ <;> (show _ ≤ 1000000) <;> simp [exK]
/-- Of such a configuration partitions create their ports and begin normal work. -/
structure Rdy (c:Cfg):Prop where
 hp:c.parts.length = 2
 ac:acceptsB c = true
 wf:CfgWf c
 few:CfgFew c
 r1:∀ p:Nat,p < 2 → refusedN c p false [] 1 p 0 0 = 0
 r2:∀ p:Nat,p < 2 → refusedN c p false [(p:Int)] 2 0 0 0 = 0
def qL (d:Int):List Int:=[2,0,1,3,d,0,0]
theorem rdyQ {d:Int} (hd:d = 1 ∨ d = 2 ∨ d = 4 ∨ d = 8):Rdy (exK (qL d)):=by
 refine ⟨rfl,?_,exK_wf (by decide) (by decide) (by decide) (by decide) (WalkArith.wf_i64 (by omega)) (by decide) (by decide),exK_few _,fun p hp => ?_,fun p hp => ?_⟩
 ·rcases hd with rfl | rfl | rfl | rfl <;> kernel_rfl
 ·rcases hd with rfl | rfl | rfl | rfl <;> (rcases (show p = 0 ∨ p = 1 by omega) with rfl | rfl) <;> kernel_rfl
 ·rcases hd with rfl | rfl | rfl | rfl <;> (rcases (show p = 0 ∨ p = 1 by omega) with rfl | rfl) <;> kernel_rfl
end Go.Proofs.YtheeiklgblcjfaaGreatDoor
end
section
namespace Go.Proofs.YtheeiklgblcjfaaGreatDoor
open Go.Lib (hid)
open Go.RowKit Go.Sort
set_option maxRecDepth 100000
theorem law_go {W w0 w:World} {mb:Nat} {c:Cfg} {M:Md8} (h:Rdy c) (hL:LawAt W mb c M w0) (hb:Below w0.heap.size w0 w) (hT:TabsAt W) (ht:M.t ≤ 100000) (p:Nat) (hp:p < 2) (op port t1:Int) (hop:(Lit.int .i64 op).wf = true) (hpo:(Lit.int .i64 port).wf = true) (ht1:0 ≤ t1 ∧ t1 ≤ 1000000) (R:An8) (M':Md8) (hR:do8 c M (cv8 p op port [] none 0 t1 0) = (R,M')) :
  Calls Tryz.prog 12 #[.pointer (some ⟨mb,0,none⟩),.agg #[.int .i64 (p:Int),.int .i64 op,.int .i64 port,.int .u64 0,.slice none 0 0,.int .i64 0,.slice none 0 0,.bool false,.int .i64 0,.bool false,.int .i64 0,.int .i64 0,.int .i64 0,.int .i64 t1,.int .i64 0,.int .i64 0,.int .i64 0,.int .i64 0,.int .i64 0,.int .i64 0]] w (LawGoes W mb c R M'):=
 law_call hL hb h.wf h.few h.ac hT ht p (by rw [h.hp];exact hp) op port [] none 0 0 t1 0 rfl hop hpo (fun e => absurd e (by simp)) ⟨Nat.le_refl _,by unfold maxLen;omega,fun _ => rfl⟩ (by simp) (fun e => absurd e (by simp)) (by omega) ht1 R M' hR
/-- The same,and a block that isn't the model's. -/
def LawKeep (W:World) (mb:Nat) (c:Cfg) (M:Md8) (nb:Nat) (o:Obj) (w:World):Prop:=(∃ own A,A.b = mb ∧ MAt w own W.heap.size c M A ∧ own nb = .free ∧ w.heap[nb]? = some o) ∧ Below W.heap.size W w
theorem LawKeep.law {W w:World} {mb nb:Nat} {c:Cfg} {M:Md8} {o:Obj} (h:LawKeep W mb c M nb o w):LawAt W mb c M w:=by
 obtain ⟨⟨own,A,e,h1,-,-⟩,h2⟩:=h
 exact ⟨⟨own,A,e,h1⟩,h2⟩
theorem LawKeep.at_ {W w:World} {mb nb:Nat} {c:Cfg} {M:Md8} {o:Obj} (h:LawKeep W mb c M nb o w):w.heap[nb]? = some o:=by
 obtain ⟨⟨own,A,e,h1,-,h3⟩,h2⟩:=h
 exact h3
theorem LawAt.keep {W w w':World} {mb nb:Nat} {c:Cfg} {M:Md8} {o:Obj} (h:LawAt W mb c M w) (hb:Below w.heap.size w w') (hn:w.heap.size ≤ nb) (ho:w'.heap[nb]? = some o):LawKeep W mb c M nb o w':=by
 obtain ⟨⟨own,A,e,h1⟩,h2⟩:=h
 exact ⟨⟨own,A,e,(MAt.still h1 hb).1,h1.free nb hn,ho⟩,h2.trans (hb.mono h2.size)⟩
theorem keep_go {W w0 w:World} {mb nb:Nat} {c:Cfg} {M:Md8} {o:Obj} (h:Rdy c) (hL:LawKeep W mb c M nb o w0) (hb:Below w0.heap.size w0 w) (hT:TabsAt W) (ht:M.t ≤ 100000) (p:Nat) (hp:p < 2) (op port:Int) (hop:(Lit.int .i64 op).wf = true) (hpo:(Lit.int .i64 port).wf = true) (R:An8) (M':Md8) (hR:do8 c M (cv8 p op port [] none 0 0 0) = (R,M')) :
  Calls Tryz.prog 12 #[.pointer (some ⟨mb,0,none⟩),.agg #[.int .i64 (p:Int),.int .i64 op,.int .i64 port,.int .u64 0,.slice none 0 0,.int .i64 0,.slice none 0 0,.bool false,.int .i64 0,.bool false,.int .i64 0,.int .i64 0,.int .i64 0,.int .i64 0,.int .i64 0,.int .i64 0,.int .i64 0,.int .i64 0,.int .i64 0,.int .i64 0]] w (fun e w' => (∃ rA rk,e = .returned (.agg #[.int .i64 R.code,.slice rA R.data.length rk,.bool R.valid,.int .i64 R.count])) ∧ LawKeep W mb c M' nb o w'):=by
 obtain ⟨⟨own,A,rfl,h1,h6,h7⟩,h2⟩:=hL
 have h3:=(MAt.still h1 hb).1
 have h4:=h2.trans (hb.mono h2.size)
 have wp:(Lit.int .i64 (p:Int)).wf = true:=WalkArith.wf_i64 (by omega)
 have wz:(Lit.int .i64 0).wf = true:=by decide
 have wu:(Lit.int .u64 0).wf = true:=by decide
 have hlt:=(Array.getElem?_eq_some_iff.1 h7).1
 have h8:=(hb.block nb hlt).trans h7
 have hlw:nb < w.heap.size:=by have:=hb.size;omega
 have:=do_in h3 h.wf h.few (cv8 p op port [] none 0 0 0) ⟨wp,wz,wz,hop,hpo,wu,wz,wz⟩
  ⟨(fun e => absurd e (by simp [cv8])),⟨Nat.le_refl _,by show 0 ≤ maxLen;unfold maxLen;omega,fun _ => rfl⟩,(fun e => absurd e (by simp [cv8])),⟨by simp [cv8],by simp [cv8],fun _ => rfl⟩⟩ (by show 0 ≤ 1000000;omega) h.ac ht (hT.later h4) (fun e => absurd e (by simp [cv8])) p (by rw [h.hp];exact hp) rfl (by show -1 ≤ (0:Int) ∧ (0:Int) ≤ 1099511627776;decide) (by show -1 ≤ (0:Int) ∧ (0:Int) ≤ 1099511627776;decide) R M' hR
 rw [cv8_cells] at this
 refine this.mono ?_
 rintro e w' ⟨rA,rk,rfl,-,-,hTu⟩
 have h9:=Turn8.low8 h3 hTu
 obtain ⟨own',A',e1,-,-,g1,g2,g3⟩:=hTu
 exact ⟨⟨rA,rk,rfl⟩,⟨own',A',e1,g1,(g2 nb hlw).trans h6,(g3.block nb hlw (fun e => by rw [h6] at e;exact e)).trans h8⟩,h4.trans h9⟩
theorem run_ans0 (z n:Int) (v:Value) (b:Bool) (w:World):(Instr.field 42 (.agg #[.int .i64 z,v,.bool b,.int .i64 n]) 0).run Tryz.prog w = .ok (.int .i64 z) w:=by kernel_rfl
theorem rdy2:Rdy (exK (qL 2)):=rdyQ (.inr (.inl rfl))
/-- The model in wakes: at first,with the port,normal. -/
def wkM (i:Nat):Md8:={ new8 (exK (qL 2)) with st:=if i = 0 then [none8,none8] else if i = 1 then [none8,⟨false,[1],[]⟩] else [none8,⟨true,[1],[]⟩],t:=i }
theorem wk_zero:wkM 0 = new8 (exK (qL 2)):=rfl
theorem wk_do0:do8 (exK (qL 2)) (wkM 0) (cv8 ((1:Nat):Int) 1 1 [] none 0 0 0) = (ok8,wkM 1):=by
 have hr:ref8 (exK (qL 2)) (wkM 0) (cv8 ((1:Nat):Int) 1 1 [] none 0 0 0) = 0:=by kernel_rfl
 unfold do8
 rw [if_pos hr];rfl
theorem wk_do1:do8 (exK (qL 2)) (wkM 1) (cv8 ((1:Nat):Int) 2 0 [] none 0 0 0) = (ok8,wkM 2):=by
 have hr:ref8 (exK (qL 2)) (wkM 1) (cv8 ((1:Nat):Int) 2 0 [] none 0 0 0) = 0:=by kernel_rfl
 unfold do8
 rw [if_pos hr];rfl
theorem wk_do2:do8 (exK (qL 2)) (wkM 2) (cv8 ((1:Nat):Int) 6 1 [] none 0 0 0) = (code8 2,tick8 (wkM 2)):=by
 have hr:ref8 (exK (qL 2)) (wkM 2) (cv8 ((1:Nat):Int) 6 1 [] none 0 0 0) = 0:=by kernel_rfl
 unfold do8
 rw [if_pos hr];rfl
set_option maxHeartbeats 3200000 in
theorem wakes18_b (w:World) (hT:TabsAt w):Calls Tryz.prog 8 #[] w fun e w' => e = .returned (.bool true) ∧ Below w.heap.size w w':=by
 have HEX:=hid (example18_b w)
 have HT:=hid hT
 clear hT
 go_enter Tryz.func8,Tryz.ntmps8
 go_wp2_with fail
 refine HEX.out.mono ?_
 rintro e w1 ⟨pb,cb,ab,bb,rfl,h1,h2,h3,h4,-,-,-,-,hb1⟩
 have HNW:Calls Tryz.prog 10 #[.agg #[.slice (some ⟨pb,0,none⟩) 2 2,.slice (some ⟨cb,0,none⟩) 1 1,.int .i64 1,.slice (some ⟨ab,0,none⟩) 1 1,.int .i64 1,.slice (some ⟨bb,0,none⟩) 1 1]] w1 (GivesMd w1 (exK (qL 2))):=new8_b (exK (qL 2)) ⟨some ⟨pb,0,none⟩,2,some ⟨cb,0,none⟩,1,some ⟨ab,0,none⟩,1,some ⟨bb,0,none⟩,1⟩ w1 (exK_in h1 h2 h3 h4) rdy2.wf rdy2.few rdy2.ac
 have HNW:=hid HNW
 have HTT:=hid (HT.out.later hb1);have HB1:=hid hb1
 clear h1 h2 h3 h4 hb1 HEX
 go_wp2_with fail
 refine HNW.out.mono ?_
 rintro e w2 hg
 obtain ⟨mb,rfl,hL⟩:=law_new hg
 rw [← wk_zero] at hL
 obtain ⟨nb,hnb⟩:∃ n,n = w2.heap.size:=⟨_,rfl⟩
 obtain ⟨w3,hw3⟩:∃ u,Hid (u = w2.alloc (.cells #[.int .i64 1,.int .i64 1,.int .u64 0,.slice none 0 0,.int .i64 2,.int .i64 0,.int .u64 0,.slice none 0 0] 39)):=⟨_,rfl⟩
 have hb3:Below w2.heap.size w2 w3:=by rw [hw3.out];exact (Below.refl _ _).alloc (Nat.le_refl _) _
 have h3:w3.heap[nb]? = some (.cells #[.int .i64 1,.int .i64 1,.int .u64 0,.slice none 0 0,.int .i64 2,.int .i64 0,.int .u64 0,.slice none 0 0] 39 (0,0)):=by rw [hw3.out,hnb];exact heap_alloc_new _ _
 have hL3:=hL.keep (nb:=nb) hb3 (by omega) h3
 have HL3:=hid hL3
 clear hg hL hb3 h3 hL3 HNW
 go_wp2_with (first | (rw [← hw3.out];(try simp only [← hnb])))
 clear hnb hw3
 go_loopw [12] (fun ix wr => ∃ (i:Nat),i ≤ 2 ∧ ix = .int .i64 i ∧ LawKeep w1 mb (exK (qL 2)) (wkM i) nb (.cells #[.int .i64 1,.int .i64 1,.int .u64 0,.slice none 0 0,.int .i64 2,.int .i64 0,.int .u64 0,.slice none 0 0] 39 (0,0)) wr) (fun ix _ => (2:Int) - intOf ix |>.toNat)
 case atStart => exact ⟨0,by omega,rfl,HL3.out⟩
 case round =>
  obtain ⟨i,hi,rfl,hL⟩:=hrel
  have hq:=hL.at_
  rcases (show i = 0 ∨ i = 1 ∨ i = 2 by omega) with rfl | rfl | rfl
  ·have r0:wr.cell? ⟨nb,0,none⟩ = some (.int .i64 1):=blk_at hq (i:=0) rfl
   have r1:wr.cell? ⟨nb,1,none⟩ = some (.int .i64 1):=blk_at hq (i:=1) rfl
   have r2:wr.cell? ⟨nb,2,none⟩ = some (.int .u64 0):=blk_at hq (i:=2) rfl
   have r3:wr.cell? ⟨nb,3,none⟩ = some (.slice none 0 0):=blk_at hq (i:=3) rfl
   obtain ⟨wa,hwa⟩:∃ u,Hid (u = wr.alloc (.cells #[.int .i64 1,.int .i64 1,.int .u64 0,.slice none 0 0] 39)):=⟨_,rfl⟩
   have hba:Below wr.heap.size wr wa:=by rw [hwa.out];exact (Below.refl _ _).alloc (Nat.le_refl _) _
   have hNB:=heap_alloc_new wr (.cells #[.int .i64 1,.int .i64 1,.int .u64 0,.slice none 0 0] 39)
   rw [← hwa.out] at hNB
   have y0:wa.cell? ⟨wr.heap.size,0,none⟩ = some (.int .i64 1):=blk_at hNB (i:=0) rfl
   have y1:wa.cell? ⟨wr.heap.size,1,none⟩ = some (.int .i64 1):=blk_at hNB (i:=1) rfl
   have y2:wa.cell? ⟨wr.heap.size,2,none⟩ = some (.int .u64 0):=blk_at hNB (i:=2) rfl
   have y3:wa.cell? ⟨wr.heap.size,3,none⟩ = some (.slice none 0 0):=blk_at hNB (i:=3) rfl
   have HC:=hid (keep_go rdy2 hL hba HTT.out (show 0 ≤ 100000 by decide) 1 (by decide) 1 1 (by decide) (by decide) ok8 (wkM 1) wk_do0)
   clear hL hq hba hNB
   go_wp2_with (first | (rw [← hwa.out]))
   refine HC.out.mono ?_
   rintro e w5 ⟨⟨rA,rk,rfl⟩,hL5⟩
   have HL5:=hid hL5
   clear hL5 r0 r1 r2 r3 y0 y1 y2 y3
   have hfd:=run_ans0
   (try simp only [ok8,code8,List.length_nil])
   go_wp2
   go_roundw
   case rel => exact ⟨1,by omega,by go_num,HL5.out⟩
   case measure => simp [intOf]
  ·have r0:wr.cell? ⟨nb,4,none⟩ = some (.int .i64 2):=blk_at hq (i:=4) rfl
   have r1:wr.cell? ⟨nb,5,none⟩ = some (.int .i64 0):=blk_at hq (i:=5) rfl
   have r2:wr.cell? ⟨nb,6,none⟩ = some (.int .u64 0):=blk_at hq (i:=6) rfl
   have r3:wr.cell? ⟨nb,7,none⟩ = some (.slice none 0 0):=blk_at hq (i:=7) rfl
   obtain ⟨wa,hwa⟩:∃ u,Hid (u = wr.alloc (.cells #[.int .i64 2,.int .i64 0,.int .u64 0,.slice none 0 0] 39)):=⟨_,rfl⟩
   have hba:Below wr.heap.size wr wa:=by rw [hwa.out];exact (Below.refl _ _).alloc (Nat.le_refl _) _
   have hNB:=heap_alloc_new wr (.cells #[.int .i64 2,.int .i64 0,.int .u64 0,.slice none 0 0] 39)
   rw [← hwa.out] at hNB
   have y0:wa.cell? ⟨wr.heap.size,0,none⟩ = some (.int .i64 2):=blk_at hNB (i:=0) rfl
   have y1:wa.cell? ⟨wr.heap.size,1,none⟩ = some (.int .i64 0):=blk_at hNB (i:=1) rfl
   have y2:wa.cell? ⟨wr.heap.size,2,none⟩ = some (.int .u64 0):=blk_at hNB (i:=2) rfl
   have y3:wa.cell? ⟨wr.heap.size,3,none⟩ = some (.slice none 0 0):=blk_at hNB (i:=3) rfl
   have HC:=hid (keep_go rdy2 hL hba HTT.out (show 1 ≤ 100000 by decide) 1 (by decide) 2 0 (by decide) (by decide) ok8 (wkM 2) wk_do1)
   clear hL hq hba hNB
   go_wp2_with (first | (rw [← hwa.out]))
   refine HC.out.mono ?_
   rintro e w5 ⟨⟨rA,rk,rfl⟩,hL5⟩
   have HL5:=hid hL5
   clear hL5 r0 r1 r2 r3 y0 y1 y2 y3
   have hfd:=run_ans0
   (try simp only [ok8,code8,List.length_nil])
   go_wp2
   go_roundw
   case rel => exact ⟨2,by omega,by go_num,HL5.out⟩
   case measure => simp [intOf]
  ·have HC:=hid (law_go rdy2 hL.law (Below.refl _ _) HTT.out (show 2 ≤ 100000 by decide) 1 (by decide) 6 1 0 (by decide) (by decide) (by decide) (code8 2) (tick8 (wkM 2)) wk_do2)
   clear hq hL
   go_wp2_with fail
   refine HC.out.mono ?_
   rintro e w5 ⟨rA,rk,rfl,-,-,hL5⟩
   have HL5:=hid (HB1.out.trans (hL5.2.mono HB1.out.size))
   clear hL5
   have hfd:=run_ans0
   (try simp only [ok8,code8,List.length_nil])
   go_wp2
   go_ret
   exact ⟨rfl,HL5.out⟩
end Go.Proofs.YtheeiklgblcjfaaGreatDoor
end
section
namespace Go.Proofs.YtheeiklgblcjfaaGreatDoor
open Go.Lib (hid)
open Go.RowKit Go.Sort
set_option maxRecDepth 100000
set_option maxHeartbeats 6400000 in
theorem sameStand_eq (sp:Int) (sn:Bool) (ms vs:List Int) (A A' B B':Option Addr) (c c' d d':Nat) (w:World) (h1:IntRowK .i64 w w.heap.size A ms) (h2:IntRowK .i64 w w.heap.size A' ms) (h3:IntRowK .i64 w w.heap.size B vs) (h4:IntRowK .i64 w w.heap.size B' vs) (hl:ms.length ≤ 1000000) (hv:vs.length ≤ 1000000) :
  Calls Tryz.prog 20 #[.agg #[.int .i64 sp,.bool sn,.slice A ms.length c,.slice B vs.length d],.agg #[.int .i64 sp,.bool sn,.slice A' ms.length c',.slice B' vs.length d']] w (fun e w' => e = .returned (.bool true) ∧ Below w.heap.size w w'):=by
 obtain ⟨W,HW⟩:∃ u,Hid (u = (w.alloc (.cells #[.int .i64 sp,.bool sn,.slice A ms.length c,.slice B vs.length d] 59)).alloc (.cells #[.int .i64 sp,.bool sn,.slice A' ms.length c',.slice B' vs.length d'] 59)):=⟨_,rfl⟩
 have hB:Below w.heap.size w W:=by rw [HW.out];exact ((Below.refl _ _).alloc (Nat.le_refl _) _).alloc (by simp) _
 have z2:W.heap[w.heap.size]? = some (.cells #[.int .i64 sp,.bool sn,.slice A ms.length c,.slice B vs.length d] 59 (0,0)):=by rw [HW.out,Below.heap_alloc _ _ _ (by simp)];exact heap_alloc_new w _
 have z3:W.heap[w.heap.size + 1]? = some (.cells #[.int .i64 sp,.bool sn,.slice A' ms.length c',.slice B' vs.length d'] 59 (0,0)):=by rw [HW.out];exact heap_new_at10 _ _ (by simp)
 have HZ2:=hid z2;have HZ3:=hid z3;have HB:=hid hB
 have HA1:=hid h1;have HA2:=hid h2;have HB1:=hid h3;have HB2:=hid h4
 have a0:=cell_blk z2 (i:=0) rfl
 have a1:=cell_blk z2 (i:=1) rfl
 have a2:=cell_blk z2 (i:=2) rfl
 have a3:=cell_blk z2 (i:=3) rfl
 have b0:=cell_blk z3 (i:=0) rfl
 have b1:=cell_blk z3 (i:=1) rfl
 have b2:=cell_blk z3 (i:=2) rfl
 have b3:=cell_blk z3 (i:=3) rfl
 clear z2 z3 hB h1 h2 h3 h4
 go_enter Tryz.func20,Tryz.ntmps20
 go_wp2_with (rw [← HW.out])
 clear a0 a1 a2 a3 b0 b1 b2 b3
 go_loopw [5] (fun ix wr => ∃ k:Nat,k ≤ ms.length ∧ ix = .int .i64 k ∧ Below W.heap.size W wr) (fun ix _ => ms.length - (intOf ix).toNat)
 case atStart => exact ⟨0,Nat.zero_le _,rfl,Below.refl _ _⟩
 case round =>
  obtain ⟨k,hk,rfl,hb⟩:=hrel
  have y2:=cell_blk ((hb.block _ (Array.getElem?_eq_some_iff.1 HZ2.out).1).trans HZ2.out) (i:=2) rfl
  have y3:=cell_blk ((hb.block _ (Array.getElem?_eq_some_iff.1 HZ3.out).1).trans HZ3.out) (i:=2) rfl
  by_cases hkl:k < ms.length
  ·obtain ⟨g,o,eg,-,e1⟩:=HA1.out.at_ hkl
   obtain ⟨g',o',eg',-,e2⟩:=HA2.out.at_ hkl
   subst eg eg'
   have hbw:=HB.out.trans (hb.mono HB.out.size)
   have u1:=e1 wr hbw
   have u2:=e2 wr hbw
   obtain ⟨y,hy⟩:∃ y,ms.getD k 0 = y:=⟨_,rfl⟩
   rw [hy] at u1 u2
   have s1:(k:Int) < (ms.length:Int):=by omega
   have HBR:=hid hb
   clear e1 e2 hbw hy hb
   go_wp2
   go_region
   go_wp2
   go_roundw
   case rel => exact ⟨k + 1,by omega,by go_num,HBR.out.drew⟩
   case measure => simp [intOf];omega
  ·have HBR:=hid hb
   clear hb
   go_wp2_with fail
   clear y2 y3
   go_loopw [6] (fun ix wr => ∃ k:Nat,k ≤ vs.length ∧ ix = .int .i64 k ∧ Below W.heap.size W wr) (fun ix _ => vs.length - (intOf ix).toNat)
   case atStart => exact ⟨0,Nat.zero_le _,rfl,HBR.out⟩
   case round =>
    obtain ⟨k,hk,rfl,hb⟩:=hrel
    have y2:=cell_blk ((hb.block _ (Array.getElem?_eq_some_iff.1 HZ2.out).1).trans HZ2.out) (i:=3) rfl
    have y3:=cell_blk ((hb.block _ (Array.getElem?_eq_some_iff.1 HZ3.out).1).trans HZ3.out) (i:=3) rfl
    by_cases hkl:k < vs.length
    ·obtain ⟨g,o,eg,-,e1⟩:=HB1.out.at_ hkl
     obtain ⟨g',o',eg',-,e2⟩:=HB2.out.at_ hkl
     subst eg eg'
     have hbw:=HB.out.trans (hb.mono HB.out.size)
     have u1:=e1 wr hbw
     have u2:=e2 wr hbw
     obtain ⟨y,hy⟩:∃ y,vs.getD k 0 = y:=⟨_,rfl⟩
     rw [hy] at u1 u2
     have s1:(k:Int) < (vs.length:Int):=by omega
     have HBR:=hid hb
     clear e1 e2 hbw hy hb
     go_wp2
     go_region
     go_wp2
     go_roundw
     case rel => exact ⟨k + 1,by omega,by go_num,HBR.out.drew⟩
     case measure => simp [intOf];omega
    ·have HBR:=hid hb
     clear hb
     go_wp2
     go_ret
     exact ⟨rfl,HB.out.trans (HBR.out.mono HB.out.size)⟩
end Go.Proofs.YtheeiklgblcjfaaGreatDoor
end
section
namespace Go.Proofs.YtheeiklgblcjfaaGreatDoor
open Go.Lib (hid)
open Go.RowKit Go.Sort
set_option maxRecDepth 100000
/-- What Standing hands back. -/
def GivesSt (w:World) (p:Int) (s:St8) (e:Ending) (w':World):Prop:=∃ A1 k1 A2 k2,e = .returned (.tuple #[.agg #[.int .i64 p,.bool s.sn,.slice A1 s.made.length k1,.slice A2 s.valid.length k2],.bool true]) ∧ IntRowK .i64 w' w'.heap.size A1 s.made ∧ IntRowK .i64 w' w'.heap.size A2 s.valid ∧ Below w.heap.size w w'
theorem own_none8 {w:World} {base:Nat} {e:TypeId} {n k:Nat} {l:List Int} (h:OwnsOff w base e 1 (.slice none n k) l.length (icells l)):l = []:=by
 cases l with
 | nil => rfl
 | cons x r =>
  obtain ⟨g,off,cap,hv,-⟩:=OwnsOff.lies h (by simp)
  simp at hv
theorem stg_size:(Tryz.prog.info? 59).map (·.size) = some 4:=by kernel_rfl
set_option maxHeartbeats 6400000 in
theorem standing_b {w:World} {own:Nat → Tg8} {n0:Nat} {c:Cfg} {M:Md8} {A:Mx8} (h:MAt w own n0 c M A) (ht:M.t ≤ 100000) (p:Nat) (hp:p < c.parts.length):Calls Tryz.prog 19 #[.pointer (some ⟨A.b,0,none⟩),.int .i64 (p:Int)] w (GivesSt w (p:Int) (st8 M (p:Int))):=by
 obtain ⟨s,hs,est,hms⟩:=mat_at h hp
 obtain ⟨W1,HW1,hB1,hs1,bx⟩:=box_new w #[.int .i64 0,.bool false,.slice none 0 0,.slice none 0 0] 59
 have hW1:=(MAt.still h hB1).1
 have c6:W1.cell? ⟨A.b,6,none⟩ = some (.slice (some ⟨A.sg,A.so,none⟩) c.parts.length A.sk):=blk_at hW1.head.2 (i:=6) rfl
 have i0:(0:Int) ≤ (p:Int):=by omega
 have i1:(p:Int) < (c.parts.length:Int):=by omega
 obtain ⟨hmo,-⟩:=hW1.made p s hs (fun x => x)
 obtain ⟨hvo,-⟩:=hW1.valid p s hs (fun x => x)
 obtain ⟨ma,mk,hmv,-,-⟩:=hmo.slice
 obtain ⟨va,vk,hvv,-,-⟩:=hvo.slice
 have hSt:=(hW1.stand (fun x => x)).2
 have r0:W1.cell? ⟨A.sg,A.so + p * 4,none⟩ = some (.int .i64 (p:Int)):=hSt.cell hs (j:=0) rfl
 have r1:W1.cell? ⟨A.sg,A.so + p * 4 + 1,none⟩ = some (.bool s.s.sn):=hSt.cell hs (j:=1) rfl
 have r2:W1.cell? ⟨A.sg,A.so + p * 4 + 2,none⟩ = some (.slice ma s.s.made.length mk):=by rw [← hmv];exact hSt.cell hs (j:=2) rfl
 have r3:W1.cell? ⟨A.sg,A.so + p * 4 + 3,none⟩ = some (.slice va s.s.valid.length vk):=by rw [← hvv];exact hSt.cell hs (j:=3) rfl
 obtain ⟨W2,HW2,hB2,hs2,tx⟩:=box_new W1 #[.int .i64 (p:Int),.bool s.s.sn,.slice ma s.s.made.length mk,.slice va s.s.valid.length vk] 59
 obtain ⟨rb,hrb⟩:∃ n,n = w.heap.size:=⟨_,rfl⟩
 obtain ⟨tb,htb⟩:∃ n,n = W1.heap.size:=⟨_,rfl⟩
 have hsz:=hW1.sz s.s (List.mem_of_getElem? hms)
 rw [hmv] at hmo
 rw [hvv] at hvo
 have hm1:IntRowK .i64 W2 W2.heap.size ma s.s.made:=((own_row8 hmo).below hB2).more hB2.size
 have hv1:IntRowK .i64 W2 W2.heap.size va s.s.valid:=((own_row8 hvo).below hB2).more hB2.size
 have hnm:ma = none → s.s.made = []:=fun e => by rw [e] at hmo;exact own_none8 hmo
 have hnv:va = none → s.s.valid = []:=fun e => by rw [e] at hvo;exact own_none8 hvo
 have HC1:=hid (fun V (hb:Below W2.heap.size W2 V) => cloneI_b ma mk s.s.made V ((hm1.below hb).more hb.size) hnm (by omega))
 have HC2:=hid (fun V (hb:Below W2.heap.size W2 V) => cloneI_b va vk s.s.valid V ((hv1.below hb).more hb.size) hnv (by omega))
 have HI:=hid (is_in hW1 p hp)
 have hX:=tx W2 (Below.refl _ _)
 rw [← htb] at hX
 have HXW:=hid hX
 have HL2:=hid (Array.getElem?_eq_some_iff.1 hX).1
 have hR:=(bx W2 hB2)
 rw [← hrb] at hR
 have HR:=hid hR
 have HRT:=hid (show rb < tb ∧ w.heap.size ≤ rb from by omega)
 have HBW:=hid (hB1.trans (hB2.mono hB1.size))
 have e2:W2.cell? ⟨tb,2,none⟩ = some (.slice ma s.s.made.length mk):=blk_at hX (i:=2) rfl
 have e3:W2.cell? ⟨tb,3,none⟩ = some (.slice va s.s.valid.length vk):=blk_at hX (i:=3) rfl
 have HRB:=hid hrb;have HTB:=hid htb
 rw [est]
 clear h hs est hms hW1 hmo hvo hmv hvv hSt hsz hm1 hv1 hnm hnv hX hR hrb htb hB1 hB2 hs1 hs2 bx tx
 go_enter Tryz.func19,Tryz.ntmps19
 go_wp2_with (first | (rw [← HW1.out];(try simp only [← HRB.out])) | (rw [← HW2.out];(try simp only [← HTB.out])))
 refine HI.out.mono ?_
 rintro e w3 ⟨rfl,rfl⟩
 clear HI
 go_wp2_with (first | (rw [← HW2.out];(try simp only [← HTB.out])))
 (try simp only [← HTB.out])
 clear c6 r0 r1 r2 r3
 go_region_with (first | (go_at_call 49;((with_reducible refine (HC1.out _ ?_).mono ?_);(first | exact (Below.refl _ _).drew | exact Below.refl _ _);rintro e w5 ⟨A5,q5,rfl,hr5,hn5,hq5,hb5o⟩;have hb5:=(Below.refl W2.heap.size W2).drew.trans hb5o;clear hb5o;have k5:=(hb5.block _ HL2.out).trans HXW.out;have d2:w5.cell? ⟨tb,2,none⟩ = some (.slice ma s.s.made.length mk):=blk_at k5 (i:=2) rfl;have d3:w5.cell? ⟨tb,3,none⟩ = some (.slice va s.s.valid.length vk):=blk_at k5 (i:=3) rfl;have dd2:w5.frozen? ⟨tb,2,none⟩ = false:=by simp [World.frozen?,k5])) | (go_at_call 49;((refine (HC2.out _ hb5).mono ?_);rintro e w6 ⟨A6,q6,rfl,hr6,hn6,hq6,hb6⟩;have k6:=(hb6.block _ (Nat.lt_of_lt_of_le HL2.out hb5.size)).trans k5;have g2:=blk_at k6 (i:=2) (v:=.slice ma s.s.made.length mk) rfl;have g3:=blk_at k6 (i:=3) (v:=.slice va s.s.valid.length vk) rfl;have gg2:w6.frozen? ⟨tb,2,none⟩ = false:=(by simp [World.frozen?,k6]);have gg3:w6.frozen? ⟨tb,3,none⟩ = false:=(by simp [World.frozen?,k6]))))
 all_goals
  obtain ⟨X,hX⟩:∃ u,Hid (u = (w6.setCell ⟨tb,2,none⟩ (.slice A5 s.s.made.length q5)).setCell ⟨tb,3,none⟩ (.slice A6 s.s.valid.length q6)):=⟨_,rfl⟩
  rw [← hX.out]
  have htl:=HL2.out
  have hrt:=HRT.out
  have hb6':=hb5.trans (hb6.mono hb5.size)
  have hoX:Only (fun k => k = tb) w6 X:=by rw [hX.out];exact (Only.setCell w6 ⟨tb,2,none⟩ _).trans (Only.setCell _ ⟨tb,3,none⟩ _)
  have hkX:X.heap[tb]? = some (.cells #[.int .i64 (p:Int),.bool s.s.sn,.slice A5 s.s.made.length q5,.slice A6 s.s.valid.length q6] 59 (0,0)):=by rw [hX.out];exact blk_put (blk_put k6 rfl) rfl
  have hrX:=hoX.at_ ((hb6'.block rb (by omega)).trans HR.out) (by omega)
  have w56:=hb5.size
  have m5:IntRowK .i64 X w6.heap.size A5 s.s.made:=((hr5.below hb6).more hb6.size).only8 (Nat.le_refl _) hoX (fun hl a e e2 => by have h1:W2.heap.size ≤ a.block:=hn5 hl a e;have e2:a.block = tb:=e2;omega)
  have v6:IntRowK .i64 X w6.heap.size A6 s.s.valid:=hr6.only8 (Nat.le_refl _) hoX (fun hl a e e2 => by have h1:w5.heap.size ≤ a.block:=hn6 hl a e;have e2:a.block = tb:=e2;omega)
  have x0:X.cell? ⟨tb,0,none⟩ = some (.int .i64 (p:Int)):=blk_at hkX (i:=0) rfl
  have x1:X.cell? ⟨tb,1,none⟩ = some (.bool s.s.sn):=blk_at hkX (i:=1) rfl
  have x2:X.cell? ⟨tb,2,none⟩ = some (.slice A5 s.s.made.length q5):=blk_at hkX (i:=2) rfl
  have x3:X.cell? ⟨tb,3,none⟩ = some (.slice A6 s.s.valid.length q6):=blk_at hkX (i:=3) rfl
  have hth:=there_blk (W:=X) hrX (n:=(#[.int .i64 (p:Int),.bool s.s.sn,.slice A5 s.s.made.length q5,.slice A6 s.s.valid.length q6]:Array Value).size) rfl
  have hsz4:(Tryz.prog.info? 59).map (·.size) = some (#[.int .i64 (p:Int),.bool s.s.sn,.slice A5 s.s.made.length q5,.slice A6 s.s.valid.length q6]:Array Value).size:=stg_size
  obtain ⟨Y,hY⟩:∃ u,Hid (u = X.setCells rb 0 (#[.int .i64 (p:Int),.bool s.s.sn,.slice A5 s.s.made.length q5,.slice A6 s.s.valid.length q6]:Array Value).toList):=⟨_,rfl⟩
  have hoY:Only (fun k => k = rb) X Y:=by rw [hY.out];exact Only.sets (S:=fun k => k = rb) rfl _ _ (Only.of_below (Below.refl _ _))
  have hkY:Y.heap[rb]? = some (.cells #[.int .i64 (p:Int),.bool s.s.sn,.slice A5 s.s.made.length q5,.slice A6 s.s.valid.length q6] 59 (0,0)):=by
   rw [hY.out]
   exact blk_put (blk_put (blk_put (blk_put hrX rfl) rfl) rfl) rfl
  have y0:Y.cell? ⟨rb,0,none⟩ = some (.int .i64 (p:Int)):=blk_at hkY (i:=0) rfl
  have y1:Y.cell? ⟨rb,1,none⟩ = some (.bool s.s.sn):=blk_at hkY (i:=1) rfl
  have y2:Y.cell? ⟨rb,2,none⟩ = some (.slice A5 s.s.made.length q5):=blk_at hkY (i:=2) rfl
  have y3:Y.cell? ⟨rb,3,none⟩ = some (.slice A6 s.s.valid.length q6):=blk_at hkY (i:=3) rfl
  have hsX:=hoX.size
  have hsY:=hoY.size
  have hs6:=hb6.size
  have HF:Hid (GivesSt w (p:Int) s.s (.returned (.tuple #[.agg #[.int .i64 (p:Int),.bool s.s.sn,.slice A5 s.s.made.length q5,.slice A6 s.s.valid.length q6],.bool true])) Y):=hid ⟨A5,q5,A6,q6,rfl,
   (m5.only8 (by omega) hoY (fun hl a e e2 => by have h1:W2.heap.size ≤ a.block:=hn5 hl a e;have e2:a.block = rb:=e2;omega)).more (by omega),
   (v6.only8 (by omega) hoY (fun hl a e e2 => by have h1:w5.heap.size ≤ a.block:=hn6 hl a e;have e2:a.block = rb:=e2;omega)).more (by omega),
   HBW.out.trans (((hb6'.mono HBW.out.size).trans (hoX.below (by have:=HBW.out.size;omega) (fun k e => by omega))).trans (hoY.below (by have:=HBW.out.size;omega) (fun k e => by omega)))⟩
  clear hb5 hb6 hb6' hr5 hr6 hn5 hn6 hq5 hq6 hoX hkX hrX m5 v6 hX k5 k6 hoY hkY w56 htl hrt
  go_wp2_with (with_reducible refine wpList_store_mid (by kernel_rfl) _ _ _ rfl rb 0 #[.int .i64 (p:Int),.bool s.s.sn,.slice A5 s.s.made.length q5,.slice A6 s.s.valid.length q6] (by kernel_rfl) (by kernel_rfl) hth hsz4 (by kernel_rfl) ?_;rw [← hY.out])
  (try simp only [Exit.inBlock,Exit.then])
  refine bodyPost_ret (v:=.tuple #[.agg #[.int .i64 (p:Int),.bool s.s.sn,.slice A5 s.s.made.length q5,.slice A6 s.s.valid.length q6],.bool true]) (by simp [results,Tryz.results19,go_sem,y0,y1,y2,y3]) rfl ?_
  exact HF.out
end Go.Proofs.YtheeiklgblcjfaaGreatDoor
end
section
namespace Go.Proofs.YtheeiklgblcjfaaGreatDoor
open Go.Lib (hid)
open Go.RowKit Go.Sort
set_option maxRecDepth 100000
theorem Sim.tick {c:Cfg} {l:List Pv} {M:Md8} (h:Sim c l M):Sim c l (tick8 M):=⟨h.st,h.nd,h.wr,h.qs,h.qk,h.wd,h.bl,h.ln,h.sl⟩
theorem dest_b (k:Nat) (w:World) (hk:k ≤ 1000000):Calls Tryz.prog 46 #[.int .i64 (k:Int)] w fun e w' => e = .returned (.int .i64 (2 * (k:Int) + 1)) ∧ w = w':=by
 have h1:IntKind.i64.wrap (2 * (k:Int)) = 2 * (k:Int):=IntWalk.i64_in _ (by omega)
 have h2:IntKind.i64.wrap (2 * (k:Int) + 1) = 2 * (k:Int) + 1:=IntWalk.i64_in _ (by omega)
 go_enter Tryz.func46,Tryz.ntmps46
 go_wp2
 go_ret
 exact ⟨rfl,rfl⟩
/-- Nothing of the model turns. -/
theorem Turn8.keep {w:World} {own:Nat → Tg8} {n0:Nat} {c:Cfg} {M:Md8} {A:Mx8} (h:MAt w own n0 c M A) {w':World} (hb:Below w.heap.size w w'):Turn8 w own n0 c M A w':=⟨own,A,rfl,rfl,rfl,(MAt.still h hb).1,fun _ _ => rfl,Only.of_below hb⟩
set_option maxHeartbeats 6400000 in
theorem ringM_no {w:World} {own:Nat → Tg8} {n0:Nat} {c:Cfg} {M:Md8} {A:Mx8} (h:MAt w own n0 c M A) (wx:CfgWf c) (lx:CfgFew c) (y:CV) (hy:CWf y) (hpb:portB c y.port = false):Calls Tryz.prog 15 #[.pointer (some ⟨A.b,0,none⟩),.agg (cCells y).toArray] w fun e w' => e = .returned (.bool false) ∧ Turn8 w own n0 c M A w':=by
 have hkK:=(port_none hpb).1
 obtain ⟨W,HW,hBW,hs1,hX⟩:=box17 w y
 obtain ⟨xb,hxb⟩:∃ n,n = w.heap.size:=⟨_,rfl⟩
 rw [← hxb] at hX
 have hW:=(MAt.still h hBW).1
 have rg0:∀ rg:Regrown,(grow (redrawn W rg.d) rg.os).cell? ⟨A.b,0,none⟩ = some (.slice A.x.pa c.parts.length A.x.pc):=fun rg => cell_regrown (blk_at hW.head.2 (i:=0) rfl) rg.d rg.os
 have rg1:∀ rg:Regrown,(grow (redrawn W rg.d) rg.os).cell? ⟨A.b,1,none⟩ = some (.slice A.x.ca c.chans.length A.x.cc):=fun rg => cell_regrown (blk_at hW.head.2 (i:=1) rfl) rg.d rg.os
 have rg2:∀ rg:Regrown,(grow (redrawn W rg.d) rg.os).cell? ⟨A.b,2,none⟩ = some (.int .i64 c.len0):=fun rg => cell_regrown (blk_at hW.head.2 (i:=2) rfl) rg.d rg.os
 have rg3:∀ rg:Regrown,(grow (redrawn W rg.d) rg.os).cell? ⟨A.b,3,none⟩ = some (.slice A.x.aa c.win0.length A.x.ac):=fun rg => cell_regrown (blk_at hW.head.2 (i:=3) rfl) rg.d rg.os
 have rg4:∀ rg:Regrown,(grow (redrawn W rg.d) rg.os).cell? ⟨A.b,4,none⟩ = some (.int .i64 c.len1):=fun rg => cell_regrown (blk_at hW.head.2 (i:=4) rfl) rg.d rg.os
 have rg5:∀ rg:Regrown,(grow (redrawn W rg.d) rg.os).cell? ⟨A.b,5,none⟩ = some (.slice A.x.ba c.win1.length A.x.bc):=fun rg => cell_regrown (blk_at hW.head.2 (i:=5) rfl) rg.d rg.os
 have rgp:∀ rg:Regrown,(grow (redrawn W rg.d) rg.os).cell? ⟨xb,2,none⟩ = some (.int .i64 y.port):=fun rg => cell_regrown hX.b_port rg.d rg.os
 obtain ⟨P,hP⟩:∃ P,portP c y.port = P:=⟨_,rfl⟩
 obtain ⟨SS,hSS⟩:∃ S,portS c y.port = S:=⟨_,rfl⟩
 have HPR:=hid (fun (d:Nat) (os:Array Obj) => Calls.regrown_of (pport_is c A.x y.port 0 P SS false (grow (redrawn W d) os) (hW.cfg.1.later (below_regrown W d os)) wx lx hy.port ⟨hkK,hP,hSS,hpb⟩))
 have hbc:=Below.refl W.heap.size W
 have H:=hid h;have HBW:=hid hBW;have HX:=hid hX;have HMW:=hid hW;have HXB:=hid hxb;have HXL:=hid hX.lt
 simp only [cfgCells] at HPR
 clear h hBW hs1 hX hW hP hSS hkK hpb wx lx hy hxb
 go_enter Tryz.func15,Tryz.ntmps15
 go_wp2_with (rw [← HW.out];(try simp only [← HXB.out]))
 ((first | with_reducible refine wpList_on hbc ?_ | with_reducible refine wp_on hbc (by kernel_rfl) (by kernel_rfl) ?_);(repeat (go_big_quiet_step (first | with_reducible exact HPR.out _ _ | fail)));with_reducible refine wpQuiet_nil ?_;intro wc hbc)
 have HBC:=hid hbc
 have hXc:=HX.out.later hbc HXL.out
 have o1:=hXc.b_op
 clear hbc rg0 rg1 rg2 rg3 rg4 rg5 rgp HPR hXc
 clear o1
 go_wp2_with fail
 go_ret
 exact ⟨rfl,Turn8.keep H.out (HBW.out.trans (HBC.out.mono HBW.out.size))⟩
set_option maxHeartbeats 6400000 in
theorem ringM_op {w:World} {own:Nat → Tg8} {n0:Nat} {c:Cfg} {M:Md8} {A:Mx8} (h:MAt w own n0 c M A) (wx:CfgWf c) (lx:CfgFew c) (y:CV) (hy:CWf y) (hpb:portB c y.port = true) (ho:y.op ≠ 5):Calls Tryz.prog 15 #[.pointer (some ⟨A.b,0,none⟩),.agg (cCells y).toArray] w fun e w' => e = .returned (.bool false) ∧ Turn8 w own n0 c M A w':=by
 obtain ⟨K,hkK⟩:∃ K,portK c y.port = K:=⟨_,rfl⟩
 have q5:(y.op != 5) = true:=by simp [ho]
 clear ho
 obtain ⟨W,HW,hBW,hs1,hX⟩:=box17 w y
 obtain ⟨xb,hxb⟩:∃ n,n = w.heap.size:=⟨_,rfl⟩
 rw [← hxb] at hX
 have hW:=(MAt.still h hBW).1
 have rg0:∀ rg:Regrown,(grow (redrawn W rg.d) rg.os).cell? ⟨A.b,0,none⟩ = some (.slice A.x.pa c.parts.length A.x.pc):=fun rg => cell_regrown (blk_at hW.head.2 (i:=0) rfl) rg.d rg.os
 have rg1:∀ rg:Regrown,(grow (redrawn W rg.d) rg.os).cell? ⟨A.b,1,none⟩ = some (.slice A.x.ca c.chans.length A.x.cc):=fun rg => cell_regrown (blk_at hW.head.2 (i:=1) rfl) rg.d rg.os
 have rg2:∀ rg:Regrown,(grow (redrawn W rg.d) rg.os).cell? ⟨A.b,2,none⟩ = some (.int .i64 c.len0):=fun rg => cell_regrown (blk_at hW.head.2 (i:=2) rfl) rg.d rg.os
 have rg3:∀ rg:Regrown,(grow (redrawn W rg.d) rg.os).cell? ⟨A.b,3,none⟩ = some (.slice A.x.aa c.win0.length A.x.ac):=fun rg => cell_regrown (blk_at hW.head.2 (i:=3) rfl) rg.d rg.os
 have rg4:∀ rg:Regrown,(grow (redrawn W rg.d) rg.os).cell? ⟨A.b,4,none⟩ = some (.int .i64 c.len1):=fun rg => cell_regrown (blk_at hW.head.2 (i:=4) rfl) rg.d rg.os
 have rg5:∀ rg:Regrown,(grow (redrawn W rg.d) rg.os).cell? ⟨A.b,5,none⟩ = some (.slice A.x.ba c.win1.length A.x.bc):=fun rg => cell_regrown (blk_at hW.head.2 (i:=5) rfl) rg.d rg.os
 have rgp:∀ rg:Regrown,(grow (redrawn W rg.d) rg.os).cell? ⟨xb,2,none⟩ = some (.int .i64 y.port):=fun rg => cell_regrown hX.b_port rg.d rg.os
 obtain ⟨P,hP⟩:∃ P,portP c y.port = P:=⟨_,rfl⟩
 obtain ⟨SS,hSS⟩:∃ S,portS c y.port = S:=⟨_,rfl⟩
 have HPR:=hid (fun (d:Nat) (os:Array Obj) => Calls.regrown_of (pport_is c A.x y.port K P SS true (grow (redrawn W d) os) (hW.cfg.1.later (below_regrown W d os)) wx lx hy.port ⟨hkK,hP,hSS,hpb⟩))
 have hbc:=Below.refl W.heap.size W
 have H:=hid h;have HBW:=hid hBW;have HX:=hid hX;have HMW:=hid hW;have HXB:=hid hxb;have HXL:=hid hX.lt
 simp only [cfgCells] at HPR
 clear h hBW hs1 hX hW hP hSS hkK hpb wx lx hy hxb
 go_enter Tryz.func15,Tryz.ntmps15
 go_wp2_with (rw [← HW.out];(try simp only [← HXB.out]))
 ((first | with_reducible refine wpList_on hbc ?_ | with_reducible refine wp_on hbc (by kernel_rfl) (by kernel_rfl) ?_);(repeat (go_big_quiet_step (first | with_reducible exact HPR.out _ _ | fail)));with_reducible refine wpQuiet_nil ?_;intro wc hbc)
 have HBC:=hid hbc
 have hXc:=HX.out.later hbc HXL.out
 have o1:=hXc.b_op
 clear hbc rg0 rg1 rg2 rg3 rg4 rg5 rgp HPR hXc
 go_wp2_with fail
 go_ret
 exact ⟨rfl,Turn8.keep H.out (HBW.out.trans (HBC.out.mono HBW.out.size))⟩
set_option maxHeartbeats 6400000 in
theorem ringM_in {w:World} {own:Nat → Tg8} {n0:Nat} {c:Cfg} {M:Md8} {A:Mx8} (h:MAt w own n0 c M A) (wx:CfgWf c) (lx:CfgFew c) (y:CV) (hy:CWf y) (hpb:portB c y.port = true) (ho:y.op = 5) (k:Nat) (hkK:portK c y.port = (k:Int)) (hk:k < c.chans.length):Calls Tryz.prog 15 #[.pointer (some ⟨A.b,0,none⟩),.agg (cCells y).toArray] w fun e w' => e = .returned (.bool true) ∧ Turn8 w own n0 c (tick8 (ring8 M k)) A w':=by
 have q5:(y.op != 5) = false:=by simp [ho]
 have HKL:=hid (show k ≤ 1000000 from by have:=lx.2.1;omega)
 have HK:=hid hk
 clear ho hk
 obtain ⟨W,HW,hBW,hs1,hX⟩:=box17 w y
 obtain ⟨xb,hxb⟩:∃ n,n = w.heap.size:=⟨_,rfl⟩
 rw [← hxb] at hX
 have hW:=(MAt.still h hBW).1
 have rg0:∀ rg:Regrown,(grow (redrawn W rg.d) rg.os).cell? ⟨A.b,0,none⟩ = some (.slice A.x.pa c.parts.length A.x.pc):=fun rg => cell_regrown (blk_at hW.head.2 (i:=0) rfl) rg.d rg.os
 have rg1:∀ rg:Regrown,(grow (redrawn W rg.d) rg.os).cell? ⟨A.b,1,none⟩ = some (.slice A.x.ca c.chans.length A.x.cc):=fun rg => cell_regrown (blk_at hW.head.2 (i:=1) rfl) rg.d rg.os
 have rg2:∀ rg:Regrown,(grow (redrawn W rg.d) rg.os).cell? ⟨A.b,2,none⟩ = some (.int .i64 c.len0):=fun rg => cell_regrown (blk_at hW.head.2 (i:=2) rfl) rg.d rg.os
 have rg3:∀ rg:Regrown,(grow (redrawn W rg.d) rg.os).cell? ⟨A.b,3,none⟩ = some (.slice A.x.aa c.win0.length A.x.ac):=fun rg => cell_regrown (blk_at hW.head.2 (i:=3) rfl) rg.d rg.os
 have rg4:∀ rg:Regrown,(grow (redrawn W rg.d) rg.os).cell? ⟨A.b,4,none⟩ = some (.int .i64 c.len1):=fun rg => cell_regrown (blk_at hW.head.2 (i:=4) rfl) rg.d rg.os
 have rg5:∀ rg:Regrown,(grow (redrawn W rg.d) rg.os).cell? ⟨A.b,5,none⟩ = some (.slice A.x.ba c.win1.length A.x.bc):=fun rg => cell_regrown (blk_at hW.head.2 (i:=5) rfl) rg.d rg.os
 have rgp:∀ rg:Regrown,(grow (redrawn W rg.d) rg.os).cell? ⟨xb,2,none⟩ = some (.int .i64 y.port):=fun rg => cell_regrown hX.b_port rg.d rg.os
 obtain ⟨P,hP⟩:∃ P,portP c y.port = P:=⟨_,rfl⟩
 obtain ⟨SS,hSS⟩:∃ S,portS c y.port = S:=⟨_,rfl⟩
 have HPR:=hid (fun (d:Nat) (os:Array Obj) => Calls.regrown_of (pport_is c A.x y.port (k:Int) P SS true (grow (redrawn W d) os) (hW.cfg.1.later (below_regrown W d os)) wx lx hy.port ⟨hkK,hP,hSS,hpb⟩))
 have hbc:=Below.refl W.heap.size W
 have H:=hid h;have HBW:=hid hBW;have HX:=hid hX;have HMW:=hid hW;have HXB:=hid hxb;have HXL:=hid hX.lt
 simp only [cfgCells] at HPR
 clear h hBW hs1 hX hW hP hSS hkK hpb wx lx hy hxb
 go_enter Tryz.func15,Tryz.ntmps15
 go_wp2_with (rw [← HW.out];(try simp only [← HXB.out]))
 ((first | with_reducible refine wpList_on hbc ?_ | with_reducible refine wp_on hbc (by kernel_rfl) (by kernel_rfl) ?_);(repeat (go_big_quiet_step (first | with_reducible exact HPR.out _ _ | fail)));with_reducible refine wpQuiet_nil ?_;intro wc hbc)
 have HBC:=hid hbc
 have hXc:=HX.out.later hbc HXL.out
 have o1:=hXc.b_op
 clear hbc rg0 rg1 rg2 rg3 rg4 rg5 rgp HPR hXc
 have hMC:=(MAt.still HMW.out HBC.out).1
 have HMC:=hid hMC
 have c10:wc.cell? ⟨A.b,10,none⟩ = some (.pointer (some ⟨A.sb,0,none⟩)):=blk_at hMC.head.2 (i:=10) rfl
 have HBL:=hid (Array.getElem?_eq_some_iff.1 hMC.head.2).1
 obtain ⟨hb1,hb2,hb3⟩:=hMC.bells (fun x => x)
 have HB3:=hid hb3
 have HRI:=hid (Bel.ring_in A.sb A.pb M.bl (2 * k + 1) wc.drew (by exact hb3.below (Below.refl _ _).drew) (by have:=hMC.bl;have:=HK.out;omega))
 rw [show (((2 * k + 1:Nat):Int)) = 2 * (k:Int) + 1 from by omega] at HRI
 have HPB:=hid hb2;have HSB:=hid hb1
 clear hMC hb1 hb2 hb3
 go_wp2_with fail
 refine wp_region_till (fun W' => Below wc.heap.size wc W') 6 (by kernel_rfl) (by exact (Below.refl _ _).drew) (fun hHeld => ?_)
 refine Tt 0 rfl ?_
 (try simp only [Zc])
 refine Tt 1 rfl ?_
 (try simp only [Zc])
 refine Tt 2 rfl ?_
 (try simp only [Zc])
 refine till_load (i:=3) rfl (by kernel_rfl) (by kernel_rfl) (by kernel_rfl) (fun _ _ _ h => h) (by kernel_rfl) (by kernel_rfl) (by kernel_rfl) (Or.inl ⟨by rfl,by intro w hSw;(have z0:=(hSw.cell (p:=⟨A.b,10,none⟩) HBL.out).trans c10);(go_simp <;> with_reducible rfl)⟩) (by assumption) ?_
 (try simp only [Zc])
 refine Tt 4 rfl ?_
 (try simp only [Zc])
 refine till_one (i:=5) (by kernel_rfl) rfl (fun K hK => ?_)
 go_simp
 refine (dest_b k _ HKL.out).mono ?_
 rintro e w5 ⟨rfl,hw5⟩
 subst hw5
 (try go_wp2_with fail)
 clear hHeld
 refine hK.out _ _ (by exact (Below.refl _ _).drew) (fun hHeld => ?_)
 clear hK K
 (try simp only [Zc])
 refine till_last (by kernel_rfl) rfl (fun K hK => ?_)
 go_simp
 refine HRI.out.mono ?_
 rintro e w6 ⟨rfl,hw6⟩
 subst hw6
 (try go_wp2_with fail)
 refine hK.out _ _ ?_
 clear hK K
 (try simp only [Zc])
 refine till_done (by kernel_rfl) ?_ _
 go_wp2_with fail
 go_ret
 refine ⟨rfl,Turn8.after (HBW.out.trans (HBC.out.mono HBW.out.size)) ?_⟩
 have hO:Only (fun j => j = A.pb) wc (wc.drew.setCell ⟨A.pb,2 * k + 1,none⟩ (.bool true)):=(Only.of_below (Below.refl _ _).drew).trans (Only.setCell wc.drew ⟨A.pb,2 * k + 1,none⟩ (.bool true))
 have hM2:=MAt.fillBl HMC.out hO (fun _ _ => rfl) (fun j hj => HMC.out.free j (Nat.le_trans hO.size hj)) HMC.out.base (M.bl.set (2 * k + 1) true) (fun j hj e => .inr (by rw [e];exact HPB.out)) (by rw [List.length_set];exact HMC.out.bl) ⟨HSB.out,HPB.out,(HB3.out.below (Below.refl _ _).drew).set (2 * k + 1) true⟩
 have e:({ M with bl:=M.bl.set (2 * k + 1) true,t:=M.t + 1 }:Md8) = tick8 (ring8 M k):=by
  unfold tick8 ring8
  rw [show (2 * (k:Int) + 1) = ((2 * k + 1:Nat):Int) from by omega,Bel.ringB_nat]
 rw [e] at hM2
 exact ⟨own,A,rfl,rfl,rfl,hM2,fun _ _ => rfl,hO.mono fun j _ e => by show (own j).mut;rw [e,HPB.out];trivial⟩
def destsN (c:Cfg) (p:Int) (n:Nat):List Int:=((List.range n).filter (fun k => decide (to8 c k = p))).map (fun k:Nat => 2 * (k:Int) + 1)
theorem destsN_next (c:Cfg) (p:Int) (n:Nat):destsN c p (n + 1) = destsN c p n ++ (if to8 c n = p then [2 * (n:Int) + 1] else []):=by
 unfold destsN
 rw [List.range_succ,List.filter_append,List.map_append]
 congr 1
 by_cases h:to8 c n = p
 ·rw [if_pos h];simp [List.filter_cons,h]
 ·rw [if_neg h];simp [List.filter_cons,h]
theorem destsN_len (c:Cfg) (p:Int) (n:Nat):(destsN c p n).length ≤ n:=by
 unfold destsN
 rw [List.length_map]
 exact Nat.le_trans (List.length_filter_le _ _) (by simp)
/-- What Deliver gives,and makes of the model. -/
def GivesDv (w:World) (own:Nat → Tg8) (n0:Nat) (c:Cfg) (M:Md8) (A:Mx8) (p:Int) (e:Ending) (w':World):Prop:=∃ v,e = .returned v ∧ OwnsOff w' w.heap.size 3 1 v (Bel.takeB M.bl (dests c p)).length (icells (Bel.takeB M.bl (dests c p))) ∧ Turn8 w own n0 c (tick8 (take8 c M p)) A w'
set_option maxHeartbeats 6400000 in
theorem deliverM_b {w:World} {own:Nat → Tg8} {n0:Nat} {c:Cfg} {M:Md8} {A:Mx8} (h:MAt w own n0 c M A) (wx:CfgWf c) (lx:CfgFew c) (p:Int):Calls Tryz.prog 17 #[.pointer (some ⟨A.b,0,none⟩),.int .i64 p] w (GivesDv w own n0 c M A p):=by
 obtain ⟨i0,hi0,hz0,hz1,hz2⟩:=info_parts Tryz.infoI8
 have c1:w.cell? ⟨A.b,1,none⟩ = some (.slice A.x.ca c.chans.length A.x.cc):=blk_at h.head.2 (i:=1) rfl
 have H:=hid h
 have HRC:=hid h.cfg.1.rc;have HWC:=hid wx.wc
 have hcn:=lx.2.1
 have hbl:=(Array.getElem?_eq_some_iff.1 h.head.2).1
 have HBL:=hid hbl
 obtain ⟨ca,eca⟩:∃ ca,A.x.ca = ca:=⟨_,rfl⟩
 rw [eca] at c1 HRC
 clear h wx lx hbl eca
 go_enter Tryz.func17,Tryz.ntmps17
 go_wp2
 go_loopw [5,6,7,14] (fun v _ _ ix wr => ∃ k:Nat,k ≤ c.chans.length ∧ ix = .int .i64 k ∧ OwnsOff wr w.heap.size 3 1 v (destsN c p k).length (icells (destsN c p k)) ∧ Below w.heap.size w wr) (fun _ _ _ ix _ => c.chans.length - (intOf ix).toNat)
 case atStart => exact ⟨0,Nat.zero_le _,rfl,OwnsOff.nil _ _ _ _,Below.refl _ _⟩
 case round =>
  obtain ⟨k,hk,rfl,hown,hbr⟩:=hrel
  have HB:=hid hbr
  by_cases hlt:k < c.chans.length
  ·obtain ⟨cb,co,x0,x1,x2,x3,x4,x5,x6,rfl,hcb,hx7,-,hcell⟩:=HRC.out.at7 HWC.out hlt
   have hk2:(k:Int) < (c.chans.length:Int):=by omega
   have hwk:IntKind.i64.wrap ((k:Int) + 1) = (k:Int) + 1:=IntWalk.i64_in _ (by omega)
   obtain ⟨q0,q1,q2,q3,q4,q5,q6⟩:=hcell wr hbr
   have HT2:=hid (show to8 c k = x2 by unfold to8;rw [row_at hx7];rfl)
   have HNX:=hid (destsN_next c p k)
   have HLK:=hid hlt
   obtain ⟨xs,hxs⟩:∃ xs,destsN c p k = xs:=⟨_,rfl⟩
   rw [hxs] at hown HNX
   have HXL:=hid (show xs.length ≤ 1000000 by rw [← hxs];have:=destsN_len c p k;omega)
   obtain ⟨W,HW,hBW,hWs,bx⟩:=box_new wr #[.int .i64 x0,.int .i64 x1,.int .i64 x2,.int .i64 x3,.int .i64 x4,.int .i64 x5,.int .u32 x6] 91
   obtain ⟨xb,hxb⟩:∃ j,j = wr.heap.size:=⟨_,rfl⟩
   have EX:=hid hxb
   have hX:=bx W (Below.refl _ _)
   rw [← hxb] at hX
   have z2:W.cell? ⟨xb,2,none⟩ = some (.int .i64 x2):=blk_at hX (i:=2) rfl
   have HBX:=hid (hbr.trans (hBW.mono hbr.size))
   have HOW:=hid (hown.keptB hBW)
   clear hcell hx7 hcb hlt hxs hown hbr hBW hWs bx hxb hX
   by_cases ho:x2 = p
   ·have qn:(x2 == p) = true:=by simp [ho]
    have HN:=hid (HNX.out.trans (show xs ++ (if to8 c k = p then [2 * (k:Int) + 1] else []) = xs ++ [2 * (k:Int) + 1] by rw [HT2.out,if_pos ho]))
    have HDS:=hid (fun V => dest_b k V (by omega))
    have hown:=HOW.out
    have hbo:=HBX.out
    clear ho hk
    go_wp2_with (rw [← HW.out];(try simp only [← EX.out]))
    refine (HDS.out W).mono ?_
    rintro e5 w5 ⟨rfl,hw5⟩
    subst hw5
    clear q0 q1 q2 q3 q4 q5 q6 c1
    go_wp2_with (at_builtin;refine wpList_append_off _ rfl _ _ 55 rfl w.heap.size 3 i0 (.int .i64 0) 1 8 Tryz.underlying55 hi0 hz0 hz1 hz2 rfl (by decide) _ _ _ rfl (hown.keptB ((Below.refl _ _).alloc (Nat.le_refl _) _)) ⟨W.heap.size,0,none⟩ 1 1 [.int .i64 (2 * (k:Int) + 1)] rfl rfl (news_new _ _ _) (by simp [Value.oneCell']) (by have:=HXL.out;unfold maxLen;omega) (by have:=HXL.out;omega) (by have:=hbo.size;simp;omega) ?_)
    intro v' w6 hown' hgrow _
    have hb6:=hid ((hbo.alloc hbo.size _).grown hgrow (by have:=hbo.size;simp;omega) (fun i e => (hown.lt i e).1))
    have H3:Hid (OwnsOff w6 w.heap.size 3 1 v' (xs ++ [2 * (k:Int) + 1]).length (icells (xs ++ [2 * (k:Int) + 1]))):=hid (by rw [List.length_append,icells_app];exact hown')
    clear hown' hgrow hown hbo
    go_wp2
    go_roundw
    case rel => exact ⟨k + 1,by have:=HLK.out;omega,by go_num,by rw [HN.out];exact H3.out,hb6.out⟩
    case measure => simp [intOf];have:=HLK.out;omega
   ·have qn:(x2 == p) = false:=by simp [ho]
    have HN:=hid (HNX.out.trans (show xs ++ (if to8 c k = p then [2 * (k:Int) + 1] else []) = xs by rw [HT2.out,if_neg ho,List.append_nil]))
    clear ho hk
    go_wp2_with (rw [← HW.out];(try simp only [← EX.out]))
    go_roundw
    case rel => exact ⟨k + 1,by have:=HLK.out;omega,by go_num,by rw [HN.out];exact HOW.out,HBX.out⟩
    case measure => simp [intOf];have:=HLK.out;omega
  ·have hil:k = c.chans.length:=by omega
   have hk2:¬ ((k:Int) < (c.chans.length:Int)):=by omega
   rw [hil] at hown
   have hMC:=(MAt.still H.out hbr).1
   have HMC:=hid hMC
   have c10:wr.cell? ⟨A.b,10,none⟩ = some (.pointer (some ⟨A.sb,0,none⟩)):=blk_at hMC.head.2 (i:=10) rfl
   obtain ⟨hb1,hb2,hb3⟩:=hMC.bells (fun x => x)
   have hown:OwnsOff wr w.heap.size 3 1 u5 (dests c p).length (icells (dests c p)):=hown
   obtain ⟨Ad,kd,hvd,-,-⟩:=hown.slice
   subst hvd
   have hlp:A.pb < w.heap.size:=by
    obtain ⟨g1,g2,g3⟩:=H.out.bells (fun x => x)
    exact g3.lt.2
   have hdl:(dests c p).length ≤ 1000000:=by have:=destsN_len c p c.chans.length;exact Nat.le_trans this hcn
   have HTK:=hid (Bel.take_b A.sb A.pb M.bl (dests c p) Ad kd wr hb3 hdl (own_row8 hown) (fun a ha e => by have h1:=(hown.lt a.block (by rw [ha];rfl)).1;omega))
   have HPB:=hid hb2;have HSB:=hid hb1
   clear hMC hb1 hb2 hb3 hown hbr hlt hil hlp hdl c1
   go_wp2_with fail
   refine HTK.out.mono ?_
   rintro e5 w5 ⟨v5,rfl,hown5,hset5,ho5⟩
   have HO5:=hid ho5;have HW5:=hid hown5;have HS5:=hid hset5
   clear hown5 hset5 ho5
   go_wp2_with fail
   go_ret
   have hM2:=MAt.fillBl HMC.out HO5.out (fun _ _ => rfl) (fun j hj => HMC.out.free j (Nat.le_trans HO5.out.size hj)) HMC.out.base (Bel.leftB M.bl (Bel.takeB M.bl (dests c p))) (fun j hj e => .inr (by rw [e];exact HPB.out)) (by rw [Bel.leftB_len];exact HMC.out.bl) ⟨HSB.out,HPB.out,HS5.out⟩
   exact ⟨v5,rfl,HW5.out.mono HB.out.size,Turn8.after HB.out ⟨own,A,rfl,rfl,rfl,hM2,fun _ _ => rfl,HO5.out.mono fun j _ e => by show (own j).mut;rw [e,HPB.out];trivial⟩⟩
set_option maxHeartbeats 3200000 in
theorem standing_out {w:World} {own:Nat → Tg8} {n0:Nat} {c:Cfg} {M:Md8} {A:Mx8} (h:MAt w own n0 c M A) (p:Int) (hp:p < 0 ∨ (c.parts.length:Int) ≤ p):Calls Tryz.prog 19 #[.pointer (some ⟨A.b,0,none⟩),.int .i64 p] w fun e w' => e = .returned (.tuple #[.agg #[.int .i64 0,.bool false,.slice none 0 0,.slice none 0 0],.bool false]) ∧ Below w.heap.size w w':=by
 obtain ⟨W1,HW1,hB1,hs1,bx⟩:=box_new w #[.int .i64 0,.bool false,.slice none 0 0,.slice none 0 0] 59
 obtain ⟨rb,hrb⟩:∃ n,n = w.heap.size:=⟨_,rfl⟩
 have hW1:=(MAt.still h hB1).1
 have HI:=hid (is_out hW1 p hp)
 have hR:=bx W1 (Below.refl _ _)
 rw [← hrb] at hR
 have hth:=there_blk (W:=W1) hR (n:=(#[.int .i64 0,.bool false,.slice none 0 0,.slice none 0 0]:Array Value).size) rfl
 have hsz4:(Tryz.prog.info? 59).map (·.size) = some (#[.int .i64 0,.bool false,.slice none 0 0,.slice none 0 0]:Array Value).size:=stg_size
 obtain ⟨Y,hY⟩:∃ u,Hid (u = W1.setCells rb 0 (#[.int .i64 0,.bool false,.slice none 0 0,.slice none 0 0]:Array Value).toList):=⟨_,rfl⟩
 have hkY:Y.heap[rb]? = some (.cells #[.int .i64 0,.bool false,.slice none 0 0,.slice none 0 0] 59 (0,0)):=by
  rw [hY.out]
  exact blk_put (blk_put (blk_put (blk_put hR rfl) rfl) rfl) rfl
 have y0:Y.cell? ⟨rb,0,none⟩ = some (.int .i64 0):=blk_at hkY (i:=0) rfl
 have y1:Y.cell? ⟨rb,1,none⟩ = some (.bool false):=blk_at hkY (i:=1) rfl
 have y2:Y.cell? ⟨rb,2,none⟩ = some (.slice none 0 0):=blk_at hkY (i:=2) rfl
 have y3:Y.cell? ⟨rb,3,none⟩ = some (.slice none 0 0):=blk_at hkY (i:=3) rfl
 have HF:=hid (show Below w.heap.size w Y from by rw [hY.out];exact below_put4 hB1 (by omega) _)
 have HRB:=hid hrb
 clear h hW1 hB1 hs1 bx hrb hR hkY
 go_enter Tryz.func19,Tryz.ntmps19
 go_wp2_with (rw [← HW1.out];(try simp only [← HRB.out]))
 refine HI.out.mono ?_
 rintro e w3 ⟨rfl,hw3⟩
 subst hw3
 go_wp2_with (with_reducible refine wpList_store_mid (by kernel_rfl) _ _ _ rfl rb 0 #[.int .i64 0,.bool false,.slice none 0 0,.slice none 0 0] (by kernel_rfl) (by kernel_rfl) hth hsz4 (by kernel_rfl) ?_;rw [← hY.out])
 (try simp only [Exit.inBlock,Exit.then])
 refine bodyPost_ret (v:=.tuple #[.agg #[.int .i64 0,.bool false,.slice none 0 0,.slice none 0 0],.bool false]) (by simp [results,Tryz.results19,go_sem,y0,y1,y2,y3]) rfl ?_
 exact ⟨rfl,HF.out⟩
end Go.Proofs.YtheeiklgblcjfaaGreatDoor
end
