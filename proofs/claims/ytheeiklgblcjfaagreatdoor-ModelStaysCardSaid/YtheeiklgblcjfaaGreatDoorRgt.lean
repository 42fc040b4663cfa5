/- Texts of the ring, joined, what is used of them. No condition but those in the statements. -/
import Derived.BigQuiet
import Derived.BigRegion
import Derived.Deep.MidRow
import Derived.Deep.RegionHeld3
import Derived.Deep.Upon
import Derived.IntWalk
import Derived.Shelf.Abstract
import Derived.Test.YtheeiklgblcjfaaGreatDoorRgr
import Derived.Test.YtheeiklgblcjfaaGreatDoorRgs
section
namespace Go.Proofs.YtheeiklgblcjfaaGreatDoor
open Go.RowKit Go.Sort
set_option linter.unusedVariables false
set_option linter.unusedSimpArgs false
set_option linter.unusedVariables false
set_option linter.unusedSimpArgs false
set_option maxRecDepth 100000
/-- A call of a few fields. -/
def cv8 (part op port:Int) (rd:List Int) (ra:Option Addr) (rc:Nat) (t1 stamp:Int):CV:=⟨part,op,port,0,rd,ra,rc,0,[],none,0,false,0,false,0,0,0,t1,0,0,0,0,stamp,0⟩
theorem cv8_cells (part op port:Int) (rd:List Int) (ra:Option Addr) (rc:Nat) (t1 stamp:Int):(cCells (cv8 part op port rd ra rc t1 stamp)).toArray = #[.int .i64 part,.int .i64 op,.int .i64 port,.int .u64 0,.slice ra rd.length rc,.int .i64 0,.slice none 0 0,.bool false,.int .i64 0,.bool false,.int .i64 0,.int .i64 0,.int .i64 0,.int .i64 t1,.int .i64 0,.int .i64 0,.int .i64 0,.int .i64 0,.int .i64 stamp,.int .i64 0]:=by unfold cCells cv8;rfl
/-- The model of a law: it lies in blocks from n0 on,its own block is mb;what was there ahead of it stands. -/
def LawAt (W:World) (mb:Nat) (c:Cfg) (M:Md8) (w:World):Prop:=(∃ own A,A.b = mb ∧ MAt w own W.heap.size c M A) ∧ Below W.heap.size W w
theorem LawAt.later {W w w':World} {mb:Nat} {c:Cfg} {M:Md8} (h:LawAt W mb c M w) (hb:Below w.heap.size w w'):LawAt W mb c M w':=by
  obtain ⟨⟨own,A,e,h1⟩,h2⟩:=h
  exact ⟨⟨own,A,e,(MAt.still h1 hb).1⟩,h2.trans (hb.mono h2.size)⟩
theorem Turn8.low8 {w w':World} {own:Nat → Tg8} {n0:Nat} {c:Cfg} {M M':Md8} {A:Mx8} (h:MAt w own n0 c M A) (hT:Turn8 w own n0 c M' A w'):Below n0 w w':=by
  obtain ⟨_,_,_,_,_,_,_,h3⟩:=hT
  exact ⟨h3.os,h3.tape,h3.output,h3.size,fun k hk => h3.block k (Nat.lt_of_lt_of_le hk h.n0le) (fun e => by
    have:own k = .free:=by
      cases e2:own k <;> first | rfl | (exfalso;have:=h.base k (by rw [e2];simp);omega)
    rw [this] at e;exact e)⟩
/-- What a call answers in a law,and what it makes of the model. -/
def LawGoes (W:World) (mb:Nat) (c:Cfg) (R:An8) (M':Md8) (e:Ending) (w':World):Prop:=∃ rA rk,e = .returned (.agg #[.int .i64 R.code,.slice rA R.data.length rk,.bool R.valid,.int .i64 R.count]) ∧ (0 < R.data.length → IntRowK .u32 w' w'.heap.size rA R.data) ∧ (R.data.length ≤ rk ∧ rk ≤ maxLen ∧ (rA = none → R.data = [])) ∧ LawAt W mb c M' w'
theorem law_do {W w0 w:World} {mb:Nat} {c:Cfg} {M:Md8} (h:LawAt W mb c M w0) (hb:Below w0.heap.size w0 w) (wx:CfgWf c) (lx:CfgFew c) (hac:acceptsB c = true) (hT:TabsAt W) (ht:M.t ≤ 100000) (x:CV) (hxw:CWf x) (hxr:CRows w w.heap.size x) (hrl:x.rd.length ≤ 1000000)
    (hn:0 < x.rd.length → ∀ a,x.ra = some a → w0.heap.size ≤ a.block) (p:Nat) (hp:p < c.parts.length) (hpp:x.part = (p:Int)) (hst:-1 ≤ x.stamp ∧ x.stamp ≤ 1099511627776) (ht1:-1 ≤ x.t1 ∧ x.t1 ≤ 1099511627776) (R:An8) (M':Md8) (hR:do8 c M x = (R,M')) :
    Calls Tryz.prog 12 #[.pointer (some ⟨mb,0,none⟩),.agg (cCells x).toArray] w (LawGoes W mb c R M'):=by
  obtain ⟨⟨own,A,rfl,h1⟩,h2⟩:=h
  have h3:=(MAt.still h1 hb).1
  have h4:=h2.trans (hb.mono h2.size)
  refine (do_in h3 wx lx x hxw hxr hrl hac ht (hT.later h4) (fun hp a ha e => ?_) p hp hpp hst ht1 R M' hR).mono ?_
  · have h5:=h1.free a.block (hn hp a ha)
    rw [h5] at e;exact e
  · rintro e w' ⟨rA,rk,rfl,hd,hc,hTu⟩
    have h6:=Turn8.low8 h3 hTu
    obtain ⟨own',A',e1,e2,e3,h7,h8,h9⟩:=hTu
    exact ⟨rA,rk,rfl,fun hp => (hd hp).1,hc,⟨own',A',e1,h7⟩,h4.trans h6⟩
/-- The same,of a call of a few fields. -/
theorem law_call {W w0 w:World} {mb:Nat} {c:Cfg} {M:Md8} (h:LawAt W mb c M w0) (hb:Below w0.heap.size w0 w) (wx:CfgWf c) (lx:CfgFew c) (hac:acceptsB c = true) (hT:TabsAt W) (ht:M.t ≤ 100000) (p:Nat) (hp:p < c.parts.length) (op port:Int) (rd:List Int) (ra:Option Addr) (n rc:Nat) (t1 stamp:Int) (hn0:n = rd.length)
    (hop:(Lit.int .i64 op).wf = true) (hpo:(Lit.int .i64 port).wf = true) (hxr:IntRowK .u32 w w.heap.size ra rd) (hrc:rd.length ≤ rc ∧ rc ≤ maxLen ∧ (ra = none → rd = [])) (hrl:rd.length ≤ 100)
    (hn:0 < rd.length → ∀ a,ra = some a → w0.heap.size ≤ a.block) (hst:0 ≤ stamp ∧ stamp ≤ 1000000) (ht1:0 ≤ t1 ∧ t1 ≤ 1000000) (R:An8) (M':Md8) (hR:do8 c M (cv8 p op port rd ra rc t1 stamp) = (R,M')) :
    Calls Tryz.prog 12 #[.pointer (some ⟨mb,0,none⟩),.agg #[.int .i64 (p:Int),.int .i64 op,.int .i64 port,.int .u64 0,.slice ra n rc,.int .i64 0,.slice none 0 0,.bool false,.int .i64 0,.bool false,.int .i64 0,.int .i64 0,.int .i64 0,.int .i64 t1,.int .i64 0,.int .i64 0,.int .i64 0,.int .i64 0,.int .i64 stamp,.int .i64 0]] w (LawGoes W mb c R M'):=by
  subst hn0
  have hp6:(p:Int) < 1000000:=by have:=lx.1;omega
  have wz:(Lit.int .i64 0).wf = true:=by decide
  have wu:(Lit.int .u64 0).wf = true:=by decide
  have wp:(Lit.int .i64 (p:Int)).wf = true:=WalkArith.wf_i64 (by omega)
  have w1:(Lit.int .i64 t1).wf = true:=WalkArith.wf_i64 (by omega)
  have w2:(Lit.int .i64 stamp).wf = true:=WalkArith.wf_i64 (by omega)
  have:=law_do h hb wx lx hac hT ht (cv8 p op port rd ra rc t1 stamp) ⟨wp,wz,wz,hop,hpo,wu,w1,w2⟩
    ⟨hxr,hrc,(fun h => absurd h (by simp [cv8])),⟨by simp [cv8],by simp [cv8],fun _ => rfl⟩⟩ (by show rd.length ≤ 1000000;omega) hn p hp rfl (by show -1 ≤ stamp ∧ stamp ≤ 1099511627776;omega) (by show -1 ≤ t1 ∧ t1 ≤ 1099511627776;omega) R M' hR
  rw [cv8_cells] at this
  exact this
theorem law_new {w:World} {c:Cfg} {e:Ending} {w':World} (h:GivesMd w c e w'):∃ mb,e = .returned (.pointer (some ⟨mb,0,none⟩)) ∧ LawAt w mb c (new8 c) w':=by
  obtain ⟨own,A,rfl,h1,h2,h3⟩:=h
  exact ⟨A.b,rfl,⟨own,A,rfl,h1⟩,h2⟩
end Go.Proofs.YtheeiklgblcjfaaGreatDoor
end
section
namespace Go.Proofs.YtheeiklgblcjfaaGreatDoor
open Go.RowKit Go.Sort
set_option linter.unusedVariables false
set_option linter.unusedSimpArgs false
set_option linter.unusedVariables false
set_option linter.unusedSimpArgs false
set_option maxRecDepth 100000
/-- The example,with a channel of its own: its seven fields. -/
def exK (l:List Int):Cfg:=⟨[[0,4],[1,0]],[l],1,[[0,0,1]],1,[[1,0,1]]⟩
/-- What the example hands back: its four rows' blocks. -/
def GivesEx (w:World) (e:Ending) (w':World):Prop:=∃ pb cb ab bb,e = .returned (.agg #[.slice (some ⟨pb,0,none⟩) 2 2,.slice (some ⟨cb,0,none⟩) 1 1,.int .i64 1,.slice (some ⟨ab,0,none⟩) 1 1,.int .i64 1,.slice (some ⟨bb,0,none⟩) 1 1]) ∧
  w'.heap[pb]? = some (.cells #[.int .i64 0,.int .i64 4,.int .i64 1,.int .i64 0] 131 (0,0)) ∧ w'.heap[cb]? = some (.cells #[.int .i64 2,.int .i64 0,.int .i64 1,.int .i64 3,.int .i64 2,.int .i64 0,.int .u32 0] 91 (0,0)) ∧ w'.heap[ab]? = some (.cells #[.int .i64 0,.int .i64 0,.int .i64 1] 133 (0,0)) ∧ w'.heap[bb]? = some (.cells #[.int .i64 1,.int .i64 0,.int .i64 1] 133 (0,0)) ∧ w.heap.size ≤ pb ∧ w.heap.size ≤ cb ∧ w.heap.size ≤ ab ∧ w.heap.size ≤ bb ∧ Below w.heap.size w w'
set_option maxHeartbeats 3200000 in
theorem example18_b (w:World):Calls Tryz.prog 29 #[] w (GivesEx w):=by
  go_enter Tryz.func29,Tryz.ntmps29
  go_wp2
  obtain ⟨V,hV⟩:∃ u,Hid (u = ((((((w.alloc (.cells #[.slice (some ⟨w.heap.size + 1,0,none⟩) 2 2,.slice (some ⟨w.heap.size + 1 + 1,0,none⟩) 1 1,.int .i64 1,.slice (some ⟨w.heap.size + 1 + 1 + 1 + 1,0,none⟩) 1 1,.int .i64 1,.slice (some ⟨w.heap.size + 1 + 1 + 1 + 1 + 1,0,none⟩) 1 1] 29)).alloc (.cells #[.int .i64 0,.int .i64 4,.int .i64 1,.int .i64 0] 131)).alloc (.cells #[.int .i64 2,.int .i64 0,.int .i64 1,.int .i64 3,.int .i64 2,.int .i64 0,.int .u32 0] 91)).alloc (.cells #[.slice (some ⟨w.heap.size + 1,0,none⟩) 2 2,.slice (some ⟨w.heap.size + 1 + 1,0,none⟩) 1 1,.int .i64 1,.slice (some ⟨w.heap.size + 1 + 1 + 1 + 1,0,none⟩) 1 1,.int .i64 1,.slice (some ⟨w.heap.size + 1 + 1 + 1 + 1 + 1,0,none⟩) 1 1] 29)).alloc (.cells #[.int .i64 0,.int .i64 0,.int .i64 1] 133)).alloc (.cells #[.int .i64 1,.int .i64 0,.int .i64 1] 133))):=⟨_,rfl⟩
  have k0:V.heap[w.heap.size]? = some (.cells #[.slice (some ⟨w.heap.size + 1,0,none⟩) 2 2,.slice (some ⟨w.heap.size + 1 + 1,0,none⟩) 1 1,.int .i64 1,.slice (some ⟨w.heap.size + 1 + 1 + 1 + 1,0,none⟩) 1 1,.int .i64 1,.slice (some ⟨w.heap.size + 1 + 1 + 1 + 1 + 1,0,none⟩) 1 1] 29):=by rw [hV.out];rw [Below.heap_alloc _ _ _ (by simp;try omega)];rw [Below.heap_alloc _ _ _ (by simp;try omega)];rw [Below.heap_alloc _ _ _ (by simp;try omega)];rw [Below.heap_alloc _ _ _ (by simp;try omega)];rw [Below.heap_alloc _ _ _ (by simp;try omega)];exact heap_new_at10 _ _ (by simp)
  have k1:V.heap[w.heap.size + 1]? = some (.cells #[.int .i64 0,.int .i64 4,.int .i64 1,.int .i64 0] 131):=by rw [hV.out];rw [Below.heap_alloc _ _ _ (by simp;try omega)];rw [Below.heap_alloc _ _ _ (by simp;try omega)];rw [Below.heap_alloc _ _ _ (by simp;try omega)];rw [Below.heap_alloc _ _ _ (by simp;try omega)];exact heap_new_at10 _ _ (by simp)
  have k2:V.heap[w.heap.size + 1 + 1]? = some (.cells #[.int .i64 2,.int .i64 0,.int .i64 1,.int .i64 3,.int .i64 2,.int .i64 0,.int .u32 0] 91):=by rw [hV.out];rw [Below.heap_alloc _ _ _ (by simp;try omega)];rw [Below.heap_alloc _ _ _ (by simp;try omega)];rw [Below.heap_alloc _ _ _ (by simp;try omega)];exact heap_new_at10 _ _ (by simp)
  have k3:V.heap[w.heap.size + 1 + 1 + 1]? = some (.cells #[.slice (some ⟨w.heap.size + 1,0,none⟩) 2 2,.slice (some ⟨w.heap.size + 1 + 1,0,none⟩) 1 1,.int .i64 1,.slice (some ⟨w.heap.size + 1 + 1 + 1 + 1,0,none⟩) 1 1,.int .i64 1,.slice (some ⟨w.heap.size + 1 + 1 + 1 + 1 + 1,0,none⟩) 1 1] 29):=by rw [hV.out];rw [Below.heap_alloc _ _ _ (by simp;try omega)];rw [Below.heap_alloc _ _ _ (by simp;try omega)];exact heap_new_at10 _ _ (by simp)
  have k4:V.heap[w.heap.size + 1 + 1 + 1 + 1]? = some (.cells #[.int .i64 0,.int .i64 0,.int .i64 1] 133):=by rw [hV.out];rw [Below.heap_alloc _ _ _ (by simp;try omega)];exact heap_new_at10 _ _ (by simp)
  have k5:V.heap[w.heap.size + 1 + 1 + 1 + 1 + 1]? = some (.cells #[.int .i64 1,.int .i64 0,.int .i64 1] 133):=by rw [hV.out];exact heap_new_at10 _ _ (by simp)
  have hbV:Below w.heap.size w V:=by rw [hV.out];exact (((((((Below.refl _ _).alloc (Nat.le_refl _) _).alloc (by simp;try omega) _).alloc (by simp;try omega) _).alloc (by simp;try omega) _).alloc (by simp;try omega) _).alloc (by simp;try omega) _)
  have hsV:V.heap.size = w.heap.size + 6:=by rw [hV.out];simp
  rw [← hV.out]
  have hrg:V.rangeAt w.heap.size 0 (#[.slice (some ⟨w.heap.size + 1,0,none⟩) 2 2,.slice (some ⟨w.heap.size + 1 + 1,0,none⟩) 1 1,.int .i64 1,.slice (some ⟨w.heap.size + 1 + 1 + 1 + 1,0,none⟩) 1 1,.int .i64 1,.slice (some ⟨w.heap.size + 1 + 1 + 1 + 1 + 1,0,none⟩) 1 1]:Array Value).toList:=fun j x hx => by
    rw [Nat.zero_add]
    exact blk_at k0 (by simpa using hx)
  (try simp only [Exit.inBlock,Exit.then])
  refine bodyPost_ret (results_cell_mid rfl _ _ w.heap.size (#[.slice (some ⟨w.heap.size + 1,0,none⟩) 2 2,.slice (some ⟨w.heap.size + 1 + 1,0,none⟩) 1 1,.int .i64 1,.slice (some ⟨w.heap.size + 1 + 1 + 1 + 1,0,none⟩) 1 1,.int .i64 1,.slice (some ⟨w.heap.size + 1 + 1 + 1 + 1 + 1,0,none⟩) 1 1]:Array Value).toList _ rfl hrg Tryz.underlying29 rfl cfg_size14) rfl ?_
  exact ⟨_,_,_,_,rfl,k1,k2,k4,k5,by omega,by omega,by omega,by omega,hbV⟩
end Go.Proofs.YtheeiklgblcjfaaGreatDoor
end
section
namespace Go.Proofs.YtheeiklgblcjfaaGreatDoor
open Go.RowKit Go.Sort
set_option linter.unusedVariables false
set_option linter.unusedSimpArgs false
set_option linter.unusedVariables false
set_option linter.unusedSimpArgs false
set_option maxRecDepth 100000
/-- The example in memory,its channel's fields a list of seven. -/
theorem exK_in {w:World} {pb cb ab bb:Nat} {k f t wd d pr bt:Int} (h1:w.heap[pb]? = some (.cells #[.int .i64 0,.int .i64 4,.int .i64 1,.int .i64 0] 131 (0,0))) (h2:w.heap[cb]? = some (.cells #[.int .i64 k,.int .i64 f,.int .i64 t,.int .i64 wd,.int .i64 d,.int .i64 pr,.int .u32 bt] 91 (0,0))) (h3:w.heap[ab]? = some (.cells #[.int .i64 0,.int .i64 0,.int .i64 1] 133 (0,0))) (h4:w.heap[bb]? = some (.cells #[.int .i64 1,.int .i64 0,.int .i64 1] 133 (0,0))) :
    CfgIn w w.heap.size (exK [k,f,t,wd,d,pr,bt]) ⟨some ⟨pb,0,none⟩,2,some ⟨cb,0,none⟩,1,some ⟨ab,0,none⟩,1,some ⟨bb,0,none⟩,1⟩:=by
  have lt:∀ {b:Nat} {o:Obj},w.heap[b]? = some o → b < w.heap.size:=fun h => (Array.getElem?_eq_some_iff.1 h).1
  refine ⟨?_,?_,?_,?_,⟨Nat.le_refl _,(by show 2 ≤ maxLen;unfold maxLen;omega),fun h => by cases h⟩,⟨Nat.le_refl _,(by show 1 ≤ maxLen;unfold maxLen;omega),fun h => by cases h⟩,⟨Nat.le_refl _,(by show 1 ≤ maxLen;unfold maxLen;omega),fun h => by cases h⟩,⟨Nat.le_refl _,(by show 1 ≤ maxLen;unfold maxLen;omega),fun h => by cases h⟩⟩
  · refine fun _ => ⟨pb,0,rfl,lt h1,fun i x hx j v hv => ?_⟩
    match i,hx with
    | 0,hx => cases hx;match j,hv with | 0,hv => cases hv;exact blk_at h1 rfl | 1,hv => cases hv;exact blk_at h1 rfl
    | 1,hx => cases hx;match j,hv with | 0,hv => cases hv;exact blk_at h1 rfl | 1,hv => cases hv;exact blk_at h1 rfl
  · refine fun _ => ⟨cb,0,rfl,lt h2,fun i x hx j v hv => ?_⟩
    match i,hx with
    | 0,hx =>
      cases hx
      rw [Nat.zero_mul,Nat.add_zero,Nat.zero_add]
      refine blk_at h2 ?_
      match j,hv with
      | 0,hv => exact hv
      | 1,hv => exact hv
      | 2,hv => exact hv
      | 3,hv => exact hv
      | 4,hv => exact hv
      | 5,hv => exact hv
      | 6,hv => exact hv
  · refine fun _ => ⟨ab,0,rfl,lt h3,fun i x hx j v hv => ?_⟩
    match i,hx with
    | 0,hx => cases hx;match j,hv with | 0,hv => cases hv;exact blk_at h3 rfl | 1,hv => cases hv;exact blk_at h3 rfl | 2,hv => cases hv;exact blk_at h3 rfl
  · refine fun _ => ⟨bb,0,rfl,lt h4,fun i x hx j v hv => ?_⟩
    match i,hx with
    | 0,hx => cases hx;match j,hv with | 0,hv => cases hv;exact blk_at h4 rfl | 1,hv => cases hv;exact blk_at h4 rfl | 2,hv => cases hv;exact blk_at h4 rfl
theorem exK_wf {k f t wd d pr bt:Int} (h0:(Lit.int .i64 k).wf = true) (h1:(Lit.int .i64 f).wf = true) (h2:(Lit.int .i64 t).wf = true) (h3:(Lit.int .i64 wd).wf = true) (h4:(Lit.int .i64 d).wf = true) (h5:(Lit.int .i64 pr).wf = true) (h6:(Lit.int .u32 bt).wf = true):CfgWf (exK [k,f,t,wd,d,pr,bt]):=by
  refine ⟨fun x hx => ?_,fun x hx => ?_,fun x hx => ?_,fun x hx => ?_,(show (Lit.int .i64 1).wf = true by decide),(show (Lit.int .i64 1).wf = true by decide)⟩
  · have hx:x = [0,4] ∨ x = [1,0]:=by simpa [exK] using hx
    rcases hx with rfl | rfl <;> exact wfN2_mk (by decide) (by decide)
  · obtain rfl:x = [k,f,t,wd,d,pr,bt]:=by simpa [exK] using hx
    exact wfN7_mk h0 h1 h2 h3 h4 h5 h6
  · obtain rfl:x = [0,0,1]:=by simpa [exK] using hx
    exact wfN3_mk (by decide) (by decide) (by decide)
  · obtain rfl:x = [1,0,1]:=by simpa [exK] using hx
    exact wfN3_mk (by decide) (by decide) (by decide)
theorem exK_few (l:List Int):CfgFew (exK l):=by refine ⟨?_,?_,?_,?_⟩ <;> (show _ ≤ 1000000) <;> simp [exK]
/-- Of such a configuration partitions create their ports and begin normal work. -/
structure Rdy (c:Cfg):Prop where
  hp:c.parts.length = 2
  ac:acceptsB c = true
  wf:CfgWf c
  few:CfgFew c
  r1:∀ p:Nat,p < 2 → refusedN c p false [] 1 p 0 0 = 0
  r2:∀ p:Nat,p < 2 → refusedN c p false [(p:Int)] 2 0 0 0 = 0
def qL (d:Int):List Int:=[2,0,1,3,d,0,0]
theorem rdyQ {d:Int} (hd:d = 1 ∨ d = 2 ∨ d = 4 ∨ d = 8):Rdy (exK (qL d)):=by
  refine ⟨rfl,?_,exK_wf (by decide) (by decide) (by decide) (by decide) (WalkArith.wf_i64 (by omega)) (by decide) (by decide),exK_few _,fun p hp => ?_,fun p hp => ?_⟩
  · rcases hd with rfl | rfl | rfl | rfl <;> kernel_rfl
  · rcases hd with rfl | rfl | rfl | rfl <;> (rcases (show p = 0 ∨ p = 1 by omega) with rfl | rfl) <;> kernel_rfl
  · rcases hd with rfl | rfl | rfl | rfl <;> (rcases (show p = 0 ∨ p = 1 by omega) with rfl | rfl) <;> kernel_rfl
end Go.Proofs.YtheeiklgblcjfaaGreatDoor
end
section
namespace Go.Proofs.YtheeiklgblcjfaaGreatDoor
open Go.RowKit Go.Sort
set_option linter.unusedVariables false
set_option linter.unusedSimpArgs false
set_option linter.unusedVariables false
set_option linter.unusedSimpArgs false
set_option maxRecDepth 100000
theorem law_go {W w0 w:World} {mb:Nat} {c:Cfg} {M:Md8} (h:Rdy c) (hL:LawAt W mb c M w0) (hb:Below w0.heap.size w0 w) (hT:TabsAt W) (ht:M.t ≤ 100000) (p:Nat) (hp:p < 2) (op port t1:Int) (hop:(Lit.int .i64 op).wf = true) (hpo:(Lit.int .i64 port).wf = true) (ht1:0 ≤ t1 ∧ t1 ≤ 1000000) (R:An8) (M':Md8) (hR:do8 c M (cv8 p op port [] none 0 t1 0) = (R,M')) :
    Calls Tryz.prog 12 #[.pointer (some ⟨mb,0,none⟩),.agg #[.int .i64 (p:Int),.int .i64 op,.int .i64 port,.int .u64 0,.slice none 0 0,.int .i64 0,.slice none 0 0,.bool false,.int .i64 0,.bool false,.int .i64 0,.int .i64 0,.int .i64 0,.int .i64 t1,.int .i64 0,.int .i64 0,.int .i64 0,.int .i64 0,.int .i64 0,.int .i64 0]] w (LawGoes W mb c R M'):=
  law_call hL hb h.wf h.few h.ac hT ht p (by rw [h.hp];exact hp) op port [] none 0 0 t1 0 rfl hop hpo (fun e => absurd e (by simp)) ⟨Nat.le_refl _,by unfold maxLen;omega,fun _ => rfl⟩ (by simp) (fun e => absurd e (by simp)) (by omega) ht1 R M' hR
/-- The same,and a block that isn't the model's. -/
def LawKeep (W:World) (mb:Nat) (c:Cfg) (M:Md8) (nb:Nat) (o:Obj) (w:World):Prop:=(∃ own A,A.b = mb ∧ MAt w own W.heap.size c M A ∧ own nb = .free ∧ w.heap[nb]? = some o) ∧ Below W.heap.size W w
theorem LawKeep.law {W w:World} {mb nb:Nat} {c:Cfg} {M:Md8} {o:Obj} (h:LawKeep W mb c M nb o w):LawAt W mb c M w:=by
  obtain ⟨⟨own,A,e,h1,-,-⟩,h2⟩:=h
  exact ⟨⟨own,A,e,h1⟩,h2⟩
theorem LawKeep.at_ {W w:World} {mb nb:Nat} {c:Cfg} {M:Md8} {o:Obj} (h:LawKeep W mb c M nb o w):w.heap[nb]? = some o:=by
  obtain ⟨⟨own,A,e,h1,-,h3⟩,h2⟩:=h
  exact h3
theorem LawAt.keep {W w w':World} {mb nb:Nat} {c:Cfg} {M:Md8} {o:Obj} (h:LawAt W mb c M w) (hb:Below w.heap.size w w') (hn:w.heap.size ≤ nb) (ho:w'.heap[nb]? = some o):LawKeep W mb c M nb o w':=by
  obtain ⟨⟨own,A,e,h1⟩,h2⟩:=h
  exact ⟨⟨own,A,e,(MAt.still h1 hb).1,h1.free nb hn,ho⟩,h2.trans (hb.mono h2.size)⟩
theorem keep_go {W w0 w:World} {mb nb:Nat} {c:Cfg} {M:Md8} {o:Obj} (h:Rdy c) (hL:LawKeep W mb c M nb o w0) (hb:Below w0.heap.size w0 w) (hT:TabsAt W) (ht:M.t ≤ 100000) (p:Nat) (hp:p < 2) (op port:Int) (hop:(Lit.int .i64 op).wf = true) (hpo:(Lit.int .i64 port).wf = true) (R:An8) (M':Md8) (hR:do8 c M (cv8 p op port [] none 0 0 0) = (R,M')) :
    Calls Tryz.prog 12 #[.pointer (some ⟨mb,0,none⟩),.agg #[.int .i64 (p:Int),.int .i64 op,.int .i64 port,.int .u64 0,.slice none 0 0,.int .i64 0,.slice none 0 0,.bool false,.int .i64 0,.bool false,.int .i64 0,.int .i64 0,.int .i64 0,.int .i64 0,.int .i64 0,.int .i64 0,.int .i64 0,.int .i64 0,.int .i64 0,.int .i64 0]] w (fun e w' => (∃ rA rk,e = .returned (.agg #[.int .i64 R.code,.slice rA R.data.length rk,.bool R.valid,.int .i64 R.count])) ∧ LawKeep W mb c M' nb o w'):=by
  obtain ⟨⟨own,A,rfl,h1,h6,h7⟩,h2⟩:=hL
  have h3:=(MAt.still h1 hb).1
  have h4:=h2.trans (hb.mono h2.size)
  have wp:(Lit.int .i64 (p:Int)).wf = true:=WalkArith.wf_i64 (by omega)
  have wz:(Lit.int .i64 0).wf = true:=by decide
  have wu:(Lit.int .u64 0).wf = true:=by decide
  have hlt:=(Array.getElem?_eq_some_iff.1 h7).1
  have h8:=(hb.block nb hlt).trans h7
  have hlw:nb < w.heap.size:=by have:=hb.size;omega
  have:=do_in h3 h.wf h.few (cv8 p op port [] none 0 0 0) ⟨wp,wz,wz,hop,hpo,wu,wz,wz⟩
    ⟨(fun e => absurd e (by simp [cv8])),⟨Nat.le_refl _,by show 0 ≤ maxLen;unfold maxLen;omega,fun _ => rfl⟩,(fun e => absurd e (by simp [cv8])),⟨by simp [cv8],by simp [cv8],fun _ => rfl⟩⟩ (by show 0 ≤ 1000000;omega) h.ac ht (hT.later h4) (fun e => absurd e (by simp [cv8])) p (by rw [h.hp];exact hp) rfl (by show -1 ≤ (0:Int) ∧ (0:Int) ≤ 1099511627776;decide) (by show -1 ≤ (0:Int) ∧ (0:Int) ≤ 1099511627776;decide) R M' hR
  rw [cv8_cells] at this
  refine this.mono ?_
  rintro e w' ⟨rA,rk,rfl,-,-,hTu⟩
  have h9:=Turn8.low8 h3 hTu
  obtain ⟨own',A',e1,-,-,g1,g2,g3⟩:=hTu
  exact ⟨⟨rA,rk,rfl⟩,⟨own',A',e1,g1,(g2 nb hlw).trans h6,(g3.block nb hlw (fun e => by rw [h6] at e;exact e)).trans h8⟩,h4.trans h9⟩
theorem run_ans0 (z n:Int) (v:Value) (b:Bool) (w:World):(Instr.field 42 (.agg #[.int .i64 z,v,.bool b,.int .i64 n]) 0).run Tryz.prog w = .ok (.int .i64 z) w:=by kernel_rfl
theorem rdy2:Rdy (exK (qL 2)):=rdyQ (.inr (.inl rfl))
/-- The model in wakes: at first,with the port,normal. -/
def wkM (i:Nat):Md8:={ new8 (exK (qL 2)) with st:=if i = 0 then [none8,none8] else if i = 1 then [none8,⟨false,[1],[]⟩] else [none8,⟨true,[1],[]⟩],t:=i }
theorem wk_zero:wkM 0 = new8 (exK (qL 2)):=rfl
theorem wk_do0:do8 (exK (qL 2)) (wkM 0) (cv8 ((1:Nat):Int) 1 1 [] none 0 0 0) = (ok8,wkM 1):=by
  have hr:ref8 (exK (qL 2)) (wkM 0) (cv8 ((1:Nat):Int) 1 1 [] none 0 0 0) = 0:=by kernel_rfl
  unfold do8
  rw [if_pos hr];rfl
theorem wk_do1:do8 (exK (qL 2)) (wkM 1) (cv8 ((1:Nat):Int) 2 0 [] none 0 0 0) = (ok8,wkM 2):=by
  have hr:ref8 (exK (qL 2)) (wkM 1) (cv8 ((1:Nat):Int) 2 0 [] none 0 0 0) = 0:=by kernel_rfl
  unfold do8
  rw [if_pos hr];rfl
theorem wk_do2:do8 (exK (qL 2)) (wkM 2) (cv8 ((1:Nat):Int) 6 1 [] none 0 0 0) = (code8 2,tick8 (wkM 2)):=by
  have hr:ref8 (exK (qL 2)) (wkM 2) (cv8 ((1:Nat):Int) 6 1 [] none 0 0 0) = 0:=by kernel_rfl
  unfold do8
  rw [if_pos hr];rfl
set_option maxHeartbeats 3200000 in
theorem wakes18_b (w:World) (hT:TabsAt w):Calls Tryz.prog 8 #[] w fun e w' => e = .returned (.bool true) ∧ Below w.heap.size w w':=by
  have HEX:=Lib.hid (example18_b w)
  have HT:=Lib.hid hT
  clear hT
  go_enter Tryz.func8,Tryz.ntmps8
  go_wp2_with fail
  refine HEX.out.mono ?_
  rintro e w1 ⟨pb,cb,ab,bb,rfl,h1,h2,h3,h4,-,-,-,-,hb1⟩
  have HNW:Calls Tryz.prog 10 #[.agg #[.slice (some ⟨pb,0,none⟩) 2 2,.slice (some ⟨cb,0,none⟩) 1 1,.int .i64 1,.slice (some ⟨ab,0,none⟩) 1 1,.int .i64 1,.slice (some ⟨bb,0,none⟩) 1 1]] w1 (GivesMd w1 (exK (qL 2))):=new8_b (exK (qL 2)) ⟨some ⟨pb,0,none⟩,2,some ⟨cb,0,none⟩,1,some ⟨ab,0,none⟩,1,some ⟨bb,0,none⟩,1⟩ w1 (exK_in h1 h2 h3 h4) rdy2.wf rdy2.few rdy2.ac
  have HNW:=Lib.hid HNW
  have HTT:=Lib.hid (HT.out.later hb1);have HB1:=Lib.hid hb1
  clear h1 h2 h3 h4 hb1 HEX
  go_wp2_with fail
  refine HNW.out.mono ?_
  rintro e w2 hg
  obtain ⟨mb,rfl,hL⟩:=law_new hg
  rw [← wk_zero] at hL
  obtain ⟨nb,hnb⟩:∃ n,n = w2.heap.size:=⟨_,rfl⟩
  obtain ⟨w3,hw3⟩:∃ u,Hid (u = w2.alloc (.cells #[.int .i64 1,.int .i64 1,.int .u64 0,.slice none 0 0,.int .i64 2,.int .i64 0,.int .u64 0,.slice none 0 0] 39)):=⟨_,rfl⟩
  have hb3:Below w2.heap.size w2 w3:=by rw [hw3.out];exact (Below.refl _ _).alloc (Nat.le_refl _) _
  have h3:w3.heap[nb]? = some (.cells #[.int .i64 1,.int .i64 1,.int .u64 0,.slice none 0 0,.int .i64 2,.int .i64 0,.int .u64 0,.slice none 0 0] 39 (0,0)):=by rw [hw3.out,hnb];exact heap_alloc_new _ _
  have hL3:=hL.keep (nb:=nb) hb3 (by omega) h3
  have HL3:=Lib.hid hL3
  clear hg hL hb3 h3 hL3 HNW
  go_wp2_with (first | (rw [← hw3.out];(try simp only [← hnb])))
  clear hnb hw3
  go_loopw [12] (fun ix wr => ∃ (i:Nat),i ≤ 2 ∧ ix = .int .i64 i ∧ LawKeep w1 mb (exK (qL 2)) (wkM i) nb (.cells #[.int .i64 1,.int .i64 1,.int .u64 0,.slice none 0 0,.int .i64 2,.int .i64 0,.int .u64 0,.slice none 0 0] 39 (0,0)) wr) (fun ix _ => (2:Int) - intOf ix |>.toNat)
  case atStart => exact ⟨0,by omega,rfl,HL3.out⟩
  case round =>
    obtain ⟨i,hi,rfl,hL⟩:=hrel
    have hq:=hL.at_
    rcases (show i = 0 ∨ i = 1 ∨ i = 2 by omega) with rfl | rfl | rfl
    · have r0:wr.cell? ⟨nb,0,none⟩ = some (.int .i64 1):=blk_at hq (i:=0) rfl
      have r1:wr.cell? ⟨nb,1,none⟩ = some (.int .i64 1):=blk_at hq (i:=1) rfl
      have r2:wr.cell? ⟨nb,2,none⟩ = some (.int .u64 0):=blk_at hq (i:=2) rfl
      have r3:wr.cell? ⟨nb,3,none⟩ = some (.slice none 0 0):=blk_at hq (i:=3) rfl
      obtain ⟨wa,hwa⟩:∃ u,Hid (u = wr.alloc (.cells #[.int .i64 1,.int .i64 1,.int .u64 0,.slice none 0 0] 39)):=⟨_,rfl⟩
      have hba:Below wr.heap.size wr wa:=by rw [hwa.out];exact (Below.refl _ _).alloc (Nat.le_refl _) _
      have hNB:=heap_alloc_new wr (.cells #[.int .i64 1,.int .i64 1,.int .u64 0,.slice none 0 0] 39)
      rw [← hwa.out] at hNB
      have y0:wa.cell? ⟨wr.heap.size,0,none⟩ = some (.int .i64 1):=blk_at hNB (i:=0) rfl
      have y1:wa.cell? ⟨wr.heap.size,1,none⟩ = some (.int .i64 1):=blk_at hNB (i:=1) rfl
      have y2:wa.cell? ⟨wr.heap.size,2,none⟩ = some (.int .u64 0):=blk_at hNB (i:=2) rfl
      have y3:wa.cell? ⟨wr.heap.size,3,none⟩ = some (.slice none 0 0):=blk_at hNB (i:=3) rfl
      have HC:=Lib.hid (keep_go rdy2 hL hba HTT.out (show 0 ≤ 100000 by decide) 1 (by decide) 1 1 (by decide) (by decide) ok8 (wkM 1) wk_do0)
      clear hL hq hba hNB
      go_wp2_with (first | (rw [← hwa.out]))
      refine HC.out.mono ?_
      rintro e w5 ⟨⟨rA,rk,rfl⟩,hL5⟩
      have HL5:=Lib.hid hL5
      clear hL5 r0 r1 r2 r3 y0 y1 y2 y3
      have hfd:=run_ans0
      (try simp only [ok8,code8,List.length_nil])
      go_wp2
      go_roundw
      case rel => exact ⟨1,by omega,by go_num,HL5.out⟩
      case measure => simp [intOf]
    · have r0:wr.cell? ⟨nb,4,none⟩ = some (.int .i64 2):=blk_at hq (i:=4) rfl
      have r1:wr.cell? ⟨nb,5,none⟩ = some (.int .i64 0):=blk_at hq (i:=5) rfl
      have r2:wr.cell? ⟨nb,6,none⟩ = some (.int .u64 0):=blk_at hq (i:=6) rfl
      have r3:wr.cell? ⟨nb,7,none⟩ = some (.slice none 0 0):=blk_at hq (i:=7) rfl
      obtain ⟨wa,hwa⟩:∃ u,Hid (u = wr.alloc (.cells #[.int .i64 2,.int .i64 0,.int .u64 0,.slice none 0 0] 39)):=⟨_,rfl⟩
      have hba:Below wr.heap.size wr wa:=by rw [hwa.out];exact (Below.refl _ _).alloc (Nat.le_refl _) _
      have hNB:=heap_alloc_new wr (.cells #[.int .i64 2,.int .i64 0,.int .u64 0,.slice none 0 0] 39)
      rw [← hwa.out] at hNB
      have y0:wa.cell? ⟨wr.heap.size,0,none⟩ = some (.int .i64 2):=blk_at hNB (i:=0) rfl
      have y1:wa.cell? ⟨wr.heap.size,1,none⟩ = some (.int .i64 0):=blk_at hNB (i:=1) rfl
      have y2:wa.cell? ⟨wr.heap.size,2,none⟩ = some (.int .u64 0):=blk_at hNB (i:=2) rfl
      have y3:wa.cell? ⟨wr.heap.size,3,none⟩ = some (.slice none 0 0):=blk_at hNB (i:=3) rfl
      have HC:=Lib.hid (keep_go rdy2 hL hba HTT.out (show 1 ≤ 100000 by decide) 1 (by decide) 2 0 (by decide) (by decide) ok8 (wkM 2) wk_do1)
      clear hL hq hba hNB
      go_wp2_with (first | (rw [← hwa.out]))
      refine HC.out.mono ?_
      rintro e w5 ⟨⟨rA,rk,rfl⟩,hL5⟩
      have HL5:=Lib.hid hL5
      clear hL5 r0 r1 r2 r3 y0 y1 y2 y3
      have hfd:=run_ans0
      (try simp only [ok8,code8,List.length_nil])
      go_wp2
      go_roundw
      case rel => exact ⟨2,by omega,by go_num,HL5.out⟩
      case measure => simp [intOf]
    · have HC:=Lib.hid (law_go rdy2 hL.law (Below.refl _ _) HTT.out (show 2 ≤ 100000 by decide) 1 (by decide) 6 1 0 (by decide) (by decide) (by decide) (code8 2) (tick8 (wkM 2)) wk_do2)
      clear hq hL
      go_wp2_with fail
      refine HC.out.mono ?_
      rintro e w5 ⟨rA,rk,rfl,-,-,hL5⟩
      have HL5:=Lib.hid (HB1.out.trans (hL5.2.mono HB1.out.size))
      clear hL5
      have hfd:=run_ans0
      (try simp only [ok8,code8,List.length_nil])
      go_wp2
      go_ret
      exact ⟨rfl,HL5.out⟩
end Go.Proofs.YtheeiklgblcjfaaGreatDoor
end
section
namespace Go.Proofs.YtheeiklgblcjfaaGreatDoor
open Go.RowKit Go.Sort
set_option linter.unusedVariables false
set_option linter.unusedSimpArgs false
set_option linter.unusedVariables false
set_option linter.unusedSimpArgs false
set_option maxRecDepth 100000
set_option maxHeartbeats 6400000 in
theorem sameStand_eq (sp:Int) (sn:Bool) (ms vs:List Int) (A A' B B':Option Addr) (c c' d d':Nat) (w:World) (h1:IntRowK .i64 w w.heap.size A ms) (h2:IntRowK .i64 w w.heap.size A' ms) (h3:IntRowK .i64 w w.heap.size B vs) (h4:IntRowK .i64 w w.heap.size B' vs) (hl:ms.length ≤ 1000000) (hv:vs.length ≤ 1000000) :
    Calls Tryz.prog 20 #[.agg #[.int .i64 sp,.bool sn,.slice A ms.length c,.slice B vs.length d],.agg #[.int .i64 sp,.bool sn,.slice A' ms.length c',.slice B' vs.length d']] w (fun e w' => e = .returned (.bool true) ∧ Below w.heap.size w w'):=by
  obtain ⟨W,HW⟩:∃ u,Hid (u = (w.alloc (.cells #[.int .i64 sp,.bool sn,.slice A ms.length c,.slice B vs.length d] 59)).alloc (.cells #[.int .i64 sp,.bool sn,.slice A' ms.length c',.slice B' vs.length d'] 59)):=⟨_,rfl⟩
  have hB:Below w.heap.size w W:=by rw [HW.out];exact ((Below.refl _ _).alloc (Nat.le_refl _) _).alloc (by simp) _
  have z2:W.heap[w.heap.size]? = some (.cells #[.int .i64 sp,.bool sn,.slice A ms.length c,.slice B vs.length d] 59 (0,0)):=by rw [HW.out,Below.heap_alloc _ _ _ (by simp)];exact heap_alloc_new w _
  have z3:W.heap[w.heap.size + 1]? = some (.cells #[.int .i64 sp,.bool sn,.slice A' ms.length c',.slice B' vs.length d'] 59 (0,0)):=by rw [HW.out];exact heap_new_at10 _ _ (by simp)
  have HZ2:=Lib.hid z2;have HZ3:=Lib.hid z3;have HB:=Lib.hid hB
  have HA1:=Lib.hid h1;have HA2:=Lib.hid h2;have HB1:=Lib.hid h3;have HB2:=Lib.hid h4
  have a0:=cell_blk z2 (i:=0) rfl
  have a1:=cell_blk z2 (i:=1) rfl
  have a2:=cell_blk z2 (i:=2) rfl
  have a3:=cell_blk z2 (i:=3) rfl
  have b0:=cell_blk z3 (i:=0) rfl
  have b1:=cell_blk z3 (i:=1) rfl
  have b2:=cell_blk z3 (i:=2) rfl
  have b3:=cell_blk z3 (i:=3) rfl
  clear z2 z3 hB h1 h2 h3 h4
  go_enter Tryz.func20,Tryz.ntmps20
  go_wp2_with (rw [← HW.out])
  clear a0 a1 a2 a3 b0 b1 b2 b3
  go_loopw [5] (fun ix wr => ∃ k:Nat,k ≤ ms.length ∧ ix = .int .i64 k ∧ Below W.heap.size W wr) (fun ix _ => ms.length - (intOf ix).toNat)
  case atStart => exact ⟨0,Nat.zero_le _,rfl,Below.refl _ _⟩
  case round =>
    obtain ⟨k,hk,rfl,hb⟩:=hrel
    have y2:=cell_blk ((hb.block _ (Array.getElem?_eq_some_iff.1 HZ2.out).1).trans HZ2.out) (i:=2) rfl
    have y3:=cell_blk ((hb.block _ (Array.getElem?_eq_some_iff.1 HZ3.out).1).trans HZ3.out) (i:=2) rfl
    by_cases hkl:k < ms.length
    · obtain ⟨g,o,eg,-,e1⟩:=HA1.out.at_ hkl
      obtain ⟨g',o',eg',-,e2⟩:=HA2.out.at_ hkl
      subst eg eg'
      have hbw:=HB.out.trans (hb.mono HB.out.size)
      have u1:=e1 wr hbw
      have u2:=e2 wr hbw
      obtain ⟨y,hy⟩:∃ y,ms.getD k 0 = y:=⟨_,rfl⟩
      rw [hy] at u1 u2
      have s1:(k:Int) < (ms.length:Int):=by omega
      have HBR:=Lib.hid hb
      clear e1 e2 hbw hy hb
      go_wp2
      go_region
      go_wp2
      go_roundw
      case rel => exact ⟨k + 1,by omega,by go_num,HBR.out.drew⟩
      case measure => simp [intOf];omega
    · have HBR:=Lib.hid hb
      clear hb
      go_wp2_with fail
      clear y2 y3
      go_loopw [6] (fun ix wr => ∃ k:Nat,k ≤ vs.length ∧ ix = .int .i64 k ∧ Below W.heap.size W wr) (fun ix _ => vs.length - (intOf ix).toNat)
      case atStart => exact ⟨0,Nat.zero_le _,rfl,HBR.out⟩
      case round =>
        obtain ⟨k,hk,rfl,hb⟩:=hrel
        have y2:=cell_blk ((hb.block _ (Array.getElem?_eq_some_iff.1 HZ2.out).1).trans HZ2.out) (i:=3) rfl
        have y3:=cell_blk ((hb.block _ (Array.getElem?_eq_some_iff.1 HZ3.out).1).trans HZ3.out) (i:=3) rfl
        by_cases hkl:k < vs.length
        · obtain ⟨g,o,eg,-,e1⟩:=HB1.out.at_ hkl
          obtain ⟨g',o',eg',-,e2⟩:=HB2.out.at_ hkl
          subst eg eg'
          have hbw:=HB.out.trans (hb.mono HB.out.size)
          have u1:=e1 wr hbw
          have u2:=e2 wr hbw
          obtain ⟨y,hy⟩:∃ y,vs.getD k 0 = y:=⟨_,rfl⟩
          rw [hy] at u1 u2
          have s1:(k:Int) < (vs.length:Int):=by omega
          have HBR:=Lib.hid hb
          clear e1 e2 hbw hy hb
          go_wp2
          go_region
          go_wp2
          go_roundw
          case rel => exact ⟨k + 1,by omega,by go_num,HBR.out.drew⟩
          case measure => simp [intOf];omega
        · have HBR:=Lib.hid hb
          clear hb
          go_wp2
          go_ret
          exact ⟨rfl,HB.out.trans (HBR.out.mono HB.out.size)⟩
end Go.Proofs.YtheeiklgblcjfaaGreatDoor
end
section
namespace Go.Proofs.YtheeiklgblcjfaaGreatDoor
open Go.RowKit Go.Sort
set_option linter.unusedVariables false
set_option linter.unusedSimpArgs false
set_option linter.unusedVariables false
set_option linter.unusedSimpArgs false
set_option maxRecDepth 100000
theorem own_none8 {w:World} {base:Nat} {e:TypeId} {n k:Nat} {l:List Int} (h:OwnsOff w base e 1 (.slice none n k) l.length (icells l)):l = []:=by
  cases l with
  | nil => rfl
  | cons x r =>
    obtain ⟨g,off,cap,hv,-⟩:=OwnsOff.lies h (by simp)
    simp at hv
end Go.Proofs.YtheeiklgblcjfaaGreatDoor
end
