/- Texts of the ring, joined, what is used of them. No condition but those in the statements. -/
import Derived.BigQuiet
import Derived.BigRegion
import Derived.Deep.RegionHeld3
import Derived.IntWalk
import Derived.Laws.EntriesVeiled
import Derived.Test.YtheeiklgblcjfaaGreatDoorRgb
import Derived.Test.YtheeiklgblcjfaaGreatDoorRge
import Derived.Test.YtheeiklgblcjfaaGreatDoorRgf
section
namespace Go.Proofs.YtheeiklgblcjfaaGreatDoor
open Go.RowKit Go.Sort Go.ChangeShapes Go.WideShapes
set_option linter.unusedVariables false
set_option linter.unusedSimpArgs false
theorem below_b (n m:Int) (w:World):Calls Tryz.prog 126 #[.int .i64 n,.int .i64 m] w fun e w' => e = .returned (.bool (decide (0 ≤ n ∧ n < m))) ∧ w = w':=by
  by_cases h1:0 ≤ n
  · by_cases h2:n < m
    · have HX:=Lib.hid (show decide (0 ≤ n ∧ n < m) = true from decide_eq_true ⟨h1,h2⟩)
      go_enter Tryz.func126,Tryz.ntmps126
      go_wp2
      go_ret
      exact ⟨by first | (rw [HX.out];rfl) | rfl,rfl⟩
    · have h2d:decide (n < m) = false:=decide_eq_false h2
      have HX:=Lib.hid (show decide (0 ≤ n ∧ n < m) = false from decide_eq_false (fun h => h2 h.2))
      go_enter Tryz.func126,Tryz.ntmps126
      go_wp2
      go_ret
      exact ⟨by first | (rw [HX.out];rfl) | rfl,rfl⟩
  · have h1d:decide (0 ≤ n) = false:=decide_eq_false h1
    have HX:=Lib.hid (show decide (0 ≤ n ∧ n < m) = false from decide_eq_false (fun h => h1 h.1))
    go_enter Tryz.func126,Tryz.ntmps126
    go_wp2
    go_ret
    exact ⟨by first | (rw [HX.out];rfl) | rfl,rfl⟩
theorem below_is (n m:Int) (q:Bool) (w:World) (h:decide (0 ≤ n ∧ n < m) = q):Calls Tryz.prog 126 #[.int .i64 n,.int .i64 m] w fun e w' => e = .returned (.bool q) ∧ w = w':=by subst h;exact below_b n m w
/-- Place n of a list of spans;noughts,if there is none. -/
def nthS (l:List (List Int)) (n:Int):Int × Int:=if 0 ≤ n ∧ n < (l.length:Int) then (fld (row l n.toNat) 0,fld (row l n.toNat) 1) else (0,0)
set_option maxHeartbeats 1600000 in
theorem nth_b (l:List (List Int)) (A:Option Addr) (cap:Nat) (n:Int) (w:World) (hr:RowN [.i64,.i64] w w.heap.size A l) (hw:wfR [.i64,.i64] l) (hl:l.length ≤ 1000000) :
    Calls Tryz.prog 122 #[.slice A l.length cap,.int .i64 n] w fun e w' => e = .returned (.agg #[.int .i64 (nthS l n).1,.int .i64 (nthS l n).2]) ∧ Below w.heap.size w w':=by
  obtain ⟨W,hW⟩:∃ u,Hid (u = w.alloc (.cells #[.int .i64 0,.int .i64 0] 173)):=⟨_,rfl⟩
  have hB:Below w.heap.size w W:=by rw [hW.out];exact (Below.refl _ _).alloc (Nat.le_refl _) _
  have hR:W.heap[w.heap.size]? = some (.cells #[.int .i64 0,.int .i64 0] 173 (0,0)):=by rw [hW.out];exact heap_alloc_new _ _
  have z0:=cell_blk hR (i:=0) rfl
  have z1:=cell_blk hR (i:=1) rfl
  have f0:W.frozen? ⟨w.heap.size,0,none⟩ = false:=by simp [World.frozen?,hR]
  have f1:W.frozen? ⟨w.heap.size,1,none⟩ = false:=by simp [World.frozen?,hR]
  have HR:=Lib.hid hR;have HB:=Lib.hid hB
  by_cases hn:0 ≤ n ∧ n < (l.length:Int)
  · obtain ⟨k,rfl⟩:=Int.eq_ofNat_of_zero_le hn.1
    have hk:k < l.length:=by omega
    obtain ⟨b,o,x0,x1,rfl,hb,e1,-,k0⟩:=hr.at2 hw hk
    obtain ⟨q0,q1⟩:=k0 _ hB
    have HX:=Lib.hid (show nthS l (k:Int) = (x0,x1) by rw [nthS,if_pos hn,Int.toNat_natCast,row_at e1];rfl)
    have hbe:=below_is (k:Int) (l.length:Int) true W (decide_eq_true hn)
    have i0:=hn.1
    have i1:=hn.2
    clear hn e1 k0 hR hB hr hw
    go_enter Tryz.func122,Tryz.ntmps122
    go_wp2_with (first | (rw [← hW.out]) | (go_at_call 126;((with_reducible refine hbe.mono ?_);rintro e w5 ⟨rfl,rfl⟩)))
    have hRz:((W.setCell ⟨w.heap.size,0,none⟩ (.int .i64 x0)).setCell ⟨w.heap.size,1,none⟩ (.int .i64 x1)).heap[w.heap.size]? = some (.cells #[.int .i64 x0,.int .i64 x1] 173 (0,0)):=by simp [World.setCell,Array.getElem?_modify,HR.out]
    exact bodyPost_ret (results_cell_span rfl _ _ w.heap.size _ _ rfl (cell_blk hRz (i:=0) rfl) (cell_blk hRz (i:=1) rfl)) rfl ⟨by rw [HX.out],(HB.out.setCell (p:=⟨w.heap.size,0,none⟩) (Nat.le_refl _) _).setCell (p:=⟨w.heap.size,1,none⟩) (Nat.le_refl _) _⟩
  · have HX:=Lib.hid (show nthS l n = (0,0) from if_neg hn)
    have hbe:=below_is n (l.length:Int) false W (decide_eq_false hn)
    clear hn hR hB hr hw
    go_enter Tryz.func122,Tryz.ntmps122
    go_wp2_with (first | (rw [← hW.out]) | (go_at_call 126;((with_reducible refine hbe.mono ?_);rintro e w5 ⟨rfl,rfl⟩)))
    have hRz:((W.setCell ⟨w.heap.size,0,none⟩ (.int .i64 0)).setCell ⟨w.heap.size,1,none⟩ (.int .i64 0)).heap[w.heap.size]? = some (.cells #[.int .i64 0,.int .i64 0] 173 (0,0)):=by simp [World.setCell,Array.getElem?_modify,HR.out]
    exact bodyPost_ret (results_cell_span rfl _ _ w.heap.size _ _ rfl (cell_blk hRz (i:=0) rfl) (cell_blk hRz (i:=1) rfl)) rfl ⟨by rw [HX.out],(HB.out.setCell (p:=⟨w.heap.size,0,none⟩) (Nat.le_refl _) _).setCell (p:=⟨w.heap.size,1,none⟩) (Nat.le_refl _) _⟩
theorem bufsz_b (x0 x1 x2 x3 x4 x5 x6:Int) (w:World) (h:0 ≤ x3) (h2:x3 ≤ 16):Calls Tryz.prog 160 #[.agg #[.int .i64 x0,.int .i64 x1,.int .i64 x2,.int .i64 x3,.int .i64 x4,.int .i64 x5,.int .u32 x6]] w fun e w' => e = .returned (.int .i64 (2 + x3)) ∧ Below w.heap.size w w':=by
  have v0:=IntWalk.i64_in (2 + x3) (by omega)
  go_enter Tryz.func160,Tryz.ntmps160
  go_wp2
  go_ret
  exact ⟨rfl,(Below.refl _ _).alloc (Nat.le_refl _) _⟩
theorem cellsz_b (x0 x1 x2 x3 x4 x5 x6:Int) (w:World) (h:0 ≤ x3) (h2:x3 ≤ 16):Calls Tryz.prog 161 #[.agg #[.int .i64 x0,.int .i64 x1,.int .i64 x2,.int .i64 x3,.int .i64 x4,.int .i64 x5,.int .u32 x6]] w fun e w' => e = .returned (.int .i64 (1 + x3)) ∧ Below w.heap.size w w':=by
  have v0:=IntWalk.i64_in (1 + x3) (by omega)
  go_enter Tryz.func161,Tryz.ntmps161
  go_wp2
  go_ret
  exact ⟨rfl,(Below.refl _ _).alloc (Nat.le_refl _) _⟩
/-- A row's end,in its block. -/
def EndAt (w:World) (rb:Nat) (e:Int):Prop:=w.heap[rb]? = some (.cells #[.int .i64 e] 206 (0,0))
set_option maxHeartbeats 1600000 in
theorem put_b (rb:Nat) (e s:Int) (w:World) (h:EndAt w rb e) (hs:-9223372036854775808 ≤ e + s ∧ e + s ≤ 9223372036854775807) :
    Calls Tryz.prog 128 #[.pointer (some ⟨rb,0,none⟩),.int .i64 s] w fun x w' => x = .returned (.agg #[.int .i64 e,.int .i64 s]) ∧ EndAt w' rb (e + s) ∧ Only (fun k => k = rb) w w':=by
  have v0:=IntWalk.i64_in (e + s) (by omega)
  have hlt:rb < w.heap.size:=(Array.getElem?_eq_some_iff.1 h).1
  obtain ⟨W,hW⟩:∃ u,Hid (u = w.alloc (.cells #[.int .i64 0,.int .i64 0] 173)):=⟨_,rfl⟩
  have hB:Below w.heap.size w W:=by rw [hW.out];exact (Below.refl _ _).alloc (Nat.le_refl _) _
  have hR:W.heap[w.heap.size]? = some (.cells #[.int .i64 0,.int .i64 0] 173 (0,0)):=by rw [hW.out];exact heap_alloc_new _ _
  have hE:EndAt W rb e:=(hB.block _ hlt).trans h
  have hWs:w.heap.size < W.heap.size:=(Array.getElem?_eq_some_iff.1 hR).1
  have a0:=cell_blk hE (i:=0) rfl
  obtain ⟨V,hV⟩:∃ u,Hid (u = W.alloc (.cells #[.int .i64 e,.int .i64 s] 173)):=⟨_,rfl⟩
  have hB2:Below W.heap.size W V:=by rw [hV.out];exact (Below.refl _ _).alloc (Nat.le_refl _) _
  have hV2:V.heap[W.heap.size]? = some (.cells #[.int .i64 e,.int .i64 s] 173 (0,0)):=by rw [hV.out];exact heap_alloc_new _ _
  have hEV:EndAt V rb e:=(hB2.block _ (by omega)).trans hE
  have hRV:V.heap[w.heap.size]? = some (.cells #[.int .i64 0,.int .i64 0] 173 (0,0)):=(hB2.block _ hWs).trans hR
  have c0:=cell_blk hEV (i:=0) rfl
  have g0:V.frozen? ⟨rb,0,none⟩ = false:=by have h:=hEV;unfold EndAt at h;simp [World.frozen?,h]
  have HO:=Lib.hid (show Only (fun k => k = rb) w V from (Only.of_below hB).trans (Only.of_below hB2))
  have HV2:=Lib.hid hV2;have HEV:=Lib.hid hEV;have HRV:=Lib.hid hRV;have HWS:=Lib.hid hWs
  clear hB hR hE h hB2 hV2 hEV hRV hWs
  obtain ⟨U,hU⟩:∃ u,Hid (u = V.setCell ⟨rb,0,none⟩ (.int .i64 (e + s))):=⟨_,rfl⟩
  have hOU:Only (fun k => k = rb) V U:=by rw [hU.out];exact Only.setCell V ⟨rb,0,none⟩ _
  have hEU:EndAt U rb (e + s):=by rw [hU.out];have:=HEV.out;unfold EndAt at this ⊢;simp [World.setCell,Array.getElem?_modify,this]
  have hw:=HWS.out
  have hVU:U.heap[W.heap.size]? = some (.cells #[.int .i64 e,.int .i64 s] 173 (0,0)):=(hOU.block _ (Array.getElem?_eq_some_iff.1 HV2.out).1 (by omega)).trans HV2.out
  have hRU:U.heap[w.heap.size]? = some (.cells #[.int .i64 0,.int .i64 0] 173 (0,0)):=(hOU.block _ (Array.getElem?_eq_some_iff.1 HRV.out).1 (by omega)).trans HRV.out
  have z0:=cell_blk hVU (i:=0) rfl
  have z1:=cell_blk hVU (i:=1) rfl
  have y0:=cell_blk hRU (i:=0) rfl
  have y1:=cell_blk hRU (i:=1) rfl
  have f0:U.frozen? ⟨w.heap.size,0,none⟩ = false:=by simp [World.frozen?,hRU]
  have f1:U.frozen? ⟨w.heap.size,1,none⟩ = false:=by simp [World.frozen?,hRU]
  have HOU:=Lib.hid (HO.out.trans hOU);have HEU:=Lib.hid hEU;have HRU:=Lib.hid hRU
  clear hOU hEU hVU hRU hw
  go_enter Tryz.func128,Tryz.ntmps128
  go_wp2_with (first | (rw [← hW.out]) | (rw [← hV.out]) | (rw [← hU.out]))
  have hRz:((U.setCell ⟨w.heap.size,0,none⟩ (.int .i64 e)).setCell ⟨w.heap.size,1,none⟩ (.int .i64 s)).heap[w.heap.size]? = some (.cells #[.int .i64 e,.int .i64 s] 173 (0,0)):=by simp [World.setCell,Array.getElem?_modify,HRU.out]
  have hOz:=(Only.setCell U ⟨w.heap.size,0,none⟩ (.int .i64 e)).trans (Only.setCell _ ⟨w.heap.size,1,none⟩ (.int .i64 s))
  refine bodyPost_ret (results_cell_span rfl _ _ w.heap.size _ _ rfl (cell_blk hRz (i:=0) rfl) (cell_blk hRz (i:=1) rfl)) rfl ⟨rfl,?_,?_⟩
  · exact (hOz.block rb (Array.getElem?_eq_some_iff.1 HEU.out).1 (by show ¬ rb = w.heap.size;omega)).trans HEU.out
  · exact ⟨HOU.out.os,HOU.out.tape,HOU.out.output,by simpa using HOU.out.size,fun k hk hne => (hOz.block k (Nat.lt_of_lt_of_le hk HOU.out.size) (by show ¬ k = w.heap.size;omega)).trans (HOU.out.block k hk hne)⟩
end Go.Proofs.YtheeiklgblcjfaaGreatDoor
namespace Go.Proofs.YtheeiklgblcjfaaGreatDoor
open Go.RowKit Go.Sort Go.ChangeShapes Go.WideShapes
set_option linter.unusedVariables false
set_option linter.unusedSimpArgs false
/-- The spans of the first n partitions;the source and the destination spans of the first n channels. -/
def pvL (c:Cfg) (n:Nat):List (List Int):=(List.range n).map (fun i => [privUp c.parts i,fld (row c.parts i) 1])
def srL (c:Cfg) (n:Nat):List (List Int):=(List.range n).map (fun k => [beforeN c k,srcN (row c.chans k)])
def dsL (c:Cfg) (n:Nat):List (List Int):=(List.range n).map (fun k => [beforeN c k + srcN (row c.chans k),1])
theorem pvL_len (c:Cfg) (n:Nat):(pvL c n).length = n:=by simp [pvL]
theorem srL_len (c:Cfg) (n:Nat):(srL c n).length = n:=by simp [srL]
theorem dsL_len (c:Cfg) (n:Nat):(dsL c n).length = n:=by simp [dsL]
theorem pvL_succ (c:Cfg) (n:Nat):pvL c (n + 1) = pvL c n ++ [[privUp c.parts n,fld (row c.parts n) 1]]:=by simp [pvL,List.range_succ]
theorem srL_succ (c:Cfg) (n:Nat):srL c (n + 1) = srL c n ++ [[beforeN c n,srcN (row c.chans n)]]:=by simp [srL,List.range_succ]
theorem dsL_succ (c:Cfg) (n:Nat):dsL c (n + 1) = dsL c n ++ [[beforeN c n + srcN (row c.chans n),1]]:=by simp [dsL,List.range_succ]
theorem beforeN_zero (c:Cfg):beforeN c 0 = privUp c.parts c.parts.length:=by unfold beforeN;simp [chanUp]
theorem beforeN_succ (c:Cfg) (n:Nat):beforeN c (n + 1) = beforeN c n + srcN (row c.chans n) + 1:=by
  unfold beforeN
  show privUp c.parts c.parts.length + (chanUp c.chans n + srcN (row c.chans n) + 1) = _
  omega
/-- Two slices own no block together. -/
def Asunder (v u:Value):Prop:=∀ g,v.ownBlock = some g → u.ownBlock ≠ some g
/-- Three rows of spans under way: their struct lies in block X,the end in block rb below it;W: the world at the start. -/
structure Rows3 (W:World) (X rb:Nat) (vp vs vd:Value) (lp ls ld:List (List Int)) (e:Int) (w:World):Prop where
  head:w.heap[X]? = some (.cells #[vp,vs,vd] 197 (0,0))
  rp:OwnsOff w (X + 1) 173 2 vp lp.length (rcells [.i64,.i64] lp)
  rs:OwnsOff w (X + 1) 173 2 vs ls.length (rcells [.i64,.i64] ls)
  rd:OwnsOff w (X + 1) 173 2 vd ld.length (rcells [.i64,.i64] ld)
  ps:Asunder vp vs
  pd:Asunder vp vd
  sd:Asunder vs vd
  en:EndAt w rb e
  lt:rb < X
  only:Only (fun k => k = rb ∨ X ≤ k) W w
section
variable {W w w':World} {X rb:Nat} {vp vs vd:Value} {lp ls ld:List (List Int)} {e:Int}
theorem Rows3.hx (h:Rows3 W X rb vp vs vd lp ls ld e w):X < w.heap.size:=(Array.getElem?_eq_some_iff.1 h.head).1
theorem Rows3.keptB (h:Rows3 W X rb vp vs vd lp ls ld e w) (hb:Below w.heap.size w w'):Rows3 W X rb vp vs vd lp ls ld e w':=
  ⟨(hb.block _ h.hx).trans h.head,h.rp.keptB hb,h.rs.keptB hb,h.rd.keptB hb,h.ps,h.pd,h.sd,(hb.block _ (Nat.lt_trans h.lt h.hx)).trans h.en,h.lt,h.only.trans (Only.of_below hb)⟩
theorem Rows3.put {e':Int} (h:Rows3 W X rb vp vs vd lp ls ld e w) (ho:Only (fun k => k = rb) w w') (he:EndAt w' rb e'):Rows3 W X rb vp vs vd lp ls ld e' w':=by
  have hlt:=h.lt
  exact ⟨(ho.block _ h.hx (by show ¬ X = rb;omega)).trans h.head,h.rp.kept ho (fun k hk e => by have:=(h.rp.lt k hk).1;have:k = rb:=e;omega),h.rs.kept ho (fun k hk e => by have:=(h.rs.lt k hk).1;have:k = rb:=e;omega),
    h.rd.kept ho (fun k hk e => by have:=(h.rd.lt k hk).1;have:k = rb:=e;omega),h.ps,h.pd,h.sd,he,h.lt,h.only.trans (ho.mono fun k _ hk => .inl hk)⟩
theorem Rows3.below (h:Rows3 W X rb vp vs vd lp ls ld e w) (hX:X ≤ W.heap.size):Below rb W w:=h.only.below (by have:=h.lt;omega) (fun k hk => by have:=h.lt;rcases hk with hk | hk <;> omega)
theorem Rows3.free (h:Rows3 W X rb vp vs vd lp ls ld e w) (o:Nat):w.frozen? ⟨X,o,none⟩ = false:=by simp [World.frozen?,h.head]
/-- Behind an append to one of the rows,and the store of what it gave. -/
theorem Rows3.appp {w2:World} {v':Value} {l':List (List Int)} (h:Rows3 W X rb vp vs vd lp ls ld e w) (hX:X ≤ W.heap.size) (hgrow:w.grownBy w2 vp.ownBlock) (hown':OwnsOff w2 (X + 1) 173 2 v' l'.length (rcells [.i64,.i64] l')) (hfr:∀ g,v'.ownBlock = some g → vp.ownBlock = some g ∨ w.heap.size ≤ g) :
    w2.heap[X]? = some (.cells #[vp,vs,vd] 197 (0,0)) ∧ w2.cell? ⟨X,0,none⟩ = some vp ∧ w2.frozen? ⟨X,0,none⟩ = false ∧ Rows3 W X rb v' vs vd l' ls ld e (w2.setCell ⟨X,0,none⟩ v'):=by
  have ho:=Only.of_grown hgrow
  have hne:∀ k,some k = vp.ownBlock → X + 1 ≤ k:=fun k hk => (h.rp.lt k hk.symm).1
  have hlt:=h.lt
  have hhead:w2.heap[X]? = some (.cells #[vp,vs,vd] 197 (0,0)):=(ho.block X h.hx (fun e => by have:=hne X e;omega)).trans h.head
  have hen:EndAt w2 rb e:=(ho.block rb (Nat.lt_trans h.lt h.hx) (fun e => by have:=hne rb e;omega)).trans h.en
  refine ⟨hhead,by simp [World.cell?,hhead],by simp [World.frozen?,hhead],?_,(hown'.kept (Only.setCell w2 ⟨X,0,none⟩ v') (fun k hk e => by have:=(hown'.lt k hk).1;have:k = X:=e;omega)),((h.rs.kept ho (fun k hk e => h.ps k e.symm hk)).kept (Only.setCell w2 ⟨X,0,none⟩ v') (fun k hk e => by have:=(h.rs.lt k hk).1;have:k = X:=e;omega)),((h.rd.kept ho (fun k hk e => h.pd k e.symm hk)).kept (Only.setCell w2 ⟨X,0,none⟩ v') (fun k hk e => by have:=(h.rd.lt k hk).1;have:k = X:=e;omega)),(fun g hv' hg => by rcases hfr g hv' with h1 | h1;exact h.ps g h1 hg;have:=(h.rs.lt g hg).2;omega),(fun g hv' hg => by rcases hfr g hv' with h1 | h1;exact h.pd g h1 hg;have:=(h.rd.lt g hg).2;omega),h.sd,?_,h.lt,?_⟩
  · simp [World.setCell,Array.getElem?_modify,hhead]
  · exact (Below.heap_setCell _ _ _ _ (by show rb ≠ X;omega)).trans hen
  · exact (h.only.trans (ho.mono fun k _ hk => .inr (by have:=hne k hk;omega))).trans ((Only.setCell w2 ⟨X,0,none⟩ v').mono fun k _ hk => .inr (by have:k = X:=hk;omega))
/-- Behind an append to one of the rows,and the store of what it gave. -/
theorem Rows3.apps {w2:World} {v':Value} {l':List (List Int)} (h:Rows3 W X rb vp vs vd lp ls ld e w) (hX:X ≤ W.heap.size) (hgrow:w.grownBy w2 vs.ownBlock) (hown':OwnsOff w2 (X + 1) 173 2 v' l'.length (rcells [.i64,.i64] l')) (hfr:∀ g,v'.ownBlock = some g → vs.ownBlock = some g ∨ w.heap.size ≤ g) :
    w2.heap[X]? = some (.cells #[vp,vs,vd] 197 (0,0)) ∧ w2.cell? ⟨X,1,none⟩ = some vs ∧ w2.frozen? ⟨X,1,none⟩ = false ∧ Rows3 W X rb vp v' vd lp l' ld e (w2.setCell ⟨X,1,none⟩ v'):=by
  have ho:=Only.of_grown hgrow
  have hne:∀ k,some k = vs.ownBlock → X + 1 ≤ k:=fun k hk => (h.rs.lt k hk.symm).1
  have hlt:=h.lt
  have hhead:w2.heap[X]? = some (.cells #[vp,vs,vd] 197 (0,0)):=(ho.block X h.hx (fun e => by have:=hne X e;omega)).trans h.head
  have hen:EndAt w2 rb e:=(ho.block rb (Nat.lt_trans h.lt h.hx) (fun e => by have:=hne rb e;omega)).trans h.en
  refine ⟨hhead,by simp [World.cell?,hhead],by simp [World.frozen?,hhead],?_,((h.rp.kept ho (fun k hk e => h.ps k hk e.symm)).kept (Only.setCell w2 ⟨X,1,none⟩ v') (fun k hk e => by have:=(h.rp.lt k hk).1;have:k = X:=e;omega)),(hown'.kept (Only.setCell w2 ⟨X,1,none⟩ v') (fun k hk e => by have:=(hown'.lt k hk).1;have:k = X:=e;omega)),((h.rd.kept ho (fun k hk e => h.sd k e.symm hk)).kept (Only.setCell w2 ⟨X,1,none⟩ v') (fun k hk e => by have:=(h.rd.lt k hk).1;have:k = X:=e;omega)),(fun g hg hv' => by rcases hfr g hv' with h1 | h1;exact h.ps g hg h1;have:=(h.rp.lt g hg).2;omega),h.pd,(fun g hv' hg => by rcases hfr g hv' with h1 | h1;exact h.sd g h1 hg;have:=(h.rd.lt g hg).2;omega),?_,h.lt,?_⟩
  · simp [World.setCell,Array.getElem?_modify,hhead]
  · exact (Below.heap_setCell _ _ _ _ (by show rb ≠ X;omega)).trans hen
  · exact (h.only.trans (ho.mono fun k _ hk => .inr (by have:=hne k hk;omega))).trans ((Only.setCell w2 ⟨X,1,none⟩ v').mono fun k _ hk => .inr (by have:k = X:=hk;omega))
/-- Behind an append to one of the rows,and the store of what it gave. -/
theorem Rows3.appd {w2:World} {v':Value} {l':List (List Int)} (h:Rows3 W X rb vp vs vd lp ls ld e w) (hX:X ≤ W.heap.size) (hgrow:w.grownBy w2 vd.ownBlock) (hown':OwnsOff w2 (X + 1) 173 2 v' l'.length (rcells [.i64,.i64] l')) (hfr:∀ g,v'.ownBlock = some g → vd.ownBlock = some g ∨ w.heap.size ≤ g) :
    w2.heap[X]? = some (.cells #[vp,vs,vd] 197 (0,0)) ∧ w2.cell? ⟨X,2,none⟩ = some vd ∧ w2.frozen? ⟨X,2,none⟩ = false ∧ Rows3 W X rb vp vs v' lp ls l' e (w2.setCell ⟨X,2,none⟩ v'):=by
  have ho:=Only.of_grown hgrow
  have hne:∀ k,some k = vd.ownBlock → X + 1 ≤ k:=fun k hk => (h.rd.lt k hk.symm).1
  have hlt:=h.lt
  have hhead:w2.heap[X]? = some (.cells #[vp,vs,vd] 197 (0,0)):=(ho.block X h.hx (fun e => by have:=hne X e;omega)).trans h.head
  have hen:EndAt w2 rb e:=(ho.block rb (Nat.lt_trans h.lt h.hx) (fun e => by have:=hne rb e;omega)).trans h.en
  refine ⟨hhead,by simp [World.cell?,hhead],by simp [World.frozen?,hhead],?_,((h.rp.kept ho (fun k hk e => h.pd k hk e.symm)).kept (Only.setCell w2 ⟨X,2,none⟩ v') (fun k hk e => by have:=(h.rp.lt k hk).1;have:k = X:=e;omega)),((h.rs.kept ho (fun k hk e => h.sd k hk e.symm)).kept (Only.setCell w2 ⟨X,2,none⟩ v') (fun k hk e => by have:=(h.rs.lt k hk).1;have:k = X:=e;omega)),(hown'.kept (Only.setCell w2 ⟨X,2,none⟩ v') (fun k hk e => by have:=(hown'.lt k hk).1;have:k = X:=e;omega)),h.ps,(fun g hg hv' => by rcases hfr g hv' with h1 | h1;exact h.pd g hg h1;have:=(h.rp.lt g hg).2;omega),(fun g hg hv' => by rcases hfr g hv' with h1 | h1;exact h.sd g hg h1;have:=(h.rs.lt g hg).2;omega),?_,h.lt,?_⟩
  · simp [World.setCell,Array.getElem?_modify,hhead]
  · exact (Below.heap_setCell _ _ _ _ (by show rb ≠ X;omega)).trans hen
  · exact (h.only.trans (ho.mono fun k _ hk => .inr (by have:=hne k hk;omega))).trans ((Only.setCell w2 ⟨X,2,none⟩ v').mono fun k _ hk => .inr (by have:k = X:=hk;omega))
end
end Go.Proofs.YtheeiklgblcjfaaGreatDoor
namespace Go.Proofs.YtheeiklgblcjfaaGreatDoor
open Go.RowKit Go.Sort Go.ChangeShapes Go.WideShapes
set_option linter.unusedVariables false
set_option linter.unusedSimpArgs false
set_option maxRecDepth 100000 in
set_option maxHeartbeats 1600000 in
theorem srcsz_b (x0 x1 x2 x3 x4 x5 x6:Int) (w:World) (h0:x0 = 1 ∨ x0 = 2) (h1:1 ≤ x3) (h2:x3 ≤ 16) (h3:0 ≤ x4) (h4:x4 ≤ 8):Calls Tryz.prog 151 #[.agg #[.int .i64 x0,.int .i64 x1,.int .i64 x2,.int .i64 x3,.int .i64 x4,.int .i64 x5,.int .u32 x6]] w fun e w' => e = .returned (.int .i64 (srcN [x0,x1,x2,x3,x4,x5,x6])) ∧ Below w.heap.size w w':=by
  have h5:0 ≤ x4 * x3:=Int.mul_nonneg h3 (by omega)
  have h6:x4 * x3 ≤ 8 * 16:=Int.mul_le_mul h4 h2 (by omega) (by omega)
  have hm:x4 * (1 + x3) = x4 + x4 * x3:=by rw [Int.mul_add,Int.mul_one]
  obtain ⟨W,hW⟩:∃ u,Hid (u = w.alloc (.cells #[.int .i64 x0,.int .i64 x1,.int .i64 x2,.int .i64 x3,.int .i64 x4,.int .i64 x5,.int .u32 x6] 91)):=⟨_,rfl⟩
  have hBW:Below w.heap.size w W:=by rw [hW.out];exact (Below.refl _ _).alloc (Nat.le_refl _) _
  have hcW:W.heap[w.heap.size]? = some (.cells #[.int .i64 x0,.int .i64 x1,.int .i64 x2,.int .i64 x3,.int .i64 x4,.int .i64 x5,.int .u32 x6] 91 (0,0)):=by rw [hW.out];exact heap_alloc_new _ _
  have hlW:w.heap.size < W.heap.size:=(Array.getElem?_eq_some_iff.1 hcW).1
  have c0:=cell_blk hcW (i:=0) rfl
  have c1:=cell_blk hcW (i:=1) rfl
  have c2:=cell_blk hcW (i:=2) rfl
  have c3:=cell_blk hcW (i:=3) rfl
  have c4:=cell_blk hcW (i:=4) rfl
  have c5:=cell_blk hcW (i:=5) rfl
  have c6:=cell_blk hcW (i:=6) rfl
  have HB:=Lib.hid hBW
  by_cases hk:x0 = 1
  · have HX:=Lib.hid (show srcN [x0,x1,x2,x3,x4,x5,x6] = 3 + 4 * (2 + x3) from (if_pos hk).trans (by show 11 + 4 * x3 = _;omega))
    have hka:(x0 == 1) = true:=by simp [hk]
    have v0:=IntWalk.i64_in (4 * (2 + x3)) (by omega)
    have v1:=IntWalk.i64_in (3 + 4 * (2 + x3)) (by omega)
    have HC:=Lib.hid (bufsz_b x0 x1 x2 x3 x4 x5 x6 W (by omega) h2)
    clear hk h0 hBW hm h5 h6
    go_enter Tryz.func151,Tryz.ntmps151
    go_wp2_with (rw [← hW.out])
    refine HC.out.mono ?_
    rintro e w5 ⟨rfl,hb5⟩
    have HF:=Lib.hid (HB.out.trans (hb5.mono HB.out.size))
    clear hb5
    go_wp2
    go_ret
    exact ⟨by rw [HX.out];rfl,HF.out⟩
  · have HX:=Lib.hid (show srcN [x0,x1,x2,x3,x4,x5,x6] = 1 + x4 * (1 + x3) from (if_neg hk).trans (by show 1 + x4 + x4 * x3 = _;omega))
    have hka:(x0 == 1) = false:=by simp [hk]
    have v0:=IntWalk.i64_in (x4 * (1 + x3)) (by omega)
    have v1:=IntWalk.i64_in (1 + x4 * (1 + x3)) (by omega)
    have HC:=Lib.hid (fun w' => cellsz_b x0 x1 x2 x3 x4 x5 x6 w' (by omega) h2)
    clear hk h0 hm h5 h6
    go_enter Tryz.func151,Tryz.ntmps151
    go_wp2_with (rw [← hW.out])
    clear c0 c1 c2 c3 c4 c5 c6
    refine wp_region_held_drew (S:=fun W' => Below W.heap.size W W') (by kernel_rfl) ((Below.refl _ _).drew) (fun hHeld => ?_)
    refine wpAnyH_take (i:=0) rfl (by kernel_rfl) (by kernel_rfl) (by kernel_rfl) (fun _ _ _ h => h) (Or.inl ⟨by rfl,by intro w hSw;(have hq:=(hSw.block _ hlW).trans hcW;have q0:=cell_blk hq (i:=0) rfl;have q1:=cell_blk hq (i:=1) rfl;have q2:=cell_blk hq (i:=2) rfl;have q3:=cell_blk hq (i:=3) rfl;have q4:=cell_blk hq (i:=4) rfl;have q5:=cell_blk hq (i:=5) rfl;have q6:=cell_blk hq (i:=6) rfl);(go_simp <;> with_reducible rfl)⟩) (by assumption) ?_
    (try simp only [Act.put,List.setIfInBounds_toArray,List.set_cons_zero,List.set_cons_succ,List.getElem_toArray,List.getElem_cons_zero,List.getElem_cons_succ])
    refine wpAnyH_take (i:=1) rfl (by kernel_rfl) (by kernel_rfl) (by kernel_rfl) (fun _ _ _ h => h) (Or.inl ⟨by rfl,by intro w hSw;(have hq:=(hSw.block _ hlW).trans hcW;have q0:=cell_blk hq (i:=0) rfl;have q1:=cell_blk hq (i:=1) rfl;have q2:=cell_blk hq (i:=2) rfl;have q3:=cell_blk hq (i:=3) rfl;have q4:=cell_blk hq (i:=4) rfl;have q5:=cell_blk hq (i:=5) rfl;have q6:=cell_blk hq (i:=6) rfl);(go_simp <;> with_reducible rfl)⟩) (by assumption) ?_
    (try simp only [Act.put,List.setIfInBounds_toArray,List.set_cons_zero,List.set_cons_succ,List.getElem_toArray,List.getElem_cons_zero,List.getElem_cons_succ])
    refine wpAnyH_take (i:=2) rfl (by kernel_rfl) (by kernel_rfl) (by kernel_rfl) (fun _ _ _ h => h) (Or.inl ⟨by rfl,by intro w hSw;(have hq:=(hSw.block _ hlW).trans hcW;have q0:=cell_blk hq (i:=0) rfl;have q1:=cell_blk hq (i:=1) rfl;have q2:=cell_blk hq (i:=2) rfl;have q3:=cell_blk hq (i:=3) rfl;have q4:=cell_blk hq (i:=4) rfl;have q5:=cell_blk hq (i:=5) rfl;have q6:=cell_blk hq (i:=6) rfl);(go_simp <;> with_reducible rfl)⟩) (by assumption) ?_
    (try simp only [Act.put,List.setIfInBounds_toArray,List.set_cons_zero,List.set_cons_succ,List.getElem_toArray,List.getElem_cons_zero,List.getElem_cons_succ])
    refine wpAnyH_ready (rs:=[3]) (by kernel_rfl) (by simp) (AllReadyH.cons rfl (fun K hK => ?_) AllReadyH.nil)
    go_simp
    refine (HC.out _).mono ?_
    rintro e w6 ⟨rfl,hl⟩
    (try go_wp2_with fail)
    have hB6:=hHeld.trans (hl.mono hHeld.size)
    clear hl hHeld
    refine hK.out _ _ hB6 (fun hHeld => ?_)
    clear hK K
    (try simp only [Act.put,List.setIfInBounds_toArray,List.set_cons_zero,List.set_cons_succ,List.getElem_toArray,List.getElem_cons_zero,List.getElem_cons_succ])
    refine wpAnyH_take (i:=4) rfl (by kernel_rfl) (by kernel_rfl) (by kernel_rfl) (fun _ _ _ h => h) (Or.inl ⟨by rfl,by intro w hSw;(have hq:=(hSw.block _ hlW).trans hcW;have q0:=cell_blk hq (i:=0) rfl;have q1:=cell_blk hq (i:=1) rfl;have q2:=cell_blk hq (i:=2) rfl;have q3:=cell_blk hq (i:=3) rfl;have q4:=cell_blk hq (i:=4) rfl;have q5:=cell_blk hq (i:=5) rfl;have q6:=cell_blk hq (i:=6) rfl);(go_simp <;> with_reducible rfl)⟩) (by assumption) ?_
    (try simp only [Act.put,List.setIfInBounds_toArray,List.set_cons_zero,List.set_cons_succ,List.getElem_toArray,List.getElem_cons_zero,List.getElem_cons_succ])
    refine wpAnyH_take (i:=5) rfl (by kernel_rfl) (by kernel_rfl) (by kernel_rfl) (fun _ _ _ h => h) (Or.inl ⟨by rfl,by intro w hSw;(have hq:=(hSw.block _ hlW).trans hcW;have q0:=cell_blk hq (i:=0) rfl;have q1:=cell_blk hq (i:=1) rfl;have q2:=cell_blk hq (i:=2) rfl;have q3:=cell_blk hq (i:=3) rfl;have q4:=cell_blk hq (i:=4) rfl;have q5:=cell_blk hq (i:=5) rfl;have q6:=cell_blk hq (i:=6) rfl);(go_simp <;> with_reducible rfl)⟩) (by assumption) ?_
    (try simp only [Act.put,List.setIfInBounds_toArray,List.set_cons_zero,List.set_cons_succ,List.getElem_toArray,List.getElem_cons_zero,List.getElem_cons_succ])
    refine wpAnyH_take (i:=6) rfl (by kernel_rfl) (by kernel_rfl) (by kernel_rfl) (fun _ _ _ h => h) (Or.inl ⟨by rfl,by intro w hSw;(have hq:=(hSw.block _ hlW).trans hcW;have q0:=cell_blk hq (i:=0) rfl;have q1:=cell_blk hq (i:=1) rfl;have q2:=cell_blk hq (i:=2) rfl;have q3:=cell_blk hq (i:=3) rfl;have q4:=cell_blk hq (i:=4) rfl;have q5:=cell_blk hq (i:=5) rfl;have q6:=cell_blk hq (i:=6) rfl);(go_simp <;> with_reducible rfl)⟩) (by assumption) ?_
    (try simp only [Act.put,List.setIfInBounds_toArray,List.set_cons_zero,List.set_cons_succ,List.getElem_toArray,List.getElem_cons_zero,List.getElem_cons_succ])
    refine wpAnyH_done (by kernel_rfl) ?_ _
    have HF:=Lib.hid (HB.out.trans (hB6.mono HB.out.size))
    clear hHeld hB6 hBW
    go_wp2
    go_ret
    exact ⟨by rw [HX.out];rfl,HF.out⟩
end Go.Proofs.YtheeiklgblcjfaaGreatDoor
end
section
namespace Go.Proofs.YtheeiklgblcjfaaGreatDoor
open Go.RowKit Go.Sort Go.ChangeShapes Go.WideShapes
set_option linter.unusedVariables false
set_option linter.unusedSimpArgs false
theorem Tryz.infoPl:(Tryz.prog.info? 197).map (fun i => (i.size)) = some 3:=by kernel_rfl
theorem results_cell_places {fn:Func} {p:Tmp} (h:fn.results = #[.cell p 197]) (tmps:Array Value) (w:World) (g:Nat) (a b d:Value)
    (hp:tmps.getD p undef = .pointer (some ⟨g,0,none⟩)) (h0:w.cell? ⟨g,0,none⟩ = some a) (h1:w.cell? ⟨g,1,none⟩ = some b) (h2:w.cell? ⟨g,2,none⟩ = some d):(results fn tmps).run Tryz.prog w = .ok (.agg #[a,b,d]) w:=by
  have hp':tmps[p]?.getD undef = .pointer (some ⟨g,0,none⟩):=by simpa using hp
  obtain ⟨i,hi,hs⟩:∃ i,Tryz.prog.info? 197 = some i ∧ i.size = 3:=by
    have h:=Tryz.infoPl
    cases hh:Tryz.prog.info? 197 with
    | none => rw [hh] at h;cases h
    | some i => rw [hh] at h;exact ⟨i,rfl,by simpa using h⟩
  simp [results,h,hp',asAddr,loadVar,isAgg,run_underlying Tryz.underlying197,sizeOf,typeInfo,hi,hs]
  go_simp
set_option maxRecDepth 100000 in
set_option maxHeartbeats 4000000 in
theorem stand_b (c:Cfg) (x:CfgAt) (rb:Nat) (w:World) (hx:CfgIn w rb c x) (wx:CfgWf c) (ha:Accd c) (hE:EndAt w rb 0) :
    Calls Tryz.prog 127 #[.agg (cfgCells c x),.func (.func 128) #[.pointer (some ⟨rb,0,none⟩)] #[]] w fun e w' => ∃ vp vs vd,e = .returned (.agg #[vp,vs,vd]) ∧ OwnsOff w' w.heap.size 173 2 vp c.parts.length (rcells [.i64,.i64] (pvL c c.parts.length)) ∧
      OwnsOff w' w.heap.size 173 2 vs c.chans.length (rcells [.i64,.i64] (srL c c.chans.length)) ∧ OwnsOff w' w.heap.size 173 2 vd c.chans.length (rcells [.i64,.i64] (dsL c c.chans.length)) ∧ Only (fun k => k = rb) w w':=by
  obtain ⟨i0,hi0,hz0,hz1,hz2⟩:=info_parts Tryz.infoSp
  obtain ⟨pa,pc,ca,cc,aa,ac,ba,bc⟩:=x
  have hrw:rb < w.heap.size:=(Array.getElem?_eq_some_iff.1 hE).1
  obtain ⟨W,hW⟩:∃ u,Hid (u = ((w.alloc (.cells (cfgCells c ⟨pa,pc,ca,cc,aa,ac,ba,bc⟩) 29)).alloc (.cells #[.slice none 0 0,.slice none 0 0,.slice none 0 0] 197)).alloc (.cells #[.slice none 0 0,.slice none 0 0,.slice none 0 0] 197)):=⟨_,rfl⟩
  obtain ⟨X,hX⟩:∃ X,X = w.heap.size + 2:=⟨_,rfl⟩
  have hb0:Below w.heap.size w W:=by rw [hW.out];exact (((Below.refl _ w).alloc (Nat.le_refl _) _).alloc (by simp) _).alloc (by simp;omega) _
  have hs0:W.heap.size = w.heap.size + 3:=by rw [hW.out];simp
  have hC:W.heap[w.heap.size]? = some (.cells (cfgCells c ⟨pa,pc,ca,cc,aa,ac,ba,bc⟩) 29 (0,0)):=by rw [hW.out,Below.heap_alloc _ _ _ (by simp;omega),Below.heap_alloc _ _ _ (by simp)];exact heap_alloc_new w _
  have hR:W.heap[w.heap.size + 1]? = some (.cells #[.slice none 0 0,.slice none 0 0,.slice none 0 0] 197 (0,0)):=by
    rw [hW.out,Below.heap_alloc _ _ _ (by simp)]
    have:=heap_alloc_new (w.alloc (.cells (cfgCells c ⟨pa,pc,ca,cc,aa,ac,ba,bc⟩) 29)) (.cells #[.slice none 0 0,.slice none 0 0,.slice none 0 0] 197)
    simpa using this
  have hXh:W.heap[X]? = some (.cells #[.slice none 0 0,.slice none 0 0,.slice none 0 0] 197 (0,0)):=by
    rw [hW.out,hX]
    have:=heap_alloc_new ((w.alloc (.cells (cfgCells c ⟨pa,pc,ca,cc,aa,ac,ba,bc⟩) 29)).alloc (.cells #[.slice none 0 0,.slice none 0 0,.slice none 0 0] 197)) (.cells #[.slice none 0 0,.slice none 0 0,.slice none 0 0] 197)
    simpa using this
  have nil_:∀ v,Asunder (.slice none 0 0) v:=fun v g hg => by cases hg
  have h0:Rows3 W X rb (.slice none 0 0) (.slice none 0 0) (.slice none 0 0) ([]) ([]) ([]) (0) W:=⟨hXh,OwnsOff.nil _ _ _ _,OwnsOff.nil _ _ _ _,OwnsOff.nil _ _ _ _,nil_ _,nil_ _,nil_ _,(hb0.block _ hrw).trans hE,by omega,Only.refl _ _⟩
  have H0:=Lib.hid h0;have HC:=Lib.hid hC;have HR:=Lib.hid hR;have hXW:=Lib.hid (show X ≤ W.heap.size by omega);have HX:=Lib.hid hX;have HS:=Lib.hid hs0;have HB:=Lib.hid hb0;have HRW:=Lib.hid hrw
  have HP:=Lib.hid (fun n (hn:n ≤ c.parts.length) => privUp_in ha n hn);have HB4:=Lib.hid (fun n (hn:n ≤ c.chans.length) => beforeN_in ha hn);have HA:=Lib.hid ha
  have hp6:c.parts.length ≤ 6:=ha.parts.2
  have hc8:c.chans.length ≤ 8:=ha.chans
  have HIN:=Lib.hid (show CfgIn W rb c ⟨pa,pc,ca,cc,aa,ac,ba,bc⟩ from (hx.below (hb0.mono (by omega))))
  have c0:=cell_blk hC (i:=0) rfl
  clear hb0 hs0 hC hR hXh h0 hx hE ha hX hrw nil_
  simp only [cfgCells] at hW c0 ⊢
  go_enter Tryz.func127,Tryz.ntmps127
  go_wp2_with (rw [← hW.out])
  clear c0
  have hX2:=HX.out
  simp only [← hX2]
  clear hX2
  go_loopw [13] (fun ix wr => ∃ i:Nat,i ≤ c.parts.length ∧ ix = .int .i64 i ∧ ∃ Ap cp,Rows3 W X rb (.slice Ap i cp) (.slice none 0 0) (.slice none 0 0) (pvL c i) ([]) ([]) (privUp c.parts i) wr) (fun ix _ => c.parts.length - (intOf ix).toNat)
  case atStart => exact ⟨0,Nat.zero_le _,rfl,none,0,H0.out⟩
  case round =>
    obtain ⟨i,hi,rfl,Ap,cp,h⟩:=hrel
    by_cases hlt:i < c.parts.length
    · obtain ⟨b,o,y0,y1,e0,_,e1,_,k0⟩:=HIN.out.rp.at2 wx.wp hlt
      obtain ⟨q0,q1⟩:=k0 _ (h.below hXW.out)
      have hnx:privUp c.parts (i + 1) = privUp c.parts i + y1:=by show privUp c.parts i + fld (row c.parts i) 1 = _;rw [row_at e1];rfl
      have hs:=HP.out i (by omega)
      have hs1:=HP.out (i + 1) (by omega)
      rw [hnx] at hs1
      have HNX:=Lib.hid hnx
      have HN:=Lib.hid (show pvL c (i + 1) = pvL c i ++ [[privUp c.parts i,y1]] by rw [pvL_succ,row_at e1];rfl)
      have hlen:=Lib.hid (pvL_len c i)
      obtain ⟨lp,hlp⟩:∃ lp,pvL c i = lp:=⟨_,rfl⟩
      obtain ⟨e,he⟩:∃ e,privUp c.parts i = e:=⟨_,rfl⟩
      rw [hlp] at hlen HN h
      rw [he] at HN HNX hs hs1 h
      have HL:=Lib.hid (fun g (hg:(Value.slice Ap i cp).ownBlock = some g) => (h.rp.lt g hg).2)
      have HLT:=Lib.hid (show rb < wr.heap.size from Nat.lt_trans h.lt h.hx)
      have hPb:=heap_alloc_new wr (.cells #[.int .i64 y0,.int .i64 y1] 131)
      obtain ⟨wa,hwa⟩:∃ u,Hid (u = wr.alloc (.cells #[.int .i64 y0,.int .i64 y1] 131)):=⟨_,rfl⟩
      rw [← hwa.out] at hPb
      have h:=h.keptB (show Below wr.heap.size wr wa by rw [hwa.out];exact (Below.refl _ _).alloc (Nat.le_refl _) _)
      clear e1 k0 hnx hlp he
      subst e0
      go_wp2_with (rw [← hwa.out])
      clear q0 q1
      refine wp_region_till (fun W' => W'.heap[X]? = some (.cells #[.slice Ap i cp,.slice none 0 0,.slice none 0 0] 197 (0,0)) ∧ W'.heap[wr.heap.size]? = some (.cells #[.int .i64 y0,.int .i64 y1] 131 (0,0))) 9 (by kernel_rfl) (⟨h.head,hPb⟩) (fun hHeld => ?_)
      refine till_take (i:=0) rfl (by kernel_rfl) (by kernel_rfl) (by kernel_rfl) (fun _ _ _ h => h) (by kernel_rfl) (Or.inl ⟨by rfl,by intro w _;(go_simp <;> with_reducible rfl)⟩) (by assumption) ?_
      (try simp only [Act.put,List.setIfInBounds_toArray,List.set_cons_zero,List.set_cons_succ,List.getElem_toArray,List.getElem_cons_zero,List.getElem_cons_succ])
      refine till_load (i:=1) rfl (by kernel_rfl) (by kernel_rfl) (by kernel_rfl) (fun _ _ _ h => h) (by kernel_rfl) (by kernel_rfl) (by kernel_rfl) (Or.inl ⟨by rfl,by intro w hSw;(have q:=cell_blk hSw.1 (i:=0) rfl);(go_simp <;> with_reducible rfl)⟩) (by assumption) ?_
      (try simp only [Act.put,List.setIfInBounds_toArray,List.set_cons_zero,List.set_cons_succ,List.getElem_toArray,List.getElem_cons_zero,List.getElem_cons_succ])
      refine till_take (i:=2) rfl (by kernel_rfl) (by kernel_rfl) (by kernel_rfl) (fun _ _ _ h => h) (by kernel_rfl) (Or.inl ⟨by rfl,by intro w _;(go_simp <;> with_reducible rfl)⟩) (by assumption) ?_
      (try simp only [Act.put,List.setIfInBounds_toArray,List.set_cons_zero,List.set_cons_succ,List.getElem_toArray,List.getElem_cons_zero,List.getElem_cons_succ])
      refine till_take (i:=3) rfl (by kernel_rfl) (by kernel_rfl) (by kernel_rfl) (fun _ _ _ h => h) (by kernel_rfl) (Or.inl ⟨by rfl,by intro w _;(go_simp <;> with_reducible rfl)⟩) (by assumption) ?_
      (try simp only [Act.put,List.setIfInBounds_toArray,List.set_cons_zero,List.set_cons_succ,List.getElem_toArray,List.getElem_cons_zero,List.getElem_cons_succ])
      refine till_load (i:=4) rfl (by kernel_rfl) (by kernel_rfl) (by kernel_rfl) (fun _ _ _ h => h) (by kernel_rfl) (by kernel_rfl) (by kernel_rfl) (Or.inl ⟨by rfl,by intro w hSw;(have q:=cell_blk hSw.2 (i:=1) rfl);(go_simp <;> with_reducible rfl)⟩) (by assumption) ?_
      (try simp only [Act.put,List.setIfInBounds_toArray,List.set_cons_zero,List.set_cons_succ,List.getElem_toArray,List.getElem_cons_zero,List.getElem_cons_succ])
      have h:=h.keptB (Below.refl _ _).drew
      refine till_one (i:=5) (by kernel_rfl) rfl (fun K hK => ?_)
      go_simp
      refine (put_b rb e y1 _ h.en (by omega)).mono ?_
      rintro e5 w7 ⟨rfl,hE7,hO7⟩
      (try go_wp2_with fail)
      have h:=h.put hO7 hE7
      have hP7:=(hO7.block wr.heap.size (Array.getElem?_eq_some_iff.1 hPb).1 (by show ¬ wr.heap.size = rb;have:=HLT.out;omega)).trans hPb
      clear hE7 hPb hO7 hHeld
      refine hK.out _ _ (⟨h.head,hP7⟩) (fun hHeld => ?_)
      clear hK K
      (try simp only [Act.put,List.setIfInBounds_toArray,List.set_cons_zero,List.set_cons_succ,List.getElem_toArray,List.getElem_cons_zero,List.getElem_cons_succ])
      refine till_one (i:=6) (by kernel_rfl) rfl (fun K hK => ?_)
      go_simp
      obtain ⟨w8,hw8⟩:∃ u,Hid (u = w7.alloc (.cells #[.int .i64 (e),.int .i64 (y1)] 173)):=⟨_,rfl⟩
      rw [← hw8.out]
      have hl:Below w7.heap.size w7 w8:=by rw [hw8.out];exact (Below.refl _ _).alloc (Nat.le_refl _) _
      have hEe:w8.heap[w7.heap.size]? = some (.cells #[.int .i64 (e),.int .i64 (y1)] 173 (0,0)):=by rw [hw8.out];exact heap_alloc_new _ _
      have h:=h.keptB hl
      have hP8:=(hl.block wr.heap.size (Array.getElem?_eq_some_iff.1 hP7).1).trans hP7
      clear hP7
      clear hl hHeld
      refine hK.out _ _ (⟨h.head,hP8⟩) (fun hHeld => ?_)
      clear hK K
      (try simp only [Act.put,List.setIfInBounds_toArray,List.set_cons_zero,List.set_cons_succ,List.getElem_toArray,List.getElem_cons_zero,List.getElem_cons_succ])
      refine till_one (i:=7) (by kernel_rfl) rfl (fun K hK => ?_)
      refine step_append_off rfl _ _ 195 rfl (X + 1) 173 i0 (.agg #[.int .i64 0,.int .i64 0]) 2 16 Tryz.underlying195 hi0 hz0 hz1 hz2 rfl (by decide) _ (i) (rcells [.i64,.i64] lp) rfl (by have q:=h.rp;rwa [hlen.out] at q) ⟨w7.heap.size,0,none⟩ 1 1 [.int .i64 (e),.int .i64 (y1)] rfl rfl (news_block hEe) (by simp [Value.oneCell']) (by unfold maxLen;omega) (by omega) (by have:=h.hx;omega) ?_
      intro v' w9 hown' hgr hfr
      have hown2:OwnsOff w9 (X + 1) 173 2 v' (lp ++ [[e,y1]]).length (rcells [.i64,.i64] (lp ++ [[e,y1]])):=by rw [rcells_app,List.length_append,hlen.out];exact hown'
      obtain ⟨hh9,z0,f0,h9⟩:=h.appp hXW.out hgr hown2 hfr
      obtain ⟨A',cc',rfl,hcc1,hcc2⟩:=hown'.slice
      have hP9:=(hgr.block wr.heap.size (Array.getElem?_eq_some_iff.1 hP8).1 (fun e => by have:=HL.out _ e.symm;omega)).trans hP8
      clear hP8
      have H9:=Lib.hid h9
      clear h h9 hown2 hown' hfr hEe hgr hHeld
      refine hK.out _ _ (⟨hh9,hP9⟩) (fun hHeld => ?_)
      clear hK K
      (try simp only [Act.put,List.setIfInBounds_toArray,List.set_cons_zero,List.set_cons_succ,List.getElem_toArray,List.getElem_cons_zero,List.getElem_cons_succ])
      refine till_take (i:=8) rfl (by kernel_rfl) (by kernel_rfl) (by kernel_rfl) (fun _ _ _ h => h) (by kernel_rfl) (Or.inl ⟨by rfl,by intro w _;(go_simp <;> with_reducible rfl)⟩) (by assumption) ?_
      (try simp only [Act.put,List.setIfInBounds_toArray,List.set_cons_zero,List.set_cons_succ,List.getElem_toArray,List.getElem_cons_zero,List.getElem_cons_succ])
      clear hHeld
      refine till_last (by kernel_rfl) rfl (fun K hK => ?_)
      go_simp
      refine hK.out _ _ ?_
      clear hK K
      (try simp only [Act.put,List.setIfInBounds_toArray,List.set_cons_zero,List.set_cons_succ,List.getElem_toArray,List.getElem_cons_zero,List.getElem_cons_succ])
      refine till_done (by kernel_rfl) ?_ _
      go_wp2
      go_roundw
      case rel => exact ⟨i + 1,by omega,by go_num,A',cc',by rw [HN.out,HNX.out];exact H9.out⟩
      case measure => simp [intOf];omega
    · have hii:i = c.parts.length:=by omega
      subst hii
      have hC2:=(h.only.block w.heap.size (by have:=HS.out;omega) (by have:=HRW.out;have:=HX.out;show ¬ (w.heap.size = rb ∨ X ≤ w.heap.size);omega)).trans HC.out
      have c1:=cell_blk hC2 (i:=1) rfl
      have H1:=Lib.hid (show Rows3 W X rb (.slice Ap c.parts.length cp) (.slice none 0 0) (.slice none 0 0) (pvL c c.parts.length) ([]) ([]) (beforeN c 0) wr from by rw [beforeN_zero];exact h)
      clear h hC2 hlt
      simp only [cfgCells] at c1
      go_wp2
      clear c1
      go_loopw [30] (fun ix wv => ∃ k:Nat,k ≤ c.chans.length ∧ ix = .int .i64 k ∧ ∃ As cs Ad cd,Rows3 W X rb (.slice Ap c.parts.length cp) (.slice As k cs) (.slice Ad k cd) (pvL c c.parts.length) (srL c k) (dsL c k) (beforeN c k) wv) (fun ix _ => c.chans.length - (intOf ix).toNat)
      case atStart => exact ⟨0,Nat.zero_le _,rfl,none,0,none,0,H1.out⟩
      case round =>
        clear H1
        obtain ⟨k,hk,rfl,As,cs,Ad,cd,h⟩:=hrel
        by_cases hlt:k < c.chans.length
        · obtain ⟨b,o,x0,x1,x2,x3,x4,x5,x6,e0,_,e1,-,hrow⟩:=HIN.out.rc.at7 wx.wc hlt
          obtain ⟨q0,q1,q2,q3,q4,q5,q6⟩:=hrow _ (h.below hXW.out)
          obtain ⟨a1,a2,a3,a4,a5,_⟩:=HA.out.chan k hlt
          rw [row_at e1] at a1 a2 a3 a4 a5
          have hsr:=srcN_in a1 a2 a3 a4 a5
          have hs:=HB4.out k (by omega)
          have HCZ:=Lib.hid (fun w' => srcsz_b x0 x1 x2 x3 x4 x5 x6 w' a1 a2 a3 a4 a5)
          have hnx:beforeN c (k + 1) = beforeN c k + srcN [x0,x1,x2,x3,x4,x5,x6] + 1:=by rw [beforeN_succ,row_at e1]
          have HNS:=Lib.hid (show srL c (k + 1) = srL c k ++ [[beforeN c k,srcN [x0,x1,x2,x3,x4,x5,x6]]] by rw [srL_succ,row_at e1])
          have HND:=Lib.hid (show dsL c (k + 1) = dsL c k ++ [[beforeN c k + srcN [x0,x1,x2,x3,x4,x5,x6],1]] by rw [dsL_succ,row_at e1])
          have hlen:=Lib.hid (srL_len c k)
          have hlend:=Lib.hid (dsL_len c k)
          have HNX:=Lib.hid hnx
          obtain ⟨s,hsq⟩:∃ s,srcN [x0,x1,x2,x3,x4,x5,x6] = s:=⟨_,rfl⟩
          obtain ⟨e,he⟩:∃ e,beforeN c k = e:=⟨_,rfl⟩
          obtain ⟨ls,hls⟩:∃ ls,srL c k = ls:=⟨_,rfl⟩
          obtain ⟨ld,hld⟩:∃ ld,dsL c k = ld:=⟨_,rfl⟩
          rw [hsq] at HCZ HNX HNS HND hsr
          rw [he] at HNX HNS HND hs h
          rw [hls] at hlen HNS h
          rw [hld] at hlend HND h
          have HL:=Lib.hid (fun g (hg:(Value.slice As k cs).ownBlock = some g) => (h.rs.lt g hg).2)
          have HLT:=Lib.hid (show rb < wr.heap.size from Nat.lt_trans h.lt h.hx)
          have hPb:=heap_alloc_new wr (.cells #[.int .i64 x0,.int .i64 x1,.int .i64 x2,.int .i64 x3,.int .i64 x4,.int .i64 x5,.int .u32 x6] 91)
          obtain ⟨wa,hwa⟩:∃ u,Hid (u = wr.alloc (.cells #[.int .i64 x0,.int .i64 x1,.int .i64 x2,.int .i64 x3,.int .i64 x4,.int .i64 x5,.int .u32 x6] 91)):=⟨_,rfl⟩
          rw [← hwa.out] at hPb
          have h:=h.keptB (show Below wr.heap.size wr wa by rw [hwa.out];exact (Below.refl _ _).alloc (Nat.le_refl _) _)
          clear e1 hrow hnx hsq he hls hld a1 a2 a3 a4 a5
          subst e0
          go_wp2_with (rw [← hwa.out])
          clear q0 q1 q2 q3 q4 q5 q6
          refine wp_region_till (fun W' => W'.heap[X]? = some (.cells #[.slice Ap c.parts.length cp,.slice As k cs,.slice Ad k cd] 197 (0,0)) ∧ W'.heap[wr.heap.size]? = some (.cells #[.int .i64 x0,.int .i64 x1,.int .i64 x2,.int .i64 x3,.int .i64 x4,.int .i64 x5,.int .u32 x6] 91 (0,0))) 9 (by kernel_rfl) (⟨h.head,hPb⟩) (fun hHeld => ?_)
          refine till_take (i:=0) rfl (by kernel_rfl) (by kernel_rfl) (by kernel_rfl) (fun _ _ _ h => h) (by kernel_rfl) (Or.inl ⟨by rfl,by intro w _;(go_simp <;> with_reducible rfl)⟩) (by assumption) ?_
          (try simp only [Act.put,List.setIfInBounds_toArray,List.set_cons_zero,List.set_cons_succ,List.getElem_toArray,List.getElem_cons_zero,List.getElem_cons_succ])
          refine till_load (i:=1) rfl (by kernel_rfl) (by kernel_rfl) (by kernel_rfl) (fun _ _ _ h => h) (by kernel_rfl) (by kernel_rfl) (by kernel_rfl) (Or.inl ⟨by rfl,by intro w hSw;(have q:=cell_blk hSw.1 (i:=1) rfl);(go_simp <;> with_reducible rfl)⟩) (by assumption) ?_
          (try simp only [Act.put,List.setIfInBounds_toArray,List.set_cons_zero,List.set_cons_succ,List.getElem_toArray,List.getElem_cons_zero,List.getElem_cons_succ])
          refine till_take (i:=2) rfl (by kernel_rfl) (by kernel_rfl) (by kernel_rfl) (fun _ _ _ h => h) (by kernel_rfl) (Or.inl ⟨by rfl,by intro w _;(go_simp <;> with_reducible rfl)⟩) (by assumption) ?_
          (try simp only [Act.put,List.setIfInBounds_toArray,List.set_cons_zero,List.set_cons_succ,List.getElem_toArray,List.getElem_cons_zero,List.getElem_cons_succ])
          refine till_load (i:=3) rfl (by kernel_rfl) (by kernel_rfl) (by kernel_rfl) (fun _ _ _ h => h) (by kernel_rfl) (by kernel_rfl) (by kernel_rfl) (Or.inl ⟨by rfl,by intro w hSw;(have q0:=cell_blk hSw.2 (i:=0) rfl;have q1:=cell_blk hSw.2 (i:=1) rfl;have q2:=cell_blk hSw.2 (i:=2) rfl;have q3:=cell_blk hSw.2 (i:=3) rfl;have q4:=cell_blk hSw.2 (i:=4) rfl;have q5:=cell_blk hSw.2 (i:=5) rfl;have q6:=cell_blk hSw.2 (i:=6) rfl);(go_simp <;> with_reducible rfl)⟩) (by assumption) ?_
          (try simp only [Act.put,List.setIfInBounds_toArray,List.set_cons_zero,List.set_cons_succ,List.getElem_toArray,List.getElem_cons_zero,List.getElem_cons_succ])
          have h:=h.keptB (Below.refl _ _).drew
          refine till_one (i:=4) (by kernel_rfl) rfl (fun K hK => ?_)
          go_simp
          refine (HCZ.out _).mono ?_
          rintro e5 w6 ⟨rfl,hl6⟩
          (try go_wp2_with fail)
          have h:=h.keptB hl6
          have hP6:=(hl6.block wr.heap.size (Array.getElem?_eq_some_iff.1 hPb).1).trans hPb
          clear hl6 hPb hHeld
          refine hK.out _ _ (⟨h.head,hP6⟩) (fun hHeld => ?_)
          clear hK K
          (try simp only [Act.put,List.setIfInBounds_toArray,List.set_cons_zero,List.set_cons_succ,List.getElem_toArray,List.getElem_cons_zero,List.getElem_cons_succ])
          refine till_one (i:=5) (by kernel_rfl) rfl (fun K hK => ?_)
          go_simp
          refine (put_b rb e s _ h.en (by omega)).mono ?_
          rintro e5 w7 ⟨rfl,hE7,hO7⟩
          (try go_wp2_with fail)
          have h:=h.put hO7 hE7
          have hP7:=(hO7.block wr.heap.size (Array.getElem?_eq_some_iff.1 hP6).1 (by show ¬ wr.heap.size = rb;have:=HLT.out;omega)).trans hP6
          clear hE7 hP6 hO7 hHeld
          refine hK.out _ _ (⟨h.head,hP7⟩) (fun hHeld => ?_)
          clear hK K
          (try simp only [Act.put,List.setIfInBounds_toArray,List.set_cons_zero,List.set_cons_succ,List.getElem_toArray,List.getElem_cons_zero,List.getElem_cons_succ])
          refine till_one (i:=6) (by kernel_rfl) rfl (fun K hK => ?_)
          go_simp
          obtain ⟨w8,hw8⟩:∃ u,Hid (u = w7.alloc (.cells #[.int .i64 (e),.int .i64 (s)] 173)):=⟨_,rfl⟩
          rw [← hw8.out]
          have hl:Below w7.heap.size w7 w8:=by rw [hw8.out];exact (Below.refl _ _).alloc (Nat.le_refl _) _
          have hEe:w8.heap[w7.heap.size]? = some (.cells #[.int .i64 (e),.int .i64 (s)] 173 (0,0)):=by rw [hw8.out];exact heap_alloc_new _ _
          have h:=h.keptB hl
          have hP8:=(hl.block wr.heap.size (Array.getElem?_eq_some_iff.1 hP7).1).trans hP7
          clear hP7
          clear hl hHeld
          refine hK.out _ _ (⟨h.head,hP8⟩) (fun hHeld => ?_)
          clear hK K
          (try simp only [Act.put,List.setIfInBounds_toArray,List.set_cons_zero,List.set_cons_succ,List.getElem_toArray,List.getElem_cons_zero,List.getElem_cons_succ])
          refine till_one (i:=7) (by kernel_rfl) rfl (fun K hK => ?_)
          refine step_append_off rfl _ _ 195 rfl (X + 1) 173 i0 (.agg #[.int .i64 0,.int .i64 0]) 2 16 Tryz.underlying195 hi0 hz0 hz1 hz2 rfl (by decide) _ (k) (rcells [.i64,.i64] ls) rfl (by have q:=h.rs;rwa [hlen.out] at q) ⟨w7.heap.size,0,none⟩ 1 1 [.int .i64 (e),.int .i64 (s)] rfl rfl (news_block hEe) (by simp [Value.oneCell']) (by unfold maxLen;omega) (by omega) (by have:=h.hx;omega) ?_
          intro v' w9 hown' hgr hfr
          have hown2:OwnsOff w9 (X + 1) 173 2 v' (ls ++ [[e,s]]).length (rcells [.i64,.i64] (ls ++ [[e,s]])):=by rw [rcells_app,List.length_append,hlen.out];exact hown'
          obtain ⟨hh9,z0,f0,h9⟩:=h.apps hXW.out hgr hown2 hfr
          obtain ⟨A',cc',rfl,hcc1,hcc2⟩:=hown'.slice
          have hP9:=(hgr.block wr.heap.size (Array.getElem?_eq_some_iff.1 hP8).1 (fun e => by have:=HL.out _ e.symm;omega)).trans hP8
          clear hP8
          have H9:=Lib.hid h9
          clear h h9 hown2 hown' hfr hEe hgr hHeld
          refine hK.out _ _ (⟨hh9,hP9⟩) (fun hHeld => ?_)
          clear hK K
          (try simp only [Act.put,List.setIfInBounds_toArray,List.set_cons_zero,List.set_cons_succ,List.getElem_toArray,List.getElem_cons_zero,List.getElem_cons_succ])
          refine till_take (i:=8) rfl (by kernel_rfl) (by kernel_rfl) (by kernel_rfl) (fun _ _ _ h => h) (by kernel_rfl) (Or.inl ⟨by rfl,by intro w _;(go_simp <;> with_reducible rfl)⟩) (by assumption) ?_
          (try simp only [Act.put,List.setIfInBounds_toArray,List.set_cons_zero,List.set_cons_succ,List.getElem_toArray,List.getElem_cons_zero,List.getElem_cons_succ])
          clear hHeld
          refine till_last (by kernel_rfl) rfl (fun K hK => ?_)
          go_simp
          refine hK.out _ _ ?_
          clear hK K
          (try simp only [Act.put,List.setIfInBounds_toArray,List.set_cons_zero,List.set_cons_succ,List.getElem_toArray,List.getElem_cons_zero,List.getElem_cons_succ])
          refine till_done (by kernel_rfl) ?_ _
          clear hP9 hh9 z0 f0 HL hwa
          obtain ⟨wb,hwb⟩:∃ u,Hid (u = w9.setCell ⟨X,1,none⟩ (.slice A' (k + 1) cc')):=⟨_,rfl⟩
          have h:=H9.out
          rw [← hwb.out] at h ⊢
          clear H9 hwb
          go_wp2_with fail
          refine wp_region_till (fun W' => W'.heap[X]? = some (.cells #[.slice Ap c.parts.length cp,.slice A' (k + 1) cc',.slice Ad k cd] 197 (0,0))) 7 (by kernel_rfl) (h.head) (fun hHeld => ?_)
          refine till_take (i:=0) rfl (by kernel_rfl) (by kernel_rfl) (by kernel_rfl) (fun _ _ _ h => h) (by kernel_rfl) (Or.inl ⟨by rfl,by intro w _;(go_simp <;> with_reducible rfl)⟩) (by assumption) ?_
          (try simp only [Act.put,List.setIfInBounds_toArray,List.set_cons_zero,List.set_cons_succ,List.getElem_toArray,List.getElem_cons_zero,List.getElem_cons_succ])
          refine till_load (i:=1) rfl (by kernel_rfl) (by kernel_rfl) (by kernel_rfl) (fun _ _ _ h => h) (by kernel_rfl) (by kernel_rfl) (by kernel_rfl) (Or.inl ⟨by rfl,by intro w hSw;(have q:=cell_blk hSw (i:=2) rfl);(go_simp <;> with_reducible rfl)⟩) (by assumption) ?_
          (try simp only [Act.put,List.setIfInBounds_toArray,List.set_cons_zero,List.set_cons_succ,List.getElem_toArray,List.getElem_cons_zero,List.getElem_cons_succ])
          refine till_take (i:=2) rfl (by kernel_rfl) (by kernel_rfl) (by kernel_rfl) (fun _ _ _ h => h) (by kernel_rfl) (Or.inl ⟨by rfl,by intro w _;(go_simp <;> with_reducible rfl)⟩) (by assumption) ?_
          (try simp only [Act.put,List.setIfInBounds_toArray,List.set_cons_zero,List.set_cons_succ,List.getElem_toArray,List.getElem_cons_zero,List.getElem_cons_succ])
          have h:=h.keptB (Below.refl _ _).drew
          refine till_one (i:=3) (by kernel_rfl) rfl (fun K hK => ?_)
          go_simp
          refine (put_b rb (e + s) 1 _ h.en (by omega)).mono ?_
          rintro e5 w7 ⟨rfl,hE7,hO7⟩
          (try go_wp2_with fail)
          have h:=h.put hO7 hE7
          clear hE7 hO7 hHeld
          refine hK.out _ _ (h.head) (fun hHeld => ?_)
          clear hK K
          (try simp only [Act.put,List.setIfInBounds_toArray,List.set_cons_zero,List.set_cons_succ,List.getElem_toArray,List.getElem_cons_zero,List.getElem_cons_succ])
          refine till_one (i:=4) (by kernel_rfl) rfl (fun K hK => ?_)
          go_simp
          obtain ⟨w8,hw8⟩:∃ u,Hid (u = w7.alloc (.cells #[.int .i64 (e + s),.int .i64 (1)] 173)):=⟨_,rfl⟩
          rw [← hw8.out]
          have hl:Below w7.heap.size w7 w8:=by rw [hw8.out];exact (Below.refl _ _).alloc (Nat.le_refl _) _
          have hEe:w8.heap[w7.heap.size]? = some (.cells #[.int .i64 (e + s),.int .i64 (1)] 173 (0,0)):=by rw [hw8.out];exact heap_alloc_new _ _
          have h:=h.keptB hl

          clear hl hHeld
          refine hK.out _ _ (h.head) (fun hHeld => ?_)
          clear hK K
          (try simp only [Act.put,List.setIfInBounds_toArray,List.set_cons_zero,List.set_cons_succ,List.getElem_toArray,List.getElem_cons_zero,List.getElem_cons_succ])
          refine till_one (i:=5) (by kernel_rfl) rfl (fun K hK => ?_)
          refine step_append_off rfl _ _ 195 rfl (X + 1) 173 i0 (.agg #[.int .i64 0,.int .i64 0]) 2 16 Tryz.underlying195 hi0 hz0 hz1 hz2 rfl (by decide) _ (k) (rcells [.i64,.i64] ld) rfl (by have q:=h.rd;rwa [hlend.out] at q) ⟨w7.heap.size,0,none⟩ 1 1 [.int .i64 (e + s),.int .i64 (1)] rfl rfl (news_block hEe) (by simp [Value.oneCell']) (by unfold maxLen;omega) (by omega) (by have:=h.hx;omega) ?_
          intro v' w9 hown' hgr hfr
          have hown2:OwnsOff w9 (X + 1) 173 2 v' (ld ++ [[e + s,1]]).length (rcells [.i64,.i64] (ld ++ [[e + s,1]])):=by rw [rcells_app,List.length_append,hlend.out];exact hown'
          obtain ⟨hh9,z0,f0,h9⟩:=h.appd hXW.out hgr hown2 hfr
          obtain ⟨A2,cc2,rfl,hcc3,hcc4⟩:=hown'.slice

          have H11:=Lib.hid h9
          clear h h9 hown2 hown' hfr hEe hgr hHeld
          refine hK.out _ _ (hh9) (fun hHeld => ?_)
          clear hK K
          (try simp only [Act.put,List.setIfInBounds_toArray,List.set_cons_zero,List.set_cons_succ,List.getElem_toArray,List.getElem_cons_zero,List.getElem_cons_succ])
          refine till_take (i:=6) rfl (by kernel_rfl) (by kernel_rfl) (by kernel_rfl) (fun _ _ _ h => h) (by kernel_rfl) (Or.inl ⟨by rfl,by intro w _;(go_simp <;> with_reducible rfl)⟩) (by assumption) ?_
          (try simp only [Act.put,List.setIfInBounds_toArray,List.set_cons_zero,List.set_cons_succ,List.getElem_toArray,List.getElem_cons_zero,List.getElem_cons_succ])
          clear hHeld
          refine till_last (by kernel_rfl) rfl (fun K hK => ?_)
          go_simp
          refine hK.out _ _ ?_
          clear hK K
          (try simp only [Act.put,List.setIfInBounds_toArray,List.set_cons_zero,List.set_cons_succ,List.getElem_toArray,List.getElem_cons_zero,List.getElem_cons_succ])
          refine till_done (by kernel_rfl) ?_ _
          go_wp2
          go_roundw
          case rel => exact ⟨k + 1,by omega,by go_num,A',cc',A2,cc2,by rw [HNS.out,HND.out,HNX.out];exact H11.out⟩
          case measure => simp [intOf];omega
        · have hkk:k = c.chans.length:=by omega
          subst hkk
          have hR2:=(h.only.block (w.heap.size + 1) (by have:=HS.out;omega) (by have:=HRW.out;have:=HX.out;show ¬ (w.heap.size + 1 = rb ∨ X ≤ w.heap.size + 1);omega)).trans HR.out
          have hh:=h.head
          have z0:=cell_blk hh (i:=0) rfl
          have z1:=cell_blk hh (i:=1) rfl
          have z2:=cell_blk hh (i:=2) rfl
          have f0:wr.frozen? ⟨w.heap.size + 1,0,none⟩ = false:=by simp [World.frozen?,hR2]
          have f1:wr.frozen? ⟨w.heap.size + 1,1,none⟩ = false:=by simp [World.frozen?,hR2]
          have f2:wr.frozen? ⟨w.heap.size + 1,2,none⟩ = false:=by simp [World.frozen?,hR2]
          have y0:=cell_blk hR2 (i:=0) rfl
          have y1:=cell_blk hR2 (i:=1) rfl
          have y2:=cell_blk hR2 (i:=2) rfl
          have HH:=Lib.hid h;have HR2:=Lib.hid hR2
          clear h hh hR2
          go_wp2
          have hRz:(((wr.setCell ⟨w.heap.size + 1,0,none⟩ (.slice Ap c.parts.length cp)).setCell ⟨w.heap.size + 1,1,none⟩ (.slice As c.chans.length cs)).setCell ⟨w.heap.size + 1,2,none⟩ (.slice Ad c.chans.length cd)).heap[w.heap.size + 1]? = some (.cells #[.slice Ap c.parts.length cp,.slice As c.chans.length cs,.slice Ad c.chans.length cd] 197 (0,0)):=by simp [World.setCell,Array.getElem?_modify,HR2.out]
          have hO:=((Only.setCell wr ⟨w.heap.size + 1,0,none⟩ (.slice Ap c.parts.length cp)).trans (Only.setCell _ ⟨w.heap.size + 1,1,none⟩ (.slice As c.chans.length cs))).trans (Only.setCell _ ⟨w.heap.size + 1,2,none⟩ (.slice Ad c.chans.length cd))
          have hx:=HX.out
          have hb:=HB.out
          have ho:=HH.out.only
          have hs:=HS.out
          have n1:=pvL_len c c.parts.length
          have n2:=srL_len c c.chans.length
          have n3:=dsL_len c c.chans.length
          have r1:=HH.out.rp
          have r2:=HH.out.rs
          have r3:=HH.out.rd
          rw [n1] at r1;rw [n2] at r2;rw [n3] at r3
          refine bodyPost_ret (results_cell_places rfl _ _ (w.heap.size + 1) _ _ _ rfl (cell_blk hRz (i:=0) rfl) (cell_blk hRz (i:=1) rfl) (cell_blk hRz (i:=2) rfl)) rfl ⟨_,_,_,rfl,?_,?_,?_,?_⟩
          · exact (r1.kept hO (fun k hk e => by have:=(r1.lt k hk).1;have:k = w.heap.size + 1:=e;omega)).mono (by omega)
          · exact (r2.kept hO (fun k hk e => by have:=(r2.lt k hk).1;have:k = w.heap.size + 1:=e;omega)).mono (by omega)
          · exact (r3.kept hO (fun k hk e => by have:=(r3.lt k hk).1;have:k = w.heap.size + 1:=e;omega)).mono (by omega)
          · have h1:=hb.size
            have h2:=ho.size
            exact ⟨hO.os.trans (ho.os.trans hb.os),hO.tape.trans (ho.tape.trans hb.tape),hO.output.trans (ho.output.trans hb.output),Nat.le_trans h1 (Nat.le_trans h2 hO.size),
              fun k hk hne => (hO.block k (by omega) (by show ¬ k = w.heap.size + 1;omega)).trans ((ho.block k (by omega) (by have:¬ k = rb:=hne;show ¬ (k = rb ∨ X ≤ k);omega)).trans (hb.block k hk))⟩
end Go.Proofs.YtheeiklgblcjfaaGreatDoor
end
section
namespace Go.Proofs.YtheeiklgblcjfaaGreatDoor
open Go.RowKit Go.Sort
set_option linter.unusedVariables false
set_option linter.unusedSimpArgs false
/-- Has a frame a window of the partition? -/
def hasWin (l:List (List Int)) (p:Nat):Bool:=scan l.length (fun i => decide (fld (row l i) 0 = (p:Int)))
/-- Has a partition a window where it must have one? -/
def windowP (c:Cfg) (p:Nat):Bool:=
  if fld (row c.parts p) 0 = 0 then hasWin c.win0 p else if fld (row c.parts p) 0 = 1 then hasWin c.win1 p else (hasWin c.win0 p || hasWin c.win1 p)
def holdsP (c:Cfg) (k:Int):Bool:=if k = 17 then scan c.parts.length (fun i => !windowP c i) else holdsB c k
theorem holdsP_not {c:Cfg} {k:Int} (h:k ≠ 17):holdsP c k = holdsB c k:=if_neg h
/-- All defects,rising. -/
def allP (c:Cfg) (n:Nat):List Int:=((List.range n).map (fun i:Nat => (i:Int) + 1)).filter (holdsP c)
theorem allP_next (c:Cfg) (n:Nat):allP c (n + 1) = allP c n ++ (if holdsP c ((n:Int) + 1) = true then [(n:Int) + 1] else []):=by
  simp only [allP,List.range_succ,List.map_append,List.map_cons,List.map_nil,List.filter_append]
  congr 1
  by_cases h:holdsP c ((n:Int) + 1) = true <;> simp [h]
theorem allP_len (c:Cfg) (n:Nat):(allP c n).length ≤ n:=by
  unfold allP
  refine Nat.le_trans (List.length_filter_le _ _) ?_
  simp
theorem allP_nil {c:Cfg} (h:allP c 17 = []) {k:Int} (h1:1 ≤ k) (h2:k ≤ 17):holdsP c k = false:=by
  cases hh:holdsP c k with
  | false => rfl
  | true =>
    exfalso
    have:k ∈ allP c 17:=by
      unfold allP
      rw [List.mem_filter]
      refine ⟨List.mem_map.2 ⟨(k - 1).toNat,List.mem_range.2 (by omega),by omega⟩,hh⟩
    rw [h] at this
    cases this
/-- 'Has one of the rows it?',told by the list. -/
theorem scan_any (l:List (List Int)) (f:List Int → Bool):scan l.length (fun i => f (row l i)) = l.any f:=by
  unfold scan
  rw [Bool.eq_iff_iff,List.any_eq_true,List.any_eq_true]
  constructor
  · rintro ⟨i,hi,h⟩
    have hi:=List.mem_range.1 hi
    exact ⟨l[i],List.getElem_mem hi,by rw [← row_at (List.getElem?_eq_getElem hi)];exact h⟩
  · rintro ⟨x,hx,h⟩
    obtain ⟨i,hi,rfl⟩:=List.getElem_of_mem hx
    exact ⟨i,List.mem_range.2 hi,by rw [row_at (List.getElem?_eq_getElem hi)];exact h⟩
end Go.Proofs.YtheeiklgblcjfaaGreatDoor
end
