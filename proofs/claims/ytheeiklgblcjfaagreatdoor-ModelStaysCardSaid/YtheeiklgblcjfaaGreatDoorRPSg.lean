/- Texts of the ring, joined, what is used of them. No condition but those in the statements. -/
import Derived.BigQuiet
import Derived.BigRegion
import Derived.Deep.MidRow
import Derived.Deep.Upon
import Derived.IntWalk
import Derived.Laws.EntriesVeiled
import Derived.Shelf.Abstract
import Derived.Test.YtheeiklgblcjfaaGreatDoorRAskF
import Derived.Test.YtheeiklgblcjfaaGreatDoorRge
import Derived.Test.YtheeiklgblcjfaaGreatDoorRgj
namespace Go.Proofs.YtheeiklgblcjfaaGreatDoor
open Go.RowKit Go.Sort Go.Shelf Go.ChangeShapes Go.WideShapes
set_option linter.unusedVariables false
set_option linter.unusedSimpArgs false
theorem unl_b (kd:Int) (s:Bool) (w:World):Calls Tryz.prog 96 #[.int .i64 kd,.bool s] w fun e w' => e = .returned (.func (.func 113) #[] #[.pointer (some ⟨w.heap.size,0,none⟩),.pointer (some ⟨w.heap.size + 1,0,none⟩)]) ∧ w'.cell? ⟨w.heap.size,0,none⟩ = some (.int .i64 kd) ∧ w'.cell? ⟨w.heap.size + 1,0,none⟩ = some (.bool s) ∧ Below w.heap.size w w':=by
  obtain ⟨W,hW⟩:∃ u,Hid (u = (w.alloc (.cells #[.int .i64 kd] 3)).alloc (.cells #[.bool s] 4)):=⟨_,rfl⟩
  have h0:W.heap[w.heap.size]? = some (.cells #[.int .i64 kd] 3):=by rw [hW.out];rw [Below.heap_alloc _ _ _ (by simp)];exact heap_new_at10 _ _ rfl
  have h1:W.heap[w.heap.size + 1]? = some (.cells #[.bool s] 4):=by rw [hW.out];exact heap_new_at10 _ _ (by simp)
  have HC0:=Lib.hid (cell_blk h0 (i:=0) rfl)
  have HC1:=Lib.hid (cell_blk h1 (i:=0) rfl)
  have HB:=Lib.hid (show Below w.heap.size w W by rw [hW.out];exact ((Below.refl _ _).alloc (Nat.le_refl _) _).alloc (by simp) _)
  clear h0 h1
  go_enter Tryz.func96,Tryz.ntmps96
  go_wp2_with (rw [← hW.out])
  go_ret
  exact ⟨rfl,HC0.out,HC1.out,HB.out⟩
set_option maxRecDepth 100000 in
set_option maxHeartbeats 800000 in
theorem prowU_b (c:Cfg) (pa:Option Addr) (pc:Nat) (ca:Option Addr) (cc:Nat) (aa:Option Addr) (ac:Nat) (ba:Option Addr) (bc:Nat) (sp:Int) (sn:Bool) (made:List Int) (ma:Option Addr) (mc:Nat) (va:Option Addr) (vn vc:Nat) (op port ad:Int) (da:Option Addr) (dn dc:Nat) (x0 x1 x2 x3 x4 x5 x6:Int) (S O:Bool) (kdc:Int) (sc:Bool) (B0 B1:Nat) (w:World) (hx:CfgIn w w.heap.size c ⟨pa,pc,ca,cc,aa,ac,ba,bc⟩) (wx:CfgWf c) (lx:CfgFew c) (hs:SIn w made ma) (hp:(Lit.int .i64 port).wf = true) (had:(Lit.int .u64 ad).wf = true) (hdn:dn ≤ 1000000) (hT:TabsAt w) (h0:w.cell? ⟨B0,0,none⟩ = some (.int .i64 kdc)) (h1:w.cell? ⟨B1,0,none⟩ = some (.bool sc)):Calls Tryz.prog 113 #[.agg #[.slice pa c.parts.length pc,.slice ca c.chans.length cc,.int .i64 c.len0,.slice aa c.win0.length ac,.int .i64 c.len1,.slice ba c.win1.length bc,.int .i64 sp,.bool sn,.slice ma made.length mc,.slice va vn vc,.int .i64 op,.int .i64 port,.int .u64 ad,.slice da dn dc,.int .i64 x0,.int .i64 x1,.int .i64 x2,.int .i64 x3,.int .i64 x4,.int .i64 x5,.int .u32 x6,.bool S,.bool O],.pointer (some ⟨B0,0,none⟩),.pointer (some ⟨B1,0,none⟩)] w fun e w' => e = .returned (.bool (decide (x0 ≠ kdc) || (S != sc))) ∧ Below w.heap.size w w':=by
  obtain ⟨W,HW,hB,hWs,bx⟩:=box_new w #[.slice pa c.parts.length pc,.slice ca c.chans.length cc,.int .i64 c.len0,.slice aa c.win0.length ac,.int .i64 c.len1,.slice ba c.win1.length bc,.int .i64 sp,.bool sn,.slice ma made.length mc,.slice va vn vc,.int .i64 op,.int .i64 port,.int .u64 ad,.slice da dn dc,.int .i64 x0,.int .i64 x1,.int .i64 x2,.int .i64 x3,.int .i64 x4,.int .i64 x5,.int .u32 x6,.bool S,.bool O] 146

  have bW:=bx _ (Below.refl _ _)
  have a14:=cell_blk bW (i:=14) rfl
  have a21:=cell_blk bW (i:=21) rfl
  have HB:=Lib.hid hB
  have e0:=(hB.cell (p:=⟨B0,0,none⟩) (World.block_lt_of_cell? w _ h0)).trans h0
  have e1:=(hB.cell (p:=⟨B1,0,none⟩) (World.block_lt_of_cell? w _ h1)).trans h1
  clear h0 h1
  clear hB hWs bW bx
  clear hx hs hT
  by_cases hk:x0 = kdc
  · have hka:(x0 != kdc) = false:=by simp [hk]
    have HX:=Lib.hid (show (decide (x0 ≠ kdc) || (S != sc)) = (S != sc) by simp [hk])
    clear hk
    go_enter Tryz.func113,Tryz.ntmps113
    go_wp2_with (rw [← HW.out])
    go_ret
    exact ⟨by rw [HX.out];first | done | rfl,HB.out⟩
  · have hka:(x0 != kdc) = true:=by simp [hk]
    have HX:=Lib.hid (show (decide (x0 ≠ kdc) || (S != sc)) = true by simp [hk])
    clear hk
    go_enter Tryz.func113,Tryz.ntmps113
    go_wp2_with (rw [← HW.out])
    go_ret
    exact ⟨by rw [HX.out];first | done | rfl,HB.out⟩
/-- A function of the table: whatever is asked,it tells whether row j holds. -/
def FnA (w:World) (f:Nat) (caps:List Value) (j:Nat):Prop:=
  (∀ args w,(callFunc f args).run Tryz.prog w = .ok (.enter f args) w) ∧ ∀ (c:Cfg) (pa:Option Addr) (pc:Nat) (ca:Option Addr) (cc:Nat) (aa:Option Addr) (ac:Nat) (ba:Option Addr) (bc:Nat) (sp:Int) (sn:Bool) (made:List Int) (ma:Option Addr) (mc:Nat) (va:Option Addr) (vn vc:Nat) (op port ad:Int) (da:Option Addr) (dn dc:Nat) (x0 x1 x2 x3 x4 x5 x6:Int) (S O:Bool) (w0:World),Below w.heap.size w w0 → CfgIn w0 w0.heap.size c ⟨pa,pc,ca,cc,aa,ac,ba,bc⟩ → CfgWf c → CfgFew c → SIn w0 made ma → (Lit.int .i64 port).wf = true → (Lit.int .u64 ad).wf = true → dn ≤ 1000000 → TabsAt w0 →
    Calls Tryz.prog f ([Value.agg #[.slice pa c.parts.length pc,.slice ca c.chans.length cc,.int .i64 c.len0,.slice aa c.win0.length ac,.int .i64 c.len1,.slice ba c.win1.length bc,.int .i64 sp,.bool sn,.slice ma made.length mc,.slice va vn vc,.int .i64 op,.int .i64 port,.int .u64 ad,.slice da dn dc,.int .i64 x0,.int .i64 x1,.int .i64 x2,.int .i64 x3,.int .i64 x4,.int .i64 x5,.int .u32 x6,.bool S,.bool O]] ++ caps).toArray w0 fun e w' => e = .returned (.bool (rowA c sp sn made op port ad dn x0 x3 S O j)) ∧ Below w0.heap.size w0 w'
theorem FnA.later {w w':World} {f:Nat} {caps:List Value} {j:Nat} (h:FnA w f caps j) (hb:Below w.heap.size w w'):FnA w' f caps j:=
  ⟨h.1,fun c pa pc ca cc aa ac ba bc sp sn made ma mc va vn vc op port ad da dn dc x0 x1 x2 x3 x4 x5 x6 S O w0 h0 => h.2 c pa pc ca cc aa ac ba bc sp sn made ma mc va vn vc op port ad da dn dc x0 x1 x2 x3 x4 x5 x6 S O w0 (hb.trans (h0.mono hb.size))⟩
theorem fnA0 (w:World):FnA w 88 [] 0:=⟨enters_of Tryz.func88 (by kernel_rfl) rfl,fun c pa pc ca cc aa ac ba bc sp sn made ma mc va vn vc op port ad da dn dc x0 x1 x2 x3 x4 x5 x6 S O w0 hb hx wx lx hs hp had hdn hT => prow0_b c pa pc ca cc aa ac ba bc sp sn made ma mc va vn vc op port ad da dn dc x0 x1 x2 x3 x4 x5 x6 S O w0 hx wx lx hs hp had hdn hT⟩
theorem fnA1 (w:World):FnA w 89 [] 1:=⟨enters_of Tryz.func89 (by kernel_rfl) rfl,fun c pa pc ca cc aa ac ba bc sp sn made ma mc va vn vc op port ad da dn dc x0 x1 x2 x3 x4 x5 x6 S O w0 hb hx wx lx hs hp had hdn hT => prow1_b c pa pc ca cc aa ac ba bc sp sn made ma mc va vn vc op port ad da dn dc x0 x1 x2 x3 x4 x5 x6 S O w0 hx wx lx hs hp had hdn hT⟩
theorem fnA2 (w:World):FnA w 91 [] 2:=⟨enters_of Tryz.func91 (by kernel_rfl) rfl,fun c pa pc ca cc aa ac ba bc sp sn made ma mc va vn vc op port ad da dn dc x0 x1 x2 x3 x4 x5 x6 S O w0 hb hx wx lx hs hp had hdn hT => prow2_b c pa pc ca cc aa ac ba bc sp sn made ma mc va vn vc op port ad da dn dc x0 x1 x2 x3 x4 x5 x6 S O w0 hx wx lx hs hp had hdn hT⟩
theorem fnA3 (w:World):FnA w 92 [] 3:=⟨enters_of Tryz.func92 (by kernel_rfl) rfl,fun c pa pc ca cc aa ac ba bc sp sn made ma mc va vn vc op port ad da dn dc x0 x1 x2 x3 x4 x5 x6 S O w0 hb hx wx lx hs hp had hdn hT => prow3_b c pa pc ca cc aa ac ba bc sp sn made ma mc va vn vc op port ad da dn dc x0 x1 x2 x3 x4 x5 x6 S O w0 hx wx lx hs hp had hdn hT⟩
theorem fnA4 (w:World):FnA w 93 [] 4:=⟨enters_of Tryz.func93 (by kernel_rfl) rfl,fun c pa pc ca cc aa ac ba bc sp sn made ma mc va vn vc op port ad da dn dc x0 x1 x2 x3 x4 x5 x6 S O w0 hb hx wx lx hs hp had hdn hT => prow4_b c pa pc ca cc aa ac ba bc sp sn made ma mc va vn vc op port ad da dn dc x0 x1 x2 x3 x4 x5 x6 S O w0 hx wx lx hs hp had hdn hT⟩
theorem fnA5 (w:World):FnA w 94 [] 5:=⟨enters_of Tryz.func94 (by kernel_rfl) rfl,fun c pa pc ca cc aa ac ba bc sp sn made ma mc va vn vc op port ad da dn dc x0 x1 x2 x3 x4 x5 x6 S O w0 hb hx wx lx hs hp had hdn hT => prow5_b c pa pc ca cc aa ac ba bc sp sn made ma mc va vn vc op port ad da dn dc x0 x1 x2 x3 x4 x5 x6 S O w0 hx wx lx hs hp had hdn hT⟩
theorem fnA6 (w:World):FnA w 95 [] 6:=⟨enters_of Tryz.func95 (by kernel_rfl) rfl,fun c pa pc ca cc aa ac ba bc sp sn made ma mc va vn vc op port ad da dn dc x0 x1 x2 x3 x4 x5 x6 S O w0 hb hx wx lx hs hp had hdn hT => prow6_b c pa pc ca cc aa ac ba bc sp sn made ma mc va vn vc op port ad da dn dc x0 x1 x2 x3 x4 x5 x6 S O w0 hx wx lx hs hp had hdn hT⟩
theorem fnA11 (w:World):FnA w 97 [] 11:=⟨enters_of Tryz.func97 (by kernel_rfl) rfl,fun c pa pc ca cc aa ac ba bc sp sn made ma mc va vn vc op port ad da dn dc x0 x1 x2 x3 x4 x5 x6 S O w0 hb hx wx lx hs hp had hdn hT => prow11_b c pa pc ca cc aa ac ba bc sp sn made ma mc va vn vc op port ad da dn dc x0 x1 x2 x3 x4 x5 x6 S O w0 hx wx lx hs hp had hdn hT⟩
theorem fnA12 (w:World):FnA w 98 [] 12:=⟨enters_of Tryz.func98 (by kernel_rfl) rfl,fun c pa pc ca cc aa ac ba bc sp sn made ma mc va vn vc op port ad da dn dc x0 x1 x2 x3 x4 x5 x6 S O w0 hb hx wx lx hs hp had hdn hT => prow12_b c pa pc ca cc aa ac ba bc sp sn made ma mc va vn vc op port ad da dn dc x0 x1 x2 x3 x4 x5 x6 S O w0 hx wx lx hs hp had hdn hT⟩
theorem fnA13 (w:World):FnA w 99 [] 13:=⟨enters_of Tryz.func99 (by kernel_rfl) rfl,fun c pa pc ca cc aa ac ba bc sp sn made ma mc va vn vc op port ad da dn dc x0 x1 x2 x3 x4 x5 x6 S O w0 hb hx wx lx hs hp had hdn hT => prow13_b c pa pc ca cc aa ac ba bc sp sn made ma mc va vn vc op port ad da dn dc x0 x1 x2 x3 x4 x5 x6 S O w0 hx wx lx hs hp had hdn hT⟩
theorem fnA14 (w:World):FnA w 100 [] 14:=⟨enters_of Tryz.func100 (by kernel_rfl) rfl,fun c pa pc ca cc aa ac ba bc sp sn made ma mc va vn vc op port ad da dn dc x0 x1 x2 x3 x4 x5 x6 S O w0 hb hx wx lx hs hp had hdn hT => prow14_b c pa pc ca cc aa ac ba bc sp sn made ma mc va vn vc op port ad da dn dc x0 x1 x2 x3 x4 x5 x6 S O w0 hx wx lx hs hp had hdn hT⟩
theorem fnA7 (w:World) (B0 B1:Nat) (h0:w.cell? ⟨B0,0,none⟩ = some (.int .i64 1)) (h1:w.cell? ⟨B1,0,none⟩ = some (.bool true)):FnA w 113 [.pointer (some ⟨B0,0,none⟩),.pointer (some ⟨B1,0,none⟩)] 7:=⟨enters_of Tryz.func113 (by kernel_rfl) rfl,fun c pa pc ca cc aa ac ba bc sp sn made ma mc va vn vc op port ad da dn dc x0 x1 x2 x3 x4 x5 x6 S O w0 hb hx wx lx hs hp had hdn hT => by
  have h:=prowU_b c pa pc ca cc aa ac ba bc sp sn made ma mc va vn vc op port ad da dn dc x0 x1 x2 x3 x4 x5 x6 S O 1 true B0 B1 w0 hx wx lx hs hp had hdn hT ((hb.cell (p:=⟨B0,0,none⟩) (World.block_lt_of_cell? w _ h0)).trans h0) ((hb.cell (p:=⟨B1,0,none⟩) (World.block_lt_of_cell? w _ h1)).trans h1)
  rw [show (decide (x0 ≠ 1) || (S != true)) = rowA c sp sn made op port ad dn x0 x3 S O 7 from (show _ = (decide (x0 ≠ 1) || !S) by cases S <;> rfl)] at h
  exact h⟩
theorem fnA8 (w:World) (B0 B1:Nat) (h0:w.cell? ⟨B0,0,none⟩ = some (.int .i64 1)) (h1:w.cell? ⟨B1,0,none⟩ = some (.bool false)):FnA w 113 [.pointer (some ⟨B0,0,none⟩),.pointer (some ⟨B1,0,none⟩)] 8:=⟨enters_of Tryz.func113 (by kernel_rfl) rfl,fun c pa pc ca cc aa ac ba bc sp sn made ma mc va vn vc op port ad da dn dc x0 x1 x2 x3 x4 x5 x6 S O w0 hb hx wx lx hs hp had hdn hT => by
  have h:=prowU_b c pa pc ca cc aa ac ba bc sp sn made ma mc va vn vc op port ad da dn dc x0 x1 x2 x3 x4 x5 x6 S O 1 false B0 B1 w0 hx wx lx hs hp had hdn hT ((hb.cell (p:=⟨B0,0,none⟩) (World.block_lt_of_cell? w _ h0)).trans h0) ((hb.cell (p:=⟨B1,0,none⟩) (World.block_lt_of_cell? w _ h1)).trans h1)
  rw [show (decide (x0 ≠ 1) || (S != false)) = rowA c sp sn made op port ad dn x0 x3 S O 8 from (show _ = (decide (x0 ≠ 1) || S) by cases S <;> rfl)] at h
  exact h⟩
theorem fnA9 (w:World) (B0 B1:Nat) (h0:w.cell? ⟨B0,0,none⟩ = some (.int .i64 2)) (h1:w.cell? ⟨B1,0,none⟩ = some (.bool true)):FnA w 113 [.pointer (some ⟨B0,0,none⟩),.pointer (some ⟨B1,0,none⟩)] 9:=⟨enters_of Tryz.func113 (by kernel_rfl) rfl,fun c pa pc ca cc aa ac ba bc sp sn made ma mc va vn vc op port ad da dn dc x0 x1 x2 x3 x4 x5 x6 S O w0 hb hx wx lx hs hp had hdn hT => by
  have h:=prowU_b c pa pc ca cc aa ac ba bc sp sn made ma mc va vn vc op port ad da dn dc x0 x1 x2 x3 x4 x5 x6 S O 2 true B0 B1 w0 hx wx lx hs hp had hdn hT ((hb.cell (p:=⟨B0,0,none⟩) (World.block_lt_of_cell? w _ h0)).trans h0) ((hb.cell (p:=⟨B1,0,none⟩) (World.block_lt_of_cell? w _ h1)).trans h1)
  rw [show (decide (x0 ≠ 2) || (S != true)) = rowA c sp sn made op port ad dn x0 x3 S O 9 from (show _ = (decide (x0 ≠ 2) || !S) by cases S <;> rfl)] at h
  exact h⟩
theorem fnA10 (w:World) (B0 B1:Nat) (h0:w.cell? ⟨B0,0,none⟩ = some (.int .i64 2)) (h1:w.cell? ⟨B1,0,none⟩ = some (.bool false)):FnA w 113 [.pointer (some ⟨B0,0,none⟩),.pointer (some ⟨B1,0,none⟩)] 10:=⟨enters_of Tryz.func113 (by kernel_rfl) rfl,fun c pa pc ca cc aa ac ba bc sp sn made ma mc va vn vc op port ad da dn dc x0 x1 x2 x3 x4 x5 x6 S O w0 hb hx wx lx hs hp had hdn hT => by
  have h:=prowU_b c pa pc ca cc aa ac ba bc sp sn made ma mc va vn vc op port ad da dn dc x0 x1 x2 x3 x4 x5 x6 S O 2 false B0 B1 w0 hx wx lx hs hp had hdn hT ((hb.cell (p:=⟨B0,0,none⟩) (World.block_lt_of_cell? w _ h0)).trans h0) ((hb.cell (p:=⟨B1,0,none⟩) (World.block_lt_of_cell? w _ h1)).trans h1)
  rw [show (decide (x0 ≠ 2) || (S != false)) = rowA c sp sn made op port ad dn x0 x3 S O 10 from (show _ = (decide (x0 ≠ 2) || S) by cases S <;> rfl)] at h
  exact h⟩
theorem ints_row {w:World} {b B:Nat} {cs:Array Value} {ty:TypeId} {m:Nat × Nat} {l:List Int} (h:w.heap[b]? = some (.cells cs ty m)) (hB:b < B) (hcs:cs = (l.map (Value.int .i64)).toArray):IntRowK .i64 w B (some ⟨b,0,none⟩) l:=fun _ =>
  ⟨b,0,rfl,hB,fun i hi => by rw [Nat.zero_add];exact cell_blk h (by rw [hcs];simp [hi])⟩
/-- A call that hands back the table,in new memory. -/
def GivesRows10 (w:World) (e:Ending) (w':World):Prop:=∃ TA:Nat,e = .returned (.slice (some ⟨TA,0,none⟩) 15 15) ∧ w.heap.size ≤ TA ∧
  (∀ j:Nat,j < 15 → ∃ (A:Option Addr) (f:Nat) (caps:List Value),w'.cell? ⟨TA,j * 3,none⟩ = some (.slice A (ofL.getD j []).length (ofL.getD j []).length) ∧ w'.cell? ⟨TA,j * 3 + 1,none⟩ = some (.func (.func f) #[] caps.toArray) ∧
    w'.cell? ⟨TA,j * 3 + 2,none⟩ = some (.int .i64 (codeL.getD j 0)) ∧ IntRowK .i64 w' w'.heap.size A (ofL.getD j []) ∧ FnA w' f caps j) ∧ Below w.heap.size w w'
set_option maxRecDepth 100000 in
set_option maxHeartbeats 8000000 in
theorem rows10_b (w:World):Calls Tryz.prog 65 #[] w (GivesRows10 w):=by
  obtain ⟨X1,hX1⟩:∃ u,Hid (u = (((((w.alloc (.cells #[.int .i64 3,.int .i64 4,.int .i64 5,.int .i64 6,.int .i64 7] 3)).alloc (.cells #[.int .i64 1] 3)).alloc (.cells #[.int .i64 1] 3)).alloc (.cells #[.int .i64 1,.int .i64 2] 3)).alloc (.cells #[.int .i64 3] 3))):=⟨_,rfl⟩
  have kw0:X1.heap[w.heap.size]? = some (.cells #[.int .i64 3,.int .i64 4,.int .i64 5,.int .i64 6,.int .i64 7] 3):=by rw [hX1.out];rw [Below.heap_alloc _ _ _ (by simp;try omega)];rw [Below.heap_alloc _ _ _ (by simp;try omega)];rw [Below.heap_alloc _ _ _ (by simp;try omega)];rw [Below.heap_alloc _ _ _ (by simp;try omega)];exact heap_new_at10 _ _ (by simp)
  have kw1:X1.heap[w.heap.size + 1]? = some (.cells #[.int .i64 1] 3):=by rw [hX1.out];rw [Below.heap_alloc _ _ _ (by simp;try omega)];rw [Below.heap_alloc _ _ _ (by simp;try omega)];rw [Below.heap_alloc _ _ _ (by simp;try omega)];exact heap_new_at10 _ _ (by simp)
  have kw2:X1.heap[w.heap.size + 1 + 1]? = some (.cells #[.int .i64 1] 3):=by rw [hX1.out];rw [Below.heap_alloc _ _ _ (by simp;try omega)];rw [Below.heap_alloc _ _ _ (by simp;try omega)];exact heap_new_at10 _ _ (by simp)
  have kw3:X1.heap[w.heap.size + 1 + 1 + 1]? = some (.cells #[.int .i64 1,.int .i64 2] 3):=by rw [hX1.out];rw [Below.heap_alloc _ _ _ (by simp;try omega)];exact heap_new_at10 _ _ (by simp)
  have kw4:X1.heap[w.heap.size + 1 + 1 + 1 + 1]? = some (.cells #[.int .i64 3] 3):=by rw [hX1.out];exact heap_new_at10 _ _ (by simp)
  have hbX1:Below w.heap.size w X1:=by rw [hX1.out];exact ((((((Below.refl _ _).alloc (Nat.le_refl _) _).alloc (by simp;try omega) _).alloc (by simp;try omega) _).alloc (by simp;try omega) _).alloc (by simp;try omega) _)
  have hsX1:X1.heap.size = w.heap.size + 5:=by rw [hX1.out];simp
  have HB:=Lib.hid hbX1
  clear hbX1 hsX1
  go_enter Tryz.func65,Tryz.ntmps65
  go_wp2_with (rw [← hX1.out])
  refine (unl_b 1 true X1).mono ?_
  rintro e v1 ⟨rfl,hc0,hc1,hb⟩
  have kw0:=(hb.block _ (Array.getElem?_eq_some_iff.1 kw0).1).trans kw0
  have kw1:=(hb.block _ (Array.getElem?_eq_some_iff.1 kw1).1).trans kw1
  have kw2:=(hb.block _ (Array.getElem?_eq_some_iff.1 kw2).1).trans kw2
  have kw3:=(hb.block _ (Array.getElem?_eq_some_iff.1 kw3).1).trans kw3
  have kw4:=(hb.block _ (Array.getElem?_eq_some_iff.1 kw4).1).trans kw4
  have U7:=Lib.hid (fnA7 v1 X1.heap.size (X1.heap.size + 1) hc0 hc1)
  have HB:=Lib.hid (HB.out.trans (hb.mono HB.out.size))
  have HV:=Lib.hid HB.out.size
  clear hc0 hc1 hb hX1
  obtain ⟨X2,hX2⟩:∃ u,Hid (u = (v1.alloc (.cells #[.int .i64 4] 3))):=⟨_,rfl⟩
  have kv10:X2.heap[v1.heap.size]? = some (.cells #[.int .i64 4] 3):=by rw [hX2.out];exact heap_new_at10 _ _ (by simp)
  have hbX2:Below v1.heap.size v1 X2:=by rw [hX2.out];exact ((Below.refl _ _).alloc (Nat.le_refl _) _)
  have hsX2:X2.heap.size = v1.heap.size + 1:=by rw [hX2.out];simp
  have kw0:=(hbX2.block _ (Array.getElem?_eq_some_iff.1 kw0).1).trans kw0
  have kw1:=(hbX2.block _ (Array.getElem?_eq_some_iff.1 kw1).1).trans kw1
  have kw2:=(hbX2.block _ (Array.getElem?_eq_some_iff.1 kw2).1).trans kw2
  have kw3:=(hbX2.block _ (Array.getElem?_eq_some_iff.1 kw3).1).trans kw3
  have kw4:=(hbX2.block _ (Array.getElem?_eq_some_iff.1 kw4).1).trans kw4
  have U7:=Lib.hid (U7.out.later hbX2)
  have HB:=Lib.hid (HB.out.trans (hbX2.mono HB.out.size))
  clear hbX2 hsX2

  go_wp2_with (rw [← hX2.out])
  refine (unl_b 1 false X2).mono ?_
  rintro e v2 ⟨rfl,hc0,hc1,hb⟩
  have kw0:=(hb.block _ (Array.getElem?_eq_some_iff.1 kw0).1).trans kw0
  have kw1:=(hb.block _ (Array.getElem?_eq_some_iff.1 kw1).1).trans kw1
  have kw2:=(hb.block _ (Array.getElem?_eq_some_iff.1 kw2).1).trans kw2
  have kw3:=(hb.block _ (Array.getElem?_eq_some_iff.1 kw3).1).trans kw3
  have kw4:=(hb.block _ (Array.getElem?_eq_some_iff.1 kw4).1).trans kw4
  have kv10:=(hb.block _ (Array.getElem?_eq_some_iff.1 kv10).1).trans kv10
  have U7:=Lib.hid (U7.out.later hb)
  have U8:=Lib.hid (fnA8 v2 X2.heap.size (X2.heap.size + 1) hc0 hc1)
  have HB:=Lib.hid (HB.out.trans (hb.mono HB.out.size))
  have HV:=Lib.hid HB.out.size
  clear hc0 hc1 hb hX2
  obtain ⟨X3,hX3⟩:∃ u,Hid (u = (v2.alloc (.cells #[.int .i64 5] 3))):=⟨_,rfl⟩
  have kv20:X3.heap[v2.heap.size]? = some (.cells #[.int .i64 5] 3):=by rw [hX3.out];exact heap_new_at10 _ _ (by simp)
  have hbX3:Below v2.heap.size v2 X3:=by rw [hX3.out];exact ((Below.refl _ _).alloc (Nat.le_refl _) _)
  have hsX3:X3.heap.size = v2.heap.size + 1:=by rw [hX3.out];simp
  have kw0:=(hbX3.block _ (Array.getElem?_eq_some_iff.1 kw0).1).trans kw0
  have kw1:=(hbX3.block _ (Array.getElem?_eq_some_iff.1 kw1).1).trans kw1
  have kw2:=(hbX3.block _ (Array.getElem?_eq_some_iff.1 kw2).1).trans kw2
  have kw3:=(hbX3.block _ (Array.getElem?_eq_some_iff.1 kw3).1).trans kw3
  have kw4:=(hbX3.block _ (Array.getElem?_eq_some_iff.1 kw4).1).trans kw4
  have kv10:=(hbX3.block _ (Array.getElem?_eq_some_iff.1 kv10).1).trans kv10
  have U7:=Lib.hid (U7.out.later hbX3)
  have U8:=Lib.hid (U8.out.later hbX3)
  have HB:=Lib.hid (HB.out.trans (hbX3.mono HB.out.size))
  clear hbX3 hsX3

  go_wp2_with (rw [← hX3.out])
  refine (unl_b 2 true X3).mono ?_
  rintro e v3 ⟨rfl,hc0,hc1,hb⟩
  have kw0:=(hb.block _ (Array.getElem?_eq_some_iff.1 kw0).1).trans kw0
  have kw1:=(hb.block _ (Array.getElem?_eq_some_iff.1 kw1).1).trans kw1
  have kw2:=(hb.block _ (Array.getElem?_eq_some_iff.1 kw2).1).trans kw2
  have kw3:=(hb.block _ (Array.getElem?_eq_some_iff.1 kw3).1).trans kw3
  have kw4:=(hb.block _ (Array.getElem?_eq_some_iff.1 kw4).1).trans kw4
  have kv10:=(hb.block _ (Array.getElem?_eq_some_iff.1 kv10).1).trans kv10
  have kv20:=(hb.block _ (Array.getElem?_eq_some_iff.1 kv20).1).trans kv20
  have U7:=Lib.hid (U7.out.later hb)
  have U8:=Lib.hid (U8.out.later hb)
  have U9:=Lib.hid (fnA9 v3 X3.heap.size (X3.heap.size + 1) hc0 hc1)
  have HB:=Lib.hid (HB.out.trans (hb.mono HB.out.size))
  have HV:=Lib.hid HB.out.size
  clear hc0 hc1 hb hX3
  obtain ⟨X4,hX4⟩:∃ u,Hid (u = (v3.alloc (.cells #[.int .i64 6] 3))):=⟨_,rfl⟩
  have kv30:X4.heap[v3.heap.size]? = some (.cells #[.int .i64 6] 3):=by rw [hX4.out];exact heap_new_at10 _ _ (by simp)
  have hbX4:Below v3.heap.size v3 X4:=by rw [hX4.out];exact ((Below.refl _ _).alloc (Nat.le_refl _) _)
  have hsX4:X4.heap.size = v3.heap.size + 1:=by rw [hX4.out];simp
  have kw0:=(hbX4.block _ (Array.getElem?_eq_some_iff.1 kw0).1).trans kw0
  have kw1:=(hbX4.block _ (Array.getElem?_eq_some_iff.1 kw1).1).trans kw1
  have kw2:=(hbX4.block _ (Array.getElem?_eq_some_iff.1 kw2).1).trans kw2
  have kw3:=(hbX4.block _ (Array.getElem?_eq_some_iff.1 kw3).1).trans kw3
  have kw4:=(hbX4.block _ (Array.getElem?_eq_some_iff.1 kw4).1).trans kw4
  have kv10:=(hbX4.block _ (Array.getElem?_eq_some_iff.1 kv10).1).trans kv10
  have kv20:=(hbX4.block _ (Array.getElem?_eq_some_iff.1 kv20).1).trans kv20
  have U7:=Lib.hid (U7.out.later hbX4)
  have U8:=Lib.hid (U8.out.later hbX4)
  have U9:=Lib.hid (U9.out.later hbX4)
  have HB:=Lib.hid (HB.out.trans (hbX4.mono HB.out.size))
  clear hbX4 hsX4

  go_wp2_with (rw [← hX4.out])
  refine (unl_b 2 false X4).mono ?_
  rintro e v4 ⟨rfl,hc0,hc1,hb⟩
  have kw0:=(hb.block _ (Array.getElem?_eq_some_iff.1 kw0).1).trans kw0
  have kw1:=(hb.block _ (Array.getElem?_eq_some_iff.1 kw1).1).trans kw1
  have kw2:=(hb.block _ (Array.getElem?_eq_some_iff.1 kw2).1).trans kw2
  have kw3:=(hb.block _ (Array.getElem?_eq_some_iff.1 kw3).1).trans kw3
  have kw4:=(hb.block _ (Array.getElem?_eq_some_iff.1 kw4).1).trans kw4
  have kv10:=(hb.block _ (Array.getElem?_eq_some_iff.1 kv10).1).trans kv10
  have kv20:=(hb.block _ (Array.getElem?_eq_some_iff.1 kv20).1).trans kv20
  have kv30:=(hb.block _ (Array.getElem?_eq_some_iff.1 kv30).1).trans kv30
  have U7:=Lib.hid (U7.out.later hb)
  have U8:=Lib.hid (U8.out.later hb)
  have U9:=Lib.hid (U9.out.later hb)
  have U10:=Lib.hid (fnA10 v4 X4.heap.size (X4.heap.size + 1) hc0 hc1)
  have HB:=Lib.hid (HB.out.trans (hb.mono HB.out.size))
  have HV:=Lib.hid HB.out.size
  clear hc0 hc1 hb hX4
  obtain ⟨X5,hX5⟩:∃ u,Hid (u = (((((v4.alloc (.cells #[.int .i64 3,.int .i64 5] 3)).alloc (.cells #[.int .i64 3,.int .i64 5] 3)).alloc (.cells #[.int .i64 9] 3)).alloc (.cells #[.int .i64 8,.int .i64 9] 3)).alloc (.cells #[.slice none 0 0,.func (.func 88) #[] #[],.int .i64 4,.slice none 0 0,.func (.func 89) #[] #[],.int .i64 3,.slice (some ⟨w.heap.size + 1,0,none⟩) 1 1,.func (.func 91) #[] #[],.int .i64 4,.slice (some ⟨w.heap.size + 1 + 1,0,none⟩) 1 1,.func (.func 92) #[] #[],.int .i64 1,.slice (some ⟨w.heap.size + 1 + 1 + 1,0,none⟩) 2 2,.func (.func 93) #[] #[],.int .i64 5,.slice (some ⟨w.heap.size,0,none⟩) 5 5,.func (.func 94) #[] #[],.int .i64 3,.slice (some ⟨w.heap.size,0,none⟩) 5 5,.func (.func 95) #[] #[],.int .i64 5,.slice (some ⟨w.heap.size + 1 + 1 + 1 + 1,0,none⟩) 1 1,.func (.func 113) #[] #[.pointer (some ⟨X1.heap.size,0,none⟩),.pointer (some ⟨X1.heap.size + 1,0,none⟩)],.int .i64 5,.slice (some ⟨v1.heap.size,0,none⟩) 1 1,.func (.func 113) #[] #[.pointer (some ⟨X2.heap.size,0,none⟩),.pointer (some ⟨X2.heap.size + 1,0,none⟩)],.int .i64 5,.slice (some ⟨v2.heap.size,0,none⟩) 1 1,.func (.func 113) #[] #[.pointer (some ⟨X3.heap.size,0,none⟩),.pointer (some ⟨X3.heap.size + 1,0,none⟩)],.int .i64 5,.slice (some ⟨v3.heap.size,0,none⟩) 1 1,.func (.func 113) #[] #[.pointer (some ⟨X4.heap.size,0,none⟩),.pointer (some ⟨X4.heap.size + 1,0,none⟩)],.int .i64 5,.slice (some ⟨v4.heap.size,0,none⟩) 2 2,.func (.func 97) #[] #[],.int .i64 3,.slice (some ⟨v4.heap.size + 1,0,none⟩) 2 2,.func (.func 98) #[] #[],.int .i64 4,.slice (some ⟨v4.heap.size + 1 + 1,0,none⟩) 1 1,.func (.func 99) #[] #[],.int .i64 3,.slice (some ⟨v4.heap.size + 1 + 1 + 1,0,none⟩) 2 2,.func (.func 100) #[] #[],.int .i64 6] 152))):=⟨_,rfl⟩
  have kv40:X5.heap[v4.heap.size]? = some (.cells #[.int .i64 3,.int .i64 5] 3):=by rw [hX5.out];rw [Below.heap_alloc _ _ _ (by simp;try omega)];rw [Below.heap_alloc _ _ _ (by simp;try omega)];rw [Below.heap_alloc _ _ _ (by simp;try omega)];rw [Below.heap_alloc _ _ _ (by simp;try omega)];exact heap_new_at10 _ _ (by simp)
  have kv41:X5.heap[v4.heap.size + 1]? = some (.cells #[.int .i64 3,.int .i64 5] 3):=by rw [hX5.out];rw [Below.heap_alloc _ _ _ (by simp;try omega)];rw [Below.heap_alloc _ _ _ (by simp;try omega)];rw [Below.heap_alloc _ _ _ (by simp;try omega)];exact heap_new_at10 _ _ (by simp)
  have kv42:X5.heap[v4.heap.size + 1 + 1]? = some (.cells #[.int .i64 9] 3):=by rw [hX5.out];rw [Below.heap_alloc _ _ _ (by simp;try omega)];rw [Below.heap_alloc _ _ _ (by simp;try omega)];exact heap_new_at10 _ _ (by simp)
  have kv43:X5.heap[v4.heap.size + 1 + 1 + 1]? = some (.cells #[.int .i64 8,.int .i64 9] 3):=by rw [hX5.out];rw [Below.heap_alloc _ _ _ (by simp;try omega)];exact heap_new_at10 _ _ (by simp)
  have kv44:X5.heap[v4.heap.size + 1 + 1 + 1 + 1]? = some (.cells #[.slice none 0 0,.func (.func 88) #[] #[],.int .i64 4,.slice none 0 0,.func (.func 89) #[] #[],.int .i64 3,.slice (some ⟨w.heap.size + 1,0,none⟩) 1 1,.func (.func 91) #[] #[],.int .i64 4,.slice (some ⟨w.heap.size + 1 + 1,0,none⟩) 1 1,.func (.func 92) #[] #[],.int .i64 1,.slice (some ⟨w.heap.size + 1 + 1 + 1,0,none⟩) 2 2,.func (.func 93) #[] #[],.int .i64 5,.slice (some ⟨w.heap.size,0,none⟩) 5 5,.func (.func 94) #[] #[],.int .i64 3,.slice (some ⟨w.heap.size,0,none⟩) 5 5,.func (.func 95) #[] #[],.int .i64 5,.slice (some ⟨w.heap.size + 1 + 1 + 1 + 1,0,none⟩) 1 1,.func (.func 113) #[] #[.pointer (some ⟨X1.heap.size,0,none⟩),.pointer (some ⟨X1.heap.size + 1,0,none⟩)],.int .i64 5,.slice (some ⟨v1.heap.size,0,none⟩) 1 1,.func (.func 113) #[] #[.pointer (some ⟨X2.heap.size,0,none⟩),.pointer (some ⟨X2.heap.size + 1,0,none⟩)],.int .i64 5,.slice (some ⟨v2.heap.size,0,none⟩) 1 1,.func (.func 113) #[] #[.pointer (some ⟨X3.heap.size,0,none⟩),.pointer (some ⟨X3.heap.size + 1,0,none⟩)],.int .i64 5,.slice (some ⟨v3.heap.size,0,none⟩) 1 1,.func (.func 113) #[] #[.pointer (some ⟨X4.heap.size,0,none⟩),.pointer (some ⟨X4.heap.size + 1,0,none⟩)],.int .i64 5,.slice (some ⟨v4.heap.size,0,none⟩) 2 2,.func (.func 97) #[] #[],.int .i64 3,.slice (some ⟨v4.heap.size + 1,0,none⟩) 2 2,.func (.func 98) #[] #[],.int .i64 4,.slice (some ⟨v4.heap.size + 1 + 1,0,none⟩) 1 1,.func (.func 99) #[] #[],.int .i64 3,.slice (some ⟨v4.heap.size + 1 + 1 + 1,0,none⟩) 2 2,.func (.func 100) #[] #[],.int .i64 6] 152):=by rw [hX5.out];exact heap_new_at10 _ _ (by simp)
  have hbX5:Below v4.heap.size v4 X5:=by rw [hX5.out];exact ((((((Below.refl _ _).alloc (Nat.le_refl _) _).alloc (by simp;try omega) _).alloc (by simp;try omega) _).alloc (by simp;try omega) _).alloc (by simp;try omega) _)
  have hsX5:X5.heap.size = v4.heap.size + 5:=by rw [hX5.out];simp
  have kw0:=(hbX5.block _ (Array.getElem?_eq_some_iff.1 kw0).1).trans kw0
  have kw1:=(hbX5.block _ (Array.getElem?_eq_some_iff.1 kw1).1).trans kw1
  have kw2:=(hbX5.block _ (Array.getElem?_eq_some_iff.1 kw2).1).trans kw2
  have kw3:=(hbX5.block _ (Array.getElem?_eq_some_iff.1 kw3).1).trans kw3
  have kw4:=(hbX5.block _ (Array.getElem?_eq_some_iff.1 kw4).1).trans kw4
  have kv10:=(hbX5.block _ (Array.getElem?_eq_some_iff.1 kv10).1).trans kv10
  have kv20:=(hbX5.block _ (Array.getElem?_eq_some_iff.1 kv20).1).trans kv20
  have kv30:=(hbX5.block _ (Array.getElem?_eq_some_iff.1 kv30).1).trans kv30
  have U7:=Lib.hid (U7.out.later hbX5)
  have U8:=Lib.hid (U8.out.later hbX5)
  have U9:=Lib.hid (U9.out.later hbX5)
  have U10:=Lib.hid (U10.out.later hbX5)
  have HB:=Lib.hid (HB.out.trans (hbX5.mono HB.out.size))
  clear hbX5 hsX5
  have KW0:=Lib.hid kw0
  have KW1:=Lib.hid kw1
  have KW2:=Lib.hid kw2
  have KW3:=Lib.hid kw3
  have KW4:=Lib.hid kw4
  have KV10:=Lib.hid kv10
  have KV20:=Lib.hid kv20
  have KV30:=Lib.hid kv30
  have KV40:=Lib.hid kv40
  have KV41:=Lib.hid kv41
  have KV42:=Lib.hid kv42
  have KV43:=Lib.hid kv43
  have KV44:=Lib.hid kv44
  clear kw0 kw1 kw2 kw3 kw4 kv10 kv20 kv30 kv40 kv41 kv42 kv43 kv44

  have HT5:=Lib.hid (show w.heap.size ≤ v4.heap.size + 1 + 1 + 1 + 1 by have:=HV.out;omega)
  go_wp2_with (rw [← hX5.out])
  go_ret
  refine ⟨v4.heap.size + 1 + 1 + 1 + 1,rfl,HT5.out,fun j hj => ?_,HB.out⟩
  match j,hj with
  | 0,_ => exact ⟨none,88,[],cell_blk KV44.out rfl,cell_blk KV44.out rfl,cell_blk KV44.out rfl,(fun h => by cases h),fnA0 _⟩
  | 1,_ => exact ⟨none,89,[],cell_blk KV44.out rfl,cell_blk KV44.out rfl,cell_blk KV44.out rfl,(fun h => by cases h),fnA1 _⟩
  | 2,_ => exact ⟨some ⟨w.heap.size + 1,0,none⟩,91,[],cell_blk KV44.out rfl,cell_blk KV44.out rfl,cell_blk KV44.out rfl,ints_row KW1.out (Array.getElem?_eq_some_iff.1 KW1.out).1 rfl,fnA2 _⟩
  | 3,_ => exact ⟨some ⟨w.heap.size + 1 + 1,0,none⟩,92,[],cell_blk KV44.out rfl,cell_blk KV44.out rfl,cell_blk KV44.out rfl,ints_row KW2.out (Array.getElem?_eq_some_iff.1 KW2.out).1 rfl,fnA3 _⟩
  | 4,_ => exact ⟨some ⟨w.heap.size + 1 + 1 + 1,0,none⟩,93,[],cell_blk KV44.out rfl,cell_blk KV44.out rfl,cell_blk KV44.out rfl,ints_row KW3.out (Array.getElem?_eq_some_iff.1 KW3.out).1 rfl,fnA4 _⟩
  | 5,_ => exact ⟨some ⟨w.heap.size,0,none⟩,94,[],cell_blk KV44.out rfl,cell_blk KV44.out rfl,cell_blk KV44.out rfl,ints_row KW0.out (Array.getElem?_eq_some_iff.1 KW0.out).1 rfl,fnA5 _⟩
  | 6,_ => exact ⟨some ⟨w.heap.size,0,none⟩,95,[],cell_blk KV44.out rfl,cell_blk KV44.out rfl,cell_blk KV44.out rfl,ints_row KW0.out (Array.getElem?_eq_some_iff.1 KW0.out).1 rfl,fnA6 _⟩
  | 7,_ => exact ⟨some ⟨w.heap.size + 1 + 1 + 1 + 1,0,none⟩,113,[.pointer (some ⟨X1.heap.size,0,none⟩),.pointer (some ⟨X1.heap.size + 1,0,none⟩)],cell_blk KV44.out rfl,cell_blk KV44.out rfl,cell_blk KV44.out rfl,ints_row KW4.out (Array.getElem?_eq_some_iff.1 KW4.out).1 rfl,U7.out⟩
  | 8,_ => exact ⟨some ⟨v1.heap.size,0,none⟩,113,[.pointer (some ⟨X2.heap.size,0,none⟩),.pointer (some ⟨X2.heap.size + 1,0,none⟩)],cell_blk KV44.out rfl,cell_blk KV44.out rfl,cell_blk KV44.out rfl,ints_row KV10.out (Array.getElem?_eq_some_iff.1 KV10.out).1 rfl,U8.out⟩
  | 9,_ => exact ⟨some ⟨v2.heap.size,0,none⟩,113,[.pointer (some ⟨X3.heap.size,0,none⟩),.pointer (some ⟨X3.heap.size + 1,0,none⟩)],cell_blk KV44.out rfl,cell_blk KV44.out rfl,cell_blk KV44.out rfl,ints_row KV20.out (Array.getElem?_eq_some_iff.1 KV20.out).1 rfl,U9.out⟩
  | 10,_ => exact ⟨some ⟨v3.heap.size,0,none⟩,113,[.pointer (some ⟨X4.heap.size,0,none⟩),.pointer (some ⟨X4.heap.size + 1,0,none⟩)],cell_blk KV44.out rfl,cell_blk KV44.out rfl,cell_blk KV44.out rfl,ints_row KV30.out (Array.getElem?_eq_some_iff.1 KV30.out).1 rfl,U10.out⟩
  | 11,_ => exact ⟨some ⟨v4.heap.size,0,none⟩,97,[],cell_blk KV44.out rfl,cell_blk KV44.out rfl,cell_blk KV44.out rfl,ints_row KV40.out (Array.getElem?_eq_some_iff.1 KV40.out).1 rfl,fnA11 _⟩
  | 12,_ => exact ⟨some ⟨v4.heap.size + 1,0,none⟩,98,[],cell_blk KV44.out rfl,cell_blk KV44.out rfl,cell_blk KV44.out rfl,ints_row KV41.out (Array.getElem?_eq_some_iff.1 KV41.out).1 rfl,fnA12 _⟩
  | 13,_ => exact ⟨some ⟨v4.heap.size + 1 + 1,0,none⟩,99,[],cell_blk KV44.out rfl,cell_blk KV44.out rfl,cell_blk KV44.out rfl,ints_row KV42.out (Array.getElem?_eq_some_iff.1 KV42.out).1 rfl,fnA13 _⟩
  | 14,_ => exact ⟨some ⟨v4.heap.size + 1 + 1 + 1,0,none⟩,100,[],cell_blk KV44.out rfl,cell_blk KV44.out rfl,cell_blk KV44.out rfl,ints_row KV43.out (Array.getElem?_eq_some_iff.1 KV43.out).1 rfl,fnA14 _⟩
  | n + 15,h => omega
end Go.Proofs.YtheeiklgblcjfaaGreatDoor
namespace Go.Proofs.YtheeiklgblcjfaaGreatDoor
open Go.RowKit Go.Sort Go.ChangeShapes Go.WideShapes
set_option linter.unusedVariables false
set_option linter.unusedSimpArgs false
theorem results_tmp4 {fn:Func} {t u v x:Tmp} (h:fn.results = #[.tmp t,.tmp u,.tmp v,.tmp x]) (tmps:Array Value) (P:Program) (w:World) :
    (results fn tmps).run P w = .ok (.tuple #[tmps.getD t undef,tmps.getD u undef,tmps.getD v undef,tmps.getD x undef]) w:=by
  simp [results,h]
set_option maxRecDepth 100000 in
set_option maxHeartbeats 4000000 in
theorem pport_b (c:Cfg) (x:CfgAt) (port:Int) (w:World) (hx:CfgIn w w.heap.size c x) (wx:CfgWf c) (lx:CfgFew c) (hp:(Lit.int .i64 port).wf = true):Calls Tryz.prog 44 #[.agg (cfgCells c x),.int .i64 port] w fun e w' => e = .returned (.tuple #[.int .i64 (portK c port),.int .i64 (portP c port),.bool (portS c port),.bool (portB c port)]) ∧ Below w.heap.size w w':=by
  obtain ⟨W,HW,hB,hWs,bx⟩:=one_cbox w c x 29
  obtain ⟨pa,pc,ca,cc,aa,ac,ba,bc⟩:=x
  have HXW:=Lib.hid (hx.later hB)
  have HB:=Lib.hid hB
  have hl:=lx.2.1
  obtain ⟨c0,c1,c2,c3,c4,c5⟩:=bx _ (Below.refl _ _)
  simp only [cfgCells] at HW ⊢
  clear hx hB hWs
  obtain ⟨p0,p1⟩:=bounds_i64 hp
  by_cases h1:port < 0
  · have HQ:=Lib.hid (show portB c port = false by unfold portB;rw [decide_eq_false (fun h => by omega),Bool.and_false])
    have HX:=Lib.hid (show portK c port = 0 ∧ portP c port = 0 ∧ portS c port = false from ⟨(port_none HQ.out).1,(port_none HQ.out).2.2,(port_none HQ.out).2.1⟩)
    go_enter Tryz.func44,Tryz.ntmps44
    go_wp2_with (rw [← HW.out])
    ((try simp only [Exit.inBlock,Exit.then]);refine bodyPost_ret (results_tmp4 rfl _ _ _) rfl ?_)
    exact ⟨by rw [HX.out.1,HX.out.2.1,HX.out.2.2,HQ.out];first | done | rfl,HB.out⟩
  have h1d:decide (port < 0) = false:=decide_eq_false h1
  obtain ⟨k,hk0⟩:=Int.eq_ofNat_of_zero_le (a:=port / 2) (by omega)
  have hr1:(port.tdiv 2) = (k:Int):=by rw [Int.tdiv_eq_ediv_of_nonneg (by omega)];omega
  have hr3:port / 2 = (k:Int):=by omega
  by_cases h2:(c.chans.length:Int) ≤ (k:Int)
  · have HQ:=Lib.hid (show portB c port = false by unfold portB;rw [decide_eq_false (fun h => by omega),Bool.and_false])
    have HX:=Lib.hid (show portK c port = 0 ∧ portP c port = 0 ∧ portS c port = false from ⟨(port_none HQ.out).1,(port_none HQ.out).2.2,(port_none HQ.out).2.1⟩)
    go_enter Tryz.func44,Tryz.ntmps44
    go_wp2_with (rw [← HW.out])
    ((try simp only [Exit.inBlock,Exit.then]);refine bodyPost_ret (results_tmp4 rfl _ _ _) rfl ?_)
    exact ⟨by rw [HX.out.1,HX.out.2.1,HX.out.2.2,HQ.out];first | done | rfl,HB.out⟩
  have h2d:decide ((c.chans.length:Int) ≤ (k:Int)) = false:=decide_eq_false h2
  cases hq:acceptsB c with
  | false =>
    have HA:=Lib.hid hq
    have HQ:=Lib.hid (show portB c port = false by unfold portB;rw [hq,Bool.false_and])
    clear hq
    have HX:=Lib.hid (show portK c port = 0 ∧ portP c port = 0 ∧ portS c port = false from ⟨(port_none HQ.out).1,(port_none HQ.out).2.2,(port_none HQ.out).2.1⟩)
    go_enter Tryz.func44,Tryz.ntmps44
    go_wp2_with (rw [← HW.out])
    refine (pacc_is c ⟨pa,pc,ca,cc,aa,ac,ba,bc⟩ false W HXW.out wx lx HA.out).mono ?_
    rintro e w5 ⟨rfl,hb5⟩
    have HB5:=Lib.hid hb5
    clear c0 c1 c2 c3 c4 c5 hb5
    go_wp2
    ((try simp only [Exit.inBlock,Exit.then]);refine bodyPost_ret (results_tmp4 rfl _ _ _) rfl ?_)
    exact ⟨by rw [HX.out.1,HX.out.2.1,HX.out.2.2,HQ.out];first | done | rfl,HB.out.trans (HB5.out.mono HB.out.size)⟩
  | true =>
    have HA:=Lib.hid hq
    have HQ:=Lib.hid (show portB c port = true by unfold portB;rw [hq,decide_eq_true (show 0 ≤ port ∧ port < 2 * (c.chans.length:Int) by omega)];rfl)
    have hlt:k < c.chans.length:=by omega
    obtain ⟨b,o,x0,x1,x2,x3,x4,x5,x6,e0,_,e1,_,k0⟩:=HXW.out.rc.at7 wx.wc hlt
    cases e0
    have E1:=Lib.hid e1
    have g1:(0:Int) ≤ (k:Int):=by omega
    have g2:(k:Int) < (c.chans.length:Int):=by omega
    clear hq e1
    by_cases hev:port % 2 = 0
    · have hk:port = 2 * (k:Int):=by omega
      have HX:=Lib.hid (show portK c port = (k:Int) ∧ portP c port = x1 ∧ portS c port = true from by have h:=port_even HQ.out hk E1.out;exact ⟨h.1,h.2.2,h.2.1⟩)
      have hr0:(port.tmod 2) = 0:=by rw [Int.tmod_eq_emod_of_nonneg (by omega)];omega
      clear hk hev
      go_enter Tryz.func44,Tryz.ntmps44
      go_wp2_with (rw [← HW.out])
      refine (pacc_is c ⟨pa,pc,(some ⟨b,o,none⟩),cc,aa,ac,ba,bc⟩ true W HXW.out wx lx HA.out).mono ?_
      rintro e w5 ⟨rfl,hb5⟩
      have HB5:=Lib.hid hb5
      clear c0 c1 c2 c3 c4 c5 hb5
      obtain ⟨c0,c1,c2,c3,c4,c5⟩:=bx _ HB5.out
      have k0:=k0 _ HB5.out
      obtain ⟨y0,y1,y2,y3,y4,y5,y6⟩:=k0
      obtain ⟨V,hV⟩:∃ u,Hid (u = w5.alloc (.cells #[.int .i64 x0,.int .i64 x1,.int .i64 x2,.int .i64 x3,.int .i64 x4,.int .i64 x5,.int .u32 x6] 91)):=⟨_,rfl⟩
      have hbV:Below w5.heap.size w5 V:=by rw [hV.out];exact (Below.refl _ _).alloc (Nat.le_refl _) _
      have hxV:V.heap[w5.heap.size]? = some (.cells #[.int .i64 x0,.int .i64 x1,.int .i64 x2,.int .i64 x3,.int .i64 x4,.int .i64 x5,.int .u32 x6] 91 (0,0)):=by rw [hV.out];exact heap_alloc_new _ _
      have HV:=Lib.hid (HB5.out.trans (hbV.mono HB5.out.size))
      have v1:V.cell? ⟨w5.heap.size,1,none⟩ = some (.int .i64 x1):=cell_blk hxV rfl
      have v1r:∀ p:Regrown,(grow (redrawn V p.d) p.os).cell? ⟨w5.heap.size,1,none⟩ = some (.int .i64 x1):=fun p => cell_regrown v1 p.d p.os
      have hbq:=Below.refl V.heap.size V
      clear hbV hxV
      go_wp2_with (first | (rw [← hV.out]) | ((first | with_reducible refine wpList_on hbq ?_ | with_reducible refine wp_on hbq (by kernel_rfl) (by kernel_rfl) ?_);(repeat (go_big_quiet_step (fail)));with_reducible refine wpQuiet_nil ?_;intro wc hbq))
      ((try simp only [Exit.inBlock,Exit.then]);refine bodyPost_ret (results_tmp4 rfl _ _ _) rfl ?_)
      exact ⟨by rw [HX.out.1,HX.out.2.1,HX.out.2.2,HQ.out];first | done | rfl,HB.out.trans ((HV.out.trans (hbq.mono HV.out.size)).mono HB.out.size)⟩
    · have hk:port = 2 * (k:Int) + 1:=by omega
      have HX:=Lib.hid (show portK c port = (k:Int) ∧ portP c port = x2 ∧ portS c port = false from by have h:=port_odd HQ.out hk E1.out;exact ⟨h.1,h.2.2,h.2.1⟩)
      have hr0:(port.tmod 2) = 1:=by rw [Int.tmod_eq_emod_of_nonneg (by omega)];omega
      clear hk hev
      go_enter Tryz.func44,Tryz.ntmps44
      go_wp2_with (rw [← HW.out])
      refine (pacc_is c ⟨pa,pc,(some ⟨b,o,none⟩),cc,aa,ac,ba,bc⟩ true W HXW.out wx lx HA.out).mono ?_
      rintro e w5 ⟨rfl,hb5⟩
      have HB5:=Lib.hid hb5
      clear c0 c1 c2 c3 c4 c5 hb5
      obtain ⟨c0,c1,c2,c3,c4,c5⟩:=bx _ HB5.out
      have k0:=k0 _ HB5.out
      obtain ⟨y0,y1,y2,y3,y4,y5,y6⟩:=k0
      obtain ⟨V,hV⟩:∃ u,Hid (u = w5.alloc (.cells #[.int .i64 x0,.int .i64 x1,.int .i64 x2,.int .i64 x3,.int .i64 x4,.int .i64 x5,.int .u32 x6] 91)):=⟨_,rfl⟩
      have hbV:Below w5.heap.size w5 V:=by rw [hV.out];exact (Below.refl _ _).alloc (Nat.le_refl _) _
      have hxV:V.heap[w5.heap.size]? = some (.cells #[.int .i64 x0,.int .i64 x1,.int .i64 x2,.int .i64 x3,.int .i64 x4,.int .i64 x5,.int .u32 x6] 91 (0,0)):=by rw [hV.out];exact heap_alloc_new _ _
      have HV:=Lib.hid (HB5.out.trans (hbV.mono HB5.out.size))
      have v2:V.cell? ⟨w5.heap.size,2,none⟩ = some (.int .i64 x2):=cell_blk hxV rfl
      have v2r:∀ p:Regrown,(grow (redrawn V p.d) p.os).cell? ⟨w5.heap.size,2,none⟩ = some (.int .i64 x2):=fun p => cell_regrown v2 p.d p.os
      have hbq:=Below.refl V.heap.size V
      clear hbV hxV
      go_wp2_with (first | (rw [← hV.out]) | ((first | with_reducible refine wpList_on hbq ?_ | with_reducible refine wp_on hbq (by kernel_rfl) (by kernel_rfl) ?_);(repeat (go_big_quiet_step (fail)));with_reducible refine wpQuiet_nil ?_;intro wc hbq))
      ((try simp only [Exit.inBlock,Exit.then]);refine bodyPost_ret (results_tmp4 rfl _ _ _) rfl ?_)
      exact ⟨by rw [HX.out.1,HX.out.2.1,HX.out.2.2,HQ.out];first | done | rfl,HB.out.trans ((HV.out.trans (hbq.mono HV.out.size)).mono HB.out.size)⟩
theorem pport_is (c:Cfg) (x:CfgAt) (port K P:Int) (S B:Bool) (w:World) (hx:CfgIn w w.heap.size c x) (wx:CfgWf c) (lx:CfgFew c) (hp:(Lit.int .i64 port).wf = true) (h:portK c port = K ∧ portP c port = P ∧ portS c port = S ∧ portB c port = B):Calls Tryz.prog 44 #[.agg (cfgCells c x),.int .i64 port] w fun e w' => e = .returned (.tuple #[.int .i64 K,.int .i64 P,.bool S,.bool B]) ∧ Below w.heap.size w w':=by
  have:=pport_b c x port w hx wx lx hp
  rwa [h.1,h.2.1,h.2.2.1,h.2.2.2] at this
theorem there_blk {W:World} {b:Nat} {cs:Array Value} {ty:TypeId} {n:Nat} (h:W.heap[b]? = some (.cells cs ty (0,0))) (hn:n = cs.size):W.there b 0 n:=fun j hj => by
  subst hn
  refine ⟨?_,by simp [World.frozen?,h]⟩
  rw [Nat.zero_add,cell_blk h (Array.getElem?_eq_getElem hj)];rfl
/-- The block's cells when values have been stored from place o on. -/
def wr (cs:Array Value) (o:Nat):List Value → Array Value
  | [] => cs
  | v :: r => wr (cs.setIfInBounds o v) (o + 1) r
theorem block_set {b:Nat} {ty:TypeId} {m:Nat × Nat}:∀ (vs:List Value) (o:Nat) (X:World) (cs:Array Value),X.heap[b]? = some (.cells cs ty m) → (X.setCells b o vs).heap[b]? = some (.cells (wr cs o vs) ty m)
  | [],_,_,_,h => h
  | v :: r,o,X,cs,h => block_set r (o + 1) _ _ (by simp [World.setCell,Array.getElem?_modify,h])
theorem block_setCells {X:World} {b:Nat} {ty:TypeId} {m:Nat × Nat} {cs cs':Array Value} (h:X.heap[b]? = some (.cells cs ty m)) (vs:List Value) (he:wr cs 0 vs = cs'):(X.setCells b 0 vs).heap[b]? = some (.cells cs' ty m):=by
  rw [← he];exact block_set vs 0 X cs h
theorem below_setCells {w:World} {b:Nat}:∀ (vs:List Value) (o:Nat) (X:World),Below w.heap.size w X → w.heap.size ≤ b → Below w.heap.size w (X.setCells b o vs)
  | [],_,_,h,_ => h
  | v :: r,o,X,h,hb => below_setCells r (o + 1) _ (h.setCell (p:=⟨b,o,none⟩) hb v) hb
theorem results_cell_mid {fn:Func} {p:Tmp} {ty:TypeId} (h:fn.results = #[.cell p ty]) (tmps:Array Value) (w:World) (b:Nat) (cs:List Value) (d:TypeDesc)
    (hp:tmps.getD p undef = .pointer (some ⟨b,0,none⟩)) (hc:w.rangeAt b 0 cs) (hu:Tryz.prog.underlying ty = some d) (hd:d.isRow = true) (hi:(Tryz.prog.info? ty).map (·.size) = some cs.length) :
    (results fn tmps).run Tryz.prog w = .ok (.agg cs.toArray) w:=by
  have hp':tmps[p]?.getD undef = .pointer (some ⟨b,0,none⟩):=by simpa using hp
  simp [results,h,hp',asAddr,run_loadVar_mid w b 0 ty cs d hc hu hd hi]
set_option maxRecDepth 100000 in
set_option maxHeartbeats 8000000 in
theorem ask_b (c:Cfg) (x:CfgAt) (sp:Int) (sn:Bool) (made:List Int) (ma:Option Addr) (mc:Nat) (va:Option Addr) (vn vc:Nat) (op port ad:Int) (da:Option Addr) (dn dc:Nat) (w:World) (hx:CfgIn w w.heap.size c x) (wx:CfgWf c) (lx:CfgFew c) (hs:SIn w made ma) (hp:(Lit.int .i64 port).wf = true) :
    Calls Tryz.prog 64 #[.agg (cfgCells c x),.agg #[.int .i64 sp,.bool sn,.slice ma made.length mc,.slice va vn vc],.agg #[.int .i64 op,.int .i64 port,.int .u64 ad,.slice da dn dc]] w fun e w' => (∃ (pa:Option Addr) (pc:Nat) (ca:Option Addr) (cc:Nat) (aa:Option Addr) (ac:Nat) (ba:Option Addr) (bc:Nat),x = ⟨pa,pc,ca,cc,aa,ac,ba,bc⟩ ∧ ∃ (x0 x1 x2 x3 x4 x5 x6:Int) (S O:Bool),e = .returned (.agg #[.slice pa c.parts.length pc,.slice ca c.chans.length cc,.int .i64 c.len0,.slice aa c.win0.length ac,.int .i64 c.len1,.slice ba c.win1.length bc,.int .i64 sp,.bool sn,.slice ma made.length mc,.slice va vn vc,.int .i64 op,.int .i64 port,.int .u64 ad,.slice da dn dc,.int .i64 x0,.int .i64 x1,.int .i64 x2,.int .i64 x3,.int .i64 x4,.int .i64 x5,.int .u32 x6,.bool S,.bool O]) ∧ O = (portB c port && decide (portP c port = sp)) ∧ (portB c port = true → S = portS c port) ∧ (portB c port = true → x0 = fld (row c.chans (portK c port).toNat) 0 ∧ x3 = fld (row c.chans (portK c port).toNat) 3) ∧ (portB c port = true → x0 = 1 ∨ x0 = 2)) ∧ Below w.heap.size w w':=by
  obtain ⟨Wc,HWc,hBc,hWs,bx⟩:=one_cbox w c x 29
  obtain ⟨pa,pc,ca,cc,aa,ac,ba,bc⟩:=x
  obtain ⟨Ws,HWs,hBs,hWss,sx⟩:=box_new Wc #[.int .i64 sp,.bool sn,.slice ma made.length mc,.slice va vn vc] 59
  obtain ⟨W,HW,hBq,hWq,qx⟩:=box_new Ws #[.int .i64 op,.int .i64 port,.int .u64 ad,.slice da dn dc] 39
  have hcW:=hx.later (hBc.trans ((hBs.trans (hBq.mono hBs.size)).mono hBc.size))
  have hsW:=hs.later (hBc.trans ((hBs.trans (hBq.mono hBs.size)).mono hBc.size))
  have HB:=Lib.hid (hBc.trans ((hBs.trans (hBq.mono hBs.size)).mono hBc.size))
  have BX:∀ w',Below W.heap.size W w' → Below Wc.heap.size Wc w':=fun w' h => (hBs.trans (hBq.mono hBs.size)).trans (h.mono (Nat.le_trans hBs.size hBq.size))
  have SX:∀ w',Below W.heap.size W w' → Below Ws.heap.size Ws w':=fun w' h => hBq.trans (h.mono hBq.size)
  obtain ⟨sb,hsb⟩:∃ n,n = Wc.heap.size:=⟨_,rfl⟩
  obtain ⟨qb,hqb⟩:∃ n,n = Ws.heap.size:=⟨_,rfl⟩
  rw [← hsb] at sx
  rw [← hqb] at qx
  have HSB:=Lib.hid hsb;have HQB:=Lib.hid hqb
  simp only [cfgCells] at HWc ⊢
  clear hBc hWs hBs hWss hBq hWq hx hs hsb hqb
  have hl:=lx.2.1
  obtain ⟨c0,c1,c2,c3,c4,c5⟩:=bx _ (BX _ (Below.refl _ _))
  have s0:W.cell? ⟨sb,0,none⟩ = some (.int .i64 sp):=cell_blk (sx _ (SX _ (Below.refl _ _))) rfl
  have s1:W.cell? ⟨sb,1,none⟩ = some (.bool sn):=cell_blk (sx _ (SX _ (Below.refl _ _))) rfl
  have s2:W.cell? ⟨sb,2,none⟩ = some (.slice ma made.length mc):=cell_blk (sx _ (SX _ (Below.refl _ _))) rfl
  have s3:W.cell? ⟨sb,3,none⟩ = some (.slice va vn vc):=cell_blk (sx _ (SX _ (Below.refl _ _))) rfl
  have q0:W.cell? ⟨qb,0,none⟩ = some (.int .i64 op):=cell_blk (qx _ (Below.refl _ _)) rfl
  have q1:W.cell? ⟨qb,1,none⟩ = some (.int .i64 port):=cell_blk (qx _ (Below.refl _ _)) rfl
  have q2:W.cell? ⟨qb,2,none⟩ = some (.int .u64 ad):=cell_blk (qx _ (Below.refl _ _)) rfl
  have q3:W.cell? ⟨qb,3,none⟩ = some (.slice da dn dc):=cell_blk (qx _ (Below.refl _ _)) rfl
  have HCW:=Lib.hid hcW
  clear hcW hsW
  obtain ⟨ab,hab⟩:∃ n,n = W.heap.size:=⟨_,rfl⟩
  obtain ⟨W0,HW0⟩:∃ u,Hid (u = W.alloc (.cells #[.slice none 0 0,.slice none 0 0,.int .i64 0,.slice none 0 0,.int .i64 0,.slice none 0 0,.int .i64 0,.bool false,.slice none 0 0,.slice none 0 0,.int .i64 0,.int .i64 0,.int .u64 0,.slice none 0 0,.int .i64 0,.int .i64 0,.int .i64 0,.int .i64 0,.int .i64 0,.int .i64 0,.int .u32 0,.bool false,.bool false] 146)):=⟨_,rfl⟩
  have hbW0:Below W.heap.size W W0:=by rw [HW0.out];exact (Below.refl _ _).alloc (Nat.le_refl _) _
  have hsW0:W0.heap.size = ab + 1:=by rw [HW0.out,hab];simp
  obtain ⟨W1,HW1⟩:∃ u,Hid (u = W0.alloc (.cells #[.slice none 0 0,.slice none 0 0,.int .i64 0,.slice none 0 0,.int .i64 0,.slice none 0 0,.int .i64 0,.bool false,.slice none 0 0,.slice none 0 0,.int .i64 0,.int .i64 0,.int .u64 0,.slice none 0 0,.int .i64 0,.int .i64 0,.int .i64 0,.int .i64 0,.int .i64 0,.int .i64 0,.int .u32 0,.bool false,.bool false] 146)):=⟨_,rfl⟩
  have hy0:W1.heap[ab]? = some (.cells #[.slice none 0 0,.slice none 0 0,.int .i64 0,.slice none 0 0,.int .i64 0,.slice none 0 0,.int .i64 0,.bool false,.slice none 0 0,.slice none 0 0,.int .i64 0,.int .i64 0,.int .u64 0,.slice none 0 0,.int .i64 0,.int .i64 0,.int .i64 0,.int .i64 0,.int .i64 0,.int .i64 0,.int .u32 0,.bool false,.bool false] 146 (0,0)):=by rw [HW1.out];rw [Below.heap_alloc _ _ _ (by omega),HW0.out];exact heap_new_at10 _ _ hab
  have hy1:W1.heap[ab + 1]? = some (.cells #[.slice none 0 0,.slice none 0 0,.int .i64 0,.slice none 0 0,.int .i64 0,.slice none 0 0,.int .i64 0,.bool false,.slice none 0 0,.slice none 0 0,.int .i64 0,.int .i64 0,.int .u64 0,.slice none 0 0,.int .i64 0,.int .i64 0,.int .i64 0,.int .i64 0,.int .i64 0,.int .i64 0,.int .u32 0,.bool false,.bool false] 146 (0,0)):=by rw [HW1.out];exact heap_new_at10 _ _ hsW0.symm
  have hbY1:Below W.heap.size W W1:=by rw [HW1.out];exact hbW0.alloc hbW0.size _
  have hszh:(Tryz.prog.info? 146).map (·.size) = some (#[.slice pa c.parts.length pc,.slice ca c.chans.length cc,.int .i64 c.len0,.slice aa c.win0.length ac,.int .i64 c.len1,.slice ba c.win1.length bc,.int .i64 sp,.bool sn,.slice ma made.length mc,.slice va vn vc,.int .i64 op,.int .i64 port,.int .u64 ad,.slice da dn dc,.int .i64 0,.int .i64 0,.int .i64 0,.int .i64 0,.int .i64 0,.int .i64 0,.int .u32 0,.bool false,.bool false]:Array Value).size:=asked_size
  have hth1:=there_blk hy1 (n:=(#[.slice pa c.parts.length pc,.slice ca c.chans.length cc,.int .i64 c.len0,.slice aa c.win0.length ac,.int .i64 c.len1,.slice ba c.win1.length bc,.int .i64 sp,.bool sn,.slice ma made.length mc,.slice va vn vc,.int .i64 op,.int .i64 port,.int .u64 ad,.slice da dn dc,.int .i64 0,.int .i64 0,.int .i64 0,.int .i64 0,.int .i64 0,.int .i64 0,.int .u32 0,.bool false,.bool false]:Array Value).size) rfl
  obtain ⟨W2,HW2⟩:∃ u,Hid (u = W1.setCells (ab + 1) 0 (#[.slice pa c.parts.length pc,.slice ca c.chans.length cc,.int .i64 c.len0,.slice aa c.win0.length ac,.int .i64 c.len1,.slice ba c.win1.length bc,.int .i64 sp,.bool sn,.slice ma made.length mc,.slice va vn vc,.int .i64 op,.int .i64 port,.int .u64 ad,.slice da dn dc,.int .i64 0,.int .i64 0,.int .i64 0,.int .i64 0,.int .i64 0,.int .i64 0,.int .u32 0,.bool false,.bool false]:Array Value).toList):=⟨_,rfl⟩
  have hz0:W2.heap[ab]? = some (.cells #[.slice none 0 0,.slice none 0 0,.int .i64 0,.slice none 0 0,.int .i64 0,.slice none 0 0,.int .i64 0,.bool false,.slice none 0 0,.slice none 0 0,.int .i64 0,.int .i64 0,.int .u64 0,.slice none 0 0,.int .i64 0,.int .i64 0,.int .i64 0,.int .i64 0,.int .i64 0,.int .i64 0,.int .u32 0,.bool false,.bool false] 146 (0,0)):=by rw [HW2.out,World.heap_setCells_other _ _ _ _ ((Array.getElem?_eq_some_iff.1 hy0).1) (by omega)];exact hy0
  have hz1:W2.heap[ab + 1]? = some (.cells #[.slice pa c.parts.length pc,.slice ca c.chans.length cc,.int .i64 c.len0,.slice aa c.win0.length ac,.int .i64 c.len1,.slice ba c.win1.length bc,.int .i64 sp,.bool sn,.slice ma made.length mc,.slice va vn vc,.int .i64 op,.int .i64 port,.int .u64 ad,.slice da dn dc,.int .i64 0,.int .i64 0,.int .i64 0,.int .i64 0,.int .i64 0,.int .i64 0,.int .u32 0,.bool false,.bool false] 146 (0,0)):=by rw [HW2.out];exact block_setCells (cs':=#[.slice pa c.parts.length pc,.slice ca c.chans.length cc,.int .i64 c.len0,.slice aa c.win0.length ac,.int .i64 c.len1,.slice ba c.win1.length bc,.int .i64 sp,.bool sn,.slice ma made.length mc,.slice va vn vc,.int .i64 op,.int .i64 port,.int .u64 ad,.slice da dn dc,.int .i64 0,.int .i64 0,.int .i64 0,.int .i64 0,.int .i64 0,.int .i64 0,.int .u32 0,.bool false,.bool false]) hy1 _ (by kernel_rfl)
  have hbW1:Below W.heap.size W W2:=by rw [HW2.out];exact below_setCells _ _ _ hbY1 (by omega)
  have HB0:=Lib.hid hbW0;have HS0:=Lib.hid hsW0
  have HAB:=Lib.hid hab
  have HZ0:=Lib.hid hz0;have HZ1:=Lib.hid hz1;have HB1:=Lib.hid hbW1
  have HC1:=Lib.hid (HCW.out.later hbW1)
  have hC:=pport_b c ⟨pa,pc,ca,cc,aa,ac,ba,bc⟩ port W2 HC1.out wx lx hp
  obtain ⟨K,hK⟩:∃ K,portK c port = K:=⟨_,rfl⟩
  obtain ⟨P,hP⟩:∃ P,portP c port = P:=⟨_,rfl⟩
  obtain ⟨S,hS⟩:∃ S,portS c port = S:=⟨_,rfl⟩
  obtain ⟨B,hBB⟩:∃ B,portB c port = B:=⟨_,rfl⟩
  rw [hK,hP,hS,hBB] at hC
  have HPC:=Lib.hid hC
  have HK:=Lib.hid hK;have HP:=Lib.hid hP;have HS:=Lib.hid hS;have HQ:=Lib.hid hBB
  simp only [cfgCells] at HPC
  clear hC hK hP hS hBB hab hz0 hz1 hbW1 hbW0 hsW0 hy0 hy1 hbY1
  obtain ⟨c0z,c1z,c2z,c3z,c4z,c5z⟩:=bx _ (BX _ HB0.out)
  have s0z:W0.cell? ⟨sb,0,none⟩ = some (.int .i64 sp):=cell_blk (sx _ (SX _ HB0.out)) rfl
  have s1z:W0.cell? ⟨sb,1,none⟩ = some (.bool sn):=cell_blk (sx _ (SX _ HB0.out)) rfl
  have s2z:W0.cell? ⟨sb,2,none⟩ = some (.slice ma made.length mc):=cell_blk (sx _ (SX _ HB0.out)) rfl
  have s3z:W0.cell? ⟨sb,3,none⟩ = some (.slice va vn vc):=cell_blk (sx _ (SX _ HB0.out)) rfl
  have q0z:W0.cell? ⟨qb,0,none⟩ = some (.int .i64 op):=cell_blk (qx _ HB0.out) rfl
  have q1z:W0.cell? ⟨qb,1,none⟩ = some (.int .i64 port):=cell_blk (qx _ HB0.out) rfl
  have q2z:W0.cell? ⟨qb,2,none⟩ = some (.int .u64 ad):=cell_blk (qx _ HB0.out) rfl
  have q3z:W0.cell? ⟨qb,3,none⟩ = some (.slice da dn dc):=cell_blk (qx _ HB0.out) rfl
  obtain ⟨c0w,c1w,c2w,c3w,c4w,c5w⟩:=bx _ (BX _ HB1.out)
  have s0w:W2.cell? ⟨sb,0,none⟩ = some (.int .i64 sp):=cell_blk (sx _ (SX _ HB1.out)) rfl
  have s1w:W2.cell? ⟨sb,1,none⟩ = some (.bool sn):=cell_blk (sx _ (SX _ HB1.out)) rfl
  have s2w:W2.cell? ⟨sb,2,none⟩ = some (.slice ma made.length mc):=cell_blk (sx _ (SX _ HB1.out)) rfl
  have s3w:W2.cell? ⟨sb,3,none⟩ = some (.slice va vn vc):=cell_blk (sx _ (SX _ HB1.out)) rfl
  have q0w:W2.cell? ⟨qb,0,none⟩ = some (.int .i64 op):=cell_blk (qx _ HB1.out) rfl
  have q1w:W2.cell? ⟨qb,1,none⟩ = some (.int .i64 port):=cell_blk (qx _ HB1.out) rfl
  have q2w:W2.cell? ⟨qb,2,none⟩ = some (.int .u64 ad):=cell_blk (qx _ HB1.out) rfl
  have q3w:W2.cell? ⟨qb,3,none⟩ = some (.slice da dn dc):=cell_blk (qx _ HB1.out) rfl
  go_enter Tryz.func64,Tryz.ntmps64
  go_wp2_with (first | (rw [← HWc.out]) | (simp only [← HSB.out];rw [← HWs.out]) | (simp only [← HQB.out];rw [← HW.out]) | (simp only [← HAB.out];rw [← HW0.out]) | (rw [← HW1.out];simp only [HS0.out]) | (with_reducible refine wpList_store_mid (by kernel_rfl) _ _ _ rfl (ab + 1) 0 #[.slice pa c.parts.length pc,.slice ca c.chans.length cc,.int .i64 c.len0,.slice aa c.win0.length ac,.int .i64 c.len1,.slice ba c.win1.length bc,.int .i64 sp,.bool sn,.slice ma made.length mc,.slice va vn vc,.int .i64 op,.int .i64 port,.int .u64 ad,.slice da dn dc,.int .i64 0,.int .i64 0,.int .i64 0,.int .i64 0,.int .i64 0,.int .i64 0,.int .u32 0,.bool false,.bool false] (by kernel_rfl) (by kernel_rfl) hth1 hszh (by kernel_rfl) ?_) | (rw [← HW2.out]))
  refine HPC.out.mono ?_
  rintro e w5 ⟨rfl,hb5⟩
  have H50:=Lib.hid ((hb5.block _ (Array.getElem?_eq_some_iff.1 HZ0.out).1).trans HZ0.out)
  have H51:=Lib.hid ((hb5.block _ (Array.getElem?_eq_some_iff.1 HZ1.out).1).trans HZ1.out)
  have HB5:=Lib.hid (HB1.out.trans (hb5.mono HB1.out.size))
  clear c0 c1 c2 c3 c4 c5 s0 s1 s2 s3 q0 q1 q2 q3
  clear c0w c1w c2w c3w c4w c5w s0w s1w s2w s3w q0w q1w q2w q3w
  clear c0z c1z c2z c3z c4z c5z s0z s1z s2z s3z q0z q1z q2z q3z
  obtain ⟨c0,c1,c2,c3,c4,c5⟩:=bx _ (BX _ HB5.out)
  have s0:w5.cell? ⟨sb,0,none⟩ = some (.int .i64 sp):=cell_blk (sx _ (SX _ HB5.out)) rfl
  have s1:w5.cell? ⟨sb,1,none⟩ = some (.bool sn):=cell_blk (sx _ (SX _ HB5.out)) rfl
  have s2:w5.cell? ⟨sb,2,none⟩ = some (.slice ma made.length mc):=cell_blk (sx _ (SX _ HB5.out)) rfl
  have s3:w5.cell? ⟨sb,3,none⟩ = some (.slice va vn vc):=cell_blk (sx _ (SX _ HB5.out)) rfl
  have q0:w5.cell? ⟨qb,0,none⟩ = some (.int .i64 op):=cell_blk (qx _ HB5.out) rfl
  have q1:w5.cell? ⟨qb,1,none⟩ = some (.int .i64 port):=cell_blk (qx _ HB5.out) rfl
  have q2:w5.cell? ⟨qb,2,none⟩ = some (.int .u64 ad):=cell_blk (qx _ HB5.out) rfl
  have q3:w5.cell? ⟨qb,3,none⟩ = some (.slice da dn dc):=cell_blk (qx _ HB5.out) rfl
  clear hb5
  cases B with
  | false =>
    have HZw5:=H50
    have hx1:=H51.out
    have hx0:=HZw5.out
    have hsz:(Tryz.prog.info? 146).map (·.size) = some (#[.slice pa c.parts.length pc,.slice ca c.chans.length cc,.int .i64 c.len0,.slice aa c.win0.length ac,.int .i64 c.len1,.slice ba c.win1.length bc,.int .i64 sp,.bool sn,.slice ma made.length mc,.slice va vn vc,.int .i64 op,.int .i64 port,.int .u64 ad,.slice da dn dc,.int .i64 0,.int .i64 0,.int .i64 0,.int .i64 0,.int .i64 0,.int .i64 0,.int .u32 0,.bool false,.bool false]:Array Value).size:=asked_size
    have hth:=there_blk hx0 (n:=(#[.slice pa c.parts.length pc,.slice ca c.chans.length cc,.int .i64 c.len0,.slice aa c.win0.length ac,.int .i64 c.len1,.slice ba c.win1.length bc,.int .i64 sp,.bool sn,.slice ma made.length mc,.slice va vn vc,.int .i64 op,.int .i64 port,.int .u64 ad,.slice da dn dc,.int .i64 0,.int .i64 0,.int .i64 0,.int .i64 0,.int .i64 0,.int .i64 0,.int .u32 0,.bool false,.bool false]:Array Value).size) rfl

    go_wp2_with (first | (with_reducible refine wpList_loadG (by kernel_rfl) 146 _ rfl _ (by kernel_rfl) _ _ _ _ hx1 Tryz.underlying146 (by kernel_rfl) hsz ?_) | (with_reducible refine wpList_store_mid (by kernel_rfl) _ _ _ rfl ab 0 #[.slice pa c.parts.length pc,.slice ca c.chans.length cc,.int .i64 c.len0,.slice aa c.win0.length ac,.int .i64 c.len1,.slice ba c.win1.length bc,.int .i64 sp,.bool sn,.slice ma made.length mc,.slice va vn vc,.int .i64 op,.int .i64 port,.int .u64 ad,.slice da dn dc,.int .i64 0,.int .i64 0,.int .i64 0,.int .i64 0,.int .i64 0,.int .i64 0,.int .u32 0,.bool false,.bool false] (by kernel_rfl) (by kernel_rfl) hth hsz (by kernel_rfl) ?_))
    have hrg:=World.rangeAt_setCells_same w5 ab 0 (#[.slice pa c.parts.length pc,.slice ca c.chans.length cc,.int .i64 c.len0,.slice aa c.win0.length ac,.int .i64 c.len1,.slice ba c.win1.length bc,.int .i64 sp,.bool sn,.slice ma made.length mc,.slice va vn vc,.int .i64 op,.int .i64 port,.int .u64 ad,.slice da dn dc,.int .i64 0,.int .i64 0,.int .i64 0,.int .i64 0,.int .i64 0,.int .i64 0,.int .u32 0,.bool false,.bool false]:Array Value).toList (by simpa using hth)
    (try simp only [Exit.inBlock,Exit.then])
    refine bodyPost_ret (results_cell_mid rfl _ _ ab (#[.slice pa c.parts.length pc,.slice ca c.chans.length cc,.int .i64 c.len0,.slice aa c.win0.length ac,.int .i64 c.len1,.slice ba c.win1.length bc,.int .i64 sp,.bool sn,.slice ma made.length mc,.slice va vn vc,.int .i64 op,.int .i64 port,.int .u64 ad,.slice da dn dc,.int .i64 0,.int .i64 0,.int .i64 0,.int .i64 0,.int .i64 0,.int .i64 0,.int .u32 0,.bool false,.bool false]:Array Value).toList _ rfl hrg Tryz.underlying146 rfl asked_size) rfl ?_
    exact ⟨⟨pa,pc,ca,cc,aa,ac,ba,bc,rfl,0,0,0,0,0,0,0,false,false,rfl,(by rw [HQ.out];rfl),(fun h => by rw [HQ.out] at h;cases h),(fun h => by rw [HQ.out] at h;cases h),(fun h => by rw [HQ.out] at h;cases h)⟩,HB.out.trans ((below_setCells _ _ _ HB5.out (by have:=HAB.out;omega)).mono HB.out.size)⟩
  | true =>
  obtain ⟨k,hk,hkK⟩:=portK_of HQ.out
  have hKk:K = (k:Int):=HK.out.symm.trans hkK
  have HKk:=Lib.hid hkK
  subst hKk
  obtain ⟨b,o,x0,x1,x2,x3,x4,x5,x6,e0,_,e1,_,k0⟩:=HCW.out.rc.at7 wx.wc hk
  cases e0
  have E1:=Lib.hid e1
  have hac:=(accd_of (port_of HQ.out).1).chan k hk
  rw [row_at e1] at hac
  have hkind:x0 = 1 ∨ x0 = 2:=hac.1
  have k1:=k0 _ HB5.out
  obtain ⟨y0,y1,y2,y3,y4,y5,y6⟩:=k1
  have g1:(0:Int) ≤ (k:Int):=by omega
  have g2:(k:Int) < (c.chans.length:Int):=by omega
  clear k0 e1 hac hkK hk
  go_wp2_with fail
  by_cases hps:P = sp
  · have hpe:(P == sp) = true:=by simp [hps]
    obtain ⟨V0,hV0⟩:∃ u,Hid (u = (((((((((w5.setCell ⟨ab + 1,14,none⟩ (.int .i64 x0)).setCell ⟨ab + 1,15,none⟩ (.int .i64 x1)).setCell ⟨ab + 1,16,none⟩ (.int .i64 x2)).setCell ⟨ab + 1,17,none⟩ (.int .i64 x3)).setCell ⟨ab + 1,18,none⟩ (.int .i64 x4)).setCell ⟨ab + 1,19,none⟩ (.int .i64 x5)).setCell ⟨ab + 1,20,none⟩ (.int .u32 x6)).setCell ⟨ab + 1,21,none⟩ (.bool S)).setCell ⟨ab + 1,22,none⟩ (.bool true))):=⟨_,rfl⟩
    obtain ⟨V,hV⟩:∃ u,Hid (u = V0.drew):=⟨_,rfl⟩
    have hxV:V.heap[ab + 1]? = some (.cells #[.slice pa c.parts.length pc,.slice (some ⟨b,o,none⟩) c.chans.length cc,.int .i64 c.len0,.slice aa c.win0.length ac,.int .i64 c.len1,.slice ba c.win1.length bc,.int .i64 sp,.bool sn,.slice ma made.length mc,.slice va vn vc,.int .i64 op,.int .i64 port,.int .u64 ad,.slice da dn dc,.int .i64 x0,.int .i64 x1,.int .i64 x2,.int .i64 x3,.int .i64 x4,.int .i64 x5,.int .u32 x6,.bool S,.bool true] 146 (0,0)):=by rw [hV.out,show V0.drew.heap = V0.heap from rfl,hV0.out];simp [World.setCell,Array.getElem?_modify,H51.out]
    have hzV:V.heap[ab]? = some (.cells #[.slice none 0 0,.slice none 0 0,.int .i64 0,.slice none 0 0,.int .i64 0,.slice none 0 0,.int .i64 0,.bool false,.slice none 0 0,.slice none 0 0,.int .i64 0,.int .i64 0,.int .u64 0,.slice none 0 0,.int .i64 0,.int .i64 0,.int .i64 0,.int .i64 0,.int .i64 0,.int .i64 0,.int .u32 0,.bool false,.bool false] 146 (0,0)):=by rw [hV.out,show V0.drew.heap = V0.heap from rfl,hV0.out];simp [World.setCell,Array.getElem?_modify,H50.out]
    have hb5V:=HB5.out
    have HBV:=Lib.hid (show Below W.heap.size W V by rw [hV.out,hV0.out];exact ((((((((((hb5V.setCell (p:=⟨ab + 1,14,none⟩) (by have:=HAB.out;show W.heap.size ≤ ab + 1;omega) _).setCell (p:=⟨ab + 1,15,none⟩) (by have:=HAB.out;show W.heap.size ≤ ab + 1;omega) _).setCell (p:=⟨ab + 1,16,none⟩) (by have:=HAB.out;show W.heap.size ≤ ab + 1;omega) _).setCell (p:=⟨ab + 1,17,none⟩) (by have:=HAB.out;show W.heap.size ≤ ab + 1;omega) _).setCell (p:=⟨ab + 1,18,none⟩) (by have:=HAB.out;show W.heap.size ≤ ab + 1;omega) _).setCell (p:=⟨ab + 1,19,none⟩) (by have:=HAB.out;show W.heap.size ≤ ab + 1;omega) _).setCell (p:=⟨ab + 1,20,none⟩) (by have:=HAB.out;show W.heap.size ≤ ab + 1;omega) _).setCell (p:=⟨ab + 1,21,none⟩) (by have:=HAB.out;show W.heap.size ≤ ab + 1;omega) _).setCell (p:=⟨ab + 1,22,none⟩) (by have:=HAB.out;show W.heap.size ≤ ab + 1;omega) _)).drew)
    have HXV:=Lib.hid hxV;have HZV:=Lib.hid hzV
    have z14:w5.cell? ⟨ab + 1,14,none⟩ = some (.int .i64 0):=cell_blk H51.out rfl
    have z15:w5.cell? ⟨ab + 1,15,none⟩ = some (.int .i64 0):=cell_blk H51.out rfl
    have z16:w5.cell? ⟨ab + 1,16,none⟩ = some (.int .i64 0):=cell_blk H51.out rfl
    have z17:w5.cell? ⟨ab + 1,17,none⟩ = some (.int .i64 0):=cell_blk H51.out rfl
    have z18:w5.cell? ⟨ab + 1,18,none⟩ = some (.int .i64 0):=cell_blk H51.out rfl
    have z19:w5.cell? ⟨ab + 1,19,none⟩ = some (.int .i64 0):=cell_blk H51.out rfl
    have z20:w5.cell? ⟨ab + 1,20,none⟩ = some (.int .u32 0):=cell_blk H51.out rfl
    have z21:w5.cell? ⟨ab + 1,21,none⟩ = some (.bool false):=cell_blk H51.out rfl
    have z22:w5.cell? ⟨ab + 1,22,none⟩ = some (.bool false):=cell_blk H51.out rfl
    have f14:w5.frozen? ⟨ab + 1,14,none⟩ = false:=by simp [World.frozen?,H51.out]
    have f15:w5.frozen? ⟨ab + 1,15,none⟩ = false:=by simp [World.frozen?,H51.out]
    have f16:w5.frozen? ⟨ab + 1,16,none⟩ = false:=by simp [World.frozen?,H51.out]
    have f17:w5.frozen? ⟨ab + 1,17,none⟩ = false:=by simp [World.frozen?,H51.out]
    have f18:w5.frozen? ⟨ab + 1,18,none⟩ = false:=by simp [World.frozen?,H51.out]
    have f19:w5.frozen? ⟨ab + 1,19,none⟩ = false:=by simp [World.frozen?,H51.out]
    have f20:w5.frozen? ⟨ab + 1,20,none⟩ = false:=by simp [World.frozen?,H51.out]
    have f21:w5.frozen? ⟨ab + 1,21,none⟩ = false:=by simp [World.frozen?,H51.out]
    have f22:w5.frozen? ⟨ab + 1,22,none⟩ = false:=by simp [World.frozen?,H51.out]
    clear hxV hzV hb5V
    have hx1:=HXV.out
    have hx0:=HZV.out
    have hsz:(Tryz.prog.info? 146).map (·.size) = some (#[.slice pa c.parts.length pc,.slice (some ⟨b,o,none⟩) c.chans.length cc,.int .i64 c.len0,.slice aa c.win0.length ac,.int .i64 c.len1,.slice ba c.win1.length bc,.int .i64 sp,.bool sn,.slice ma made.length mc,.slice va vn vc,.int .i64 op,.int .i64 port,.int .u64 ad,.slice da dn dc,.int .i64 x0,.int .i64 x1,.int .i64 x2,.int .i64 x3,.int .i64 x4,.int .i64 x5,.int .u32 x6,.bool S,.bool true]:Array Value).size:=asked_size
    have hth:=there_blk hx0 (n:=(#[.slice pa c.parts.length pc,.slice (some ⟨b,o,none⟩) c.chans.length cc,.int .i64 c.len0,.slice aa c.win0.length ac,.int .i64 c.len1,.slice ba c.win1.length bc,.int .i64 sp,.bool sn,.slice ma made.length mc,.slice va vn vc,.int .i64 op,.int .i64 port,.int .u64 ad,.slice da dn dc,.int .i64 x0,.int .i64 x1,.int .i64 x2,.int .i64 x3,.int .i64 x4,.int .i64 x5,.int .u32 x6,.bool S,.bool true]:Array Value).size) rfl
    go_region
    go_wp2_with (first | (rw [← hV0.out]) | (rw [← hV.out]) | (with_reducible refine wpList_loadG (by kernel_rfl) 146 _ rfl _ (by kernel_rfl) _ _ _ _ hx1 Tryz.underlying146 (by kernel_rfl) hsz ?_) | (with_reducible refine wpList_store_mid (by kernel_rfl) _ _ _ rfl ab 0 #[.slice pa c.parts.length pc,.slice (some ⟨b,o,none⟩) c.chans.length cc,.int .i64 c.len0,.slice aa c.win0.length ac,.int .i64 c.len1,.slice ba c.win1.length bc,.int .i64 sp,.bool sn,.slice ma made.length mc,.slice va vn vc,.int .i64 op,.int .i64 port,.int .u64 ad,.slice da dn dc,.int .i64 x0,.int .i64 x1,.int .i64 x2,.int .i64 x3,.int .i64 x4,.int .i64 x5,.int .u32 x6,.bool S,.bool true] (by kernel_rfl) (by kernel_rfl) hth hsz (by kernel_rfl) ?_))
    have hrg:=World.rangeAt_setCells_same V ab 0 (#[.slice pa c.parts.length pc,.slice (some ⟨b,o,none⟩) c.chans.length cc,.int .i64 c.len0,.slice aa c.win0.length ac,.int .i64 c.len1,.slice ba c.win1.length bc,.int .i64 sp,.bool sn,.slice ma made.length mc,.slice va vn vc,.int .i64 op,.int .i64 port,.int .u64 ad,.slice da dn dc,.int .i64 x0,.int .i64 x1,.int .i64 x2,.int .i64 x3,.int .i64 x4,.int .i64 x5,.int .u32 x6,.bool S,.bool true]:Array Value).toList (by simpa using hth)
    (try simp only [Exit.inBlock,Exit.then])
    refine bodyPost_ret (results_cell_mid rfl _ _ ab (#[.slice pa c.parts.length pc,.slice (some ⟨b,o,none⟩) c.chans.length cc,.int .i64 c.len0,.slice aa c.win0.length ac,.int .i64 c.len1,.slice ba c.win1.length bc,.int .i64 sp,.bool sn,.slice ma made.length mc,.slice va vn vc,.int .i64 op,.int .i64 port,.int .u64 ad,.slice da dn dc,.int .i64 x0,.int .i64 x1,.int .i64 x2,.int .i64 x3,.int .i64 x4,.int .i64 x5,.int .u32 x6,.bool S,.bool true]:Array Value).toList _ rfl hrg Tryz.underlying146 rfl asked_size) rfl ?_
    exact ⟨⟨pa,pc,some ⟨b,o,none⟩,cc,aa,ac,ba,bc,rfl,x0,x1,x2,x3,x4,x5,x6,S,true,rfl,(by rw [HQ.out,HP.out,decide_eq_true hps];rfl),(fun _ => HS.out.symm),(fun _ => by rw [HKk.out,Int.toNat_natCast,row_at E1.out];exact ⟨rfl,rfl⟩),(fun _ => hkind)⟩,HB.out.trans ((below_setCells _ _ _ HBV.out (by have:=HAB.out;omega)).mono HB.out.size)⟩
  · have hpe:(P == sp) = false:=by simp [hps]
    obtain ⟨V0,hV0⟩:∃ u,Hid (u = (((((((((w5.setCell ⟨ab + 1,14,none⟩ (.int .i64 x0)).setCell ⟨ab + 1,15,none⟩ (.int .i64 x1)).setCell ⟨ab + 1,16,none⟩ (.int .i64 x2)).setCell ⟨ab + 1,17,none⟩ (.int .i64 x3)).setCell ⟨ab + 1,18,none⟩ (.int .i64 x4)).setCell ⟨ab + 1,19,none⟩ (.int .i64 x5)).setCell ⟨ab + 1,20,none⟩ (.int .u32 x6)).setCell ⟨ab + 1,21,none⟩ (.bool S)).setCell ⟨ab + 1,22,none⟩ (.bool false))):=⟨_,rfl⟩
    obtain ⟨V,hV⟩:∃ u,Hid (u = V0.drew):=⟨_,rfl⟩
    have hxV:V.heap[ab + 1]? = some (.cells #[.slice pa c.parts.length pc,.slice (some ⟨b,o,none⟩) c.chans.length cc,.int .i64 c.len0,.slice aa c.win0.length ac,.int .i64 c.len1,.slice ba c.win1.length bc,.int .i64 sp,.bool sn,.slice ma made.length mc,.slice va vn vc,.int .i64 op,.int .i64 port,.int .u64 ad,.slice da dn dc,.int .i64 x0,.int .i64 x1,.int .i64 x2,.int .i64 x3,.int .i64 x4,.int .i64 x5,.int .u32 x6,.bool S,.bool false] 146 (0,0)):=by rw [hV.out,show V0.drew.heap = V0.heap from rfl,hV0.out];simp [World.setCell,Array.getElem?_modify,H51.out]
    have hzV:V.heap[ab]? = some (.cells #[.slice none 0 0,.slice none 0 0,.int .i64 0,.slice none 0 0,.int .i64 0,.slice none 0 0,.int .i64 0,.bool false,.slice none 0 0,.slice none 0 0,.int .i64 0,.int .i64 0,.int .u64 0,.slice none 0 0,.int .i64 0,.int .i64 0,.int .i64 0,.int .i64 0,.int .i64 0,.int .i64 0,.int .u32 0,.bool false,.bool false] 146 (0,0)):=by rw [hV.out,show V0.drew.heap = V0.heap from rfl,hV0.out];simp [World.setCell,Array.getElem?_modify,H50.out]
    have hb5V:=HB5.out
    have HBV:=Lib.hid (show Below W.heap.size W V by rw [hV.out,hV0.out];exact ((((((((((hb5V.setCell (p:=⟨ab + 1,14,none⟩) (by have:=HAB.out;show W.heap.size ≤ ab + 1;omega) _).setCell (p:=⟨ab + 1,15,none⟩) (by have:=HAB.out;show W.heap.size ≤ ab + 1;omega) _).setCell (p:=⟨ab + 1,16,none⟩) (by have:=HAB.out;show W.heap.size ≤ ab + 1;omega) _).setCell (p:=⟨ab + 1,17,none⟩) (by have:=HAB.out;show W.heap.size ≤ ab + 1;omega) _).setCell (p:=⟨ab + 1,18,none⟩) (by have:=HAB.out;show W.heap.size ≤ ab + 1;omega) _).setCell (p:=⟨ab + 1,19,none⟩) (by have:=HAB.out;show W.heap.size ≤ ab + 1;omega) _).setCell (p:=⟨ab + 1,20,none⟩) (by have:=HAB.out;show W.heap.size ≤ ab + 1;omega) _).setCell (p:=⟨ab + 1,21,none⟩) (by have:=HAB.out;show W.heap.size ≤ ab + 1;omega) _).setCell (p:=⟨ab + 1,22,none⟩) (by have:=HAB.out;show W.heap.size ≤ ab + 1;omega) _)).drew)
    have HXV:=Lib.hid hxV;have HZV:=Lib.hid hzV
    have z14:w5.cell? ⟨ab + 1,14,none⟩ = some (.int .i64 0):=cell_blk H51.out rfl
    have z15:w5.cell? ⟨ab + 1,15,none⟩ = some (.int .i64 0):=cell_blk H51.out rfl
    have z16:w5.cell? ⟨ab + 1,16,none⟩ = some (.int .i64 0):=cell_blk H51.out rfl
    have z17:w5.cell? ⟨ab + 1,17,none⟩ = some (.int .i64 0):=cell_blk H51.out rfl
    have z18:w5.cell? ⟨ab + 1,18,none⟩ = some (.int .i64 0):=cell_blk H51.out rfl
    have z19:w5.cell? ⟨ab + 1,19,none⟩ = some (.int .i64 0):=cell_blk H51.out rfl
    have z20:w5.cell? ⟨ab + 1,20,none⟩ = some (.int .u32 0):=cell_blk H51.out rfl
    have z21:w5.cell? ⟨ab + 1,21,none⟩ = some (.bool false):=cell_blk H51.out rfl
    have z22:w5.cell? ⟨ab + 1,22,none⟩ = some (.bool false):=cell_blk H51.out rfl
    have f14:w5.frozen? ⟨ab + 1,14,none⟩ = false:=by simp [World.frozen?,H51.out]
    have f15:w5.frozen? ⟨ab + 1,15,none⟩ = false:=by simp [World.frozen?,H51.out]
    have f16:w5.frozen? ⟨ab + 1,16,none⟩ = false:=by simp [World.frozen?,H51.out]
    have f17:w5.frozen? ⟨ab + 1,17,none⟩ = false:=by simp [World.frozen?,H51.out]
    have f18:w5.frozen? ⟨ab + 1,18,none⟩ = false:=by simp [World.frozen?,H51.out]
    have f19:w5.frozen? ⟨ab + 1,19,none⟩ = false:=by simp [World.frozen?,H51.out]
    have f20:w5.frozen? ⟨ab + 1,20,none⟩ = false:=by simp [World.frozen?,H51.out]
    have f21:w5.frozen? ⟨ab + 1,21,none⟩ = false:=by simp [World.frozen?,H51.out]
    have f22:w5.frozen? ⟨ab + 1,22,none⟩ = false:=by simp [World.frozen?,H51.out]
    clear hxV hzV hb5V
    have hx1:=HXV.out
    have hx0:=HZV.out
    have hsz:(Tryz.prog.info? 146).map (·.size) = some (#[.slice pa c.parts.length pc,.slice (some ⟨b,o,none⟩) c.chans.length cc,.int .i64 c.len0,.slice aa c.win0.length ac,.int .i64 c.len1,.slice ba c.win1.length bc,.int .i64 sp,.bool sn,.slice ma made.length mc,.slice va vn vc,.int .i64 op,.int .i64 port,.int .u64 ad,.slice da dn dc,.int .i64 x0,.int .i64 x1,.int .i64 x2,.int .i64 x3,.int .i64 x4,.int .i64 x5,.int .u32 x6,.bool S,.bool false]:Array Value).size:=asked_size
    have hth:=there_blk hx0 (n:=(#[.slice pa c.parts.length pc,.slice (some ⟨b,o,none⟩) c.chans.length cc,.int .i64 c.len0,.slice aa c.win0.length ac,.int .i64 c.len1,.slice ba c.win1.length bc,.int .i64 sp,.bool sn,.slice ma made.length mc,.slice va vn vc,.int .i64 op,.int .i64 port,.int .u64 ad,.slice da dn dc,.int .i64 x0,.int .i64 x1,.int .i64 x2,.int .i64 x3,.int .i64 x4,.int .i64 x5,.int .u32 x6,.bool S,.bool false]:Array Value).size) rfl
    go_region
    go_wp2_with (first | (rw [← hV0.out]) | (rw [← hV.out]) | (with_reducible refine wpList_loadG (by kernel_rfl) 146 _ rfl _ (by kernel_rfl) _ _ _ _ hx1 Tryz.underlying146 (by kernel_rfl) hsz ?_) | (with_reducible refine wpList_store_mid (by kernel_rfl) _ _ _ rfl ab 0 #[.slice pa c.parts.length pc,.slice (some ⟨b,o,none⟩) c.chans.length cc,.int .i64 c.len0,.slice aa c.win0.length ac,.int .i64 c.len1,.slice ba c.win1.length bc,.int .i64 sp,.bool sn,.slice ma made.length mc,.slice va vn vc,.int .i64 op,.int .i64 port,.int .u64 ad,.slice da dn dc,.int .i64 x0,.int .i64 x1,.int .i64 x2,.int .i64 x3,.int .i64 x4,.int .i64 x5,.int .u32 x6,.bool S,.bool false] (by kernel_rfl) (by kernel_rfl) hth hsz (by kernel_rfl) ?_))
    have hrg:=World.rangeAt_setCells_same V ab 0 (#[.slice pa c.parts.length pc,.slice (some ⟨b,o,none⟩) c.chans.length cc,.int .i64 c.len0,.slice aa c.win0.length ac,.int .i64 c.len1,.slice ba c.win1.length bc,.int .i64 sp,.bool sn,.slice ma made.length mc,.slice va vn vc,.int .i64 op,.int .i64 port,.int .u64 ad,.slice da dn dc,.int .i64 x0,.int .i64 x1,.int .i64 x2,.int .i64 x3,.int .i64 x4,.int .i64 x5,.int .u32 x6,.bool S,.bool false]:Array Value).toList (by simpa using hth)
    (try simp only [Exit.inBlock,Exit.then])
    refine bodyPost_ret (results_cell_mid rfl _ _ ab (#[.slice pa c.parts.length pc,.slice (some ⟨b,o,none⟩) c.chans.length cc,.int .i64 c.len0,.slice aa c.win0.length ac,.int .i64 c.len1,.slice ba c.win1.length bc,.int .i64 sp,.bool sn,.slice ma made.length mc,.slice va vn vc,.int .i64 op,.int .i64 port,.int .u64 ad,.slice da dn dc,.int .i64 x0,.int .i64 x1,.int .i64 x2,.int .i64 x3,.int .i64 x4,.int .i64 x5,.int .u32 x6,.bool S,.bool false]:Array Value).toList _ rfl hrg Tryz.underlying146 rfl asked_size) rfl ?_
    exact ⟨⟨pa,pc,some ⟨b,o,none⟩,cc,aa,ac,ba,bc,rfl,x0,x1,x2,x3,x4,x5,x6,S,false,rfl,(by rw [HQ.out,HP.out,decide_eq_false hps];rfl),(fun _ => HS.out.symm),(fun _ => by rw [HKk.out,Int.toNat_natCast,row_at E1.out];exact ⟨rfl,rfl⟩),(fun _ => hkind)⟩,HB.out.trans ((below_setCells _ _ _ HBV.out (by have:=HAB.out;omega)).mono HB.out.size)⟩
end Go.Proofs.YtheeiklgblcjfaaGreatDoor
namespace Go.Proofs.YtheeiklgblcjfaaGreatDoor
open Go.RowKit Go.Sort Go.ChangeShapes Go.WideShapes
set_option linter.unusedVariables false
set_option linter.unusedSimpArgs false
theorem ofL_len {i:Nat} (h:i < 15):(ofL.getD i []).length ≤ 5:=by
  match i,h with
  | 0,_ => decide
  | 1,_ => decide
  | 2,_ => decide
  | 3,_ => decide
  | 4,_ => decide
  | 5,_ => decide
  | 6,_ => decide
  | 7,_ => decide
  | 8,_ => decide
  | 9,_ => decide
  | 10,_ => decide
  | 11,_ => decide
  | 12,_ => decide
  | 13,_ => decide
  | 14,_ => decide
  | n + 15,h => omega
set_option maxRecDepth 100000 in
set_option maxHeartbeats 8000000 in
theorem prefused_b (c:Cfg) (x:CfgAt) (sp:Int) (sn:Bool) (made:List Int) (ma:Option Addr) (mc:Nat) (va:Option Addr) (vn vc:Nat) (op port ad:Int) (da:Option Addr) (dn dc:Nat) (w:World) (hx:CfgIn w w.heap.size c x) (wx:CfgWf c) (lx:CfgFew c) (hs:SIn w made ma) (hp:(Lit.int .i64 port).wf = true) (had:(Lit.int .u64 ad).wf = true) (hdn:dn ≤ 1000000) (hT:TabsAt w):Calls Tryz.prog 40 #[.agg (cfgCells c x),.agg #[.int .i64 sp,.bool sn,.slice ma made.length mc,.slice va vn vc],.agg #[.int .i64 op,.int .i64 port,.int .u64 ad,.slice da dn dc]] w fun e w' => e = .returned (.int .i64 (refusedN c sp sn made op port ad dn)) ∧ Below w.heap.size w w':=by
  obtain ⟨Wc,HWc,hBc,hWs,bx⟩:=one_cbox w c x 29
  obtain ⟨pa,pc,ca,cc,aa,ac,ba,bc⟩:=x
  obtain ⟨Ws,HWs,hBs,hWss,sx⟩:=box_new Wc #[.int .i64 sp,.bool sn,.slice ma made.length mc,.slice va vn vc] 59
  obtain ⟨W,HW,hBq,hWq,qx⟩:=box_new Ws #[.int .i64 op,.int .i64 port,.int .u64 ad,.slice da dn dc] 39
  have hcW:=hx.later (hBc.trans ((hBs.trans (hBq.mono hBs.size)).mono hBc.size))
  have hsW:=hs.later (hBc.trans ((hBs.trans (hBq.mono hBs.size)).mono hBc.size))
  have HB:=Lib.hid (hBc.trans ((hBs.trans (hBq.mono hBs.size)).mono hBc.size))
  have BX:∀ w',Below W.heap.size W w' → Below Wc.heap.size Wc w':=fun w' h => (hBs.trans (hBq.mono hBs.size)).trans (h.mono (Nat.le_trans hBs.size hBq.size))
  have SX:∀ w',Below W.heap.size W w' → Below Ws.heap.size Ws w':=fun w' h => hBq.trans (h.mono hBq.size)
  obtain ⟨sb,hsb⟩:∃ n,n = Wc.heap.size:=⟨_,rfl⟩
  obtain ⟨qb,hqb⟩:∃ n,n = Ws.heap.size:=⟨_,rfl⟩
  rw [← hsb] at sx
  rw [← hqb] at qx
  have HSB:=Lib.hid hsb;have HQB:=Lib.hid hqb
  simp only [cfgCells] at HWc ⊢
  clear hBc hWs hBs hWss hBq hWq hx hs hsb hqb
  obtain ⟨c0,c1,c2,c3,c4,c5⟩:=bx _ (BX _ (Below.refl _ _))
  have s0:W.cell? ⟨sb,0,none⟩ = some (.int .i64 sp):=cell_blk (sx _ (SX _ (Below.refl _ _))) rfl
  have s1:W.cell? ⟨sb,1,none⟩ = some (.bool sn):=cell_blk (sx _ (SX _ (Below.refl _ _))) rfl
  have s2:W.cell? ⟨sb,2,none⟩ = some (.slice ma made.length mc):=cell_blk (sx _ (SX _ (Below.refl _ _))) rfl
  have s3:W.cell? ⟨sb,3,none⟩ = some (.slice va vn vc):=cell_blk (sx _ (SX _ (Below.refl _ _))) rfl
  have q0:W.cell? ⟨qb,0,none⟩ = some (.int .i64 op):=cell_blk (qx _ (Below.refl _ _)) rfl
  have q1:W.cell? ⟨qb,1,none⟩ = some (.int .i64 port):=cell_blk (qx _ (Below.refl _ _)) rfl
  have q2:W.cell? ⟨qb,2,none⟩ = some (.int .u64 ad):=cell_blk (qx _ (Below.refl _ _)) rfl
  have q3:W.cell? ⟨qb,3,none⟩ = some (.slice da dn dc):=cell_blk (qx _ (Below.refl _ _)) rfl
  have HCW:=Lib.hid hcW;have HSW:=Lib.hid hsW
  have HTW:=Lib.hid (hT.later HB.out)
  have HASK:=Lib.hid (ask_b c ⟨pa,pc,ca,cc,aa,ac,ba,bc⟩ sp sn made ma mc va vn vc op port ad da dn dc W hcW wx lx hsW hp)
  simp only [cfgCells] at HASK
  clear hcW hsW hT
  go_enter Tryz.func40,Tryz.ntmps40
  go_wp2_with (first | (rw [← HWc.out]) | (simp only [← HSB.out];rw [← HWs.out]) | (simp only [← HQB.out];rw [← HW.out]))
  refine HASK.out.mono ?_
  rintro e w5 ⟨⟨pa',pc',ca',cc',aa',ac',ba',bc',hxe,x0,x1,x2,x3,x4,x5,x6,S,O,rfl,hO,hS,hk,h9⟩,hb5⟩
  cases hxe
  have HFI:=Lib.hid (first_is (ad:=ad) (op:=op) (dn:=dn) (sn:=sn) (made:=made) hO hS hk h9)
  clear c0 c1 c2 c3 c4 c5 s0 s1 s2 s3 q0 q1 q2 q3
  obtain ⟨Y1,HY1⟩:∃ u,Hid (u = w5.alloc (.cells #[.slice none 0 0,.slice none 0 0,.int .i64 0,.slice none 0 0,.int .i64 0,.slice none 0 0,.int .i64 0,.bool false,.slice none 0 0,.slice none 0 0,.int .i64 0,.int .i64 0,.int .u64 0,.slice none 0 0,.int .i64 0,.int .i64 0,.int .i64 0,.int .i64 0,.int .i64 0,.int .i64 0,.int .u32 0,.bool false,.bool false] 146)):=⟨_,rfl⟩
  have hy1:Y1.heap[w5.heap.size]? = some (.cells #[.slice none 0 0,.slice none 0 0,.int .i64 0,.slice none 0 0,.int .i64 0,.slice none 0 0,.int .i64 0,.bool false,.slice none 0 0,.slice none 0 0,.int .i64 0,.int .i64 0,.int .u64 0,.slice none 0 0,.int .i64 0,.int .i64 0,.int .i64 0,.int .i64 0,.int .i64 0,.int .i64 0,.int .u32 0,.bool false,.bool false] 146 (0,0)):=by rw [HY1.out];exact heap_new_at10 _ _ rfl
  have hbY1:Below w5.heap.size w5 Y1:=by rw [HY1.out];exact (Below.refl _ _).alloc (Nat.le_refl _) _
  have hszh:(Tryz.prog.info? 146).map (·.size) = some (#[.slice pa c.parts.length pc,.slice ca c.chans.length cc,.int .i64 c.len0,.slice aa c.win0.length ac,.int .i64 c.len1,.slice ba c.win1.length bc,.int .i64 sp,.bool sn,.slice ma made.length mc,.slice va vn vc,.int .i64 op,.int .i64 port,.int .u64 ad,.slice da dn dc,.int .i64 x0,.int .i64 x1,.int .i64 x2,.int .i64 x3,.int .i64 x4,.int .i64 x5,.int .u32 x6,.bool S,.bool O]:Array Value).size:=asked_size
  have hth1:=there_blk hy1 (n:=(#[.slice pa c.parts.length pc,.slice ca c.chans.length cc,.int .i64 c.len0,.slice aa c.win0.length ac,.int .i64 c.len1,.slice ba c.win1.length bc,.int .i64 sp,.bool sn,.slice ma made.length mc,.slice va vn vc,.int .i64 op,.int .i64 port,.int .u64 ad,.slice da dn dc,.int .i64 x0,.int .i64 x1,.int .i64 x2,.int .i64 x3,.int .i64 x4,.int .i64 x5,.int .u32 x6,.bool S,.bool O]:Array Value).size) rfl
  obtain ⟨Y2,HY2⟩:∃ u,Hid (u = Y1.setCells w5.heap.size 0 (#[.slice pa c.parts.length pc,.slice ca c.chans.length cc,.int .i64 c.len0,.slice aa c.win0.length ac,.int .i64 c.len1,.slice ba c.win1.length bc,.int .i64 sp,.bool sn,.slice ma made.length mc,.slice va vn vc,.int .i64 op,.int .i64 port,.int .u64 ad,.slice da dn dc,.int .i64 x0,.int .i64 x1,.int .i64 x2,.int .i64 x3,.int .i64 x4,.int .i64 x5,.int .u32 x6,.bool S,.bool O]:Array Value).toList):=⟨_,rfl⟩
  have hz1:Y2.heap[w5.heap.size]? = some (.cells #[.slice pa c.parts.length pc,.slice ca c.chans.length cc,.int .i64 c.len0,.slice aa c.win0.length ac,.int .i64 c.len1,.slice ba c.win1.length bc,.int .i64 sp,.bool sn,.slice ma made.length mc,.slice va vn vc,.int .i64 op,.int .i64 port,.int .u64 ad,.slice da dn dc,.int .i64 x0,.int .i64 x1,.int .i64 x2,.int .i64 x3,.int .i64 x4,.int .i64 x5,.int .u32 x6,.bool S,.bool O] 146 (0,0)):=by rw [HY2.out];exact block_setCells (cs':=#[.slice pa c.parts.length pc,.slice ca c.chans.length cc,.int .i64 c.len0,.slice aa c.win0.length ac,.int .i64 c.len1,.slice ba c.win1.length bc,.int .i64 sp,.bool sn,.slice ma made.length mc,.slice va vn vc,.int .i64 op,.int .i64 port,.int .u64 ad,.slice da dn dc,.int .i64 x0,.int .i64 x1,.int .i64 x2,.int .i64 x3,.int .i64 x4,.int .i64 x5,.int .u32 x6,.bool S,.bool O]) hy1 _ (by kernel_rfl)
  have hbY2:Below w5.heap.size w5 Y2:=by rw [HY2.out];exact below_setCells _ _ _ hbY1 (Nat.le_refl _)
  have HBY:=Lib.hid (hb5.trans (hbY2.mono hb5.size))
  have HZ1:=Lib.hid hz1
  clear hO hS hk h9 hb5 hy1 hbY1 hz1 hbY2
  go_wp2_with (first | (rw [← HWc.out]) | (simp only [← HSB.out];rw [← HWs.out]) | (simp only [← HQB.out];rw [← HW.out]) | (rw [← HY1.out]) | (with_reducible refine wpList_store_mid (by kernel_rfl) _ _ _ rfl w5.heap.size 0 #[.slice pa c.parts.length pc,.slice ca c.chans.length cc,.int .i64 c.len0,.slice aa c.win0.length ac,.int .i64 c.len1,.slice ba c.win1.length bc,.int .i64 sp,.bool sn,.slice ma made.length mc,.slice va vn vc,.int .i64 op,.int .i64 port,.int .u64 ad,.slice da dn dc,.int .i64 x0,.int .i64 x1,.int .i64 x2,.int .i64 x3,.int .i64 x4,.int .i64 x5,.int .u32 x6,.bool S,.bool O] (by kernel_rfl) (by kernel_rfl) hth1 hszh (by kernel_rfl) ?_) | (rw [← HY2.out]))
  refine (rows10_b Y2).mono ?_
  rintro e w6 ⟨TA,rfl,hTA,htab,hb6⟩
  have HB6:=Lib.hid (HBY.out.trans (hb6.mono HBY.out.size))
  have HZ6:=Lib.hid ((hb6.block _ (Array.getElem?_eq_some_iff.1 HZ1.out).1).trans HZ1.out)
  have HTB:=Lib.hid htab
  clear hTA htab hb6 hszh hth1
  go_wp2
  go_loopw [16] (fun ix wr => ∃ i:Nat,i ≤ 15 ∧ ix = .int .i64 i ∧ (∀ j,j < i → hitA c sp sn made op port ad dn x0 x3 S O j = false) ∧ Below w6.heap.size w6 wr) (fun ix _ => 15 - (intOf ix).toNat)
  case atStart => exact ⟨0,by omega,rfl,(fun j hj => by omega),Below.refl _ _⟩
  case round =>
    obtain ⟨i,hi,rfl,hno,hbc⟩:=hrel
    have HN:=Lib.hid hno
    clear hno
    by_cases hlt:i < 15
    · obtain ⟨A,f,caps,q0',q1',q2',hrow,hF⟩:=HTB.out i hlt
      have hlen:=ofL_len hlt
      have q0':=(hbc.cell (p:=⟨TA,i * 3,none⟩) (World.block_lt_of_cell? w6 _ q0')).trans q0'
      have q1':=(hbc.cell (p:=⟨TA,i * 3 + 1,none⟩) (World.block_lt_of_cell? w6 _ q1')).trans q1'
      have q2':=(hbc.cell (p:=⟨TA,i * 3 + 2,none⟩) (World.block_lt_of_cell? w6 _ q2')).trans q2'
      obtain ⟨l,hl⟩:∃ l,ofL.getD i [] = l:=⟨_,rfl⟩
      obtain ⟨z,hz⟩:∃ z,codeL.getD i 0 = z:=⟨_,rfl⟩
      rw [hl] at q0' hrow hlen
      rw [hz] at q2'
      have hlt':(i:Int) < 15:=by omega
      have hcells:=heap_alloc_new wr (.cells #[.slice A l.length l.length,.func (.func f) #[] caps.toArray,.int .i64 z] 152)
      obtain ⟨wa,hwa⟩:∃ u,Hid (u = wr.alloc (.cells #[.slice A l.length l.length,.func (.func f) #[] caps.toArray,.int .i64 z] 152)):=⟨_,rfl⟩
      rw [← hwa.out] at hcells
      have hba:Below wr.heap.size wr wa:=by rw [hwa.out];exact (Below.refl _ _).alloc (Nat.le_refl _) _
      have a0:=cell_blk hcells (i:=0) rfl
      have a1:=cell_blk hcells (i:=1) rfl
      have a2:=cell_blk hcells (i:=2) rfl
      have hwb:=hbc.trans (hba.mono hbc.size)
      have HWB:=Lib.hid hwb
      have HCL:=Lib.hid hcells
      have HWA:=Lib.hid (HB6.out.trans (hwb.mono HB6.out.size))
      have hrowa:=(hrow.below hwb).more hwb.size
      have q0:wa.cell? ⟨qb,0,none⟩ = some (.int .i64 op):=cell_blk (qx _ HWA.out) rfl
      have HL:=Lib.hid hl;have HZZ:=Lib.hid hz
      obtain ⟨q,hq⟩:∃ q,isB l op = q:=⟨_,rfl⟩
      have HIS:=Lib.hid (isof_is l A l.length (.func (.func f) #[] caps.toArray) z op q wa hrowa (by omega) hq)
      have HQ:=Lib.hid hq
      clear hl hz hcells hba hwb hrow hrowa hq hbc hlen
      cases q with
      | false =>
        go_wp2_with (rw [← hwa.out])
        refine HIS.out.mono ?_
        rintro e w7 ⟨rfl,hb7⟩
        have HB7:=Lib.hid (HWB.out.trans (hb7.mono HWB.out.size))
        clear hb7 a0 a1 a2 q0 q0' q1' q2' hF
        go_wp2
        go_roundw
        case rel => exact ⟨i + 1,by omega,by go_num,(fun j hj => by
          by_cases e:j = i
          · subst e;unfold hitA;rw [HL.out,HQ.out];rfl
          · exact HN.out j (by omega)),HB7.out⟩
        case measure => simp [intOf];omega
      | true =>
        go_wp2_with (rw [← hwa.out])
        refine HIS.out.mono ?_
        rintro e w7 ⟨rfl,hb7⟩
        have hc7:=(hb7.block _ (Array.getElem?_eq_some_iff.1 HCL.out).1).trans HCL.out
        have HB7:=Lib.hid (HWB.out.trans (hb7.mono HWB.out.size))
        have HC7:=Lib.hid hc7
        have H67:=Lib.hid (HB6.out.trans (HB7.out.mono HB6.out.size))
        have hbW:=(HB7.out.block _ (Array.getElem?_eq_some_iff.1 HZ6.out).1).trans HZ6.out
        have hsz:(Tryz.prog.info? 146).map (·.size) = some (#[.slice pa c.parts.length pc,.slice ca c.chans.length cc,.int .i64 c.len0,.slice aa c.win0.length ac,.int .i64 c.len1,.slice ba c.win1.length bc,.int .i64 sp,.bool sn,.slice ma made.length mc,.slice va vn vc,.int .i64 op,.int .i64 port,.int .u64 ad,.slice da dn dc,.int .i64 x0,.int .i64 x1,.int .i64 x2,.int .i64 x3,.int .i64 x4,.int .i64 x5,.int .u32 x6,.bool S,.bool O]:Array Value).size:=asked_size
        have eg:=hF.1
        have hcall:=hF.2 c pa pc ca cc aa ac ba bc sp sn made ma mc va vn vc op port ad da dn dc x0 x1 x2 x3 x4 x5 x6 S O w7 HB7.out (HCW.out.later H67.out) wx lx (HSW.out.later H67.out) hp had hdn (HTW.out.later H67.out)
        clear hb7 a0 a1 a2 q0 q0' q1' q2' hF
        have a1:=cell_blk hc7 (i:=1) rfl
        clear hc7
        cases hh:rowA c sp sn made op port ad dn x0 x3 S O i with
        | true =>
          rw [hh] at hcall
          have hcall:=gives_one hcall
          have HX:=Lib.hid (show refusedN c sp sn made op port ad dn = z by rw [← HFI.out,first_hit hlt HN.out (by unfold hitA;rw [HL.out,HQ.out,hh];rfl),HZZ.out])
          clear hh
          go_wp2_with (first | (with_reducible refine wpList_loadG (by kernel_rfl) 146 _ rfl _ (by kernel_rfl) _ _ _ _ hbW Tryz.underlying146 (by kernel_rfl) hsz ?_) | ((with_reducible refine wpList_fnG (by kernel_rfl) _ _ _ rfl f caps ?_ eg _ ?_ _ hcall ?_);(first | rfl | fail);(first | rfl | fail);rintro _ w8 ⟨rfl,hb8⟩;have a2:=cell_blk ((hb8.block _ (Array.getElem?_eq_some_iff.1 HC7.out).1).trans HC7.out) (i:=2) rfl))
          have H8:=Lib.hid (H67.out.trans (hb8.mono H67.out.size))
          clear hb8 hcall hbW a1
          go_ret
          exact ⟨by rw [HX.out];first | done | rfl,HB.out.trans (H8.out.mono HB.out.size)⟩
        | false =>
          rw [hh] at hcall
          have hcall:=gives_one hcall
          have HH:=Lib.hid hh
          clear hh
          go_wp2_with (first | (with_reducible refine wpList_loadG (by kernel_rfl) 146 _ rfl _ (by kernel_rfl) _ _ _ _ hbW Tryz.underlying146 (by kernel_rfl) hsz ?_) | ((with_reducible refine wpList_fnG (by kernel_rfl) _ _ _ rfl f caps ?_ eg _ ?_ _ hcall ?_);(first | rfl | fail);(first | rfl | fail);rintro _ w8 ⟨rfl,hb8⟩;have a2:=cell_blk ((hb8.block _ (Array.getElem?_eq_some_iff.1 HC7.out).1).trans HC7.out) (i:=2) rfl))
          have H8:=Lib.hid (HB7.out.trans (hb8.mono HB7.out.size))
          clear hb8 hcall hbW a1
          go_wp2
          go_roundw
          case rel => exact ⟨i + 1,by omega,by go_num,(fun j hj => by
            by_cases e:j = i
            · subst e;unfold hitA;rw [HL.out,HQ.out,HH.out];rfl
            · exact HN.out j (by omega)),H8.out⟩
          case measure => simp [intOf];omega
    · have HX:=Lib.hid (show refusedN c sp sn made op port ad dn = 0 by rw [← HFI.out];exact first_none (fun j hj => HN.out j (by omega)))
      have H6E:=Lib.hid (HB6.out.trans (hbc.mono HB6.out.size))
      have hlt':¬ (i:Int) < 15:=by omega
      clear HN HTB hbc
      go_wp2
      go_ret
      exact ⟨by rw [HX.out];first | done | rfl,HB.out.trans (H6E.out.mono HB.out.size)⟩
theorem prefused_is (c:Cfg) (x:CfgAt) (sp:Int) (sn:Bool) (made:List Int) (ma:Option Addr) (mc:Nat) (va:Option Addr) (vn vc:Nat) (op port ad:Int) (da:Option Addr) (dn dc:Nat) (z:Int) (w:World) (hx:CfgIn w w.heap.size c x) (wx:CfgWf c) (lx:CfgFew c) (hs:SIn w made ma) (hp:(Lit.int .i64 port).wf = true) (had:(Lit.int .u64 ad).wf = true) (hdn:dn ≤ 1000000) (hT:TabsAt w) (h:refusedN c sp sn made op port ad dn = z):Calls Tryz.prog 40 #[.agg (cfgCells c x),.agg #[.int .i64 sp,.bool sn,.slice ma made.length mc,.slice va vn vc],.agg #[.int .i64 op,.int .i64 port,.int .u64 ad,.slice da dn dc]] w fun e w' => e = .returned (.int .i64 z) ∧ Below w.heap.size w w':=by subst h;exact prefused_b c x sp sn made ma mc va vn vc op port ad da dn dc w hx wx lx hs hp had hdn hT
end Go.Proofs.YtheeiklgblcjfaaGreatDoor
