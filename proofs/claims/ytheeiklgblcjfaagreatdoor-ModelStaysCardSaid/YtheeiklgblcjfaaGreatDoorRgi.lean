/- Texts of the ring, joined, what is used of them. No condition but those in the statements. -/
import Derived.Test.YtheeiklgblcjfaaGreatDoorProg
import Derived.BigQuiet
import Derived.BigRegion
import Derived.Deep.OwnRows
import Derived.IntWalk
import Derived.Laws.EntriesVeiled
import Derived.LoopIn
import Derived.LoopNIn
import Derived.OwnWalkIn
import Derived.RangeFuncBound
import Derived.RangeFuncBox
import Derived.RangeFuncCalls
import Derived.RangeFuncLeaves
import Derived.RangeFuncNested
import Derived.Shelf.Abstract
import Derived.Shelf.RegionOpen
import Derived.TacticsInMore
import Derived.Test.YtheeiklgblcjfaaGreatDoorRRow147
import Derived.Test.YtheeiklgblcjfaaGreatDoorRSmA
import Derived.Test.YtheeiklgblcjfaaGreatDoorRga
import Derived.Test.YtheeiklgblcjfaaGreatDoorRgb
import Derived.Test.YtheeiklgblcjfaaGreatDoorRgg
import Derived.Test.YtheeiklgblcjfaaGreatDoorRgh
section
namespace Go.Proofs.YtheeiklgblcjfaaGreatDoor
open Go.RowKit Go.Sort Go.Shelf
set_option linter.unusedVariables false
set_option linter.unusedSimpArgs false
/-- The blocks from n0 on that were there stand as they stood. -/
def Later (n0:Nat) (w w':World):Prop:=w.heap.size ≤ w'.heap.size ∧ ∀ b,n0 ≤ b → b < w.heap.size → w'.heap[b]? = w.heap[b]?
theorem Later.of_below {n0:Nat} {w w':World} (h:Below w.heap.size w w'):Later n0 w w':=⟨h.size,fun b _ hb => h.block b hb⟩
theorem Later.refl (n0:Nat) (w:World):Later n0 w w:=⟨Nat.le_refl _,fun _ _ _ => rfl⟩
theorem Later.trans {n0:Nat} {a b c:World} (h:Later n0 a b) (k:Later n0 b c):Later n0 a c:=⟨Nat.le_trans h.1 k.1,fun i h1 h2 => (k.2 i h1 (Nat.lt_of_lt_of_le h2 h.1)).trans (h.2 i h1 h2)⟩
theorem Later.cell {n0:Nat} {w w':World} {b o:Nat} {v:Value} (h:Later n0 w w') (hn:n0 ≤ b) (hc:w.cell? ⟨b,o,none⟩ = some v):w'.cell? ⟨b,o,none⟩ = some v:=by
  have hb:b < w.heap.size:=World.block_lt_of_cell? w _ hc
  rw [← hc]
  simp [World.cell?,h.2 b hn hb]
/-- A function of the table: at any configuration it tells whether it has the defect k. -/
def FnOf (n0:Nat) (w:World) (f:Nat) (caps:List Value) (k:Int):Prop:=
  (∀ args w,(callFunc f args).run Tryz.prog w = .ok (.enter f args) w) ∧ ∀ (c:Cfg) (x:CfgAt) (w':World),Later n0 w w' → CfgIn w' w'.heap.size c x → CfgWf c → CfgFew c →
    Calls Tryz.prog f ([Value.agg (cfgCells c x)] ++ caps).toArray w' fun e w'' => e = .returned (.bool (holdsP c k)) ∧ Below w'.heap.size w' w''
theorem FnOf.later {n0:Nat} {w w':World} {f:Nat} {caps:List Value} {k:Int} (h:FnOf n0 w f caps k) (hl:Later n0 w w'):FnOf n0 w' f caps k:=⟨h.1,fun c x w2 h2 => h.2 c x w2 (hl.trans h2)⟩
theorem fn1 (n0:Nat) (w:World):FnOf n0 w 129 [] 1:=⟨enters_of Tryz.func129 (by kernel_rfl) rfl,fun c x w2 hl hx wx lx => by
  obtain ⟨parts,chans,len0,win0,len1,win1⟩:=c
  obtain ⟨pa,pc,ca,cc,aa,ac,ba,bc⟩:=x
  exact row1_b parts chans len0 win0 len1 win1 pa pc ca cc aa ac ba bc w2⟩
theorem fn2 (n0 B:Nat) (w:World) (hn:n0 ≤ B) (hB:w.cell? ⟨B,0,none⟩ = some (.func (.func 132) #[] #[])):FnOf n0 w 152 [.pointer (some ⟨B,0,none⟩)] 2:=⟨enters_of Tryz.func152 (by kernel_rfl) rfl,fun c x w2 hl hx wx lx => by
  obtain ⟨parts,chans,len0,win0,len1,win1⟩:=c
  obtain ⟨pa,pc,ca,cc,aa,ac,ba,bc⟩:=x
  exact row2_b parts chans len0 win0 len1 win1 pa pc ca cc aa ac ba bc B w2 hx.rp wx.wp lx.1 hx.rc wx.wc lx.2.1 hx.ra wx.wa lx.2.2.1 hx.rb wx.wb lx.2.2.2 (hl.cell hn hB)⟩
theorem fn3 (n0 B:Nat) (w:World) (hn:n0 ≤ B) (hB:w.cell? ⟨B,0,none⟩ = some (.func (.func 134) #[] #[])):FnOf n0 w 152 [.pointer (some ⟨B,0,none⟩)] 3:=⟨enters_of Tryz.func152 (by kernel_rfl) rfl,fun c x w2 hl hx wx lx => by
  obtain ⟨parts,chans,len0,win0,len1,win1⟩:=c
  obtain ⟨pa,pc,ca,cc,aa,ac,ba,bc⟩:=x
  exact row3_b parts chans len0 win0 len1 win1 pa pc ca cc aa ac ba bc B w2 hx.rp wx.wp lx.1 hx.rc wx.wc lx.2.1 hx.ra wx.wa lx.2.2.1 hx.rb wx.wb lx.2.2.2 (hl.cell hn hB)⟩
theorem fn4 (n0:Nat) (w:World):FnOf n0 w 135 [] 4:=⟨enters_of Tryz.func135 (by kernel_rfl) rfl,fun c x w2 hl hx wx lx => by
  obtain ⟨parts,chans,len0,win0,len1,win1⟩:=c
  obtain ⟨pa,pc,ca,cc,aa,ac,ba,bc⟩:=x
  exact row4_b parts chans len0 win0 len1 win1 pa pc ca cc aa ac ba bc w2⟩
theorem fn5 (n0 B:Nat) (w:World) (hn:n0 ≤ B) (hB:w.cell? ⟨B,0,none⟩ = some (.func (.func 137) #[] #[])):FnOf n0 w 154 [.pointer (some ⟨B,0,none⟩)] 5:=⟨enters_of Tryz.func154 (by kernel_rfl) rfl,fun c x w2 hl hx wx lx => by
  obtain ⟨parts,chans,len0,win0,len1,win1⟩:=c
  obtain ⟨pa,pc,ca,cc,aa,ac,ba,bc⟩:=x
  exact row5_b parts chans len0 win0 len1 win1 pa pc ca cc aa ac ba bc B w2 hx.rp wx.wp lx.1 hx.rc wx.wc lx.2.1 hx.ra wx.wa lx.2.2.1 hx.rb wx.wb lx.2.2.2 (hl.cell hn hB)⟩
theorem fn6 (n0:Nat) (w:World):FnOf n0 w 138 [] 6:=⟨enters_of Tryz.func138 (by kernel_rfl) rfl,fun c x w2 hl hx wx lx => by
  obtain ⟨parts,chans,len0,win0,len1,win1⟩:=c
  obtain ⟨pa,pc,ca,cc,aa,ac,ba,bc⟩:=x
  exact row6_b parts chans len0 win0 len1 win1 pa pc ca cc aa ac ba bc w2 hx.rp wx.wp lx.1 hx.rc wx.wc lx.2.1 hx.ra wx.wa lx.2.2.1 hx.rb wx.wb lx.2.2.2⟩
theorem fn7 (n0 B:Nat) (w:World) (hn:n0 ≤ B) (hB:w.cell? ⟨B,0,none⟩ = some (.func (.func 139) #[] #[])):FnOf n0 w 154 [.pointer (some ⟨B,0,none⟩)] 7:=⟨enters_of Tryz.func154 (by kernel_rfl) rfl,fun c x w2 hl hx wx lx => by
  obtain ⟨parts,chans,len0,win0,len1,win1⟩:=c
  obtain ⟨pa,pc,ca,cc,aa,ac,ba,bc⟩:=x
  exact row7_b parts chans len0 win0 len1 win1 pa pc ca cc aa ac ba bc B w2 hx.rp wx.wp lx.1 hx.rc wx.wc lx.2.1 hx.ra wx.wa lx.2.2.1 hx.rb wx.wb lx.2.2.2 (hl.cell hn hB)⟩
theorem fn8 (n0 B:Nat) (w:World) (hn:n0 ≤ B) (hB:w.cell? ⟨B,0,none⟩ = some (.func (.func 140) #[] #[])):FnOf n0 w 154 [.pointer (some ⟨B,0,none⟩)] 8:=⟨enters_of Tryz.func154 (by kernel_rfl) rfl,fun c x w2 hl hx wx lx => by
  obtain ⟨parts,chans,len0,win0,len1,win1⟩:=c
  obtain ⟨pa,pc,ca,cc,aa,ac,ba,bc⟩:=x
  exact row8_b parts chans len0 win0 len1 win1 pa pc ca cc aa ac ba bc B w2 hx.rp wx.wp lx.1 hx.rc wx.wc lx.2.1 hx.ra wx.wa lx.2.2.1 hx.rb wx.wb lx.2.2.2 (hl.cell hn hB)⟩
theorem fn9 (n0 B:Nat) (w:World) (hn:n0 ≤ B) (hB:w.cell? ⟨B,0,none⟩ = some (.func (.func 141) #[] #[])):FnOf n0 w 154 [.pointer (some ⟨B,0,none⟩)] 9:=⟨enters_of Tryz.func154 (by kernel_rfl) rfl,fun c x w2 hl hx wx lx => by
  obtain ⟨parts,chans,len0,win0,len1,win1⟩:=c
  obtain ⟨pa,pc,ca,cc,aa,ac,ba,bc⟩:=x
  exact row9_b parts chans len0 win0 len1 win1 pa pc ca cc aa ac ba bc B w2 hx.rp wx.wp lx.1 hx.rc wx.wc lx.2.1 hx.ra wx.wa lx.2.2.1 hx.rb wx.wb lx.2.2.2 (hl.cell hn hB)⟩
theorem fn10 (n0 B:Nat) (w:World) (hn:n0 ≤ B) (hB:w.cell? ⟨B,0,none⟩ = some (.func (.func 142) #[] #[])):FnOf n0 w 154 [.pointer (some ⟨B,0,none⟩)] 10:=⟨enters_of Tryz.func154 (by kernel_rfl) rfl,fun c x w2 hl hx wx lx => by
  obtain ⟨parts,chans,len0,win0,len1,win1⟩:=c
  obtain ⟨pa,pc,ca,cc,aa,ac,ba,bc⟩:=x
  exact row10_b parts chans len0 win0 len1 win1 pa pc ca cc aa ac ba bc B w2 hx.rp wx.wp lx.1 hx.rc wx.wc lx.2.1 hx.ra wx.wa lx.2.2.1 hx.rb wx.wb lx.2.2.2 (hl.cell hn hB)⟩
theorem fn11 (n0 B:Nat) (w:World) (hn:n0 ≤ B) (hB:w.cell? ⟨B,0,none⟩ = some (.func (.func 143) #[] #[])):FnOf n0 w 154 [.pointer (some ⟨B,0,none⟩)] 11:=⟨enters_of Tryz.func154 (by kernel_rfl) rfl,fun c x w2 hl hx wx lx => by
  obtain ⟨parts,chans,len0,win0,len1,win1⟩:=c
  obtain ⟨pa,pc,ca,cc,aa,ac,ba,bc⟩:=x
  exact row11_b parts chans len0 win0 len1 win1 pa pc ca cc aa ac ba bc B w2 hx.rp wx.wp lx.1 hx.rc wx.wc lx.2.1 hx.ra wx.wa lx.2.2.1 hx.rb wx.wb lx.2.2.2 (hl.cell hn hB)⟩
theorem fn12 (n0 B:Nat) (w:World) (hn:n0 ≤ B) (hB:w.cell? ⟨B,0,none⟩ = some (.func (.func 145) #[] #[])):FnOf n0 w 157 [.pointer (some ⟨B,0,none⟩)] 12:=⟨enters_of Tryz.func157 (by kernel_rfl) rfl,fun c x w2 hl hx wx lx => by
  obtain ⟨parts,chans,len0,win0,len1,win1⟩:=c
  obtain ⟨pa,pc,ca,cc,aa,ac,ba,bc⟩:=x
  exact row12_b parts chans len0 win0 len1 win1 pa pc ca cc aa ac ba bc B w2 hx.rp wx.wp lx.1 hx.rc wx.wc lx.2.1 hx.ra wx.wa lx.2.2.1 hx.rb wx.wb lx.2.2.2 wx.w0 wx.w1 (hl.cell hn hB)⟩
theorem fn13 (n0 B:Nat) (w:World) (hn:n0 ≤ B) (hB:w.cell? ⟨B,0,none⟩ = some (.func (.func 146) #[] #[])):FnOf n0 w 157 [.pointer (some ⟨B,0,none⟩)] 13:=⟨enters_of Tryz.func157 (by kernel_rfl) rfl,fun c x w2 hl hx wx lx => by
  obtain ⟨parts,chans,len0,win0,len1,win1⟩:=c
  obtain ⟨pa,pc,ca,cc,aa,ac,ba,bc⟩:=x
  exact row13_b parts chans len0 win0 len1 win1 pa pc ca cc aa ac ba bc B w2 hx.rp wx.wp lx.1 hx.rc wx.wc lx.2.1 hx.ra wx.wa lx.2.2.1 hx.rb wx.wb lx.2.2.2 wx.w0 wx.w1 (hl.cell hn hB)⟩
theorem fn14 (n0:Nat) (w:World):FnOf n0 w 147 [] 14:=⟨enters_of Tryz.func147 (by kernel_rfl) rfl,fun c x w2 hl hx wx lx => by
  obtain ⟨parts,chans,len0,win0,len1,win1⟩:=c
  obtain ⟨pa,pc,ca,cc,aa,ac,ba,bc⟩:=x
  exact row14_b parts chans len0 win0 len1 win1 pa pc ca cc aa ac ba bc w2 hx.rp wx.wp lx.1 hx.rc wx.wc lx.2.1 hx.ra wx.wa lx.2.2.1 hx.rb wx.wb lx.2.2.2⟩
theorem fn15 (n0 B:Nat) (w:World) (hn:n0 ≤ B) (hB:w.cell? ⟨B,0,none⟩ = some (.func (.func 148) #[] #[])):FnOf n0 w 157 [.pointer (some ⟨B,0,none⟩)] 15:=⟨enters_of Tryz.func157 (by kernel_rfl) rfl,fun c x w2 hl hx wx lx => by
  obtain ⟨parts,chans,len0,win0,len1,win1⟩:=c
  obtain ⟨pa,pc,ca,cc,aa,ac,ba,bc⟩:=x
  exact row15_b parts chans len0 win0 len1 win1 pa pc ca cc aa ac ba bc B w2 hx.rp wx.wp lx.1 hx.rc wx.wc lx.2.1 hx.ra wx.wa lx.2.2.1 hx.rb wx.wb lx.2.2.2 wx.w0 wx.w1 (hl.cell hn hB)⟩
theorem fn16 (n0 B:Nat) (w:World) (hn:n0 ≤ B) (hB:w.cell? ⟨B,0,none⟩ = some (.func (.func 149) #[] #[])):FnOf n0 w 157 [.pointer (some ⟨B,0,none⟩)] 16:=⟨enters_of Tryz.func157 (by kernel_rfl) rfl,fun c x w2 hl hx wx lx => by
  obtain ⟨parts,chans,len0,win0,len1,win1⟩:=c
  obtain ⟨pa,pc,ca,cc,aa,ac,ba,bc⟩:=x
  exact row16_b parts chans len0 win0 len1 win1 pa pc ca cc aa ac ba bc B w2 hx.rp wx.wp lx.1 hx.rc wx.wc lx.2.1 hx.ra wx.wa lx.2.2.1 hx.rb wx.wb lx.2.2.2 wx.w0 wx.w1 (hl.cell hn hB)⟩
theorem fn17 (n0:Nat) (w:World):FnOf n0 w 150 [] 17:=⟨enters_of Tryz.func150 (by kernel_rfl) rfl,fun c x w2 hl hx wx lx => by
  obtain ⟨parts,chans,len0,win0,len1,win1⟩:=c
  obtain ⟨pa,pc,ca,cc,aa,ac,ba,bc⟩:=x
  exact row17_b parts chans len0 win0 len1 win1 pa pc ca cc aa ac ba bc w2 hx.rp wx.wp lx.1 hx.rc wx.wc lx.2.1 hx.ra wx.wa lx.2.2.1 hx.rb wx.wb lx.2.2.2 wx.w0 wx.w1⟩
theorem makeP_b (g:Nat) (w:World):Calls Tryz.prog 131 #[.func (.func g) #[] #[]] w fun e w' => e = .returned (.func (.func 152) #[] #[.pointer (some ⟨w.heap.size,0,none⟩)]) ∧ w'.cell? ⟨w.heap.size,0,none⟩ = some (.func (.func g) #[] #[]) ∧ Below w.heap.size w w':=by
  have hc:=cell_blk (heap_alloc_new w (.cells #[.func (.func g) #[] #[]] 211)) (i:=0) rfl
  have HC:=Lib.hid hc
  clear hc
  go_enter Tryz.func131,Tryz.ntmps131
  go_wp2
  go_ret
  exact ⟨rfl,HC.out,(Below.refl _ _).alloc (Nat.le_refl _) _⟩
theorem makeC_b (g:Nat) (w:World):Calls Tryz.prog 136 #[.func (.func g) #[] #[]] w fun e w' => e = .returned (.func (.func 154) #[] #[.pointer (some ⟨w.heap.size,0,none⟩)]) ∧ w'.cell? ⟨w.heap.size,0,none⟩ = some (.func (.func g) #[] #[]) ∧ Below w.heap.size w w':=by
  have hc:=cell_blk (heap_alloc_new w (.cells #[.func (.func g) #[] #[]] 213)) (i:=0) rfl
  have HC:=Lib.hid hc
  clear hc
  go_enter Tryz.func136,Tryz.ntmps136
  go_wp2
  go_ret
  exact ⟨rfl,HC.out,(Below.refl _ _).alloc (Nat.le_refl _) _⟩
theorem makeF_b (g:Nat) (w:World):Calls Tryz.prog 144 #[.func (.func g) #[] #[]] w fun e w' => e = .returned (.func (.func 157) #[] #[.pointer (some ⟨w.heap.size,0,none⟩)]) ∧ w'.cell? ⟨w.heap.size,0,none⟩ = some (.func (.func g) #[] #[]) ∧ Below w.heap.size w w':=by
  have hc:=cell_blk (heap_alloc_new w (.cells #[.func (.func g) #[] #[]] 215)) (i:=0) rfl
  have HC:=Lib.hid hc
  clear hc
  go_enter Tryz.func144,Tryz.ntmps144
  go_wp2
  go_ret
  exact ⟨rfl,HC.out,(Below.refl _ _).alloc (Nat.le_refl _) _⟩
/-- A call that hands back the table,in new memory. -/
def GivesTable (w:World) (e:Ending) (w':World):Prop:=∃ (A o:Nat),e = .returned (.slice (some ⟨A,o,none⟩) 17 17) ∧ w.heap.size ≤ A ∧
  (∀ i:Nat,i < 17 → ∃ (f:Nat) (caps:List Value),w'.cell? ⟨A,o + i * 2,none⟩ = some (.int .i64 ((i:Int) + 1)) ∧ w'.cell? ⟨A,o + i * 2 + 1,none⟩ = some (.func (.func f) #[] caps.toArray) ∧ FnOf w.heap.size w' f caps ((i:Int) + 1)) ∧ Below w.heap.size w w'
set_option maxRecDepth 100000 in
set_option maxHeartbeats 8000000 in
theorem rows_b (w:World):Calls Tryz.prog 124 #[] w (GivesTable w):=by
  go_enter Tryz.func124,Tryz.ntmps124
  go_wp2_with fail
  refine (makeP_b 132 w).mono ?_
  rintro e v1 ⟨rfl,hc,hb⟩
  have hbw:=hb
  have K2:=Lib.hid (fn2 w.heap.size w.heap.size v1 (Nat.le_refl _) hc)
  clear hc hb
  have HB:=Lib.hid hbw
  clear hbw
  go_wp2_with fail
  refine (makeP_b 134 v1).mono ?_
  rintro e v2 ⟨rfl,hc,hb⟩
  have hbw:=HB.out.trans (hb.mono HB.out.size)
  have K3:=Lib.hid (fn3 w.heap.size v1.heap.size v2 HB.out.size hc)
  have K2:=Lib.hid (K2.out.later (Later.of_below hb))
  have HB:=Lib.hid hbw
  clear hc hb
  clear hbw
  go_wp2_with fail
  refine (makeC_b 137 v2).mono ?_
  rintro e v3 ⟨rfl,hc,hb⟩
  have hbw:=HB.out.trans (hb.mono HB.out.size)
  have K5:=Lib.hid (fn5 w.heap.size v2.heap.size v3 HB.out.size hc)
  have K2:=Lib.hid (K2.out.later (Later.of_below hb))
  have K3:=Lib.hid (K3.out.later (Later.of_below hb))
  have HB:=Lib.hid hbw
  clear hc hb
  clear hbw
  go_wp2_with fail
  refine (makeC_b 139 v3).mono ?_
  rintro e v4 ⟨rfl,hc,hb⟩
  have hbw:=HB.out.trans (hb.mono HB.out.size)
  have K7:=Lib.hid (fn7 w.heap.size v3.heap.size v4 HB.out.size hc)
  have K2:=Lib.hid (K2.out.later (Later.of_below hb))
  have K3:=Lib.hid (K3.out.later (Later.of_below hb))
  have K5:=Lib.hid (K5.out.later (Later.of_below hb))
  have HB:=Lib.hid hbw
  clear hc hb
  clear hbw
  go_wp2_with fail
  refine (makeC_b 140 v4).mono ?_
  rintro e v5 ⟨rfl,hc,hb⟩
  have hbw:=HB.out.trans (hb.mono HB.out.size)
  have K8:=Lib.hid (fn8 w.heap.size v4.heap.size v5 HB.out.size hc)
  have K2:=Lib.hid (K2.out.later (Later.of_below hb))
  have K3:=Lib.hid (K3.out.later (Later.of_below hb))
  have K5:=Lib.hid (K5.out.later (Later.of_below hb))
  have K7:=Lib.hid (K7.out.later (Later.of_below hb))
  have HB:=Lib.hid hbw
  clear hc hb
  clear hbw
  go_wp2_with fail
  refine (makeC_b 141 v5).mono ?_
  rintro e v6 ⟨rfl,hc,hb⟩
  have hbw:=HB.out.trans (hb.mono HB.out.size)
  have K9:=Lib.hid (fn9 w.heap.size v5.heap.size v6 HB.out.size hc)
  have K2:=Lib.hid (K2.out.later (Later.of_below hb))
  have K3:=Lib.hid (K3.out.later (Later.of_below hb))
  have K5:=Lib.hid (K5.out.later (Later.of_below hb))
  have K7:=Lib.hid (K7.out.later (Later.of_below hb))
  have K8:=Lib.hid (K8.out.later (Later.of_below hb))
  have HB:=Lib.hid hbw
  clear hc hb
  clear hbw
  go_wp2_with fail
  refine (makeC_b 142 v6).mono ?_
  rintro e v7 ⟨rfl,hc,hb⟩
  have hbw:=HB.out.trans (hb.mono HB.out.size)
  have K10:=Lib.hid (fn10 w.heap.size v6.heap.size v7 HB.out.size hc)
  have K2:=Lib.hid (K2.out.later (Later.of_below hb))
  have K3:=Lib.hid (K3.out.later (Later.of_below hb))
  have K5:=Lib.hid (K5.out.later (Later.of_below hb))
  have K7:=Lib.hid (K7.out.later (Later.of_below hb))
  have K8:=Lib.hid (K8.out.later (Later.of_below hb))
  have K9:=Lib.hid (K9.out.later (Later.of_below hb))
  have HB:=Lib.hid hbw
  clear hc hb
  clear hbw
  go_wp2_with fail
  refine (makeC_b 143 v7).mono ?_
  rintro e v8 ⟨rfl,hc,hb⟩
  have hbw:=HB.out.trans (hb.mono HB.out.size)
  have K11:=Lib.hid (fn11 w.heap.size v7.heap.size v8 HB.out.size hc)
  have K2:=Lib.hid (K2.out.later (Later.of_below hb))
  have K3:=Lib.hid (K3.out.later (Later.of_below hb))
  have K5:=Lib.hid (K5.out.later (Later.of_below hb))
  have K7:=Lib.hid (K7.out.later (Later.of_below hb))
  have K8:=Lib.hid (K8.out.later (Later.of_below hb))
  have K9:=Lib.hid (K9.out.later (Later.of_below hb))
  have K10:=Lib.hid (K10.out.later (Later.of_below hb))
  have HB:=Lib.hid hbw
  clear hc hb
  clear hbw
  go_wp2_with fail
  refine (makeF_b 145 v8).mono ?_
  rintro e v9 ⟨rfl,hc,hb⟩
  have hbw:=HB.out.trans (hb.mono HB.out.size)
  have K12:=Lib.hid (fn12 w.heap.size v8.heap.size v9 HB.out.size hc)
  have K2:=Lib.hid (K2.out.later (Later.of_below hb))
  have K3:=Lib.hid (K3.out.later (Later.of_below hb))
  have K5:=Lib.hid (K5.out.later (Later.of_below hb))
  have K7:=Lib.hid (K7.out.later (Later.of_below hb))
  have K8:=Lib.hid (K8.out.later (Later.of_below hb))
  have K9:=Lib.hid (K9.out.later (Later.of_below hb))
  have K10:=Lib.hid (K10.out.later (Later.of_below hb))
  have K11:=Lib.hid (K11.out.later (Later.of_below hb))
  have HB:=Lib.hid hbw
  clear hc hb
  clear hbw
  go_wp2_with fail
  refine (makeF_b 146 v9).mono ?_
  rintro e v10 ⟨rfl,hc,hb⟩
  have hbw:=HB.out.trans (hb.mono HB.out.size)
  have K13:=Lib.hid (fn13 w.heap.size v9.heap.size v10 HB.out.size hc)
  have K2:=Lib.hid (K2.out.later (Later.of_below hb))
  have K3:=Lib.hid (K3.out.later (Later.of_below hb))
  have K5:=Lib.hid (K5.out.later (Later.of_below hb))
  have K7:=Lib.hid (K7.out.later (Later.of_below hb))
  have K8:=Lib.hid (K8.out.later (Later.of_below hb))
  have K9:=Lib.hid (K9.out.later (Later.of_below hb))
  have K10:=Lib.hid (K10.out.later (Later.of_below hb))
  have K11:=Lib.hid (K11.out.later (Later.of_below hb))
  have K12:=Lib.hid (K12.out.later (Later.of_below hb))
  have HB:=Lib.hid hbw
  clear hc hb
  clear hbw
  go_wp2_with fail
  refine (makeF_b 148 v10).mono ?_
  rintro e v11 ⟨rfl,hc,hb⟩
  have hbw:=HB.out.trans (hb.mono HB.out.size)
  have K15:=Lib.hid (fn15 w.heap.size v10.heap.size v11 HB.out.size hc)
  have K2:=Lib.hid (K2.out.later (Later.of_below hb))
  have K3:=Lib.hid (K3.out.later (Later.of_below hb))
  have K5:=Lib.hid (K5.out.later (Later.of_below hb))
  have K7:=Lib.hid (K7.out.later (Later.of_below hb))
  have K8:=Lib.hid (K8.out.later (Later.of_below hb))
  have K9:=Lib.hid (K9.out.later (Later.of_below hb))
  have K10:=Lib.hid (K10.out.later (Later.of_below hb))
  have K11:=Lib.hid (K11.out.later (Later.of_below hb))
  have K12:=Lib.hid (K12.out.later (Later.of_below hb))
  have K13:=Lib.hid (K13.out.later (Later.of_below hb))
  have HB:=Lib.hid hbw
  clear hc hb
  clear hbw
  go_wp2_with fail
  refine (makeF_b 149 v11).mono ?_
  rintro e v12 ⟨rfl,hc,hb⟩
  have hbw:=HB.out.trans (hb.mono HB.out.size)
  have K16:=Lib.hid (fn16 w.heap.size v11.heap.size v12 HB.out.size hc)
  have K2:=Lib.hid (K2.out.later (Later.of_below hb))
  have K3:=Lib.hid (K3.out.later (Later.of_below hb))
  have K5:=Lib.hid (K5.out.later (Later.of_below hb))
  have K7:=Lib.hid (K7.out.later (Later.of_below hb))
  have K8:=Lib.hid (K8.out.later (Later.of_below hb))
  have K9:=Lib.hid (K9.out.later (Later.of_below hb))
  have K10:=Lib.hid (K10.out.later (Later.of_below hb))
  have K11:=Lib.hid (K11.out.later (Later.of_below hb))
  have K12:=Lib.hid (K12.out.later (Later.of_below hb))
  have K13:=Lib.hid (K13.out.later (Later.of_below hb))
  have K15:=Lib.hid (K15.out.later (Later.of_below hb))
  have HB:=Lib.hid hbw
  clear hc hb
  clear hbw

  have HA:=Lib.hid (show (v12.alloc (.cells #[.int .i64 1,.func (.func 129) #[] #[],.int .i64 2,.func (.func 152) #[] #[.pointer (some ⟨w.heap.size,0,none⟩)],.int .i64 3,.func (.func 152) #[] #[.pointer (some ⟨v1.heap.size,0,none⟩)],.int .i64 4,.func (.func 135) #[] #[],.int .i64 5,.func (.func 154) #[] #[.pointer (some ⟨v2.heap.size,0,none⟩)],.int .i64 6,.func (.func 138) #[] #[],.int .i64 7,.func (.func 154) #[] #[.pointer (some ⟨v3.heap.size,0,none⟩)],.int .i64 8,.func (.func 154) #[] #[.pointer (some ⟨v4.heap.size,0,none⟩)],.int .i64 9,.func (.func 154) #[] #[.pointer (some ⟨v5.heap.size,0,none⟩)],.int .i64 10,.func (.func 154) #[] #[.pointer (some ⟨v6.heap.size,0,none⟩)],.int .i64 11,.func (.func 154) #[] #[.pointer (some ⟨v7.heap.size,0,none⟩)],.int .i64 12,.func (.func 157) #[] #[.pointer (some ⟨v8.heap.size,0,none⟩)],.int .i64 13,.func (.func 157) #[] #[.pointer (some ⟨v9.heap.size,0,none⟩)],.int .i64 14,.func (.func 147) #[] #[],.int .i64 15,.func (.func 157) #[] #[.pointer (some ⟨v10.heap.size,0,none⟩)],.int .i64 16,.func (.func 157) #[] #[.pointer (some ⟨v11.heap.size,0,none⟩)],.int .i64 17,.func (.func 150) #[] #[]] 202)).heap[v12.heap.size]? = _ from heap_alloc_new _ _)
  have HL:=Lib.hid (show Below v12.heap.size v12 (v12.alloc (.cells #[.int .i64 1,.func (.func 129) #[] #[],.int .i64 2,.func (.func 152) #[] #[.pointer (some ⟨w.heap.size,0,none⟩)],.int .i64 3,.func (.func 152) #[] #[.pointer (some ⟨v1.heap.size,0,none⟩)],.int .i64 4,.func (.func 135) #[] #[],.int .i64 5,.func (.func 154) #[] #[.pointer (some ⟨v2.heap.size,0,none⟩)],.int .i64 6,.func (.func 138) #[] #[],.int .i64 7,.func (.func 154) #[] #[.pointer (some ⟨v3.heap.size,0,none⟩)],.int .i64 8,.func (.func 154) #[] #[.pointer (some ⟨v4.heap.size,0,none⟩)],.int .i64 9,.func (.func 154) #[] #[.pointer (some ⟨v5.heap.size,0,none⟩)],.int .i64 10,.func (.func 154) #[] #[.pointer (some ⟨v6.heap.size,0,none⟩)],.int .i64 11,.func (.func 154) #[] #[.pointer (some ⟨v7.heap.size,0,none⟩)],.int .i64 12,.func (.func 157) #[] #[.pointer (some ⟨v8.heap.size,0,none⟩)],.int .i64 13,.func (.func 157) #[] #[.pointer (some ⟨v9.heap.size,0,none⟩)],.int .i64 14,.func (.func 147) #[] #[],.int .i64 15,.func (.func 157) #[] #[.pointer (some ⟨v10.heap.size,0,none⟩)],.int .i64 16,.func (.func 157) #[] #[.pointer (some ⟨v11.heap.size,0,none⟩)],.int .i64 17,.func (.func 150) #[] #[]] 202)) from (Below.refl _ _).alloc (Nat.le_refl _) _)
  go_wp2
  go_ret
  refine ⟨v12.heap.size,0,rfl,HB.out.size,fun i hi => ?_,HB.out.trans (HL.out.mono HB.out.size)⟩
  match i,hi with
  | 0,_ => exact ⟨129,[],cell_blk HA.out rfl,cell_blk HA.out rfl,fn1 _ _⟩
  | 1,_ => exact ⟨152,[.pointer (some ⟨w.heap.size,0,none⟩)],cell_blk HA.out rfl,cell_blk HA.out rfl,K2.out.later (Later.of_below HL.out)⟩
  | 2,_ => exact ⟨152,[.pointer (some ⟨v1.heap.size,0,none⟩)],cell_blk HA.out rfl,cell_blk HA.out rfl,K3.out.later (Later.of_below HL.out)⟩
  | 3,_ => exact ⟨135,[],cell_blk HA.out rfl,cell_blk HA.out rfl,fn4 _ _⟩
  | 4,_ => exact ⟨154,[.pointer (some ⟨v2.heap.size,0,none⟩)],cell_blk HA.out rfl,cell_blk HA.out rfl,K5.out.later (Later.of_below HL.out)⟩
  | 5,_ => exact ⟨138,[],cell_blk HA.out rfl,cell_blk HA.out rfl,fn6 _ _⟩
  | 6,_ => exact ⟨154,[.pointer (some ⟨v3.heap.size,0,none⟩)],cell_blk HA.out rfl,cell_blk HA.out rfl,K7.out.later (Later.of_below HL.out)⟩
  | 7,_ => exact ⟨154,[.pointer (some ⟨v4.heap.size,0,none⟩)],cell_blk HA.out rfl,cell_blk HA.out rfl,K8.out.later (Later.of_below HL.out)⟩
  | 8,_ => exact ⟨154,[.pointer (some ⟨v5.heap.size,0,none⟩)],cell_blk HA.out rfl,cell_blk HA.out rfl,K9.out.later (Later.of_below HL.out)⟩
  | 9,_ => exact ⟨154,[.pointer (some ⟨v6.heap.size,0,none⟩)],cell_blk HA.out rfl,cell_blk HA.out rfl,K10.out.later (Later.of_below HL.out)⟩
  | 10,_ => exact ⟨154,[.pointer (some ⟨v7.heap.size,0,none⟩)],cell_blk HA.out rfl,cell_blk HA.out rfl,K11.out.later (Later.of_below HL.out)⟩
  | 11,_ => exact ⟨157,[.pointer (some ⟨v8.heap.size,0,none⟩)],cell_blk HA.out rfl,cell_blk HA.out rfl,K12.out.later (Later.of_below HL.out)⟩
  | 12,_ => exact ⟨157,[.pointer (some ⟨v9.heap.size,0,none⟩)],cell_blk HA.out rfl,cell_blk HA.out rfl,K13.out.later (Later.of_below HL.out)⟩
  | 13,_ => exact ⟨147,[],cell_blk HA.out rfl,cell_blk HA.out rfl,fn14 _ _⟩
  | 14,_ => exact ⟨157,[.pointer (some ⟨v10.heap.size,0,none⟩)],cell_blk HA.out rfl,cell_blk HA.out rfl,K15.out.later (Later.of_below HL.out)⟩
  | 15,_ => exact ⟨157,[.pointer (some ⟨v11.heap.size,0,none⟩)],cell_blk HA.out rfl,cell_blk HA.out rfl,K16.out.later (Later.of_below HL.out)⟩
  | 16,_ => exact ⟨150,[],cell_blk HA.out rfl,cell_blk HA.out rfl,fn17 _ _⟩
  | i + 17,hi => omega
end Go.Proofs.YtheeiklgblcjfaaGreatDoor
end
section
namespace Go.Proofs.YtheeiklgblcjfaaGreatDoor
open Go.RowKit Go.Sort Go.ChangeShapes Go.WideShapes
set_option linter.unusedVariables false
set_option linter.unusedSimpArgs false
/-- All hands back its closure,over a box that holds what it has found. -/
def GivesIter (w:World) (xs:List Int) (e:Ending) (w':World):Prop:=
  ∃ tb v,e = .returned (.func (.func 125) #[] #[.pointer (some ⟨tb,0,none⟩)]) ∧ w.heap.size ≤ tb ∧ Boxed w' tb 55 v ∧ OwnsOff w' w.heap.size 3 1 v xs.length (icells xs) ∧ Below w.heap.size w w'
/-- Between two rounds: what has been found,in its box tb;its row lies in a block from n1 on. -/
def Found (tb n1:Nat) (xs:List Int) (w:World):Prop:=∃ v,Boxed w tb 55 v ∧ OwnsOff w tb 3 1 v xs.length (icells xs) ∧ (∀ g,v.ownBlock = some g → n1 ≤ g) ∧ n1 ≤ w.heap.size
theorem Found.below {tb n1:Nat} {xs:List Int} {w w':World} (h:Found tb n1 xs w) (hb:Below w.heap.size w w'):Found tb n1 xs w':=by
  obtain ⟨v,h1,h2,h3,h4⟩:=h
  exact ⟨v,(hb.block _ h1.lt).trans h1,h2.keptB hb,h3,Nat.le_trans h4 hb.size⟩
set_option maxRecDepth 100000 in
set_option maxHeartbeats 4000000 in
theorem all_b (c:Cfg) (x:CfgAt) (w:World) (hx:CfgIn w w.heap.size c x) (wx:CfgWf c) (lx:CfgFew c):Calls Tryz.prog 116 #[.agg (cfgCells c x)] w (GivesIter w (allP c 17)):=by
  obtain ⟨W,HW,hB,hWs,bx⟩:=one_cbox w c x 29
  have hx:=hx.later hB
  have HB:=Lib.hid hB
  have HWS:=Lib.hid hWs
  simp only [cfgCells]
  clear hB hWs
  obtain ⟨i0,hi0,hz0,hz1,hz2⟩:=info_parts Tryz.infoI
  have hf0:Found W.heap.size (W.heap.size + 1) [] (W.alloc (.cells #[.slice none 0 0] 55)):=⟨_,Boxed.new W _ _,OwnsOff.nil _ _ _ _,(fun g hg => by cases hg),by simp⟩
  have hb0:Below W.heap.size W (W.alloc (.cells #[.slice none 0 0] 55)):=(Below.refl _ _).alloc (Nat.le_refl _) _
  have hs0:(W.alloc (.cells #[.slice none 0 0] 55)).heap.size = W.heap.size + 1:=by simp
  obtain ⟨W0,hW0⟩:∃ u,Hid (u = W.alloc (.cells #[.slice none 0 0] 55)):=⟨_,rfl⟩
  rw [← hW0.out] at hf0 hb0 hs0
  have HF0:=Lib.hid hf0;have HB0:=Lib.hid hb0;have HS0:=Lib.hid hs0
  clear hf0 hb0 hs0
  go_enter Tryz.func116,Tryz.ntmps116
  go_wp2_with (first | (rw [← HW.out]) | (rw [← hW0.out]))
  refine (rows_b W0).mono ?_
  rintro e w1 ⟨TA,to,rfl,hTA,hrow,hb1⟩
  have HB1:=Lib.hid hb1
  have hf1:Found W.heap.size w1.heap.size [] w1:=by
    obtain ⟨v,h1,h2,h3,h4⟩:=HF0.out
    have hv:=h2.2
    refine ⟨.slice none 0 0,?_,OwnsOff.nil _ _ _ _,(fun g hg => by cases hg),Nat.le_refl _⟩
    have hW:=hb1.block W.heap.size (by rw [HS0.out];omega)
    exact hW.trans (by rw [hW0.out];exact Boxed.new W _ _)
  have HF1:=Lib.hid hf1
  clear hb1 hf1
  go_wp2
  go_loopw [8] (fun ix wr => ∃ i:Nat,i ≤ 17 ∧ ix = .int .i64 i ∧ Found W.heap.size w1.heap.size (allP c i) wr ∧ Later W0.heap.size w1 wr ∧ Below W.heap.size W wr) (fun ix _ => 17 - (intOf ix).toNat)
  case atStart => exact ⟨0,by omega,rfl,HF1.out,Later.refl _ _,HB0.out.trans (HB1.out.mono HB0.out.size)⟩
  case round =>
    obtain ⟨i,hi,rfl,hfd,hL,hbc⟩:=hrel
    have HNX:=Lib.hid (allP_next c i)
    have hll:=allP_len c i
    obtain ⟨ys,hys⟩:∃ ys,allP c i = ys:=⟨_,rfl⟩
    have HYS:=Lib.hid hys
    rw [hys] at hfd hll HNX
    clear hys
    by_cases hlt:i < 17
    · obtain ⟨f,caps,q0,q1,eg,hF⟩:=hrow i hlt
      have q0:=hL.cell hTA q0
      have q1:=hL.cell hTA q1
      have hlt':(i:Int) < 17:=by omega
      have hcells:=heap_alloc_new wr (.cells #[.int .i64 ((i:Int) + 1),.func (.func f) #[] caps.toArray] 202)
      obtain ⟨wa,hwa⟩:∃ u,Hid (u = wr.alloc (.cells #[.int .i64 ((i:Int) + 1),.func (.func f) #[] caps.toArray] 202)):=⟨_,rfl⟩
      rw [← hwa.out] at hcells
      have hba:Below wr.heap.size wr wa:=by rw [hwa.out];exact (Below.refl _ _).alloc (Nat.le_refl _) _
      have hla:wr.heap.size < wa.heap.size:=(Array.getElem?_eq_some_iff.1 hcells).1
      have a1:=cell_blk hcells (i:=1) rfl
      have hwb:=hbc.trans (hba.mono hbc.size)
      have hLa:=hL.trans (Later.of_below hba)
      have hfa:=hfd.below hba
      obtain ⟨c0,c1,c2,c3,c4,c5⟩:=bx _ hwb
      have hcall:=hF c x wa hLa (hx.later hwb) wx lx
      have HWB:=Lib.hid hwb;have HLA:=Lib.hid hLa;have HFA:=Lib.hid hfa;have HC:=Lib.hid hcells;have HLW:=Lib.hid hla
      clear hF hwb hba hcells hbc hL hLa hfd hfa hrow hla
      cases hh:holdsP c ((i:Int) + 1) with
      | true =>
        rw [hh] at hcall
        have hcall:=gives_one hcall
        have HN:=Lib.hid (show allP c (i + 1) = ys ++ [(i:Int) + 1] by rw [HNX.out,if_pos hh])
        clear hh HNX
        go_wp2_with (first | (rw [← hwa.out]) | ((with_reducible refine wpList_fn (caps:=caps) eg hcall ?_ ?_ ?_);(first | rfl | fail);(first | rfl | fail)))
        rintro _ w5 ⟨rfl,hb5⟩
        obtain ⟨v,hv1,hv2,hv3,hv4⟩:=HFA.out.below hb5
        obtain ⟨A',c',rfl,hvl,hvm⟩:=hv2.slice
        have b0:=hv1.cell
        have b1:=hv1.frozen
        have r0:=cell_blk ((hb5.block _ HLW.out).trans HC.out) (i:=0) rfl
        have hwc:=HWB.out.trans (hb5.mono HWB.out.size)
        have HLA5:=Lib.hid (HLA.out.trans (Later.of_below hb5))
        have HV3:=Lib.hid hv3;have HV4:=Lib.hid hv4
        have htb:W.heap.size < w5.heap.size:=hv1.lt
        clear hb5 hv3 hv4 a1 c0 c1 c2 c3 c4 c5 q0 q1 hcall
        go_wp2_with (at_builtin;refine wpList_append_off _ rfl _ _ 55 rfl W.heap.size 3 i0 (.int .i64 0) 1 8 Tryz.underlying55 hi0 hz0 hz1 hz2 rfl (by decide) _ _ _ rfl (hv2.keptB ((Below.refl _ _).alloc (Nat.le_refl _) _)) ⟨w5.heap.size,0,none⟩ 1 1 [.int .i64 ((i:Int) + 1)] rfl rfl (news_new _ _ _) (by simp [Value.oneCell']) (by unfold maxLen;omega) (by omega) (by simp;omega) ?_)
        intro v' w6 hown' hgrow hfr
        obtain ⟨e1,e2,e3,e4,e5⟩:=Boxed.appendedOff hv1 (by decide) hv2 (by omega) (Nat.le_refl _) hown' hgrow
        have hown3:OwnsOff (w6.setCell ⟨W.heap.size,0,none⟩ v') W.heap.size 3 1 v' (ys ++ [(i:Int) + 1]).length (icells (ys ++ [(i:Int) + 1])):=by rw [List.length_append,icells_app];exact e3
        have hvn':∀ g,v'.ownBlock = some g → w1.heap.size ≤ g:=fun g hg => by
          rcases hfr g hg with h | h
          · exact HV3.out g h
          · have:=HV4.out;omega
        have hL6:Later W0.heap.size w1 (w6.setCell ⟨W.heap.size,0,none⟩ v'):=by
          refine ⟨Nat.le_trans HV4.out e5.size,fun g h1 h2 => ?_⟩
          have hs0:=HS0.out
          have h4:=HV4.out
          rw [Below.heap_setCell _ _ _ _ (by simp;omega),hgrow.block g (by simp;omega) (fun e => by have:=HV3.out g e.symm;omega),Below.heap_alloc _ _ _ (by omega)]
          exact HLA5.out.2 g h1 h2
        obtain ⟨a6,c6,rfl,_⟩:=hown'.slice
        have F6:=Lib.hid (show Found W.heap.size w1.heap.size (ys ++ [(i:Int) + 1]) (w6.setCell ⟨W.heap.size,0,none⟩ _) from ⟨_,e2,hown3,hvn',Nat.le_trans HV4.out e5.size⟩)
        have L6:=Lib.hid hL6
        have B6:=Lib.hid (hwc.trans (e5.mono (Nat.le_refl _)))
        have z0:=e1.cell
        have z1:=e1.frozen
        clear hown' hgrow hfr e1 e2 e3 e4 e5 hown3 hvn' hL6 hv1 hv2 b0 b1 r0 hwc
        go_wp2
        go_roundw
        case rel => exact ⟨i + 1,by omega,by go_num,by rw [HN.out];exact F6.out,L6.out,B6.out⟩
        case measure => simp [intOf];omega
      | false =>
        rw [hh] at hcall
        have hcall:=gives_one hcall
        have HN:=Lib.hid (show allP c (i + 1) = ys by rw [HNX.out,hh];simp)
        clear hh HNX
        go_wp2_with (first | (rw [← hwa.out]) | ((with_reducible refine wpList_fn (caps:=caps) eg hcall ?_ ?_ ?_);(first | rfl | fail);(first | rfl | fail);rintro _ w5 ⟨rfl,hb5⟩))
        go_roundw
        case rel => exact ⟨i + 1,by omega,by go_num,by rw [HN.out];exact HFA.out.below hb5,HLA.out.trans (Later.of_below hb5),HWB.out.trans (hb5.mono HWB.out.size)⟩
        case measure => simp [intOf];omega
    · have HE:=Lib.hid (show allP c 17 = ys by rw [← HYS.out,show i = 17 by omega])
      obtain ⟨v,h1,h2,h3,h4⟩:=hfd
      have hlt':¬ (i:Int) < 17:=by omega
      have H1:=Lib.hid h1;have H2:=Lib.hid h2
      clear h1 h2 h3 h4 hrow
      go_wp2
      go_ret
      exact ⟨W.heap.size,v,rfl,HB.out.size,H1.out,by rw [HE.out];exact H2.out.mono HB.out.size,HB.out.trans (hbc.mono HB.out.size)⟩
end Go.Proofs.YtheeiklgblcjfaaGreatDoor
namespace Go.Proofs.YtheeiklgblcjfaaGreatDoor
open Go.RowKit Go.Sort Go.Shelf
set_option linter.unusedVariables false
set_option linter.unusedSimpArgs false
set_option linter.unusedVariables false
attribute [local go_sem] Oper.semAt_some
/-- These blocks stand as they stood. -/
def KeepsB (bs:List Nat) (W W':World):Prop:=W.heap.size ≤ W'.heap.size ∧ ∀ k ∈ bs,W'.heap[k]? = W.heap[k]?
theorem KeepsB.refl (bs:List Nat) (W:World):KeepsB bs W W:=⟨Nat.le_refl _,fun _ _ => rfl⟩
theorem KeepsB.trans {bs:List Nat} {A B C:World} (h:KeepsB bs A B) (k:KeepsB bs B C):KeepsB bs A C:=⟨Nat.le_trans h.1 k.1,fun i hi => (k.2 i hi).trans (h.2 i hi)⟩
theorem keepsB_put {bs:List Nat} {W:World} {l:Nat} (o':Obj) (h:∀ k ∈ bs,k ≠ l):KeepsB bs W (W.putObj l o'):=⟨by simp,fun k hk => World.putObj_heap_other (h k hk)⟩
theorem cell_block {W:World} {b:Nat} {cs:Array Value} {t:TypeId} {m:Nat × Nat} {i:Nat} {v:Value} (h:W.heap[b]? = some (.cells cs t m)) (hv:cs[i]? = some v):W.cell? ⟨b,i,none⟩ = some v:=by
  simp [World.cell?,h,hv]
theorem cell_kept {W W':World} {b o:Nat} (h:W'.heap[b]? = W.heap[b]?):W'.cell? ⟨b,o,none⟩ = W.cell? ⟨b,o,none⟩:=by simp [World.cell?,h]
/-- What has been found lies so: its box tb,its row's block rb. -/
structure FoundAt (w:World) (tb rb:Nat) (A:Option Addr) (cap:Nat) (xs:List Int):Prop where
  box:w.heap[tb]? = some (.cells #[.slice A xs.length cap] 55 (0,0))
  row:0 < xs.length → ∃ o,A = some ⟨rb,o,none⟩ ∧ ∀ i,i < xs.length → w.cell? ⟨rb,o + i,none⟩ = some (.int .i64 (xs.getD i 0))
  lt:rb < w.heap.size
theorem FoundAt.of {w w':World} {tb rb:Nat} {A:Option Addr} {cap:Nat} {xs:List Int} (h:FoundAt w tb rb A cap xs) (hs:w.heap.size ≤ w'.heap.size) (h1:w'.heap[tb]? = w.heap[tb]?) (h2:w'.heap[rb]? = w.heap[rb]?):FoundAt w' tb rb A cap xs:=
  ⟨h1.trans h.box,fun hp => by
    obtain ⟨o,hA,hc⟩:=h.row hp
    exact ⟨o,hA,fun i hi => (cell_kept h2).trans (hc i hi)⟩,Nat.lt_of_lt_of_le h.lt hs⟩
theorem FoundAt.below {w w':World} {tb rb:Nat} {A:Option Addr} {cap:Nat} {xs:List Int} (h:FoundAt w tb rb A cap xs) (hb:Below w.heap.size w w'):FoundAt w' tb rb A cap xs:=
  h.of hb.size (hb.block _ (Array.getElem?_eq_some_iff.1 h.box).1) (hb.block _ h.lt)
theorem GivesIter.at_ {w w':World} {xs:List Int} {e:Ending} (h:GivesIter w xs e w'):∃ tb rb A cap,e = .returned (.func (.func 125) #[] #[.pointer (some ⟨tb,0,none⟩)]) ∧ w.heap.size ≤ tb ∧ w.heap.size ≤ rb ∧ FoundAt w' tb rb A cap xs ∧ Below w.heap.size w w':=by
  obtain ⟨tb,v,rfl,htb,hbx,hown,hb⟩:=h
  obtain ⟨A,cap,rfl,_⟩:=hown.slice
  by_cases hp:0 < xs.length
  · obtain ⟨g,off,cap',hv,hg,hgl,_,_,_,hcell⟩:=hown.lies hp
    cases hv
    refine ⟨tb,g,_,_,rfl,htb,hg,⟨hbx,fun _ => ⟨off,rfl,fun i hi => hcell i _ ?_⟩,hgl⟩,hb⟩
    simp [icells,List.getD_eq_getElem?_getD,hi]
  · exact ⟨tb,tb,A,cap,rfl,htb,htb,⟨hbx,fun h => absurd h hp,hbx.lt⟩,hb⟩
set_option maxHeartbeats 1600000 in
theorem iter_stops (n:Nat) (hn:1 ≤ n) (tb rb:Nat) (A:Option Addr) (cap:Nat) (xs:List Int) (hl:xs.length ≤ 1000000) (w:World) (hF:FoundAt w tb rb A cap xs) :
    SeqStopsK Fence.wide n Tryz.prog 125 #[.pointer (some ⟨tb,0,none⟩)] (fun x:Int => #[.int .i64 x]) (KeepsB [tb,rb]) (fun ys => ys = xs) (fun pre => pre <+: xs) xs.length w:=by
  intro lp J Jx W hW hJ hJx hY h0
  have hFW:=hF.below hW
  have hs0:W.cell? ⟨tb,0,none⟩ = some (.slice A xs.length cap):=cell_block hFW.box rfl
  refine callsIn_of_wp Tryz.func125 rfl trivial ?_ rfl
  simp only [Tryz.ntmps125,List.size_toArray,List.length_cons,List.length_nil,Nat.reduceAdd,Nat.reduceSub,Array.replicate_succ,Array.replicate_zero,List.push_toArray,List.append_toArray,List.nil_append,List.cons_append]
  gi_wp2
  gi_loopw [7] (fun ix wr => ∃ k:Nat,k ≤ xs.length ∧ ix = .int .i64 k ∧ J (xs.take k) wr ∧ KeepsB [tb,rb] W wr) (fun ix _ => xs.length - (intOf ix).toNat)
  case atStart => exact ⟨0,Nat.zero_le _,rfl,h0,KeepsB.refl _ _⟩
  case round =>
    obtain ⟨k,hk,rfl,hJk,hK⟩:=hrel
    by_cases hlt:k < xs.length
    · have hFr:=hFW.of hK.1 (hK.2 tb (by simp)) (hK.2 rb (by simp))
      obtain ⟨o,rfl,hca⟩:=hFr.row (by omega)
      have hc:=hca k hlt
      clear hca
      have hpx:xs.take k ++ [xs.getD k 0] = xs.take (k + 1):=by
        rw [List.take_succ_eq_append_getElem hlt]
        simp [List.getD_eq_getElem?_getD,hlt]
      obtain ⟨z,hz⟩:∃ z,xs.getD k 0 = z:=⟨_,rfl⟩
      rw [hz] at hc hpx
      have hlen:(xs.take k).length < xs.length:=by rw [List.length_take];omega
      have HP:=Lib.hid hpx
      have HQ:=Lib.hid (List.take_prefix (k + 1) xs)
      obtain ⟨fn,tmps,assign,body,hy,hR⟩:=hY _ z wr hJk hlen
      clear hpx hlen hz hs0 hFr
      gi_wp2
      refine hR.mono ?_
      rintro e W5 (⟨rfl,hJ5,hk5⟩ | ⟨rfl,hJx5⟩)
      · have hK5:=hK.trans hk5
        clear hR hy hc hK hk5
        gi_wp2
        go_roundw
        case rel => exact ⟨k + 1,by omega,by go_num,by rw [← HP.out];exact hJ5,hK5⟩
        case measure => simp [intOf];omega
      · clear hR hy hc
        gi_wp2
        refine bodyPost_ret (results_none rfl _ _ _) rfl ?_
        exact ⟨⟨_,rfl⟩,.inr ⟨_,by have h:=HQ.out;rwa [← HP.out] at h,hJx5⟩⟩
    · have hkk:xs.take k = xs:=List.take_of_length_le (by omega)
      have HK:=Lib.hid hkk
      clear hkk
      gi_wp2
      go_end0
      exact ⟨⟨_,rfl⟩,.inl ⟨_,by rw [HK.out],hJk⟩⟩
end Go.Proofs.YtheeiklgblcjfaaGreatDoor
namespace Go.Proofs.YtheeiklgblcjfaaGreatDoor
open Go.RowKit Go.Sort Go.Shelf
set_option linter.unusedVariables false
set_option linter.unusedSimpArgs false
set_option linter.unusedVariables false
attribute [local go_sem] Oper.semAt_some
theorem results_cell_int {fn:Func} {p:Tmp} {ty:TypeId} {P:Program} (h:fn.results = #[.cell p ty]) (hu:P.underlying ty = some (.int .i64)) (tmps:Array Value) (w:World) (g:Nat) (b:Int)
    (hp:tmps.getD p undef = .pointer (some ⟨g,0,none⟩)) (hc:w.cell? ⟨g,0,none⟩ = some (.int .i64 b)):(results fn tmps).run P w = .ok (.int .i64 b) w:=by
  have hp':tmps[p]?.getD undef = .pointer (some ⟨g,0,none⟩):=by simpa using hp
  simp [results,h,hp',asAddr,loadVar,isAgg,run_underlying hu]
  go_simp
/-- Before the first round: the result's box. -/
def FI (w:World) (pre:List Int) (W:World):Prop:=pre = [] ∧ Boxed W (w.heap.size + 1) 3 (.int .i64 0) ∧ Below w.heap.size w W
/-- The first round has left by the return. -/
def FX (w:World) (c:Code) (xs:List Int) (W:World):Prop:=c = .ret ∧ ∃ x,xs = [x] ∧ Boxed W (w.heap.size + 1) 3 (.int .i64 x) ∧ Below w.heap.size w W
theorem FI.turn {w:World} {n₀:Nat} (hn:w.heap.size ≤ n₀):OwnFrom n₀ (FI w):=by
  rintro s W W' row ⟨h1,h2,h3⟩ hg hr
  have keep:∀ (k:Nat) (o:Obj),W.heap[k]? = some o → o.isCells = true → W'.heap[k]? = some o:=fun k o hk ho =>
    (hg.block k (Array.getElem?_eq_some_iff.1 hk).1 (fun e => by obtain ⟨_,o',ho',hc⟩:=hr k e.symm;rw [hk] at ho';cases ho';rw [ho] at hc;cases hc)).trans hk
  exact ⟨h1,keep _ _ h2 rfl,h3.grown hg h3.size (fun k e => by have:=(hr k e).1;omega)⟩
theorem FX.turn {w:World} {n₀:Nat} (hn:w.heap.size ≤ n₀) (c:Code):OwnFrom n₀ (FX w c):=by
  rintro s W W' row ⟨h1,x,h2,h4,h3⟩ hg hr
  have keep:∀ (k:Nat) (o:Obj),W.heap[k]? = some o → o.isCells = true → W'.heap[k]? = some o:=fun k o hk ho =>
    (hg.block k (Array.getElem?_eq_some_iff.1 hk).1 (fun e => by obtain ⟨_,o',ho',hc⟩:=hr k e.symm;rw [hk] at ho';cases ho';rw [ho] at hc;cases hc)).trans hk
  exact ⟨h1,x,h2,keep _ _ h4 rfl,h3.grown hg h3.size (fun k e => by have:=(hr k e).1;omega)⟩
set_option maxRecDepth 100000 in
set_option maxHeartbeats 4000000 in
theorem first_in (n:Nat) (hn:3 ≤ n) (c:Cfg) (x:CfgAt) (w:World) (hx:CfgIn w w.heap.size c x) (wx:CfgWf c) (lx:CfgFew c) :
    CallsIn Fence.wide n Tryz.prog 103 #[.agg (cfgCells c x)] w fun e w' => e = .returned (.int .i64 ((allP c 17).headD 0)) ∧ Below w.heap.size w w':=by
  have h1:1 ≤ n:=by omega
  have hl:=allP_len c 17
  obtain ⟨ds,hds⟩:∃ ds,allP c 17 = ds:=⟨_,rfl⟩
  obtain ⟨W0,hW0⟩:∃ u,Hid (u = (w.alloc (.cells (cfgCells c x) 29)).alloc (.cells #[.int .i64 0] 3)):=⟨_,rfl⟩
  have hb0:Below w.heap.size w W0:=by rw [hW0.out];exact ((Below.refl _ w).alloc (Nat.le_refl _) _).alloc (by simp) _
  have hs0:W0.heap.size = w.heap.size + 2:=by rw [hW0.out];simp
  have hc0:CBox W0 w.heap.size c x:=by rw [hW0.out];exact (cbox_new w c x 29).on ((Below.refl _ _).alloc (Nat.le_refl _) _)
  obtain ⟨c0,c1,c2,c3,c4,c5⟩:=hc0 W0 (Below.refl _ _)
  have bR:Boxed W0 (w.heap.size + 1) 3 (.int .i64 0):=by
    rw [hW0.out]
    have:=Boxed.new (w.alloc (.cells (cfgCells c x) 29)) 3 (.int .i64 0)
    rwa [World.size_alloc] at this
  have hall:=all_b c x W0 (hx.later hb0) wx lx
  rw [hds] at hall hl ⊢
  have HW0:=Lib.hid hb0;have HS0:=Lib.hid hs0;have HR:=Lib.hid bR
  simp only [cfgCells]
  clear hb0 hs0 bR hc0 hds hx
  refine callsIn_of_wp_marks Tryz.func103 rfl trivial ?_ rfl
  simp only [Tryz.ntmps103,List.size_toArray,List.length_cons,List.length_nil,Nat.reduceAdd,Nat.reduceSub,Array.replicate_succ,Array.replicate_zero,List.push_toArray,List.append_toArray,List.nil_append,List.cons_append]
  gi_wp2_with (rw [← hW0.out])
  refine ⟨trivial,(callsIn_wide.2 hall).mono ?_⟩
  intro e w1 hG
  obtain ⟨tb,rb,A,cap,rfl,htb,hrb,hF,hb1⟩:=hG.at_
  have hs0:=HS0.out
  have hn0:w.heap.size + 2 ≤ w1.heap.size:=by have:=hb1.size;omega
  have hcl:w.heap.size + 2 ≤ tb ∧ tb < w1.heap.size:=⟨by omega,(Array.getElem?_eq_some_iff.1 hF.box).1⟩
  have hrl:w.heap.size + 2 ≤ rb ∧ rb < w1.heap.size:=⟨by omega,hF.lt⟩
  have hBw:Below w.heap.size w w1:=HW0.out.trans (hb1.mono (by omega))
  have bR:Boxed w1 (w.heap.size + 1) 3 (.int .i64 0):=(hb1.block (w.heap.size + 1) (by omega)).trans HR.out
  have hI0:FI w [] w1:=⟨rfl,bR,hBw⟩
  clear bR hBw hb1 hs0 hall c0 c1 c2 c3 c4 c5 hG
  gi_wp2
  refine wpIn_rangeFunc_ownG rfl h1 (gf:=125) (lb:=#[.pointer (some ⟨tb,0,none⟩)]) rfl trivial (enters_of Tryz.func125 (by kernel_rfl) rfl)
    (iter_stops (n - 1) (by omega) tb rb A cap ds (by omega) w1 hF) (fun h k => h.trans k) (fun W lp o o' hle _ _ _ => keepsB_put o' (by simp;omega)) (Below.refl _ _) (fun _ => rfl)
    (FI w) (FX w) (FI.turn (by omega)) (FX.turn (by omega)) hI0
    ?a1 ?assign ?body ?done ?stop
  case assign =>
    intro lp x W K hK
    gi_wp2
    exact hK
  case body =>
    rintro lp pre x W ⟨rfl,bR,hB⟩ hlt2
    have hcR:=bR.cell
    have hfR:=bR.frozen
    have H1:=Lib.hid bR;have H2:=Lib.hid hB
    clear bR hB
    gi_wp2
    exact ⟨(KeepsOthers.setCell _ _ _).from _,rfl,x,rfl,by simpa using H1.out.set (.int .i64 x),H2.out.setCell (by simp) _⟩
  case done =>
    rintro D ys W hD rfl ⟨hnil,bR,hB⟩ hK
    have hcR:=bR.cell
    have hfR:=bR.frozen
    have hDr:D ≠ w.heap.size + 1:=by omega
    subst hnil
    gi_wp2
    have hD9:(W.setCell ⟨w.heap.size + 1,0,none⟩ (.int .i64 0)).heap[D]? = some (.deferred (some [])):=(Below.heap_setCell _ _ _ _ (by simpa using hDr)).trans hK
    have br9:=bR.set (.int .i64 0)
    refine ⟨by simp,.inl ⟨_,_,rfl,run_takeDeferred hD9,?_⟩⟩
    have br10:Boxed ((W.setCell ⟨w.heap.size + 1,0,none⟩ (.int .i64 0)).putObj D (.deferred none)) (w.heap.size + 1) 3 (.int .i64 0):=(World.putObj_heap_other hDr.symm).trans br9
    exact ⟨_,results_cell_int rfl Tryz.underlying3 _ _ (w.heap.size + 1) 0 rfl br10.cell,rfl,(hB.setCell (by simp) _).trans (belowK_b (w:=w) (Nat.le_refl _) _ D _ _ (by omega) hD9 rfl rfl)⟩
  case stop =>
    rintro D cc ys W hD hpx ⟨rfl,x,rfl,bR,hB⟩ hK
    have hDr:D ≠ w.heap.size + 1:=by omega
    have hh:ds.headD 0 = x:=by
      obtain ⟨r,hr⟩:=hpx
      rw [← hr];rfl
    have HH:=Lib.hid hh
    clear hh hpx
    gi_wp2
    refine ⟨by simp,.inl ⟨_,_,rfl,run_takeDeferred hK,?_⟩⟩
    have br10:Boxed (W.putObj D (.deferred none)) (w.heap.size + 1) 3 (.int .i64 x):=(World.putObj_heap_other hDr.symm).trans bR
    exact ⟨_,results_cell_int rfl Tryz.underlying3 _ _ (w.heap.size + 1) x rfl br10.cell,by rw [HH.out],hB.trans (belowK_b (w:=w) (Nat.le_refl _) _ D _ _ (by omega) hK rfl rfl)⟩
theorem first_b (c:Cfg) (x:CfgAt) (w:World) (hx:CfgIn w w.heap.size c x) (wx:CfgWf c) (lx:CfgFew c):Calls Tryz.prog 103 #[.agg (cfgCells c x)] w fun e w' => e = .returned (.int .i64 ((allP c 17).headD 0)) ∧ Below w.heap.size w w':=callsIn_wide.1 (first_in 5 (by omega) c x w hx wx lx)
/-- Has it none? -/
def acceptsP (c:Cfg):Bool:=decide (allP c 17 = [])
theorem headD_zero {c:Cfg}:(allP c 17).headD 0 = 0 ↔ allP c 17 = []:=by
  have hp:∀ d ∈ allP c 17,1 ≤ d:=by
    intro d hd
    unfold allP at hd
    obtain ⟨i,_,rfl⟩:=List.mem_map.1 (List.mem_filter.1 hd).1
    omega
  cases h:allP c 17 with
  | nil => simp
  | cons d l =>
    have:=hp d (by rw [h];simp)
    simp
    omega
theorem accepts_b (c:Cfg) (x:CfgAt) (q:Bool) (w:World) (hx:CfgIn w w.heap.size c x) (wx:CfgWf c) (lx:CfgFew c) (hq:acceptsP c = q):Calls Tryz.prog 74 #[.agg (cfgCells c x)] w fun e w' => e = .returned (.bool q) ∧ Below w.heap.size w w':=by
  obtain ⟨W,HW,hB,-,bx⟩:=one_cbox w c x 29
  have hx:=hx.later hB
  obtain ⟨c0,c1,c2,c3,c4,c5⟩:=bx _ (Below.refl _ _)
  have HB:=Lib.hid hB
  have hF:=first_b c x W hx wx lx
  obtain ⟨d,hd⟩:∃ d,(allP c 17).headD 0 = d:=⟨_,rfl⟩
  have hdq:(d == 0) = q:=by
    rw [← hq,← hd]
    unfold acceptsP
    rw [Bool.eq_iff_iff]
    simp only [beq_iff_eq,decide_eq_true_eq]
    exact headD_zero
  rw [hd] at hF
  simp only [cfgCells]
  clear hB hd hq
  go_enter Tryz.func74,Tryz.ntmps74
  go_wp2_with (rw [← HW.out])
  refine hF.mono ?_
  rintro e w5 ⟨rfl,hb5⟩
  have HF:=Lib.hid (HB.out.trans (hb5.mono HB.out.size))
  clear hF hb5
  go_wp2
  go_ret
  exact ⟨rfl,HF.out⟩
end Go.Proofs.YtheeiklgblcjfaaGreatDoor
end
section
namespace Go.Proofs.YtheeiklgblcjfaaGreatDoor
open Go.RowKit Go.Sort
theorem same17 {c:Cfg} (h2:holdsB c 2 = false):holdsP c 17 = holdsB c 17:=by
  have b2:∀ i,i < c.parts.length → partBad c 2 i = false:=scan_false.1 h2
  unfold holdsP
  rw [if_pos rfl]
  show _ = scan c.parts.length (fun i => partBad c 17 i)
  refine scan_congr fun i hi => ?_
  show (!windowP c i) = !windowB c i
  congr 1
  have hc:=of_decide_eq_false (show decide (fld (row c.parts i) 0 ≠ 0 ∧ fld (row c.parts i) 0 ≠ 1) = false from b2 i hi)
  unfold windowP windowB
  by_cases h0:fld (row c.parts i) 0 = 0
  · rw [if_pos h0,if_pos h0];rfl
  · have h1:fld (row c.parts i) 0 = 1:=by omega
    rw [if_neg h0,if_neg h0,if_pos h1,if_pos h1];rfl
theorem nil_of {f:Int → Bool} (h:∀ k:Int,1 ≤ k → k ≤ 17 → f k = false):((List.range 17).map (fun i:Nat => (i:Int) + 1)).filter f = []:=by
  rw [List.filter_eq_nil_iff]
  intro k hk
  obtain ⟨i,hi,rfl⟩:=List.mem_map.1 hk
  have hi:=List.mem_range.1 hi
  rw [h _ (by omega) (by omega)]
  decide
theorem same_list {c:Cfg}:allP c 17 = [] ↔ allB c 17 = []:=by
  constructor
  · intro h
    have h2:holdsB c 2 = false:=by rw [← holdsP_not (c:=c) (k:=2) (by decide)];exact allP_nil h (by decide) (by decide)
    refine nil_of fun k a b => ?_
    by_cases h17:k = 17
    · subst h17;rw [← same17 h2];exact allP_nil h (by decide) (by decide)
    · rw [← holdsP_not h17];exact allP_nil h a b
  · intro h
    have h2:holdsB c 2 = false:=allB_nil h (by decide) (by decide)
    refine nil_of fun k a b => ?_
    by_cases h17:k = 17
    · subst h17;rw [same17 h2];exact allB_nil h (by decide) (by decide)
    · rw [holdsP_not h17];exact allB_nil h a b
/-- With acceptsP as in l07z.py: decide (allP c 17 = []). -/
theorem accepts_same (c:Cfg):decide (allP c 17 = []) = acceptsB c:=by
  unfold acceptsB
  exact decide_eq_decide.2 same_list
end Go.Proofs.YtheeiklgblcjfaaGreatDoor
end
section
namespace Go.Proofs.YtheeiklgblcjfaaGreatDoor
open Go.RowKit Go.Sort Go.ChangeShapes Go.WideShapes
set_option linter.unusedVariables false
set_option linter.unusedSimpArgs false
/-- The spans of a layout: none,of a configuration that isn't accepted. -/
def PV (c:Cfg):List (List Int):=if acceptsB c = true then pvL c c.parts.length else []
def SR (c:Cfg):List (List Int):=if acceptsB c = true then srL c c.chans.length else []
def DS (c:Cfg):List (List Int):=if acceptsB c = true then dsL c c.chans.length else []
/-- A call that hands back the three rows of a configuration's layout,in new memory. -/
def GivesPlaces (w:World) (c:Cfg) (e:Ending) (w':World):Prop:=∃ vp vs vd,e = .returned (.agg #[vp,vs,vd]) ∧ OwnsOff w' w.heap.size 173 2 vp (PV c).length (rcells [.i64,.i64] (PV c)) ∧
  OwnsOff w' w.heap.size 173 2 vs (SR c).length (rcells [.i64,.i64] (SR c)) ∧ OwnsOff w' w.heap.size 173 2 vd (DS c).length (rcells [.i64,.i64] (DS c)) ∧ Below w.heap.size w w'
set_option maxRecDepth 100000 in
set_option maxHeartbeats 1600000 in
theorem lay_b (c:Cfg) (x:CfgAt) (w:World) (hx:CfgIn w w.heap.size c x) (wx:CfgWf c) (lx:CfgFew c):Calls Tryz.prog 123 #[.agg (cfgCells c x)] w (GivesPlaces w c):=by
  obtain ⟨W,hW⟩:∃ u,Hid (u = (w.alloc (.cells (cfgCells c x) 29)).alloc (.cells #[.slice none 0 0,.slice none 0 0,.slice none 0 0] 197)):=⟨_,rfl⟩
  have hb0:Below w.heap.size w W:=by rw [hW.out];exact ((Below.refl _ w).alloc (Nat.le_refl _) _).alloc (by simp) _
  have hs0:W.heap.size = w.heap.size + 2:=by rw [hW.out];simp
  have hCb:CBox W w.heap.size c x:=by rw [hW.out];exact (cbox_new w c x 29).on ((Below.refl _ _).alloc (Nat.le_refl _) _)
  have hR:W.heap[w.heap.size + 1]? = some (.cells #[.slice none 0 0,.slice none 0 0,.slice none 0 0] 197 (0,0)):=by
    rw [hW.out]
    have:=heap_alloc_new (w.alloc (.cells (cfgCells c x) 29)) (.cells #[.slice none 0 0,.slice none 0 0,.slice none 0 0] 197)
    simpa using this
  obtain ⟨c0,c1,c2,c3,c4,c5⟩:=hCb W (Below.refl _ _)
  have hxW:=hx.later hb0
  obtain ⟨q,hq⟩:∃ q,acceptsB c = q:=⟨_,rfl⟩
  have HA:=Lib.hid (accepts_b c x q W hxW wx lx (by rw [← hq,← accepts_same];rfl))
  have HQ:=Lib.hid hq;have HB:=Lib.hid hb0;have HS:=Lib.hid hs0;have HR:=Lib.hid hR;have HX:=Lib.hid hxW
  simp only [cfgCells] at hW HA ⊢
  clear hb0 hs0 hR hx hxW hq
  cases q with
  | false =>
    have hp:PV c = []:=if_neg (by rw [HQ.out];decide)
    have hs:SR c = []:=if_neg (by rw [HQ.out];decide)
    have hd:DS c = []:=if_neg (by rw [HQ.out];decide)
    have HP:=Lib.hid hp;have HSS:=Lib.hid hs;have HD:=Lib.hid hd
    clear hp hs hd
    go_enter Tryz.func123,Tryz.ntmps123
    go_wp2_with (rw [← hW.out])
    refine HA.out.mono ?_
    rintro e w5 ⟨rfl,hb5⟩
    have hR5:=(hb5.block _ (Array.getElem?_eq_some_iff.1 HR.out).1).trans HR.out
    have f0:w5.frozen? ⟨w.heap.size + 1,0,none⟩ = false:=by simp [World.frozen?,hR5]
    have f1:w5.frozen? ⟨w.heap.size + 1,1,none⟩ = false:=by simp [World.frozen?,hR5]
    have f2:w5.frozen? ⟨w.heap.size + 1,2,none⟩ = false:=by simp [World.frozen?,hR5]
    have y0:=cell_blk hR5 (i:=0) rfl
    have y1:=cell_blk hR5 (i:=1) rfl
    have y2:=cell_blk hR5 (i:=2) rfl
    have HR5:=Lib.hid hR5
    have HF:=Lib.hid (HB.out.trans (hb5.mono HB.out.size))
    clear hb5 hR5 c0 c1 c2 c3 c4 c5 HA
    go_wp2
    have hRz:(((w5.setCell ⟨w.heap.size + 1,0,none⟩ (.slice none 0 0)).setCell ⟨w.heap.size + 1,1,none⟩ (.slice none 0 0)).setCell ⟨w.heap.size + 1,2,none⟩ (.slice none 0 0)).heap[w.heap.size + 1]? = some (.cells #[.slice none 0 0,.slice none 0 0,.slice none 0 0] 197 (0,0)):=by simp [World.setCell,Array.getElem?_modify,HR5.out]
    exact bodyPost_ret (results_cell_places rfl _ _ (w.heap.size + 1) _ _ _ rfl (cell_blk hRz (i:=0) rfl) (cell_blk hRz (i:=1) rfl) (cell_blk hRz (i:=2) rfl)) rfl
      ⟨_,_,_,rfl,by rw [HP.out];exact OwnsOff.nil _ _ _ _,by rw [HSS.out];exact OwnsOff.nil _ _ _ _,by rw [HD.out];exact OwnsOff.nil _ _ _ _,((HF.out.setCell (p:=⟨w.heap.size + 1,0,none⟩) (by simp) _).setCell (p:=⟨w.heap.size + 1,1,none⟩) (by simp) _).setCell (p:=⟨w.heap.size + 1,2,none⟩) (by simp) _⟩
  | true =>
    have hp:PV c = pvL c c.parts.length:=if_pos HQ.out
    have hs:SR c = srL c c.chans.length:=if_pos HQ.out
    have hd:DS c = dsL c c.chans.length:=if_pos HQ.out
    have HP:=Lib.hid hp;have HSS:=Lib.hid hs;have HD:=Lib.hid hd;have HAC:=Lib.hid (accd_of HQ.out)
    clear hp hs hd
    go_enter Tryz.func123,Tryz.ntmps123
    go_wp2_with (rw [← hW.out])
    refine HA.out.mono ?_
    rintro e w5 ⟨rfl,hb5⟩
    have hEa:=heap_alloc_new w5 (.cells #[.int .i64 0] 206)
    obtain ⟨w6,hw6⟩:∃ u,Hid (u = w5.alloc (.cells #[.int .i64 0] 206)):=⟨_,rfl⟩
    rw [← hw6.out] at hEa
    have hb6:Below w5.heap.size w5 w6:=by rw [hw6.out];exact (Below.refl _ _).alloc (Nat.le_refl _) _
    have hB6:=hb5.trans (hb6.mono hb5.size)
    have hR6:=(hB6.block _ (Array.getElem?_eq_some_iff.1 HR.out).1).trans HR.out
    have hin:CfgIn w6 w5.heap.size c x:=(HX.out.below hB6).more hb5.size
    have HST:=Lib.hid (stand_b c x w5.heap.size w6 hin wx HAC.out hEa)
    obtain ⟨d0,d1,d2,d3,d4,d5⟩:=hCb _ hB6
    have HB6:=Lib.hid hB6;have HR6:=Lib.hid hR6;have H5S:=Lib.hid hb5.size
    simp only [cfgCells] at HST
    clear hb5 hR6 c0 c1 c2 c3 c4 c5 HA hEa hb6 hB6 hin
    go_wp2_with (rw [← hw6.out])
    refine HST.out.mono ?_
    rintro e w7 ⟨vp,vs,vd,rfl,r1,r2,r3,ho⟩
    have hb7:Below W.heap.size W w7:=HB6.out.trans (ho.below (B:=W.heap.size) HB6.out.size (fun k hk => by have:k = w5.heap.size:=hk;have:=H5S.out;omega))
    have hR7:=(hb7.block _ (Array.getElem?_eq_some_iff.1 HR.out).1).trans HR.out
    have f0:w7.frozen? ⟨w.heap.size + 1,0,none⟩ = false:=by simp [World.frozen?,hR7]
    have f1:w7.frozen? ⟨w.heap.size + 1,1,none⟩ = false:=by simp [World.frozen?,hR7]
    have f2:w7.frozen? ⟨w.heap.size + 1,2,none⟩ = false:=by simp [World.frozen?,hR7]
    have y0:=cell_blk hR7 (i:=0) rfl
    have y1:=cell_blk hR7 (i:=1) rfl
    have y2:=cell_blk hR7 (i:=2) rfl
    have s6:=HB6.out.size
    have s0:=HS.out
    have HR7:=Lib.hid hR7;have HB7:=Lib.hid hb7;have H1:=Lib.hid r1;have H2:=Lib.hid r2;have H3:=Lib.hid r3
    obtain ⟨A1,k1,rfl,_⟩:=r1.slice
    obtain ⟨A2,k2,rfl,_⟩:=r2.slice
    obtain ⟨A3,k3,rfl,_⟩:=r3.slice
    clear hb7 hR7 r1 r2 r3 ho d0 d1 d2 d3 d4 d5
    go_wp2
    have hRz:(((w7.setCell ⟨w.heap.size + 1,0,none⟩ (.slice A1 c.parts.length k1)).setCell ⟨w.heap.size + 1,1,none⟩ (.slice A2 c.chans.length k2)).setCell ⟨w.heap.size + 1,2,none⟩ (.slice A3 c.chans.length k3)).heap[w.heap.size + 1]? = some (.cells #[.slice A1 c.parts.length k1,.slice A2 c.chans.length k2,.slice A3 c.chans.length k3] 197 (0,0)):=by simp [World.setCell,Array.getElem?_modify,HR7.out]
    have hO:=((Only.setCell w7 ⟨w.heap.size + 1,0,none⟩ (.slice A1 c.parts.length k1)).trans (Only.setCell _ ⟨w.heap.size + 1,1,none⟩ (.slice A2 c.chans.length k2))).trans (Only.setCell _ ⟨w.heap.size + 1,2,none⟩ (.slice A3 c.chans.length k3))
    have keep:∀ {v n xs},OwnsOff w7 w6.heap.size 173 2 v n xs → OwnsOff _ w.heap.size 173 2 v n xs:=fun h => (h.kept hO (fun k hk e => by have:=(h.lt k hk).1;have:k = w.heap.size + 1:=e;omega)).mono (by omega)
    refine bodyPost_ret (results_cell_places rfl _ _ (w.heap.size + 1) _ _ _ rfl (cell_blk hRz (i:=0) rfl) (cell_blk hRz (i:=1) rfl) (cell_blk hRz (i:=2) rfl)) rfl ⟨_,_,_,rfl,?_,?_,?_,?_⟩
    · rw [HP.out,pvL_len];exact keep H1.out
    · rw [HSS.out,srL_len];exact keep H2.out
    · rw [HD.out,dsL_len];exact keep H3.out
    · exact (HB.out.trans (HB7.out.mono HB.out.size)).trans (hO.below (Nat.le_trans HB.out.size HB7.out.size) (fun k hk => by have:k = w.heap.size + 1:=hk;omega))
end Go.Proofs.YtheeiklgblcjfaaGreatDoor
end
section
namespace Go.Proofs.YtheeiklgblcjfaaGreatDoor
open Go.RowKit Go.Sort Go.ChangeShapes Go.WideShapes
set_option linter.unusedVariables false
set_option linter.unusedSimpArgs false
theorem i64_of {n:Int} (h:-9223372036854775808 ≤ n ∧ n ≤ 9223372036854775807):(Lit.int .i64 n).wf = true:=by
  simp [Lit.wf,IntKind.min,IntKind.max,IntKind.signed,IntKind.bits];omega
theorem span2_wf {a b:Int} (h0:-9223372036854775808 ≤ a ∧ a ≤ 9223372036854775807) (h1:-9223372036854775808 ≤ b ∧ b ≤ 9223372036854775807):wfN [.i64,.i64] [a,b]:=
  wfN2_mk (i64_of h0) (i64_of h1)
theorem pvL_at (c:Cfg) {n i:Nat} (h:i < n):(pvL c n)[i]? = some [privUp c.parts i,fld (row c.parts i) 1]:=by simp [pvL,h]
theorem PV_len (c:Cfg):(PV c).length ≤ 1000000:=by
  unfold PV
  split
  · rw [pvL_len];have:=(accd_of (by assumption)).parts;omega
  · simp
theorem PV_wf (c:Cfg):wfR [.i64,.i64] (PV c):=by
  unfold PV
  split
  · rename_i h
    have ha:=accd_of h
    intro q hq
    obtain ⟨i,hi,rfl⟩:=List.mem_map.1 hq
    have hi:=List.mem_range.1 hi
    have h1:=privUp_in ha i (by omega)
    have h2:=ha.priv i hi
    have h3:=ha.parts
    exact span2_wf (by omega) (by omega)
  · intro q hq;cases hq
theorem nthS_at {l:List (List Int)} {i:Nat} {a b:Int} (h:l[i]? = some [a,b]):nthS l (i:Int) = (a,b):=by
  have hi:=(List.getElem?_eq_some_iff.1 h).1
  unfold nthS
  rw [if_pos (by omega),Int.toNat_natCast,row_at h]
  rfl
theorem nthS_out {l:List (List Int)} {n:Int} (h:¬ (0 ≤ n ∧ n < (l.length:Int))):nthS l n = (0,0):=if_neg h
theorem nthS_pv (c:Cfg) (p:Int):nthS (PV c) p = privSpan c p:=by
  unfold PV privSpan
  cases hq:acceptsB c with
  | false => rw [if_neg (by decide),if_neg (by simp)];exact nthS_out (by simp)
  | true =>
    rw [if_pos rfl]
    by_cases h:0 ≤ p ∧ p < (c.parts.length:Int)
    · obtain ⟨k,rfl⟩:=Int.eq_ofNat_of_zero_le h.1
      rw [if_pos ⟨rfl,h⟩,Int.toNat_natCast]
      exact nthS_at (pvL_at c (by omega))
    · rw [if_neg (fun h' => h h'.2)]
      exact nthS_out (by rw [pvL_len];exact h)
end Go.Proofs.YtheeiklgblcjfaaGreatDoor
namespace Go.Proofs.YtheeiklgblcjfaaGreatDoor
open Go.RowKit Go.Sort Go.ChangeShapes Go.WideShapes
set_option linter.unusedVariables false
set_option linter.unusedSimpArgs false
theorem run_places0 (A1 A2 A3:Option Addr) (n1 n2 n3 k1 k2 k3:Nat) (w:World):(Instr.field 197 (.agg #[.slice A1 n1 k1,.slice A2 n2 k2,.slice A3 n3 k3]) 0).run Tryz.prog w = .ok (.slice A1 n1 k1) w:=by kernel_rfl
set_option maxRecDepth 100000 in
set_option maxHeartbeats 1600000 in
theorem private_b (c:Cfg) (x:CfgAt) (p:Int) (w:World) (hx:CfgIn w w.heap.size c x) (wx:CfgWf c) (lx:CfgFew c):Calls Tryz.prog 115 #[.agg (cfgCells c x),.int .i64 p] w fun e w' => e = .returned (.agg #[.int .i64 (privSpan c p).1,.int .i64 (privSpan c p).2]) ∧ Below w.heap.size w w':=by
  obtain ⟨Wc,HWc,hBc,hWs,bx⟩:=one_cbox w c x 29
  obtain ⟨pa,pc,ca,cc,aa,ac,ba,bc⟩:=x
  obtain ⟨W,HW⟩:∃ u,Hid (u = Wc.alloc (.cells #[.int .i64 0,.int .i64 0] 173)):=⟨_,rfl⟩
  obtain ⟨r,hr⟩:∃ r,r = Wc.heap.size:=⟨_,rfl⟩
  have hrr:Wc.heap.size ≤ r:=by omega
  have hR:W.heap[r]? = some (.cells #[.int .i64 0,.int .i64 0] 173 (0,0)):=by rw [HW.out,hr];exact heap_alloc_new _ _
  have hBW:Below Wc.heap.size Wc W:=by rw [HW.out];exact (Below.refl _ _).alloc (Nat.le_refl _) _
  have hxW:=hx.later (hBc.trans (hBW.mono hBc.size))
  obtain ⟨c0,c1,c2,c3,c4,c5⟩:=bx _ hBW
  have HB:=Lib.hid hBc;have HR0:=Lib.hid hR;have HBW:=Lib.hid hBW;have HXW:=Lib.hid hxW;have HXC:=Lib.hid (hx.later hBc);have HRR:=Lib.hid hr
  simp only [cfgCells] at HWc ⊢
  clear hBc hR hBW hxW hx hr hWs
  have HLY:=Lib.hid (lay_b c ⟨pa,pc,ca,cc,aa,ac,ba,bc⟩ W HXW.out wx lx)
  have HN:=Lib.hid (fun A cap w' (hr:RowN [.i64,.i64] w' w'.heap.size A (PV c)) => nth_b (PV c) A cap p w' hr (PV_wf c) (PV_len c))
  rw [nthS_pv] at HN
  simp only [cfgCells] at HLY
  go_enter Tryz.func115,Tryz.ntmps115
  go_wp2_with (first | (rw [← HWc.out]) | (rw [← HW.out]))
  refine HLY.out.mono ?_
  rintro e w5 ⟨vp,vs,vd,rfl,r1,r2,r3,hb5⟩
  obtain ⟨A,cap,rfl,_,_,hrow,_,_⟩:=OwnsOff.rowN (ks:=[.i64,.i64]) r1 (PV_wf c)
  obtain ⟨A2,k2,rfl,_⟩:=r2.slice
  obtain ⟨A3,k3,rfl,_⟩:=r3.slice
  have HC:=Lib.hid (HN.out A cap w5 hrow)
  have HR5:=Lib.hid ((hb5.block r (Array.getElem?_eq_some_iff.1 HR0.out).1).trans HR0.out)
  have HB5:=Lib.hid (HBW.out.trans (hb5.mono HBW.out.size))
  clear hb5 r1 r2 r3 c0 c1 c2 c3 c4 c5 hrow
  have hfd:=run_places0
  go_wp2_with fail
  clear hfd
  refine HC.out.mono ?_
  rintro e w6 ⟨rfl,hb6⟩
  have hR6:=(hb6.block r (Array.getElem?_eq_some_iff.1 HR5.out).1).trans HR5.out
  have z0:=cell_blk hR6 (i:=0) rfl
  have z1:=cell_blk hR6 (i:=1) rfl
  have f0:w6.frozen? ⟨r,0,none⟩ = false:=by simp [World.frozen?,hR6]
  have f1:w6.frozen? ⟨r,1,none⟩ = false:=by simp [World.frozen?,hR6]
  have HR6:=Lib.hid hR6
  have HF:=Lib.hid (HB.out.trans ((HB5.out.trans (hb6.mono HB5.out.size)).mono HB.out.size))
  obtain ⟨y0,hy0⟩:∃ y0,(privSpan c p).1 = y0:=⟨_,rfl⟩
  obtain ⟨y1,hy1⟩:∃ y1,(privSpan c p).2 = y1:=⟨_,rfl⟩
  simp only [hy0,hy1]
  have HY0:=Lib.hid hy0;have HY1:=Lib.hid hy1
  clear hb6 hR6 hy0 hy1
  simp only [← HRR.out]
  go_wp2
  have hRz:((w6.setCell ⟨r,0,none⟩ (.int .i64 y0)).setCell ⟨r,1,none⟩ (.int .i64 y1)).heap[r]? = some (.cells #[.int .i64 y0,.int .i64 y1] 173 (0,0)):=by simp [World.setCell,Array.getElem?_modify,HR6.out]
  refine bodyPost_ret (results_cell_span rfl _ _ r y0 y1 rfl (cell_blk hRz (i:=0) rfl) (cell_blk hRz (i:=1) rfl)) rfl ⟨by rw [HY0.out,HY1.out],(HF.out.setCell (p:=⟨r,0,none⟩) ?_ _).setCell (p:=⟨r,1,none⟩) ?_ _⟩ <;> (have:=HB.out.size;show w.heap.size ≤ r;omega)
end Go.Proofs.YtheeiklgblcjfaaGreatDoor
end
section
namespace Go.Proofs.YtheeiklgblcjfaaGreatDoor
namespace One
/-- Is a span right? -/
def rightB (f s:Int):Bool:=decide (0 ≤ f ∧ f ≤ 2147483647 ∧ 0 ≤ s ∧ s ≤ 2147483647 - f)
/-- Has it that address? -/
def hasB (f s x:Int):Bool:=rightB f s && decide (f ≤ x ∧ x < f + s)
theorem rightB_yes {f s:Int}:rightB f s = true ↔ 0 ≤ f ∧ f ≤ 2147483647 ∧ 0 ≤ s ∧ s ≤ 2147483647 - f:=by
  unfold rightB;exact decide_eq_true_iff
theorem rightB_no {f s:Int}:rightB f s = false ↔ ¬ (0 ≤ f ∧ f ≤ 2147483647 ∧ 0 ≤ s ∧ s ≤ 2147483647 - f):=by
  unfold rightB;exact decide_eq_false_iff_not
theorem hasB_yes {f s x:Int}:hasB f s x = true ↔ (0 ≤ f ∧ f ≤ 2147483647 ∧ 0 ≤ s ∧ s ≤ 2147483647 - f) ∧ f ≤ x ∧ x < f + s:=by
  unfold hasB;rw [Bool.and_eq_true,rightB_yes,decide_eq_true_iff]
end One
end Go.Proofs.YtheeiklgblcjfaaGreatDoor
end
section
namespace Go.Proofs.YtheeiklgblcjfaaGreatDoor
namespace One
open Go.RowKit Go.Sort
set_option linter.unusedVariables false
set_option linter.unusedSimpArgs false
theorem right_b (f s:Int) (w:World) :
    Calls Tryz.prog 120 #[.agg #[.int .i64 f,.int .i64 s]] w fun e w' => e = .returned (.bool (rightB f s)) ∧ Below w.heap.size w w':=by
  by_cases h1:0 ≤ f
  · by_cases h2:f ≤ 2147483647
    · by_cases h3:0 ≤ s
      · by_cases h4:s ≤ 2147483647 - f
        · rw [rightB_yes.2 ⟨h1,h2,h3,by omega⟩]
          go_enter Tryz.func120,Tryz.ntmps120
          go_wp2
          go_ret
          exact ⟨rfl,(Below.refl _ _).alloc (Nat.le_refl _) _⟩
        · rw [rightB_no.2 (by omega)]
          go_enter Tryz.func120,Tryz.ntmps120
          go_wp2
          go_ret
          exact ⟨rfl,(Below.refl _ _).alloc (Nat.le_refl _) _⟩
      · rw [rightB_no.2 (by omega)]
        go_enter Tryz.func120,Tryz.ntmps120
        go_wp2
        go_ret
        exact ⟨rfl,(Below.refl _ _).alloc (Nat.le_refl _) _⟩
    · rw [rightB_no.2 (by omega)]
      go_enter Tryz.func120,Tryz.ntmps120
      go_wp2
      go_ret
      exact ⟨rfl,(Below.refl _ _).alloc (Nat.le_refl _) _⟩
  · rw [rightB_no.2 (by omega)]
    go_enter Tryz.func120,Tryz.ntmps120
    go_wp2
    go_ret
    exact ⟨rfl,(Below.refl _ _).alloc (Nat.le_refl _) _⟩
theorem end_b (f s:Int) (w:World) (h:rightB f s = true) :
    Calls Tryz.prog 121 #[.agg #[.int .i64 f,.int .i64 s]] w fun e w' => e = .returned (.int .i64 (f + s)) ∧ Below w.heap.size w w':=by
  obtain ⟨h1,h2,h3,h4⟩:=rightB_yes.1 h
  clear h
  go_enter Tryz.func121,Tryz.ntmps121
  go_wp2
  go_ret
  exact ⟨rfl,(Below.refl _ _).alloc (Nat.le_refl _) _⟩
theorem has_b (f s x:Int) (w:World) :
    Calls Tryz.prog 114 #[.agg #[.int .i64 f,.int .i64 s],.int .i64 x] w fun e w' => e = .returned (.bool (hasB f s x)) ∧ Below w.heap.size w w':=by
  obtain ⟨W,HW,hbw,hsz,k0,k1⟩:=one_box w (.int .i64 f) (.int .i64 s) 173
  by_cases hr:rightB f s = true
  · by_cases h0:f ≤ x
    · rw [show hasB f s x = decide (x < f + s) by unfold hasB;simp [hr,h0]]
      go_enter Tryz.func114,Tryz.ntmps114
      have hbc:=Below.refl W.heap.size W
      go_wp2_with ((try rw [← HW.out]);(first | with_reducible refine wpList_on hbc ?_ | with_reducible refine wp_on hbc (by kernel_rfl) (by kernel_rfl) ?_);(repeat (go_big_quiet_step (first | exact regrown_is (by assumption) (right_b _ _ _) | exact Calls.regrown_of (right_b _ _ _) | exact Calls.regrown_of (end_b _ _ _ (by assumption)))));with_reducible refine wpQuiet_nil ?_;intro wc hbc)
      go_ret
      exact ⟨by simp [*],hbw.trans (hbc.mono (by omega))⟩
    · rw [(bool_of hasB_yes).2 (by omega)]
      have h0':decide (f ≤ x) = false:=by simpa using h0
      go_enter Tryz.func114,Tryz.ntmps114
      have hbc:=Below.refl W.heap.size W
      go_wp2_with ((try rw [← HW.out]);(first | with_reducible refine wpList_on hbc ?_ | with_reducible refine wp_on hbc (by kernel_rfl) (by kernel_rfl) ?_);(repeat (go_big_quiet_step (first | exact regrown_is (by assumption) (right_b _ _ _) | exact Calls.regrown_of (right_b _ _ _) | exact Calls.regrown_of (end_b _ _ _ (by assumption)))));with_reducible refine wpQuiet_nil ?_;intro wc hbc)
      go_ret
      exact ⟨by simp [*],hbw.trans (hbc.mono (by omega))⟩
  · have hr':rightB f s = false:=by simpa using hr
    rw [show hasB f s x = false by unfold hasB;simp [hr']]
    go_enter Tryz.func114,Tryz.ntmps114
    have hbc:=Below.refl W.heap.size W
    go_wp2_with ((try rw [← HW.out]);(first | with_reducible refine wpList_on hbc ?_ | with_reducible refine wp_on hbc (by kernel_rfl) (by kernel_rfl) ?_);(repeat (go_big_quiet_step (first | exact regrown_is (by assumption) (right_b _ _ _) | exact Calls.regrown_of (right_b _ _ _) | exact Calls.regrown_of (end_b _ _ _ (by assumption)))));with_reducible refine wpQuiet_nil ?_;intro wc hbc)
    go_ret
    exact ⟨by simp [*],hbw.trans (hbc.mono (by omega))⟩
end One
end Go.Proofs.YtheeiklgblcjfaaGreatDoor
end
