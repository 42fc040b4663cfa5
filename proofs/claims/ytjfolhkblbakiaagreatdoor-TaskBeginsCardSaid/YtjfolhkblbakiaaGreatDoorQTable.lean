/- Texts of the ring, joined, what is used of them. No condition but those in the statements. -/
import Derived.BigQuiet
import Derived.Laws.EntriesVeiled
import Derived.Shelf.Abstract
import Derived.Test.YtjfolhkblbakiaaGreatDoorQFew
import Derived.Test.YtjfolhkblbakiaaGreatDoorQRow147
import Derived.Test.YtjfolhkblbakiaaGreatDoorQSmA
import Derived.Test.YtjfolhkblbakiaaGreatDoorQgC
namespace Go.Proofs.YtjfolhkblbakiaaGreatDoor
open Go.RowKit Go.Sort Go.Shelf
set_option linter.unusedVariables false
set_option linter.unusedSimpArgs false
/-- The blocks from n0 on that were there stand as they stood. -/
def Later (n0:Nat) (w w':World):Prop:=w.heap.size ≤ w'.heap.size ∧ ∀ b,n0 ≤ b → b < w.heap.size → w'.heap[b]? = w.heap[b]?
theorem Later.of_below {n0:Nat} {w w':World} (h:Below w.heap.size w w'):Later n0 w w':=⟨h.size,fun b _ hb => h.block b hb⟩
theorem Later.refl (n0:Nat) (w:World):Later n0 w w:=⟨Nat.le_refl _,fun _ _ _ => rfl⟩
theorem Later.trans {n0:Nat} {a b c:World} (h:Later n0 a b) (k:Later n0 b c):Later n0 a c:=⟨Nat.le_trans h.1 k.1,fun i h1 h2 => (k.2 i h1 (Nat.lt_of_lt_of_le h2 h.1)).trans (h.2 i h1 h2)⟩
theorem Later.cell {n0:Nat} {w w':World} {b o:Nat} {v:Value} (h:Later n0 w w') (hn:n0 ≤ b) (hc:w.cell? ⟨b,o,none⟩ = some v):w'.cell? ⟨b,o,none⟩ = some v:=by
  have hb:b < w.heap.size:=World.block_lt_of_cell? w _ hc
  rw [← hc]
  simp [World.cell?,h.2 b hn hb]
/-- A function of the table: at any configuration it tells whether it has the defect k. -/
def FnOf (n0:Nat) (w:World) (f:Nat) (caps:List Value) (k:Int):Prop:=
  (∀ args w,(callFunc f args).run Tryz.prog w = .ok (.enter f args) w) ∧ ∀ (c:Cfg) (x:CfgAt) (w':World),Later n0 w w' → CfgIn w' w'.heap.size c x → CfgWf c → CfgFew c →
    Calls Tryz.prog f ([Value.agg (cfgCells c x)] ++ caps).toArray w' fun e w'' => e = .returned (.bool (holdsP c k)) ∧ Below w'.heap.size w' w''
theorem FnOf.later {n0:Nat} {w w':World} {f:Nat} {caps:List Value} {k:Int} (h:FnOf n0 w f caps k) (hl:Later n0 w w'):FnOf n0 w' f caps k:=⟨h.1,fun c x w2 h2 => h.2 c x w2 (hl.trans h2)⟩
theorem fn1 (n0:Nat) (w:World):FnOf n0 w 189 [] 1:=⟨enters_of Tryz.func189 (by kernel_rfl) rfl,fun c x w2 hl hx wx lx => by
  obtain ⟨parts,chans,len0,win0,len1,win1⟩:=c
  obtain ⟨pa,pc,ca,cc,aa,ac,ba,bc⟩:=x
  exact row1_b parts chans len0 win0 len1 win1 pa pc ca cc aa ac ba bc w2⟩
theorem fn2 (n0 B:Nat) (w:World) (hn:n0 ≤ B) (hB:w.cell? ⟨B,0,none⟩ = some (.func (.func 192) #[] #[])):FnOf n0 w 215 [.pointer (some ⟨B,0,none⟩)] 2:=⟨enters_of Tryz.func215 (by kernel_rfl) rfl,fun c x w2 hl hx wx lx => by
  obtain ⟨parts,chans,len0,win0,len1,win1⟩:=c
  obtain ⟨pa,pc,ca,cc,aa,ac,ba,bc⟩:=x
  exact row2_b parts chans len0 win0 len1 win1 pa pc ca cc aa ac ba bc B w2 hx.rp wx.wp lx.1 hx.rc wx.wc lx.2.1 hx.ra wx.wa lx.2.2.1 hx.rb wx.wb lx.2.2.2 (hl.cell hn hB)⟩
theorem fn3 (n0 B:Nat) (w:World) (hn:n0 ≤ B) (hB:w.cell? ⟨B,0,none⟩ = some (.func (.func 194) #[] #[])):FnOf n0 w 215 [.pointer (some ⟨B,0,none⟩)] 3:=⟨enters_of Tryz.func215 (by kernel_rfl) rfl,fun c x w2 hl hx wx lx => by
  obtain ⟨parts,chans,len0,win0,len1,win1⟩:=c
  obtain ⟨pa,pc,ca,cc,aa,ac,ba,bc⟩:=x
  exact row3_b parts chans len0 win0 len1 win1 pa pc ca cc aa ac ba bc B w2 hx.rp wx.wp lx.1 hx.rc wx.wc lx.2.1 hx.ra wx.wa lx.2.2.1 hx.rb wx.wb lx.2.2.2 (hl.cell hn hB)⟩
theorem fn4 (n0:Nat) (w:World):FnOf n0 w 195 [] 4:=⟨enters_of Tryz.func195 (by kernel_rfl) rfl,fun c x w2 hl hx wx lx => by
  obtain ⟨parts,chans,len0,win0,len1,win1⟩:=c
  obtain ⟨pa,pc,ca,cc,aa,ac,ba,bc⟩:=x
  exact row4_b parts chans len0 win0 len1 win1 pa pc ca cc aa ac ba bc w2⟩
theorem fn5 (n0 B:Nat) (w:World) (hn:n0 ≤ B) (hB:w.cell? ⟨B,0,none⟩ = some (.func (.func 197) #[] #[])):FnOf n0 w 217 [.pointer (some ⟨B,0,none⟩)] 5:=⟨enters_of Tryz.func217 (by kernel_rfl) rfl,fun c x w2 hl hx wx lx => by
  obtain ⟨parts,chans,len0,win0,len1,win1⟩:=c
  obtain ⟨pa,pc,ca,cc,aa,ac,ba,bc⟩:=x
  exact row5_b parts chans len0 win0 len1 win1 pa pc ca cc aa ac ba bc B w2 hx.rp wx.wp lx.1 hx.rc wx.wc lx.2.1 hx.ra wx.wa lx.2.2.1 hx.rb wx.wb lx.2.2.2 (hl.cell hn hB)⟩
theorem fn6 (n0:Nat) (w:World):FnOf n0 w 198 [] 6:=⟨enters_of Tryz.func198 (by kernel_rfl) rfl,fun c x w2 hl hx wx lx => by
  obtain ⟨parts,chans,len0,win0,len1,win1⟩:=c
  obtain ⟨pa,pc,ca,cc,aa,ac,ba,bc⟩:=x
  exact row6_b parts chans len0 win0 len1 win1 pa pc ca cc aa ac ba bc w2 hx.rp wx.wp lx.1 hx.rc wx.wc lx.2.1 hx.ra wx.wa lx.2.2.1 hx.rb wx.wb lx.2.2.2⟩
theorem fn7 (n0 B:Nat) (w:World) (hn:n0 ≤ B) (hB:w.cell? ⟨B,0,none⟩ = some (.func (.func 199) #[] #[])):FnOf n0 w 217 [.pointer (some ⟨B,0,none⟩)] 7:=⟨enters_of Tryz.func217 (by kernel_rfl) rfl,fun c x w2 hl hx wx lx => by
  obtain ⟨parts,chans,len0,win0,len1,win1⟩:=c
  obtain ⟨pa,pc,ca,cc,aa,ac,ba,bc⟩:=x
  exact row7_b parts chans len0 win0 len1 win1 pa pc ca cc aa ac ba bc B w2 hx.rp wx.wp lx.1 hx.rc wx.wc lx.2.1 hx.ra wx.wa lx.2.2.1 hx.rb wx.wb lx.2.2.2 (hl.cell hn hB)⟩
theorem fn8 (n0 B:Nat) (w:World) (hn:n0 ≤ B) (hB:w.cell? ⟨B,0,none⟩ = some (.func (.func 200) #[] #[])):FnOf n0 w 217 [.pointer (some ⟨B,0,none⟩)] 8:=⟨enters_of Tryz.func217 (by kernel_rfl) rfl,fun c x w2 hl hx wx lx => by
  obtain ⟨parts,chans,len0,win0,len1,win1⟩:=c
  obtain ⟨pa,pc,ca,cc,aa,ac,ba,bc⟩:=x
  exact row8_b parts chans len0 win0 len1 win1 pa pc ca cc aa ac ba bc B w2 hx.rp wx.wp lx.1 hx.rc wx.wc lx.2.1 hx.ra wx.wa lx.2.2.1 hx.rb wx.wb lx.2.2.2 (hl.cell hn hB)⟩
theorem fn9 (n0 B:Nat) (w:World) (hn:n0 ≤ B) (hB:w.cell? ⟨B,0,none⟩ = some (.func (.func 201) #[] #[])):FnOf n0 w 217 [.pointer (some ⟨B,0,none⟩)] 9:=⟨enters_of Tryz.func217 (by kernel_rfl) rfl,fun c x w2 hl hx wx lx => by
  obtain ⟨parts,chans,len0,win0,len1,win1⟩:=c
  obtain ⟨pa,pc,ca,cc,aa,ac,ba,bc⟩:=x
  exact row9_b parts chans len0 win0 len1 win1 pa pc ca cc aa ac ba bc B w2 hx.rp wx.wp lx.1 hx.rc wx.wc lx.2.1 hx.ra wx.wa lx.2.2.1 hx.rb wx.wb lx.2.2.2 (hl.cell hn hB)⟩
theorem fn10 (n0 B:Nat) (w:World) (hn:n0 ≤ B) (hB:w.cell? ⟨B,0,none⟩ = some (.func (.func 202) #[] #[])):FnOf n0 w 217 [.pointer (some ⟨B,0,none⟩)] 10:=⟨enters_of Tryz.func217 (by kernel_rfl) rfl,fun c x w2 hl hx wx lx => by
  obtain ⟨parts,chans,len0,win0,len1,win1⟩:=c
  obtain ⟨pa,pc,ca,cc,aa,ac,ba,bc⟩:=x
  exact row10_b parts chans len0 win0 len1 win1 pa pc ca cc aa ac ba bc B w2 hx.rp wx.wp lx.1 hx.rc wx.wc lx.2.1 hx.ra wx.wa lx.2.2.1 hx.rb wx.wb lx.2.2.2 (hl.cell hn hB)⟩
theorem fn11 (n0 B:Nat) (w:World) (hn:n0 ≤ B) (hB:w.cell? ⟨B,0,none⟩ = some (.func (.func 203) #[] #[])):FnOf n0 w 217 [.pointer (some ⟨B,0,none⟩)] 11:=⟨enters_of Tryz.func217 (by kernel_rfl) rfl,fun c x w2 hl hx wx lx => by
  obtain ⟨parts,chans,len0,win0,len1,win1⟩:=c
  obtain ⟨pa,pc,ca,cc,aa,ac,ba,bc⟩:=x
  exact row11_b parts chans len0 win0 len1 win1 pa pc ca cc aa ac ba bc B w2 hx.rp wx.wp lx.1 hx.rc wx.wc lx.2.1 hx.ra wx.wa lx.2.2.1 hx.rb wx.wb lx.2.2.2 (hl.cell hn hB)⟩
theorem fn12 (n0 B:Nat) (w:World) (hn:n0 ≤ B) (hB:w.cell? ⟨B,0,none⟩ = some (.func (.func 205) #[] #[])):FnOf n0 w 220 [.pointer (some ⟨B,0,none⟩)] 12:=⟨enters_of Tryz.func220 (by kernel_rfl) rfl,fun c x w2 hl hx wx lx => by
  obtain ⟨parts,chans,len0,win0,len1,win1⟩:=c
  obtain ⟨pa,pc,ca,cc,aa,ac,ba,bc⟩:=x
  exact row12_b parts chans len0 win0 len1 win1 pa pc ca cc aa ac ba bc B w2 hx.rp wx.wp lx.1 hx.rc wx.wc lx.2.1 hx.ra wx.wa lx.2.2.1 hx.rb wx.wb lx.2.2.2 wx.w0 wx.w1 (hl.cell hn hB)⟩
theorem fn13 (n0 B:Nat) (w:World) (hn:n0 ≤ B) (hB:w.cell? ⟨B,0,none⟩ = some (.func (.func 206) #[] #[])):FnOf n0 w 220 [.pointer (some ⟨B,0,none⟩)] 13:=⟨enters_of Tryz.func220 (by kernel_rfl) rfl,fun c x w2 hl hx wx lx => by
  obtain ⟨parts,chans,len0,win0,len1,win1⟩:=c
  obtain ⟨pa,pc,ca,cc,aa,ac,ba,bc⟩:=x
  exact row13_b parts chans len0 win0 len1 win1 pa pc ca cc aa ac ba bc B w2 hx.rp wx.wp lx.1 hx.rc wx.wc lx.2.1 hx.ra wx.wa lx.2.2.1 hx.rb wx.wb lx.2.2.2 wx.w0 wx.w1 (hl.cell hn hB)⟩
theorem fn14 (n0:Nat) (w:World):FnOf n0 w 207 [] 14:=⟨enters_of Tryz.func207 (by kernel_rfl) rfl,fun c x w2 hl hx wx lx => by
  obtain ⟨parts,chans,len0,win0,len1,win1⟩:=c
  obtain ⟨pa,pc,ca,cc,aa,ac,ba,bc⟩:=x
  exact row14_b parts chans len0 win0 len1 win1 pa pc ca cc aa ac ba bc w2 hx.rp wx.wp lx.1 hx.rc wx.wc lx.2.1 hx.ra wx.wa lx.2.2.1 hx.rb wx.wb lx.2.2.2⟩
theorem fn15 (n0 B:Nat) (w:World) (hn:n0 ≤ B) (hB:w.cell? ⟨B,0,none⟩ = some (.func (.func 208) #[] #[])):FnOf n0 w 220 [.pointer (some ⟨B,0,none⟩)] 15:=⟨enters_of Tryz.func220 (by kernel_rfl) rfl,fun c x w2 hl hx wx lx => by
  obtain ⟨parts,chans,len0,win0,len1,win1⟩:=c
  obtain ⟨pa,pc,ca,cc,aa,ac,ba,bc⟩:=x
  exact row15_b parts chans len0 win0 len1 win1 pa pc ca cc aa ac ba bc B w2 hx.rp wx.wp lx.1 hx.rc wx.wc lx.2.1 hx.ra wx.wa lx.2.2.1 hx.rb wx.wb lx.2.2.2 wx.w0 wx.w1 (hl.cell hn hB)⟩
theorem fn16 (n0 B:Nat) (w:World) (hn:n0 ≤ B) (hB:w.cell? ⟨B,0,none⟩ = some (.func (.func 209) #[] #[])):FnOf n0 w 220 [.pointer (some ⟨B,0,none⟩)] 16:=⟨enters_of Tryz.func220 (by kernel_rfl) rfl,fun c x w2 hl hx wx lx => by
  obtain ⟨parts,chans,len0,win0,len1,win1⟩:=c
  obtain ⟨pa,pc,ca,cc,aa,ac,ba,bc⟩:=x
  exact row16_b parts chans len0 win0 len1 win1 pa pc ca cc aa ac ba bc B w2 hx.rp wx.wp lx.1 hx.rc wx.wc lx.2.1 hx.ra wx.wa lx.2.2.1 hx.rb wx.wb lx.2.2.2 wx.w0 wx.w1 (hl.cell hn hB)⟩
theorem fn17 (n0:Nat) (w:World):FnOf n0 w 210 [] 17:=⟨enters_of Tryz.func210 (by kernel_rfl) rfl,fun c x w2 hl hx wx lx => by
  obtain ⟨parts,chans,len0,win0,len1,win1⟩:=c
  obtain ⟨pa,pc,ca,cc,aa,ac,ba,bc⟩:=x
  exact row17_b parts chans len0 win0 len1 win1 pa pc ca cc aa ac ba bc w2 hx.rp wx.wp lx.1 hx.rc wx.wc lx.2.1 hx.ra wx.wa lx.2.2.1 hx.rb wx.wb lx.2.2.2 wx.w0 wx.w1⟩
theorem makeP_b (g:Nat) (w:World):Calls Tryz.prog 191 #[.func (.func g) #[] #[]] w fun e w' => e = .returned (.func (.func 215) #[] #[.pointer (some ⟨w.heap.size,0,none⟩)]) ∧ w'.cell? ⟨w.heap.size,0,none⟩ = some (.func (.func g) #[] #[]) ∧ Below w.heap.size w w':=by
  have hc:=cell_blk (heap_alloc_new w (.cells #[.func (.func g) #[] #[]] 263)) (i:=0) rfl
  have HC:=Lib.hid hc
  clear hc
  go_enter Tryz.func191,Tryz.ntmps191
  go_wp2
  go_ret
  exact ⟨rfl,HC.out,(Below.refl _ _).alloc (Nat.le_refl _) _⟩
theorem makeC_b (g:Nat) (w:World):Calls Tryz.prog 196 #[.func (.func g) #[] #[]] w fun e w' => e = .returned (.func (.func 217) #[] #[.pointer (some ⟨w.heap.size,0,none⟩)]) ∧ w'.cell? ⟨w.heap.size,0,none⟩ = some (.func (.func g) #[] #[]) ∧ Below w.heap.size w w':=by
  have hc:=cell_blk (heap_alloc_new w (.cells #[.func (.func g) #[] #[]] 265)) (i:=0) rfl
  have HC:=Lib.hid hc
  clear hc
  go_enter Tryz.func196,Tryz.ntmps196
  go_wp2
  go_ret
  exact ⟨rfl,HC.out,(Below.refl _ _).alloc (Nat.le_refl _) _⟩
theorem makeF_b (g:Nat) (w:World):Calls Tryz.prog 204 #[.func (.func g) #[] #[]] w fun e w' => e = .returned (.func (.func 220) #[] #[.pointer (some ⟨w.heap.size,0,none⟩)]) ∧ w'.cell? ⟨w.heap.size,0,none⟩ = some (.func (.func g) #[] #[]) ∧ Below w.heap.size w w':=by
  have hc:=cell_blk (heap_alloc_new w (.cells #[.func (.func g) #[] #[]] 267)) (i:=0) rfl
  have HC:=Lib.hid hc
  clear hc
  go_enter Tryz.func204,Tryz.ntmps204
  go_wp2
  go_ret
  exact ⟨rfl,HC.out,(Below.refl _ _).alloc (Nat.le_refl _) _⟩
/-- A call that hands back the table,in new memory. -/
def GivesTable (w:World) (e:Ending) (w':World):Prop:=∃ (A o:Nat),e = .returned (.slice (some ⟨A,o,none⟩) 17 17) ∧ w.heap.size ≤ A ∧
  (∀ i:Nat,i < 17 → ∃ (f:Nat) (caps:List Value),w'.cell? ⟨A,o + i * 2,none⟩ = some (.int .i64 ((i:Int) + 1)) ∧ w'.cell? ⟨A,o + i * 2 + 1,none⟩ = some (.func (.func f) #[] caps.toArray) ∧ FnOf w.heap.size w' f caps ((i:Int) + 1)) ∧ Below w.heap.size w w'
set_option maxRecDepth 100000 in
set_option maxHeartbeats 8000000 in
theorem rows_b (w:World):Calls Tryz.prog 181 #[] w (GivesTable w):=by
  go_enter Tryz.func181,Tryz.ntmps181
  go_wp2_with fail
  refine (makeP_b 192 w).mono ?_
  rintro e v1 ⟨rfl,hc,hb⟩
  have hbw:=hb
  have K2:=Lib.hid (fn2 w.heap.size w.heap.size v1 (Nat.le_refl _) hc)
  clear hc hb
  have HB:=Lib.hid hbw
  clear hbw
  go_wp2_with fail
  refine (makeP_b 194 v1).mono ?_
  rintro e v2 ⟨rfl,hc,hb⟩
  have hbw:=HB.out.trans (hb.mono HB.out.size)
  have K3:=Lib.hid (fn3 w.heap.size v1.heap.size v2 HB.out.size hc)
  have K2:=Lib.hid (K2.out.later (Later.of_below hb))
  have HB:=Lib.hid hbw
  clear hc hb
  clear hbw
  go_wp2_with fail
  refine (makeC_b 197 v2).mono ?_
  rintro e v3 ⟨rfl,hc,hb⟩
  have hbw:=HB.out.trans (hb.mono HB.out.size)
  have K5:=Lib.hid (fn5 w.heap.size v2.heap.size v3 HB.out.size hc)
  have K2:=Lib.hid (K2.out.later (Later.of_below hb))
  have K3:=Lib.hid (K3.out.later (Later.of_below hb))
  have HB:=Lib.hid hbw
  clear hc hb
  clear hbw
  go_wp2_with fail
  refine (makeC_b 199 v3).mono ?_
  rintro e v4 ⟨rfl,hc,hb⟩
  have hbw:=HB.out.trans (hb.mono HB.out.size)
  have K7:=Lib.hid (fn7 w.heap.size v3.heap.size v4 HB.out.size hc)
  have K2:=Lib.hid (K2.out.later (Later.of_below hb))
  have K3:=Lib.hid (K3.out.later (Later.of_below hb))
  have K5:=Lib.hid (K5.out.later (Later.of_below hb))
  have HB:=Lib.hid hbw
  clear hc hb
  clear hbw
  go_wp2_with fail
  refine (makeC_b 200 v4).mono ?_
  rintro e v5 ⟨rfl,hc,hb⟩
  have hbw:=HB.out.trans (hb.mono HB.out.size)
  have K8:=Lib.hid (fn8 w.heap.size v4.heap.size v5 HB.out.size hc)
  have K2:=Lib.hid (K2.out.later (Later.of_below hb))
  have K3:=Lib.hid (K3.out.later (Later.of_below hb))
  have K5:=Lib.hid (K5.out.later (Later.of_below hb))
  have K7:=Lib.hid (K7.out.later (Later.of_below hb))
  have HB:=Lib.hid hbw
  clear hc hb
  clear hbw
  go_wp2_with fail
  refine (makeC_b 201 v5).mono ?_
  rintro e v6 ⟨rfl,hc,hb⟩
  have hbw:=HB.out.trans (hb.mono HB.out.size)
  have K9:=Lib.hid (fn9 w.heap.size v5.heap.size v6 HB.out.size hc)
  have K2:=Lib.hid (K2.out.later (Later.of_below hb))
  have K3:=Lib.hid (K3.out.later (Later.of_below hb))
  have K5:=Lib.hid (K5.out.later (Later.of_below hb))
  have K7:=Lib.hid (K7.out.later (Later.of_below hb))
  have K8:=Lib.hid (K8.out.later (Later.of_below hb))
  have HB:=Lib.hid hbw
  clear hc hb
  clear hbw
  go_wp2_with fail
  refine (makeC_b 202 v6).mono ?_
  rintro e v7 ⟨rfl,hc,hb⟩
  have hbw:=HB.out.trans (hb.mono HB.out.size)
  have K10:=Lib.hid (fn10 w.heap.size v6.heap.size v7 HB.out.size hc)
  have K2:=Lib.hid (K2.out.later (Later.of_below hb))
  have K3:=Lib.hid (K3.out.later (Later.of_below hb))
  have K5:=Lib.hid (K5.out.later (Later.of_below hb))
  have K7:=Lib.hid (K7.out.later (Later.of_below hb))
  have K8:=Lib.hid (K8.out.later (Later.of_below hb))
  have K9:=Lib.hid (K9.out.later (Later.of_below hb))
  have HB:=Lib.hid hbw
  clear hc hb
  clear hbw
  go_wp2_with fail
  refine (makeC_b 203 v7).mono ?_
  rintro e v8 ⟨rfl,hc,hb⟩
  have hbw:=HB.out.trans (hb.mono HB.out.size)
  have K11:=Lib.hid (fn11 w.heap.size v7.heap.size v8 HB.out.size hc)
  have K2:=Lib.hid (K2.out.later (Later.of_below hb))
  have K3:=Lib.hid (K3.out.later (Later.of_below hb))
  have K5:=Lib.hid (K5.out.later (Later.of_below hb))
  have K7:=Lib.hid (K7.out.later (Later.of_below hb))
  have K8:=Lib.hid (K8.out.later (Later.of_below hb))
  have K9:=Lib.hid (K9.out.later (Later.of_below hb))
  have K10:=Lib.hid (K10.out.later (Later.of_below hb))
  have HB:=Lib.hid hbw
  clear hc hb
  clear hbw
  go_wp2_with fail
  refine (makeF_b 205 v8).mono ?_
  rintro e v9 ⟨rfl,hc,hb⟩
  have hbw:=HB.out.trans (hb.mono HB.out.size)
  have K12:=Lib.hid (fn12 w.heap.size v8.heap.size v9 HB.out.size hc)
  have K2:=Lib.hid (K2.out.later (Later.of_below hb))
  have K3:=Lib.hid (K3.out.later (Later.of_below hb))
  have K5:=Lib.hid (K5.out.later (Later.of_below hb))
  have K7:=Lib.hid (K7.out.later (Later.of_below hb))
  have K8:=Lib.hid (K8.out.later (Later.of_below hb))
  have K9:=Lib.hid (K9.out.later (Later.of_below hb))
  have K10:=Lib.hid (K10.out.later (Later.of_below hb))
  have K11:=Lib.hid (K11.out.later (Later.of_below hb))
  have HB:=Lib.hid hbw
  clear hc hb
  clear hbw
  go_wp2_with fail
  refine (makeF_b 206 v9).mono ?_
  rintro e v10 ⟨rfl,hc,hb⟩
  have hbw:=HB.out.trans (hb.mono HB.out.size)
  have K13:=Lib.hid (fn13 w.heap.size v9.heap.size v10 HB.out.size hc)
  have K2:=Lib.hid (K2.out.later (Later.of_below hb))
  have K3:=Lib.hid (K3.out.later (Later.of_below hb))
  have K5:=Lib.hid (K5.out.later (Later.of_below hb))
  have K7:=Lib.hid (K7.out.later (Later.of_below hb))
  have K8:=Lib.hid (K8.out.later (Later.of_below hb))
  have K9:=Lib.hid (K9.out.later (Later.of_below hb))
  have K10:=Lib.hid (K10.out.later (Later.of_below hb))
  have K11:=Lib.hid (K11.out.later (Later.of_below hb))
  have K12:=Lib.hid (K12.out.later (Later.of_below hb))
  have HB:=Lib.hid hbw
  clear hc hb
  clear hbw
  go_wp2_with fail
  refine (makeF_b 208 v10).mono ?_
  rintro e v11 ⟨rfl,hc,hb⟩
  have hbw:=HB.out.trans (hb.mono HB.out.size)
  have K15:=Lib.hid (fn15 w.heap.size v10.heap.size v11 HB.out.size hc)
  have K2:=Lib.hid (K2.out.later (Later.of_below hb))
  have K3:=Lib.hid (K3.out.later (Later.of_below hb))
  have K5:=Lib.hid (K5.out.later (Later.of_below hb))
  have K7:=Lib.hid (K7.out.later (Later.of_below hb))
  have K8:=Lib.hid (K8.out.later (Later.of_below hb))
  have K9:=Lib.hid (K9.out.later (Later.of_below hb))
  have K10:=Lib.hid (K10.out.later (Later.of_below hb))
  have K11:=Lib.hid (K11.out.later (Later.of_below hb))
  have K12:=Lib.hid (K12.out.later (Later.of_below hb))
  have K13:=Lib.hid (K13.out.later (Later.of_below hb))
  have HB:=Lib.hid hbw
  clear hc hb
  clear hbw
  go_wp2_with fail
  refine (makeF_b 209 v11).mono ?_
  rintro e v12 ⟨rfl,hc,hb⟩
  have hbw:=HB.out.trans (hb.mono HB.out.size)
  have K16:=Lib.hid (fn16 w.heap.size v11.heap.size v12 HB.out.size hc)
  have K2:=Lib.hid (K2.out.later (Later.of_below hb))
  have K3:=Lib.hid (K3.out.later (Later.of_below hb))
  have K5:=Lib.hid (K5.out.later (Later.of_below hb))
  have K7:=Lib.hid (K7.out.later (Later.of_below hb))
  have K8:=Lib.hid (K8.out.later (Later.of_below hb))
  have K9:=Lib.hid (K9.out.later (Later.of_below hb))
  have K10:=Lib.hid (K10.out.later (Later.of_below hb))
  have K11:=Lib.hid (K11.out.later (Later.of_below hb))
  have K12:=Lib.hid (K12.out.later (Later.of_below hb))
  have K13:=Lib.hid (K13.out.later (Later.of_below hb))
  have K15:=Lib.hid (K15.out.later (Later.of_below hb))
  have HB:=Lib.hid hbw
  clear hc hb
  clear hbw

  have HA:=Lib.hid (show (v12.alloc (.cells #[.int .i64 1,.func (.func 189) #[] #[],.int .i64 2,.func (.func 215) #[] #[.pointer (some ⟨w.heap.size,0,none⟩)],.int .i64 3,.func (.func 215) #[] #[.pointer (some ⟨v1.heap.size,0,none⟩)],.int .i64 4,.func (.func 195) #[] #[],.int .i64 5,.func (.func 217) #[] #[.pointer (some ⟨v2.heap.size,0,none⟩)],.int .i64 6,.func (.func 198) #[] #[],.int .i64 7,.func (.func 217) #[] #[.pointer (some ⟨v3.heap.size,0,none⟩)],.int .i64 8,.func (.func 217) #[] #[.pointer (some ⟨v4.heap.size,0,none⟩)],.int .i64 9,.func (.func 217) #[] #[.pointer (some ⟨v5.heap.size,0,none⟩)],.int .i64 10,.func (.func 217) #[] #[.pointer (some ⟨v6.heap.size,0,none⟩)],.int .i64 11,.func (.func 217) #[] #[.pointer (some ⟨v7.heap.size,0,none⟩)],.int .i64 12,.func (.func 220) #[] #[.pointer (some ⟨v8.heap.size,0,none⟩)],.int .i64 13,.func (.func 220) #[] #[.pointer (some ⟨v9.heap.size,0,none⟩)],.int .i64 14,.func (.func 207) #[] #[],.int .i64 15,.func (.func 220) #[] #[.pointer (some ⟨v10.heap.size,0,none⟩)],.int .i64 16,.func (.func 220) #[] #[.pointer (some ⟨v11.heap.size,0,none⟩)],.int .i64 17,.func (.func 210) #[] #[]] 254)).heap[v12.heap.size]? = _ from heap_alloc_new _ _)
  have HL:=Lib.hid (show Below v12.heap.size v12 (v12.alloc (.cells #[.int .i64 1,.func (.func 189) #[] #[],.int .i64 2,.func (.func 215) #[] #[.pointer (some ⟨w.heap.size,0,none⟩)],.int .i64 3,.func (.func 215) #[] #[.pointer (some ⟨v1.heap.size,0,none⟩)],.int .i64 4,.func (.func 195) #[] #[],.int .i64 5,.func (.func 217) #[] #[.pointer (some ⟨v2.heap.size,0,none⟩)],.int .i64 6,.func (.func 198) #[] #[],.int .i64 7,.func (.func 217) #[] #[.pointer (some ⟨v3.heap.size,0,none⟩)],.int .i64 8,.func (.func 217) #[] #[.pointer (some ⟨v4.heap.size,0,none⟩)],.int .i64 9,.func (.func 217) #[] #[.pointer (some ⟨v5.heap.size,0,none⟩)],.int .i64 10,.func (.func 217) #[] #[.pointer (some ⟨v6.heap.size,0,none⟩)],.int .i64 11,.func (.func 217) #[] #[.pointer (some ⟨v7.heap.size,0,none⟩)],.int .i64 12,.func (.func 220) #[] #[.pointer (some ⟨v8.heap.size,0,none⟩)],.int .i64 13,.func (.func 220) #[] #[.pointer (some ⟨v9.heap.size,0,none⟩)],.int .i64 14,.func (.func 207) #[] #[],.int .i64 15,.func (.func 220) #[] #[.pointer (some ⟨v10.heap.size,0,none⟩)],.int .i64 16,.func (.func 220) #[] #[.pointer (some ⟨v11.heap.size,0,none⟩)],.int .i64 17,.func (.func 210) #[] #[]] 254)) from (Below.refl _ _).alloc (Nat.le_refl _) _)
  go_wp2
  go_ret
  refine ⟨v12.heap.size,0,rfl,HB.out.size,fun i hi => ?_,HB.out.trans (HL.out.mono HB.out.size)⟩
  match i,hi with
  | 0,_ => exact ⟨189,[],cell_blk HA.out rfl,cell_blk HA.out rfl,fn1 _ _⟩
  | 1,_ => exact ⟨215,[.pointer (some ⟨w.heap.size,0,none⟩)],cell_blk HA.out rfl,cell_blk HA.out rfl,K2.out.later (Later.of_below HL.out)⟩
  | 2,_ => exact ⟨215,[.pointer (some ⟨v1.heap.size,0,none⟩)],cell_blk HA.out rfl,cell_blk HA.out rfl,K3.out.later (Later.of_below HL.out)⟩
  | 3,_ => exact ⟨195,[],cell_blk HA.out rfl,cell_blk HA.out rfl,fn4 _ _⟩
  | 4,_ => exact ⟨217,[.pointer (some ⟨v2.heap.size,0,none⟩)],cell_blk HA.out rfl,cell_blk HA.out rfl,K5.out.later (Later.of_below HL.out)⟩
  | 5,_ => exact ⟨198,[],cell_blk HA.out rfl,cell_blk HA.out rfl,fn6 _ _⟩
  | 6,_ => exact ⟨217,[.pointer (some ⟨v3.heap.size,0,none⟩)],cell_blk HA.out rfl,cell_blk HA.out rfl,K7.out.later (Later.of_below HL.out)⟩
  | 7,_ => exact ⟨217,[.pointer (some ⟨v4.heap.size,0,none⟩)],cell_blk HA.out rfl,cell_blk HA.out rfl,K8.out.later (Later.of_below HL.out)⟩
  | 8,_ => exact ⟨217,[.pointer (some ⟨v5.heap.size,0,none⟩)],cell_blk HA.out rfl,cell_blk HA.out rfl,K9.out.later (Later.of_below HL.out)⟩
  | 9,_ => exact ⟨217,[.pointer (some ⟨v6.heap.size,0,none⟩)],cell_blk HA.out rfl,cell_blk HA.out rfl,K10.out.later (Later.of_below HL.out)⟩
  | 10,_ => exact ⟨217,[.pointer (some ⟨v7.heap.size,0,none⟩)],cell_blk HA.out rfl,cell_blk HA.out rfl,K11.out.later (Later.of_below HL.out)⟩
  | 11,_ => exact ⟨220,[.pointer (some ⟨v8.heap.size,0,none⟩)],cell_blk HA.out rfl,cell_blk HA.out rfl,K12.out.later (Later.of_below HL.out)⟩
  | 12,_ => exact ⟨220,[.pointer (some ⟨v9.heap.size,0,none⟩)],cell_blk HA.out rfl,cell_blk HA.out rfl,K13.out.later (Later.of_below HL.out)⟩
  | 13,_ => exact ⟨207,[],cell_blk HA.out rfl,cell_blk HA.out rfl,fn14 _ _⟩
  | 14,_ => exact ⟨220,[.pointer (some ⟨v10.heap.size,0,none⟩)],cell_blk HA.out rfl,cell_blk HA.out rfl,K15.out.later (Later.of_below HL.out)⟩
  | 15,_ => exact ⟨220,[.pointer (some ⟨v11.heap.size,0,none⟩)],cell_blk HA.out rfl,cell_blk HA.out rfl,K16.out.later (Later.of_below HL.out)⟩
  | 16,_ => exact ⟨210,[],cell_blk HA.out rfl,cell_blk HA.out rfl,fn17 _ _⟩
  | i + 17,hi => omega
end Go.Proofs.YtjfolhkblbakiaaGreatDoor
