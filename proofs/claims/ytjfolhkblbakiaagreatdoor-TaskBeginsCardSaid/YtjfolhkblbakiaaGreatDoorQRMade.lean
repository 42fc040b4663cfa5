/- Texts of the ring, joined, what is used of them. No condition but those in the statements. -/
import Derived.BigQuiet
import Derived.IntWalk
import Derived.Test.YtjfolhkblbakiaaGreatDoorQRK
import Derived.Test.YtjfolhkblbakiaaGreatDoorQSig
namespace Go.Proofs.YtjfolhkblbakiaaGreatDoor
open Go.RowKit Go.Sort Go.ChangeShapes Go.WideShapes
set_option linter.unusedVariables false
set_option linter.unusedSimpArgs false
/-- A value of some cells in a box of its own. -/
theorem box_new (w:World) (cs:Array Value) (t:TypeId):∃ W,Hid (W = w.alloc (.cells cs t)) ∧ Below w.heap.size w W ∧ w.heap.size < W.heap.size ∧ ∀ w',Below W.heap.size W w' → w'.heap[w.heap.size]? = some (.cells cs t (0,0)):=by
  refine ⟨_,rfl,(Below.refl _ _).alloc (Nat.le_refl _) _,by simp,fun w' hb => ?_⟩
  exact (hb.block w.heap.size (by simp)).trans (heap_alloc_new w _)
def madeB (made:List Int) (port:Int):Bool:=decide (port ∈ made)
theorem made_hit {made:List Int} {port:Int} {i:Nat} (hi:i < made.length) (h:made.getD i 0 = port):madeB made port = true:=decide_eq_true (by rw [← h,List.getD_eq_getElem?_getD];simp [hi])
theorem made_none {made:List Int} {port:Int} (h:∀ i,i < made.length → made.getD i 0 ≠ port):madeB made port = false:=decide_eq_false (fun hm => by
  obtain ⟨i,hi,he⟩:=List.getElem_of_mem hm
  exact h i hi (by rw [List.getD_eq_getElem?_getD];simp [hi,he]))
/-- A standing by value lies so: the ports that were made. -/
def SIn (w:World) (made:List Int) (ma:Option Addr):Prop:=IntRowK .i64 w w.heap.size ma made ∧ made.length ≤ 1000000
theorem SIn.later {w w':World} {made:List Int} {ma:Option Addr} (h:SIn w made ma) (hb:Below w.heap.size w w'):SIn w' made ma:=⟨(h.1.below hb).more hb.size,h.2⟩
set_option maxRecDepth 100000 in
set_option maxHeartbeats 1600000 in
theorem rmade_b (sp:Int) (sn:Bool) (made:List Int) (ma:Option Addr) (mc:Nat) (va:Option Addr) (vn vc:Nat) (port:Int) (w:World) (hs:SIn w made ma):Calls Tryz.prog 77 #[.agg #[.int .i64 sp,.bool sn,.slice ma made.length mc,.slice va vn vc],.int .i64 port] w fun e w' => e = .returned (.bool (madeB made port)) ∧ Below w.heap.size w w':=by
  obtain ⟨W,HW,hB,hWs,bx⟩:=box_new w #[.int .i64 sp,.bool sn,.slice ma made.length mc,.slice va vn vc] 32
  have hsW:=hs.later hB
  have hl:=hs.2
  have HB:=Lib.hid hB
  clear hB hs
  go_enter Tryz.func77,Tryz.ntmps77
  go_wp2_with (rw [← HW.out])
  go_loopw [5] (fun ix wr => ∃ i:Nat,i ≤ made.length ∧ ix = .int .i64 i ∧ (∀ j,j < i → made.getD j 0 ≠ port) ∧ Below W.heap.size W wr) (fun ix _ => made.length - (intOf ix).toNat)
  case atStart => exact ⟨0,Nat.zero_le _,rfl,(fun j hj => by omega),Below.refl _ _⟩
  case round =>
    obtain ⟨i,hi,rfl,hno,hbc⟩:=hrel
    have HN:=Lib.hid hno
    have c2:=cell_blk (bx _ hbc) (i:=2) rfl
    clear hno
    by_cases hlt:i < made.length
    · obtain ⟨b,o,rfl,_,hc⟩:=hsW.1.at_ hlt
      have k0:=hc _ hbc
      obtain ⟨y,hy⟩:∃ y,made.getD i 0 = y:=⟨_,rfl⟩
      have HY:=Lib.hid hy
      rw [hy] at k0
      clear hy hc
      by_cases he:y = port
      · have hea:(y == port) = true:=by simp [he]
        have HX:=Lib.hid (made_hit hlt (HY.out.trans he))
        clear he
        go_wp2
        go_ret
        exact ⟨by rw [HX.out];rfl,HB.out.trans (hbc.mono HB.out.size)⟩
      · have hea:(y == port) = false:=by simp [he]
        have HE:=Lib.hid he
        clear he
        go_wp2
        go_roundw
        case rel => exact ⟨i + 1,by omega,by go_num,(fun j hj => by
          by_cases e:j = i
          · subst e;rw [HY.out];exact HE.out
          · exact HN.out j (by omega)),hbc⟩
        case measure => simp [intOf];omega
    · have HX:=Lib.hid (show madeB made port = false from made_none (fun j hj => HN.out j (by omega)))
      go_wp2
      go_ret
      exact ⟨by rw [HX.out];rfl,HB.out.trans (hbc.mono HB.out.size)⟩
theorem rmade_is (sp:Int) (sn:Bool) (made:List Int) (ma:Option Addr) (mc:Nat) (va:Option Addr) (vn vc:Nat) (port:Int) (q:Bool) (w:World) (hs:SIn w made ma) (h:madeB made port = q):Calls Tryz.prog 77 #[.agg #[.int .i64 sp,.bool sn,.slice ma made.length mc,.slice va vn vc],.int .i64 port] w fun e w' => e = .returned (.bool q) ∧ Below w.heap.size w w':=by subst h;exact rmade_b sp sn made ma mc va vn vc port w hs
end Go.Proofs.YtjfolhkblbakiaaGreatDoor
