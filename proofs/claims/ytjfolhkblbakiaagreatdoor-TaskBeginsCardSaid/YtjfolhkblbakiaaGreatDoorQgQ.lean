/- Texts of the ring, joined, what is used of them. No condition but those in the statements. -/
import Derived.BigQuiet
import Derived.BigRegion
import Derived.Deep.MidRow
import Derived.Deep.RegionHeld3
import Derived.Deep.Upon
import Derived.IntWalk
import Derived.Laws.EntriesVeiled
import Derived.LoopIn
import Derived.LoopNIn
import Derived.OwnWalkIn
import Derived.RangeFuncBound
import Derived.RangeFuncBox
import Derived.RangeFuncCalls
import Derived.RangeFuncLeaves
import Derived.RangeFuncNested
import Derived.Shelf.Abstract
import Derived.Shelf.RegionOpen
import Derived.TacticsInMore
import Derived.Test.YtjfolhkblbakiaaGreatDoorQgD
import Derived.Test.YtjfolhkblbakiaaGreatDoorQgT
section
namespace Go.Proofs.YtjfolhkblbakiaaGreatDoor
open Go.RowKit Go.Sort
set_option linter.unusedVariables false
set_option linter.unusedSimpArgs false
set_option linter.unusedVariables false
set_option linter.unusedSimpArgs false
set_option maxRecDepth 100000
set_option maxHeartbeats 1600000
theorem heap_new_q (w:World) (o:Obj) {k:Nat} (h:k = w.heap.size):(w.alloc o).heap[k]? = some o:=by subst h;exact heap_alloc_new w o
theorem mk_len_b (ob:Nat) (m:Nat) (w:World):Calls Tryz.prog 103 #[.pointer (some ⟨ob,0,none⟩),.int .i64 (m:Int)] w fun e w' => e = .returned (.func (.func 148) #[] #[.pointer (some ⟨w.heap.size,0,none⟩),.pointer (some ⟨w.heap.size + 1,0,none⟩)]) ∧ Below w.heap.size w w' ∧ w'.heap.size = w.heap.size + 2 ∧ w'.heap[w.heap.size]? = some (.cells #[.pointer (some ⟨ob,0,none⟩)] 159 (0,0)) ∧ w'.heap[w.heap.size + 1]? = some (.cells #[.int .i64 (m:Int)] 3 (0,0)):=by
  obtain ⟨W,HW⟩:∃ W,Hid (W = ((w.alloc (.cells #[.pointer (some ⟨ob,0,none⟩)] 159)).alloc (.cells #[.int .i64 (m:Int)] 3))):=⟨_,rfl⟩
  have hB:Below w.heap.size w W:=by rw [HW.out];exact ((Below.refl _ _).alloc (Nat.le_refl _) _).alloc (by simp;try omega) _
  have hS:W.heap.size = w.heap.size + 2:=by rw [HW.out];simp
  have h0:W.heap[w.heap.size]? = some (.cells #[.pointer (some ⟨ob,0,none⟩)] 159 (0,0)):=by rw [HW.out];rw [Below.heap_alloc _ _ _ (by simp;try omega)];exact heap_new_q _ _ (by simp)
  have h1:W.heap[w.heap.size + 1]? = some (.cells #[.int .i64 (m:Int)] 3 (0,0)):=by rw [HW.out];exact heap_new_q _ _ (by simp)
  have HF:=Lib.hid (And.intro hB (And.intro hS (And.intro h0 h1)))
  clear hB hS h0 h1
  go_enter Tryz.func103,Tryz.ntmps103
  go_wp2_with (rw [← HW.out])
  go_ret
  exact ⟨by simp [Nat.add_assoc],HF.out⟩
theorem mk_word_b (ob:Nat) (i:Nat) (x:Int) (w:World):Calls Tryz.prog 106 #[.pointer (some ⟨ob,0,none⟩),.int .i64 (i:Int),.int .u32 x] w fun e w' => e = .returned (.func (.func 151) #[] #[.pointer (some ⟨w.heap.size,0,none⟩),.pointer (some ⟨w.heap.size + 1,0,none⟩),.pointer (some ⟨w.heap.size + 2,0,none⟩)]) ∧ Below w.heap.size w w' ∧ w'.heap.size = w.heap.size + 3 ∧ w'.heap[w.heap.size]? = some (.cells #[.pointer (some ⟨ob,0,none⟩)] 159 (0,0)) ∧ w'.heap[w.heap.size + 1]? = some (.cells #[.int .i64 (i:Int)] 3 (0,0)) ∧ w'.heap[w.heap.size + 2]? = some (.cells #[.int .u32 x] 45 (0,0)):=by
  obtain ⟨W,HW⟩:∃ W,Hid (W = (((w.alloc (.cells #[.pointer (some ⟨ob,0,none⟩)] 159)).alloc (.cells #[.int .i64 (i:Int)] 3)).alloc (.cells #[.int .u32 x] 45))):=⟨_,rfl⟩
  have hB:Below w.heap.size w W:=by rw [HW.out];exact (((Below.refl _ _).alloc (Nat.le_refl _) _).alloc (by simp;try omega) _).alloc (by simp;try omega) _
  have hS:W.heap.size = w.heap.size + 3:=by rw [HW.out];simp
  have h0:W.heap[w.heap.size]? = some (.cells #[.pointer (some ⟨ob,0,none⟩)] 159 (0,0)):=by rw [HW.out];rw [Below.heap_alloc _ _ _ (by simp;try omega)];rw [Below.heap_alloc _ _ _ (by simp;try omega)];exact heap_new_q _ _ (by simp)
  have h1:W.heap[w.heap.size + 1]? = some (.cells #[.int .i64 (i:Int)] 3 (0,0)):=by rw [HW.out];rw [Below.heap_alloc _ _ _ (by simp;try omega)];exact heap_new_q _ _ (by simp)
  have h2:W.heap[w.heap.size + 2]? = some (.cells #[.int .u32 x] 45 (0,0)):=by rw [HW.out];exact heap_new_q _ _ (by simp)
  have HF:=Lib.hid (And.intro hB (And.intro hS (And.intro h0 (And.intro h1 h2))))
  clear hB hS h0 h1 h2
  go_enter Tryz.func106,Tryz.ntmps106
  go_wp2_with (rw [← HW.out])
  go_ret
  exact ⟨by simp [Nat.add_assoc],HF.out⟩
theorem mk_msg_b (m g:Nat) (cs:Array Value) (w:World):Calls Tryz.prog 104 #[.int .i64 (m:Int),.func (.func g) #[] cs] w fun e w' => e = .returned (.func (.func 150) #[] #[.pointer (some ⟨w.heap.size,0,none⟩),.pointer (some ⟨w.heap.size + 1,0,none⟩)]) ∧ Below w.heap.size w w' ∧ w'.heap.size = w.heap.size + 2 ∧ w'.heap[w.heap.size]? = some (.cells #[.int .i64 (m:Int)] 3 (0,0)) ∧ w'.heap[w.heap.size + 1]? = some (.cells #[.func (.func g) #[] cs] 205 (0,0)):=by
  obtain ⟨W,HW⟩:∃ W,Hid (W = ((w.alloc (.cells #[.int .i64 (m:Int)] 3)).alloc (.cells #[.func (.func g) #[] cs] 205))):=⟨_,rfl⟩
  have hB:Below w.heap.size w W:=by rw [HW.out];exact ((Below.refl _ _).alloc (Nat.le_refl _) _).alloc (by simp;try omega) _
  have hS:W.heap.size = w.heap.size + 2:=by rw [HW.out];simp
  have h0:W.heap[w.heap.size]? = some (.cells #[.int .i64 (m:Int)] 3 (0,0)):=by rw [HW.out];rw [Below.heap_alloc _ _ _ (by simp;try omega)];exact heap_new_q _ _ (by simp)
  have h1:W.heap[w.heap.size + 1]? = some (.cells #[.func (.func g) #[] cs] 205 (0,0)):=by rw [HW.out];exact heap_new_q _ _ (by simp)
  have HF:=Lib.hid (And.intro hB (And.intro hS (And.intro h0 h1)))
  clear hB hS h0 h1
  go_enter Tryz.func104,Tryz.ntmps104
  go_wp2_with (rw [← HW.out])
  go_ret
  exact ⟨by simp [Nat.add_assoc],HF.out⟩
end Go.Proofs.YtjfolhkblbakiaaGreatDoor
end
section
namespace Go.Proofs.YtjfolhkblbakiaaGreatDoor
open Go.RowKit Go.Sort
set_option linter.unusedVariables false
set_option linter.unusedSimpArgs false
set_option linter.unusedVariables false
set_option linter.unusedSimpArgs false
set_option maxRecDepth 100000
set_option maxHeartbeats 3200000
theorem Tryz.infoF12:(Tryz.prog.info? 204).map (fun i => (i.zero,i.size,i.bytes)) = some (some .nilFunc,1,8):=by kernel_rfl
end Go.Proofs.YtjfolhkblbakiaaGreatDoor
end
section
namespace Go.Proofs.YtjfolhkblbakiaaGreatDoor
open Go.RowKit Go.Sort
set_option linter.unusedVariables false
set_option linter.unusedSimpArgs false
set_option linter.unusedVariables false
set_option linter.unusedSimpArgs false
set_option maxRecDepth 100000
set_option maxHeartbeats 1600000
/-- All blocks but operations and their rows of steps stand. -/
def Stands (W W':World):Prop:=W.heap.size ≤ W'.heap.size ∧ ∀ (k:Nat) (cs:Array Value) (t:TypeId) (m:Nat × Nat),t ≠ 204 → t ≠ 208 → W.heap[k]? = some (.cells cs t m) → W'.heap[k]? = some (.cells cs t m)
theorem Stands.refl (W:World):Stands W W:=⟨Nat.le_refl _,fun _ _ _ _ _ _ h => h⟩
theorem Stands.trans {A B C:World} (h:Stands A B) (k:Stands B C):Stands A C:=⟨Nat.le_trans h.1 k.1,fun i cs t m h1 h2 h3 => k.2 i cs t m h1 h2 (h.2 i cs t m h1 h2 h3)⟩
theorem Stands.below {W W':World} (h:Below W.heap.size W W'):Stands W W':=⟨h.size,fun k cs t m _ _ hk => (h.block k (Array.getElem?_eq_some_iff.1 hk).1).trans hk⟩
theorem stands_put {W:World} {l:Nat} {o:Obj} (o':Obj) (hl:W.heap[l]? = some o) (ho:o.isCells = false):Stands W (W.putObj l o'):=
  ⟨by simp,fun k cs t m _ _ hk => (World.putObj_heap_other (fun e => by subst e;rw [hl] at hk;cases hk;cases ho)).trans hk⟩
theorem grown_of_below {W W':World} (h:Below W.heap.size W W'):W.grownBy W' none:=⟨h.os,h.tape,h.output,h.size,fun k hk _ => h.block k hk⟩
theorem stands_grown {W W':World} {row:Option Nat} (hg:W.grownBy W' row) (hr:∀ r,row = some r → ∃ o:Obj,W.heap[r]? = some o ∧ o.isCells = false):Stands W W':=
  ⟨hg.size,fun k cs t m _ _ hk => (hg.block k (Array.getElem?_eq_some_iff.1 hk).1 (fun e => by obtain ⟨o,ho,hc⟩:=hr k e.symm;rw [hk] at ho;cases ho;cases hc)).trans hk⟩
/-- A step of a message,made for word i. -/
def IsWord (ob i:Nat) (x:Int) (B:Nat) (v:Value) (w:World):Prop:=∃ b1 b2 b3,v = .func (.func 151) #[] #[.pointer (some ⟨b1,0,none⟩),.pointer (some ⟨b2,0,none⟩),.pointer (some ⟨b3,0,none⟩)] ∧ (B ≤ b1 ∧ B ≤ b2 ∧ B ≤ b3) ∧ w.heap[b1]? = some (.cells #[.pointer (some ⟨ob,0,none⟩)] 159 (0,0)) ∧ w.heap[b2]? = some (.cells #[.int .i64 (i:Int)] 3 (0,0)) ∧ w.heap[b3]? = some (.cells #[.int .u32 x] 45 (0,0))
theorem IsWord.stands {ob i:Nat} {x:Int} {B:Nat} {v:Value} {w w':World} (h:IsWord ob i x B v w) (hs:Stands w w'):IsWord ob i x B v w':=by
  obtain ⟨b1,b2,b3,rfl,hb,h1,h2,h3⟩:=h
  exact ⟨b1,b2,b3,rfl,hb,hs.2 _ _ _ _ (by decide) (by decide) h1,hs.2 _ _ _ _ (by decide) (by decide) h2,hs.2 _ _ _ _ (by decide) (by decide) h3⟩
theorem IsWord.mono {ob i:Nat} {x:Int} {B B':Nat} {v:Value} {w:World} (h:IsWord ob i x B v w) (hs:B' ≤ B):IsWord ob i x B' v w:=by
  obtain ⟨b1,b2,b3,rfl,hb,h1,h2,h3⟩:=h
  exact ⟨b1,b2,b3,rfl,⟨by omega,by omega,by omega⟩,h1,h2,h3⟩
theorem snd1_b (ob bo bd db dof dl dc i:Nat) (x:Int) (w:World) (h1:w.heap[bo]? = some (.cells #[.pointer (some ⟨ob,0,none⟩)] 159 (0,0))) (h2:w.heap[bd]? = some (.cells #[.slice (some ⟨db,dof,none⟩) dl dc] 34 (0,0))) (h3:w.cell? ⟨db,dof + i,none⟩ = some (.int .u32 x)) (hi:i < dl) :
    Calls Tryz.prog 105 #[.int .i64 (i:Int),.pointer (some ⟨bo,0,none⟩),.pointer (some ⟨bd,0,none⟩)] w fun e w' => ∃ v,e = .returned v ∧ IsWord ob i x w.heap.size v w' ∧ Below w.heap.size w w':=by
  have c1:w.cell? ⟨bo,0,none⟩ = some (.pointer (some ⟨ob,0,none⟩)):=blk_cell h1 rfl
  have c2:w.cell? ⟨bd,0,none⟩ = some (.slice (some ⟨db,dof,none⟩) dl dc):=blk_cell h2 rfl
  have i1:(i:Int) < (dl:Int):=by omega
  have HM:=Lib.hid (fun (W':World) => mk_word_b ob i x W')
  clear h1 h2
  go_enter Tryz.func105,Tryz.ntmps105
  go_wp2
  refine wp_region_held_drew (S:=(fun W' => Below w.heap.size w W')) (by kernel_rfl) (by exact (Below.refl _ _).drew) (fun hHeld => ?_)
  refine wpAnyH_take (i:=0) rfl (by kernel_rfl) (by kernel_rfl) (by kernel_rfl) (fun _ _ _ h => h) (Or.inl ⟨by rfl,by intro w hSw;(have z1:=(hSw.cell (p:=⟨bo,0,none⟩) (World.block_lt_of_cell? _ _ c1)).trans c1;have z2:=(hSw.cell (p:=⟨bd,0,none⟩) (World.block_lt_of_cell? _ _ c2)).trans c2;have z3:=(hSw.cell (p:=⟨db,dof + i,none⟩) (World.block_lt_of_cell? _ _ h3)).trans h3);(go_simp <;> with_reducible rfl)⟩) (by assumption) ?_
  (try simp only [Act.put,List.setIfInBounds_toArray,List.set_cons_zero,List.set_cons_succ,List.getElem_toArray,List.getElem_cons_zero,List.getElem_cons_succ])
  refine wpAnyH_take (i:=1) rfl (by kernel_rfl) (by kernel_rfl) (by kernel_rfl) (fun _ _ _ h => h) (Or.inl ⟨by rfl,by intro w hSw;(have z1:=(hSw.cell (p:=⟨bo,0,none⟩) (World.block_lt_of_cell? _ _ c1)).trans c1;have z2:=(hSw.cell (p:=⟨bd,0,none⟩) (World.block_lt_of_cell? _ _ c2)).trans c2;have z3:=(hSw.cell (p:=⟨db,dof + i,none⟩) (World.block_lt_of_cell? _ _ h3)).trans h3);(go_simp <;> with_reducible rfl)⟩) (by assumption) ?_
  (try simp only [Act.put,List.setIfInBounds_toArray,List.set_cons_zero,List.set_cons_succ,List.getElem_toArray,List.getElem_cons_zero,List.getElem_cons_succ])
  refine wpAnyH_take (i:=2) rfl (by kernel_rfl) (by kernel_rfl) (by kernel_rfl) (fun _ _ _ h => h) (Or.inl ⟨by rfl,by intro w hSw;(have z1:=(hSw.cell (p:=⟨bo,0,none⟩) (World.block_lt_of_cell? _ _ c1)).trans c1;have z2:=(hSw.cell (p:=⟨bd,0,none⟩) (World.block_lt_of_cell? _ _ c2)).trans c2;have z3:=(hSw.cell (p:=⟨db,dof + i,none⟩) (World.block_lt_of_cell? _ _ h3)).trans h3);(go_simp <;> with_reducible rfl)⟩) (by assumption) ?_
  (try simp only [Act.put,List.setIfInBounds_toArray,List.set_cons_zero,List.set_cons_succ,List.getElem_toArray,List.getElem_cons_zero,List.getElem_cons_succ])
  refine wpAnyH_take (i:=3) rfl (by kernel_rfl) (by kernel_rfl) (by kernel_rfl) (fun _ _ _ h => h) (Or.inl ⟨by rfl,by intro w hSw;(have z1:=(hSw.cell (p:=⟨bo,0,none⟩) (World.block_lt_of_cell? _ _ c1)).trans c1;have z2:=(hSw.cell (p:=⟨bd,0,none⟩) (World.block_lt_of_cell? _ _ c2)).trans c2;have z3:=(hSw.cell (p:=⟨db,dof + i,none⟩) (World.block_lt_of_cell? _ _ h3)).trans h3);(go_simp <;> with_reducible rfl)⟩) (by assumption) ?_
  (try simp only [Act.put,List.setIfInBounds_toArray,List.set_cons_zero,List.set_cons_succ,List.getElem_toArray,List.getElem_cons_zero,List.getElem_cons_succ])
  refine wpAnyH_take (i:=4) rfl (by kernel_rfl) (by kernel_rfl) (by kernel_rfl) (fun _ _ _ h => h) (Or.inl ⟨by rfl,by intro w hSw;(have z1:=(hSw.cell (p:=⟨bo,0,none⟩) (World.block_lt_of_cell? _ _ c1)).trans c1;have z2:=(hSw.cell (p:=⟨bd,0,none⟩) (World.block_lt_of_cell? _ _ c2)).trans c2;have z3:=(hSw.cell (p:=⟨db,dof + i,none⟩) (World.block_lt_of_cell? _ _ h3)).trans h3);(go_simp <;> with_reducible rfl)⟩) (by assumption) ?_
  (try simp only [Act.put,List.setIfInBounds_toArray,List.set_cons_zero,List.set_cons_succ,List.getElem_toArray,List.getElem_cons_zero,List.getElem_cons_succ])
  refine wpAnyH_take (i:=5) rfl (by kernel_rfl) (by kernel_rfl) (by kernel_rfl) (fun _ _ _ h => h) (Or.inl ⟨by rfl,by intro w hSw;(have z1:=(hSw.cell (p:=⟨bo,0,none⟩) (World.block_lt_of_cell? _ _ c1)).trans c1;have z2:=(hSw.cell (p:=⟨bd,0,none⟩) (World.block_lt_of_cell? _ _ c2)).trans c2;have z3:=(hSw.cell (p:=⟨db,dof + i,none⟩) (World.block_lt_of_cell? _ _ h3)).trans h3);(go_simp <;> with_reducible rfl)⟩) (by assumption) ?_
  (try simp only [Act.put,List.setIfInBounds_toArray,List.set_cons_zero,List.set_cons_succ,List.getElem_toArray,List.getElem_cons_zero,List.getElem_cons_succ])
  refine wpAnyH_ready (rs:=[6]) (by kernel_rfl) (by simp) (AllReadyH.cons rfl (fun K hK => ?_) AllReadyH.nil)
  go_simp
  refine (HM.out _).mono ?_
  rintro e w5 ⟨rfl,hb5,hs5,y1,y2,y3⟩
  refine hK.out _ _ (by exact hHeld.trans (hb5.mono hHeld.size)) (fun hHeld => ?_)
  clear hK K
  (try simp only [Act.put,List.setIfInBounds_toArray,List.set_cons_zero,List.set_cons_succ,List.getElem_toArray,List.getElem_cons_zero,List.getElem_cons_succ])
  refine wpAnyH_take (i:=7) rfl (by kernel_rfl) (by kernel_rfl) (by kernel_rfl) (fun _ _ _ h => h) (Or.inl ⟨by rfl,by intro w hSw;(have z1:=(hSw.cell (p:=⟨bo,0,none⟩) (World.block_lt_of_cell? _ _ c1)).trans c1;have z2:=(hSw.cell (p:=⟨bd,0,none⟩) (World.block_lt_of_cell? _ _ c2)).trans c2;have z3:=(hSw.cell (p:=⟨db,dof + i,none⟩) (World.block_lt_of_cell? _ _ h3)).trans h3);(go_simp <;> with_reducible rfl)⟩) (by assumption) ?_
  (try simp only [Act.put,List.setIfInBounds_toArray,List.set_cons_zero,List.set_cons_succ,List.getElem_toArray,List.getElem_cons_zero,List.getElem_cons_succ])
  refine wpAnyH_done (by kernel_rfl) ?_ _
  have HH:=Lib.hid hHeld
  clear hHeld
  go_wp2
  go_ret
  exact ⟨_,rfl,⟨_,_,_,rfl,⟨Nat.le_refl _,by omega,by omega⟩,y1,y2,y3⟩,HH.out⟩
end Go.Proofs.YtjfolhkblbakiaaGreatDoor
end
section
namespace Go.Proofs.YtjfolhkblbakiaaGreatDoor
open Go.RowKit Go.Sort Go.Shelf
set_option linter.unusedVariables false
set_option linter.unusedSimpArgs false
set_option linter.unusedVariables false
set_option linter.unusedSimpArgs false
set_option maxRecDepth 100000
set_option maxHeartbeats 1600000
attribute [local go_sem] Oper.semAt_some
/-- Stands;and every block below B is as it was. -/
def StB (B:Nat) (W W':World):Prop:=Stands W W' ∧ ∀ k,k < B → W'.heap[k]? = W.heap[k]?
theorem StB.refl (B:Nat) (W:World):StB B W W:=⟨Stands.refl W,fun _ _ => rfl⟩
theorem StB.trans {B:Nat} {X Y Z:World} (h:StB B X Y) (k:StB B Y Z):StB B X Z:=⟨h.1.trans k.1,fun i hi => (k.2 i hi).trans (h.2 i hi)⟩
theorem StB.below {B:Nat} {W W':World} (h:Below W.heap.size W W') (hB:B ≤ W.heap.size):StB B W W':=⟨Stands.below h,fun k hk => h.block k (by omega)⟩
theorem msgS_tells (n:Nat) (hn:1 ≤ n) (ob bn bf bo bd db m:Nat) (dof dc:Nat) (data:List Int) (B:Nat) (hm:m ≤ 1000000) (w:World) (hbn:w.heap[bn]? = some (.cells #[.int .i64 (m:Int)] 3 (0,0))) (hbf:w.heap[bf]? = some (.cells #[.func (.func 105) #[] #[.pointer (some ⟨bo,0,none⟩),.pointer (some ⟨bd,0,none⟩)]] 205 (0,0))) (hbo:w.heap[bo]? = some (.cells #[.pointer (some ⟨ob,0,none⟩)] 159 (0,0))) (hBs:B ≤ w.heap.size) (hbd:w.heap[bd]? = some (.cells #[.slice (some ⟨db,dof,none⟩) m dc] 34 (0,0))) (hdb:∃ cs ty mm,db < B ∧ w.heap[db]? = some (.cells cs ty mm) ∧ ∀ j,j < m → cs[dof + j]? = some (.int .u32 (data.getD j 0))) :
    Tells Fence.wide n Tryz.prog 150 #[.pointer (some ⟨bn,0,none⟩),.pointer (some ⟨bf,0,none⟩)] (fun v:Value => #[v]) (StB B) (fun pre v Y => IsWord ob pre.length (data.getD pre.length 0) w.heap.size v Y) (fun xs => xs.length = m) m w:=by
  intro lp J W hW hJ hY h0
  have hSW:Stands w W:=Stands.below hW
  have HST:=Lib.hid hSW
  have HWB:=Lib.hid hW
  have s1:W.cell? ⟨bn,0,none⟩ = some (.int .i64 (m:Int)):=blk_cell (hSW.2 _ _ _ _ (by decide) (by decide) hbn) rfl
  refine callsIn_of_wp Tryz.func150 rfl trivial ?_ rfl
  simp only [Tryz.ntmps150,List.size_toArray,List.length_cons,List.length_nil,Nat.reduceAdd,Nat.reduceSub,Array.replicate_succ,Array.replicate_zero,List.push_toArray,List.append_toArray,List.nil_append,List.cons_append]
  gi_wp2
  gi_loopw [6] (fun ix wr => ∃ (k:Nat) (xs:List Value),k ≤ m ∧ ix = .int .i64 k ∧ Hid (xs.length = k) ∧ J xs wr ∧ StB B W wr ∧ W.heap.size ≤ wr.heap.size) (fun ix _ => m - (intOf ix).toNat)
  case atStart => exact ⟨0,[],Nat.zero_le _,rfl,rfl,h0,StB.refl _ _,Nat.le_refl _⟩
  case round =>
    obtain ⟨k,xs,hk,rfl,hxl,hJk,hK,hsz⟩:=hrel
    have hT:=HST.out.trans hK.1
    by_cases hlt:k < m
    · have c2:wr.cell? ⟨bf,0,none⟩ = some (.func (.func 105) #[] #[.pointer (some ⟨bo,0,none⟩),.pointer (some ⟨bd,0,none⟩)]):=blk_cell (hT.2 _ _ _ _ (by decide) (by decide) hbf) rfl
      have hbo2:=hT.2 _ _ _ _ (by decide) (by decide) hbo
      have HC:=Lib.hid (by obtain ⟨cs,ty,mm,hdB,hd1,hd2⟩:=hdb;exact snd1_b ob bo bd db dof m dc k (data.getD k 0) wr hbo2 (hT.2 _ _ _ _ (by decide) (by decide) hbd) (blk_cell ((hK.2 db hdB).trans ((HWB.out.block db (Array.getElem?_eq_some_iff.1 hd1).1).trans hd1)) (hd2 k hlt)) hlt)
      clear hbo2 s1
      gi_wp2_with fail
      refine ⟨trivial,(callsIn_wide.2 HC.out).mono ?_⟩
      rintro e w5 ⟨v,rfl,hv,hb5⟩
      have hJ5:J xs w5:=hJ xs wr w5 none hJk (grown_of_below hb5) (fun r e => by cases e)
      have hwl:w.heap.size ≤ wr.heap.size:=hT.1
      obtain ⟨fn,tmps,assign,body,hy,hR⟩:=hY xs v w5 hJ5 (by
        have:=IsWord.mono hv hwl
        have e:=hxl.out
        rw [e];exact this) (by have:=hxl.out;omega)
      have hK5:StB B W w5:=hK.trans (StB.below hb5 (Nat.le_trans hBs hwl))
      have hs5:W.heap.size ≤ w5.heap.size:=Nat.le_trans hsz hb5.size
      clear hv hJk hJ5 hb5 c2
      gi_wp2
      refine hR.mono ?_
      rintro e W6 ⟨rfl,hJ6,hk6⟩
      clear hR hy
      gi_wp2
      go_roundw
      case rel => exact ⟨k + 1,xs ++ [v],by omega,by go_num,Lib.hid (by rw [List.length_append,hxl.out];rfl),hJ6,hK5.trans hk6,Nat.le_trans hs5 hk6.1.1⟩
      case measure => simp [intOf];omega
    · have hkm:k = m:=by omega
      have HX:=Lib.hid (hxl.out.trans hkm)
      clear hkm hxl s1
      gi_wp2
      go_end0
      exact ⟨⟨_,rfl⟩,_,HX.out,hJk⟩
end Go.Proofs.YtjfolhkblbakiaaGreatDoor
end
