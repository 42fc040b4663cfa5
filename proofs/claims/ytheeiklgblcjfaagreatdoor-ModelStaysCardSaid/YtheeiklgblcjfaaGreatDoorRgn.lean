/- Texts of the ring, joined, what is used of them. No condition but those in the statements. -/
import Derived.BigQuiet
import Derived.BigRegion
import Derived.Deep.MidRow
import Derived.Deep.RegionHeld3
import Derived.Deep.Upon
import Derived.IntWalk
import Derived.Lib.RowBridge
import Derived.Test.YtheeiklgblcjfaaGreatDoorRShelfP
import Derived.Test.YtheeiklgblcjfaaGreatDoorRga
import Derived.Test.YtheeiklgblcjfaaGreatDoorRgl
import Derived.Test.YtheeiklgblcjfaaGreatDoorRgm
section
namespace Go.Proofs.YtheeiklgblcjfaaGreatDoor
open Go.RowKit Go.Sort
set_option linter.unusedVariables false
set_option linter.unusedSimpArgs false
set_option linter.unusedVariables false
set_option linter.unusedSimpArgs false
set_option maxRecDepth 100000
theorem rcellsP_ones {ks:List IntKind} {l:List (List Int)}:∀ u ∈ rcells ks l,u.oneCell' = true:=by
  intro u hu
  unfold rcells at hu
  rw [List.mem_flatten] at hu
  obtain ⟨cs,hcs,hu⟩:=hu
  obtain ⟨x,_,rfl⟩:=List.mem_map.1 hcs
  exact ncells_one ks x u hu
/-- A row's cells,one behind the other. -/
theorem RowN.newsP {ks:List IntKind} {w:World} {B:Nat} {a:Addr} {l:List (List Int)} (hk:0 < ks.length) (h:RowN ks w B (some a) l) (hw:wfR ks l):∀ j u,(rcells ks l)[j]? = some u → w.cell? (a.add j) = some u:=by
  intro j u hj
  have hlen:=rcells_len hw
  have hjl:j < l.length * ks.length:=by have:=(List.getElem?_eq_some_iff.1 hj).1;omega
  have hpos:0 < l.length:=by
    rcases Nat.eq_zero_or_pos l.length with h0 | h0
    · rw [h0] at hjl;omega
    · exact h0
  obtain ⟨b,o,hA,_,hc⟩:=h hpos
  cases hA
  have hi:j / ks.length < l.length:=Nat.div_lt_of_lt_mul (by rw [Nat.mul_comm];exact hjl)
  have hjm:j % ks.length < ks.length:=Nat.mod_lt _ hk
  have hx:l[j / ks.length]? = some l[j / ks.length]:=List.getElem?_eq_getElem hi
  have h1:=rcells_at hw hx (j % ks.length) hjm
  rw [Nat.mul_comm,Nat.div_add_mod,hj] at h1
  have h2:=hc _ _ hx (j % ks.length) u h1.symm
  rw [Addr.add_lit]
  rw [Nat.add_assoc,Nat.mul_comm,Nat.div_add_mod] at h2
  exact h2
theorem rowP_none {ks:List IntKind} {w:World} {B:Nat} {A:Option Addr} {l:List (List Int)} (h:RowN ks w B A l):A = none → l = []:=fun e => by
  rcases Nat.eq_zero_or_pos l.length with h0 | h0
  · exact List.eq_nil_of_length_eq_zero h0
  · obtain ⟨b,o,hA,_⟩:=h h0
    rw [e] at hA;cases hA
structure LockP (T:Prop):Prop where
  get:T
theorem cutP {T G:Prop} (six:T) (body:LockP T → G):G:=body ⟨six⟩
/-- A call that hands back rows of its own,and turns nothing that was there. -/
def GivesRowN (ks:List IntKind) (w:World) (l:List (List Int)) (e:Ending) (w':World):Prop:=∃ A' c',e = .returned (.slice A' l.length c') ∧ RowN ks w' w'.heap.size A' l ∧ (0 < l.length → ∀ a,A' = some a → w.heap.size ≤ a.block) ∧ (l.length ≤ c' ∧ c' ≤ maxLen ∧ (A' = none → l = [])) ∧ Below w.heap.size w w'
/-- The same,of integers. -/
def GivesIntK (K:IntKind) (w:World) (l:List Int) (e:Ending) (w':World):Prop:=∃ A' c',e = .returned (.slice A' l.length c') ∧ IntRowK K w' w'.heap.size A' l ∧ (0 < l.length → ∀ a,A' = some a → w.heap.size ≤ a.block) ∧ (l.length ≤ c' ∧ c' ≤ maxLen ∧ (A' = none → l = [])) ∧ Below w.heap.size w w'
theorem Tryz.infoClP:(Tryz.prog.info? 131).map (fun i => (i.zero,i.size,i.bytes)) = some (some (.agg #[.int .i64 0,.int .i64 0]),2,16):=by kernel_rfl
theorem cloneP_b (A:Option Addr) (c:Nat) (l:List (List Int)) (w:World) (h:RowN [.i64,.i64] w w.heap.size A l) (hw:wfR [.i64,.i64] l) (hn:A = none → l = []) (hl:l.length ≤ 1000000):Calls Tryz.prog 58 #[.slice A l.length c] w (GivesRowN [.i64,.i64] w l):=by
  obtain ⟨i0,hi,hz0,hz1,hz2⟩:=info_parts Tryz.infoClP
  have q:=Lib.run_eql_slice_nil (P:=Tryz.prog) w 22 131 A l.length c 0 0 Tryz.underlying22
  cases A with
  | none =>
    obtain rfl:=hn rfl
    simp only [List.length_nil] at q ⊢
    clear h
    go_enter Tryz.func58,Tryz.ntmps58
    go_wp2
    go_ret
    exact ⟨_,_,rfl,RowN.nil _ _ _ _,(fun h => by simp at h),⟨by simp,by simp [maxLen],fun _ => rfl⟩,Below.refl _ _⟩
  | some ad =>
    have hcell:∀ j u,(rcells [.i64,.i64] l)[j]? = some u → w.cell? (ad.add j) = some u:=RowN.newsP (by decide) h hw
    have hb1:Below w.heap.size w (w.alloc (.cells #[] 131)):=(Below.refl _ _).alloc (Nat.le_refl _) _
    have hown:=World.ownsRow_made (base:=w.heap.size) (e:=131) (size:=2) w #[] 0 (Nat.le_refl _) (by unfold maxLen;omega) (by simp)
    have hcell1:∀ j u,(rcells [.i64,.i64] l)[j]? = some u → (w.alloc (.cells #[] 131)).cell? (ad.add j) = some u:=fun j u hj =>
      (hb1.cell (by have:=World.block_lt_of_cell? _ _ (hcell j u hj);exact this)).trans (hcell j u hj)
    have HO:=Lib.hid (rcellsP_ones (ks:=[.i64,.i64]) (l:=l));have HC:=Lib.hid hcell1;have HW:=Lib.hid hw
    have HL:=Lib.hid (rcells_len hw)
    clear h hcell hcell1 hn hw
    go_enter Tryz.func58,Tryz.ntmps58
    go_wp2_with (at_builtin;refine wpList_append_own _ rfl _ _ 22 rfl w.heap.size 131 i0 (.agg #[.int .i64 0,.int .i64 0]) 2 16 Tryz.underlying22 hi hz0 hz1 hz2 rfl (by decide) _ _ _ rfl hown ad l.length c _ rfl HL.out HC.out HO.out (by unfold maxLen;omega) (by omega) (by simp) ?_)
    · intro v' w2 hown' hgrow _
      have hb2:Below w.heap.size w w2:=hb1.grown hgrow hb1.size (fun k hk => by cases hk;exact Nat.le_refl _)
      have ho:OwnsOff w2 w.heap.size 131 ([.i64,.i64]:List IntKind).length v' l.length (rcells [.i64,.i64] l):=by have:=OwnsOff.of_own hown';simpa using this
      obtain ⟨A',c',rfl,hq1,hq2,hr,hq3,hb⟩:=ho.rowN HW.out
      have HR:=Lib.hid hr;have HN:=Lib.hid (show 0 < l.length → ∀ a,A' = some a → w.heap.size ≤ a.block from fun _ => hb);have HQ:=Lib.hid (And.intro hq1 (And.intro hq2 hq3))
      clear ho hr hb hq1 hq2 hq3
      have HB:=Lib.hid hb2
      clear hown' hgrow hb1 hown hb2
      go_wp2
      go_ret
      exact ⟨_,_,rfl,HR.out,HN.out,HQ.out,HB.out⟩
theorem Tryz.infoClC:(Tryz.prog.info? 91).map (fun i => (i.zero,i.size,i.bytes)) = some (some (.agg #[.int .i64 0,.int .i64 0,.int .i64 0,.int .i64 0,.int .i64 0,.int .i64 0,.int .u32 0]),7,56):=by kernel_rfl
theorem cloneC_b (A:Option Addr) (c:Nat) (l:List (List Int)) (w:World) (h:RowN [.i64,.i64,.i64,.i64,.i64,.i64,.u32] w w.heap.size A l) (hw:wfR [.i64,.i64,.i64,.i64,.i64,.i64,.u32] l) (hn:A = none → l = []) (hl:l.length ≤ 1000000):Calls Tryz.prog 59 #[.slice A l.length c] w (GivesRowN [.i64,.i64,.i64,.i64,.i64,.i64,.u32] w l):=by
  obtain ⟨i0,hi,hz0,hz1,hz2⟩:=info_parts Tryz.infoClC
  have q:=Lib.run_eql_slice_nil (P:=Tryz.prog) w 23 91 A l.length c 0 0 Tryz.underlying23
  cases A with
  | none =>
    obtain rfl:=hn rfl
    simp only [List.length_nil] at q ⊢
    clear h
    go_enter Tryz.func59,Tryz.ntmps59
    go_wp2
    go_ret
    exact ⟨_,_,rfl,RowN.nil _ _ _ _,(fun h => by simp at h),⟨by simp,by simp [maxLen],fun _ => rfl⟩,Below.refl _ _⟩
  | some ad =>
    have hcell:∀ j u,(rcells [.i64,.i64,.i64,.i64,.i64,.i64,.u32] l)[j]? = some u → w.cell? (ad.add j) = some u:=RowN.newsP (by decide) h hw
    have hb1:Below w.heap.size w (w.alloc (.cells #[] 91)):=(Below.refl _ _).alloc (Nat.le_refl _) _
    have hown:=World.ownsRow_made (base:=w.heap.size) (e:=91) (size:=7) w #[] 0 (Nat.le_refl _) (by unfold maxLen;omega) (by simp)
    have hcell1:∀ j u,(rcells [.i64,.i64,.i64,.i64,.i64,.i64,.u32] l)[j]? = some u → (w.alloc (.cells #[] 91)).cell? (ad.add j) = some u:=fun j u hj =>
      (hb1.cell (by have:=World.block_lt_of_cell? _ _ (hcell j u hj);exact this)).trans (hcell j u hj)
    have HO:=Lib.hid (rcellsP_ones (ks:=[.i64,.i64,.i64,.i64,.i64,.i64,.u32]) (l:=l));have HC:=Lib.hid hcell1;have HW:=Lib.hid hw
    have HL:=Lib.hid (rcells_len hw)
    clear h hcell hcell1 hn hw
    go_enter Tryz.func59,Tryz.ntmps59
    go_wp2_with (at_builtin;refine wpList_append_own _ rfl _ _ 23 rfl w.heap.size 91 i0 (.agg #[.int .i64 0,.int .i64 0,.int .i64 0,.int .i64 0,.int .i64 0,.int .i64 0,.int .u32 0]) 7 56 Tryz.underlying23 hi hz0 hz1 hz2 rfl (by decide) _ _ _ rfl hown ad l.length c _ rfl HL.out HC.out HO.out (by unfold maxLen;omega) (by omega) (by simp) ?_)
    · intro v' w2 hown' hgrow _
      have hb2:Below w.heap.size w w2:=hb1.grown hgrow hb1.size (fun k hk => by cases hk;exact Nat.le_refl _)
      have ho:OwnsOff w2 w.heap.size 91 ([.i64,.i64,.i64,.i64,.i64,.i64,.u32]:List IntKind).length v' l.length (rcells [.i64,.i64,.i64,.i64,.i64,.i64,.u32] l):=by have:=OwnsOff.of_own hown';simpa using this
      obtain ⟨A',c',rfl,hq1,hq2,hr,hq3,hb⟩:=ho.rowN HW.out
      have HR:=Lib.hid hr;have HN:=Lib.hid (show 0 < l.length → ∀ a,A' = some a → w.heap.size ≤ a.block from fun _ => hb);have HQ:=Lib.hid (And.intro hq1 (And.intro hq2 hq3))
      clear ho hr hb hq1 hq2 hq3
      have HB:=Lib.hid hb2
      clear hown' hgrow hb1 hown hb2
      go_wp2
      go_ret
      exact ⟨_,_,rfl,HR.out,HN.out,HQ.out,HB.out⟩
theorem Tryz.infoClW:(Tryz.prog.info? 133).map (fun i => (i.zero,i.size,i.bytes)) = some (some (.agg #[.int .i64 0,.int .i64 0,.int .i64 0]),3,24):=by kernel_rfl
theorem cloneW_b (A:Option Addr) (c:Nat) (l:List (List Int)) (w:World) (h:RowN [.i64,.i64,.i64] w w.heap.size A l) (hw:wfR [.i64,.i64,.i64] l) (hn:A = none → l = []) (hl:l.length ≤ 1000000):Calls Tryz.prog 60 #[.slice A l.length c] w (GivesRowN [.i64,.i64,.i64] w l):=by
  obtain ⟨i0,hi,hz0,hz1,hz2⟩:=info_parts Tryz.infoClW
  have q:=Lib.run_eql_slice_nil (P:=Tryz.prog) w 24 133 A l.length c 0 0 Tryz.underlying24
  cases A with
  | none =>
    obtain rfl:=hn rfl
    simp only [List.length_nil] at q ⊢
    clear h
    go_enter Tryz.func60,Tryz.ntmps60
    go_wp2
    go_ret
    exact ⟨_,_,rfl,RowN.nil _ _ _ _,(fun h => by simp at h),⟨by simp,by simp [maxLen],fun _ => rfl⟩,Below.refl _ _⟩
  | some ad =>
    have hcell:∀ j u,(rcells [.i64,.i64,.i64] l)[j]? = some u → w.cell? (ad.add j) = some u:=RowN.newsP (by decide) h hw
    have hb1:Below w.heap.size w (w.alloc (.cells #[] 133)):=(Below.refl _ _).alloc (Nat.le_refl _) _
    have hown:=World.ownsRow_made (base:=w.heap.size) (e:=133) (size:=3) w #[] 0 (Nat.le_refl _) (by unfold maxLen;omega) (by simp)
    have hcell1:∀ j u,(rcells [.i64,.i64,.i64] l)[j]? = some u → (w.alloc (.cells #[] 133)).cell? (ad.add j) = some u:=fun j u hj =>
      (hb1.cell (by have:=World.block_lt_of_cell? _ _ (hcell j u hj);exact this)).trans (hcell j u hj)
    have HO:=Lib.hid (rcellsP_ones (ks:=[.i64,.i64,.i64]) (l:=l));have HC:=Lib.hid hcell1;have HW:=Lib.hid hw
    have HL:=Lib.hid (rcells_len hw)
    clear h hcell hcell1 hn hw
    go_enter Tryz.func60,Tryz.ntmps60
    go_wp2_with (at_builtin;refine wpList_append_own _ rfl _ _ 24 rfl w.heap.size 133 i0 (.agg #[.int .i64 0,.int .i64 0,.int .i64 0]) 3 24 Tryz.underlying24 hi hz0 hz1 hz2 rfl (by decide) _ _ _ rfl hown ad l.length c _ rfl HL.out HC.out HO.out (by unfold maxLen;omega) (by omega) (by simp) ?_)
    · intro v' w2 hown' hgrow _
      have hb2:Below w.heap.size w w2:=hb1.grown hgrow hb1.size (fun k hk => by cases hk;exact Nat.le_refl _)
      have ho:OwnsOff w2 w.heap.size 133 ([.i64,.i64,.i64]:List IntKind).length v' l.length (rcells [.i64,.i64,.i64] l):=by have:=OwnsOff.of_own hown';simpa using this
      obtain ⟨A',c',rfl,hq1,hq2,hr,hq3,hb⟩:=ho.rowN HW.out
      have HR:=Lib.hid hr;have HN:=Lib.hid (show 0 < l.length → ∀ a,A' = some a → w.heap.size ≤ a.block from fun _ => hb);have HQ:=Lib.hid (And.intro hq1 (And.intro hq2 hq3))
      clear ho hr hb hq1 hq2 hq3
      have HB:=Lib.hid hb2
      clear hown' hgrow hb1 hown hb2
      go_wp2
      go_ret
      exact ⟨_,_,rfl,HR.out,HN.out,HQ.out,HB.out⟩
theorem Tryz.infoClU:(Tryz.prog.info? 89).map (fun i => (i.zero,i.size,i.bytes)) = some (some (.int .u32 0),1,4):=by kernel_rfl
theorem cloneU_b (A:Option Addr) (c:Nat) (l:List Int) (w:World) (h:IntRowK .u32 w w.heap.size A l) (hn:A = none → l = []) (hl:l.length ≤ 1000000):Calls Tryz.prog 67 #[.slice A l.length c] w (GivesIntK .u32 w l):=by
  obtain ⟨i0,hi,hz0,hz1,hz2⟩:=info_parts Tryz.infoClU
  have q:=Lib.run_eql_slice_nil (P:=Tryz.prog) w 37 89 A l.length c 0 0 Tryz.underlying37
  cases A with
  | none =>
    obtain rfl:=hn rfl
    simp only [List.length_nil] at q ⊢
    clear h
    go_enter Tryz.func67,Tryz.ntmps67
    go_wp2
    go_ret
    exact ⟨_,_,rfl,(fun h => by simp at h),(fun h => by simp at h),⟨by simp,by simp [maxLen],fun _ => rfl⟩,Below.refl _ _⟩
  | some ad =>
    have hcell:∀ j u,(l.map (Value.int .u32))[j]? = some u → w.cell? (ad.add j) = some u:=(fun j u hj => by
      have hl:j < l.length:=by have:=(List.getElem?_eq_some_iff.1 hj).1;simpa using this
      obtain ⟨b,o',he,_,hc⟩:=h (by omega)
      cases he
      have hu:u = .int .u32 (l.getD j 0):=by simp [List.getD_eq_getElem?_getD,hl] at hj ⊢;exact hj.symm
      rw [Addr.add_lit,hu]
      exact hc j hl)
    have hb1:Below w.heap.size w (w.alloc (.cells #[] 89)):=(Below.refl _ _).alloc (Nat.le_refl _) _
    have hown:=World.ownsRow_made (base:=w.heap.size) (e:=89) (size:=1) w #[] 0 (Nat.le_refl _) (by unfold maxLen;omega) (by simp)
    have hcell1:∀ j u,(l.map (Value.int .u32))[j]? = some u → (w.alloc (.cells #[] 89)).cell? (ad.add j) = some u:=fun j u hj =>
      (hb1.cell (by have:=World.block_lt_of_cell? _ _ (hcell j u hj);exact this)).trans (hcell j u hj)
    have HO:=Lib.hid ((show ∀ u ∈ l.map (Value.int .u32),u.oneCell' = true from fun u hu => by obtain ⟨x,_,rfl⟩:=List.mem_map.1 hu;rfl));have HC:=Lib.hid hcell1
    have HL:=Lib.hid ((show (l.map (Value.int .u32)).length = l.length * 1 by simp))
    clear h hcell hcell1 hn
    go_enter Tryz.func67,Tryz.ntmps67
    go_wp2_with (at_builtin;refine wpList_append_own _ rfl _ _ 37 rfl w.heap.size 89 i0 (.int .u32 0) 1 4 Tryz.underlying37 hi hz0 hz1 hz2 rfl (by decide) _ _ _ rfl hown ad l.length c _ rfl HL.out HC.out HO.out (by unfold maxLen;omega) (by omega) (by simp) ?_)
    · intro v' w2 hown' hgrow _
      have hb2:Below w.heap.size w w2:=hb1.grown hgrow hb1.size (fun k hk => by cases hk;exact Nat.le_refl _)
      have ho:OwnsOff w2 w.heap.size 89 1 v' l.length (l.map (Value.int .u32)):=by have:=OwnsOff.of_own hown';simpa using this
      obtain ⟨A',c',rfl,hq1,hq2⟩:=ho.slice
      have HR:Hid (IntRowK .u32 w2 w2.heap.size A' l):=Lib.hid (fun hp => by
        obtain ⟨g,off,cap,hv,_,hg,_,_,_,hc⟩:=ho.lies hp
        cases hv
        exact ⟨g,off,rfl,hg,fun i hi => by have:=hc i (.int .u32 (l.getD i 0)) (by simp [List.getD_eq_getElem?_getD,hi]);exact this⟩)
      have HN:Hid (0 < l.length → ∀ a,A' = some a → w.heap.size ≤ a.block):=Lib.hid (fun hp a ha => by have:=(ho.lt a.block (by rw [ha];rfl)).1;exact this)
      have HQ:Hid (l.length ≤ c' ∧ c' ≤ maxLen ∧ (A' = none → l = [])):=Lib.hid ⟨hq1,hq2,fun e => by
        rcases Nat.eq_zero_or_pos l.length with h0 | h0
        · exact List.eq_nil_of_length_eq_zero h0
        · obtain ⟨g,off,cap,hv,_⟩:=ho.lies h0
          rw [e] at hv;cases hv⟩
      clear ho hq1 hq2
      have HB:=Lib.hid hb2
      clear hown' hgrow hb1 hown hb2
      go_wp2
      go_ret
      exact ⟨_,_,rfl,HR.out,HN.out,HQ.out,HB.out⟩
theorem Tryz.infoClI:(Tryz.prog.info? 3).map (fun i => (i.zero,i.size,i.bytes)) = some (some (.int .i64 0),1,8):=by kernel_rfl
theorem cloneI_b (A:Option Addr) (c:Nat) (l:List Int) (w:World) (h:IntRowK .i64 w w.heap.size A l) (hn:A = none → l = []) (hl:l.length ≤ 1000000):Calls Tryz.prog 49 #[.slice A l.length c] w (GivesIntK .i64 w l):=by
  obtain ⟨i0,hi,hz0,hz1,hz2⟩:=info_parts Tryz.infoClI
  have q:=Lib.run_eql_slice_nil (P:=Tryz.prog) w 55 3 A l.length c 0 0 Tryz.underlying55
  cases A with
  | none =>
    obtain rfl:=hn rfl
    simp only [List.length_nil] at q ⊢
    clear h
    go_enter Tryz.func49,Tryz.ntmps49
    go_wp2
    go_ret
    exact ⟨_,_,rfl,(fun h => by simp at h),(fun h => by simp at h),⟨by simp,by simp [maxLen],fun _ => rfl⟩,Below.refl _ _⟩
  | some ad =>
    have hcell:∀ j u,(l.map (Value.int .i64))[j]? = some u → w.cell? (ad.add j) = some u:=(fun j u hj => by
      have hl:j < l.length:=by have:=(List.getElem?_eq_some_iff.1 hj).1;simpa using this
      obtain ⟨b,o',he,_,hc⟩:=h (by omega)
      cases he
      have hu:u = .int .i64 (l.getD j 0):=by simp [List.getD_eq_getElem?_getD,hl] at hj ⊢;exact hj.symm
      rw [Addr.add_lit,hu]
      exact hc j hl)
    have hb1:Below w.heap.size w (w.alloc (.cells #[] 3)):=(Below.refl _ _).alloc (Nat.le_refl _) _
    have hown:=World.ownsRow_made (base:=w.heap.size) (e:=3) (size:=1) w #[] 0 (Nat.le_refl _) (by unfold maxLen;omega) (by simp)
    have hcell1:∀ j u,(l.map (Value.int .i64))[j]? = some u → (w.alloc (.cells #[] 3)).cell? (ad.add j) = some u:=fun j u hj =>
      (hb1.cell (by have:=World.block_lt_of_cell? _ _ (hcell j u hj);exact this)).trans (hcell j u hj)
    have HO:=Lib.hid ((show ∀ u ∈ l.map (Value.int .i64),u.oneCell' = true from fun u hu => by obtain ⟨x,_,rfl⟩:=List.mem_map.1 hu;rfl));have HC:=Lib.hid hcell1
    have HL:=Lib.hid ((show (l.map (Value.int .i64)).length = l.length * 1 by simp))
    clear h hcell hcell1 hn
    go_enter Tryz.func49,Tryz.ntmps49
    go_wp2_with (at_builtin;refine wpList_append_own _ rfl _ _ 55 rfl w.heap.size 3 i0 (.int .i64 0) 1 8 Tryz.underlying55 hi hz0 hz1 hz2 rfl (by decide) _ _ _ rfl hown ad l.length c _ rfl HL.out HC.out HO.out (by unfold maxLen;omega) (by omega) (by simp) ?_)
    · intro v' w2 hown' hgrow _
      have hb2:Below w.heap.size w w2:=hb1.grown hgrow hb1.size (fun k hk => by cases hk;exact Nat.le_refl _)
      have ho:OwnsOff w2 w.heap.size 3 1 v' l.length (l.map (Value.int .i64)):=by have:=OwnsOff.of_own hown';simpa using this
      obtain ⟨A',c',rfl,hq1,hq2⟩:=ho.slice
      have HR:Hid (IntRowK .i64 w2 w2.heap.size A' l):=Lib.hid (fun hp => by
        obtain ⟨g,off,cap,hv,_,hg,_,_,_,hc⟩:=ho.lies hp
        cases hv
        exact ⟨g,off,rfl,hg,fun i hi => by have:=hc i (.int .i64 (l.getD i 0)) (by simp [List.getD_eq_getElem?_getD,hi]);exact this⟩)
      have HN:Hid (0 < l.length → ∀ a,A' = some a → w.heap.size ≤ a.block):=Lib.hid (fun hp a ha => by have:=(ho.lt a.block (by rw [ha];rfl)).1;exact this)
      have HQ:Hid (l.length ≤ c' ∧ c' ≤ maxLen ∧ (A' = none → l = [])):=Lib.hid ⟨hq1,hq2,fun e => by
        rcases Nat.eq_zero_or_pos l.length with h0 | h0
        · exact List.eq_nil_of_length_eq_zero h0
        · obtain ⟨g,off,cap,hv,_⟩:=ho.lies h0
          rw [e] at hv;cases hv⟩
      clear ho hq1 hq2
      have HB:=Lib.hid hb2
      clear hown' hgrow hb1 hown hb2
      go_wp2
      go_ret
      exact ⟨_,_,rfl,HR.out,HN.out,HQ.out,HB.out⟩
end Go.Proofs.YtheeiklgblcjfaaGreatDoor
end
section
namespace Go.Proofs.YtheeiklgblcjfaaGreatDoor
open Go.RowKit Go.Sort
set_option linter.unusedVariables false
set_option linter.unusedSimpArgs false
set_option linter.unusedVariables false
set_option linter.unusedSimpArgs false
set_option maxRecDepth 100000
theorem sets_block {b:Nat} {ty:TypeId} {m:Nat × Nat}:∀ (vs:List Value) (o:Nat) (X:World) (cs:Array Value),X.heap[b]? = some (.cells cs ty m) → ∃ cs',(X.setCells b o vs).heap[b]? = some (.cells cs' ty m) ∧ cs'.size = cs.size ∧ ∀ k,cs'[k]? = if o ≤ k ∧ k < o + vs.length ∧ k < cs.size then vs[k - o]? else cs[k]?
  | [],o,X,cs,h => ⟨cs,h,rfl,fun k => by rw [if_neg (by simp;omega)]⟩
  | v :: r,o,X,cs,h => by
    obtain ⟨cs',h1,h2,h3⟩:=sets_block r (o + 1) (X.setCell ⟨b,o,none⟩ v) (cs.setIfInBounds o v) (blk_put h rfl)
    refine ⟨cs',h1,by rw [h2];simp,fun k => ?_⟩
    rw [h3 k]
    simp only [Array.size_setIfInBounds,List.length_cons,Array.getElem?_setIfInBounds]
    by_cases e1:k = o
    · subst e1
      rw [if_neg (by omega)]
      by_cases e2:k < cs.size
      · rw [if_pos rfl,if_pos e2,if_pos (by omega),Nat.sub_self];rfl
      · rw [if_pos rfl,if_neg e2,if_neg (by omega),Array.getElem?_eq_none (by omega)]
    · by_cases e3:o + 1 ≤ k ∧ k < o + 1 + r.length ∧ k < cs.size
      · rw [if_pos e3,if_pos (by omega),show k - o = (k - (o + 1)) + 1 by omega,List.getElem?_cons_succ]
      · rw [if_neg e3,if_neg (by omega),if_neg (by omega)]
theorem own_sets {w:World} {base:Nat} {e:TypeId} {g off n cap:Nat} {xs:List Value} (h:OwnsOff w base e 1 (.slice (some ⟨g,off,none⟩) n cap) n xs) (vs:List Value) (hv:vs.length = n) (n':Nat) (hn:n' ≤ n):OwnsOff (w.setCells g off vs) base e 1 (.slice (some ⟨g,off,none⟩) n' cap) n' (vs.take n'):=by
  obtain ⟨h1,⟨h2,_⟩ | ⟨g',off',cap',cur,hv',hb,hg,hnc,hcm,hcs,htk⟩⟩:=h
  · cases h2
  · cases hv'
    obtain ⟨cs',k1,k2,k3⟩:=sets_block vs off w cur hg
    refine ⟨by simp;omega,.inr ⟨g,off,cap,cs',rfl,hb,k1,by omega,hcm,by rw [k2];exact hcs,?_⟩⟩
    apply List.ext_getElem?
    intro j
    rw [List.getElem?_take,List.getElem?_take,List.getElem?_drop,Array.getElem?_toList]
    by_cases hj:j < n'
    · rw [if_pos (by omega),if_pos hj,k3,if_pos (by omega),Nat.add_sub_cancel_left]
    · rw [if_neg (by omega),if_neg hj]
theorem erase_at:∀ {l:List Int} {x:Int} {i:Nat},l[i]? = some x → (∀ j,j < i → l.getD j 0 ≠ x) → l.erase x = l.take i ++ l.drop (i + 1)
  | [],x,i,h,_ => by simp at h
  | y :: l,x,0,h,_ => by
    simp at h;subst h
    simp
  | y :: l,x,i + 1,h,hno => by
    have h0:=hno 0 (by omega)
    have ih:=erase_at (l:=l) (x:=x) (i:=i) (by simpa using h) (fun j hj => by have:=hno (j + 1) (by omega);simpa using this)
    have hne:y ≠ x:=by simpa using h0
    rw [List.erase_cons_tail (by simpa using hne),ih]
    rfl
theorem made_not8 {l:List Int} {k:Nat} {v:Int} (hk:l.length ≤ k) (h:∀ j,j < k → l.getD j 0 ≠ v):v ∉ l:=fun hm => by
  obtain ⟨j,hj,e⟩:=List.getElem_of_mem hm
  exact h j (by omega) (by rw [List.getD_eq_getElem?_getD,List.getElem?_eq_getElem hj];exact e)
theorem sidx8_b (l:List Int) (A:Option Addr) (m:Nat) (v:Int) (w:World) (hr:IntRowK .i64 w w.heap.size A l) (hl:l.length ≤ 1000000):Calls Tryz.prog 101 #[.slice A l.length m,.int .i64 v] w fun e w' => (∃ r:Int,e = .returned (.int .i64 r) ∧ ((r = -1 ∧ v ∉ l) ∨ ∃ i:Nat,r = (i:Int) ∧ i < l.length ∧ l[i]? = some v ∧ ∀ j,j < i → l.getD j 0 ≠ v)) ∧ w = w':=by
  go_enter Tryz.func101,Tryz.ntmps101
  go_wp2
  go_loopw [5,8] (fun _ ix wr => ∃ k:Nat,k ≤ l.length ∧ ix = .int .i64 k ∧ (∀ j,j < k → l.getD j 0 ≠ v) ∧ wr = w) (fun _ ix _ => l.length - (intOf ix).toNat)
  case atStart => exact ⟨0,Nat.zero_le _,rfl,(fun j hj => by omega),rfl⟩
  case round =>
    obtain ⟨k,hk,rfl,hno,rfl⟩:=hrel
    have HN:=Lib.hid hno
    clear hno
    by_cases hlt:k < l.length
    · obtain ⟨b,o,rfl,_,hc⟩:=hr.at_ hlt
      have k0:=hc _ (Below.refl _ _)
      obtain ⟨y,hy⟩:∃ y,l.getD k 0 = y:=⟨_,rfl⟩
      have HY:=Lib.hid hy
      rw [hy] at k0
      clear hy hc
      by_cases he:v = y
      · have hea:(v == y) = true:=by simp [he]
        have HX:=Lib.hid (show l[k]? = some v from by have:=HY.out;rw [List.getD_eq_getElem?_getD,List.getElem?_eq_getElem hlt] at this;rw [List.getElem?_eq_getElem hlt,he];exact congrArg some this)
        clear he
        go_wp2
        go_ret
        exact ⟨⟨_,rfl,.inr ⟨k,rfl,hlt,HX.out,HN.out⟩⟩,rfl⟩
      · have hea:(v == y) = false:=by simp [he]
        have HE:=Lib.hid he
        clear he
        go_wp2
        go_roundw
        case rel => exact ⟨k + 1,by omega,by go_num,(fun j hj => by
          by_cases e:j = k
          · subst e;rw [HY.out];exact fun h => HE.out h.symm
          · exact HN.out j (by omega)),by trivial⟩
        case measure => simp [intOf];omega
    · have HX:=Lib.hid (made_not8 (by omega) HN.out)
      go_wp2
      go_ret
      exact ⟨⟨_,rfl,.inl ⟨rfl,HX.out⟩⟩,rfl⟩
/-- slices.Delete of one,of a list of the call's own. -/
theorem del8_b (n0:Nat) (v:Value) (l:List Int) (i:Nat) (w:World) (h:OwnsOff w n0 3 1 v l.length (icells l)) (hi:i < l.length):Calls Tryz.prog 102 #[v,.int .i64 (i:Int),.int .i64 ((i:Int) + 1)] w fun e w' =>
    ∃ a k,v = .slice a l.length k ∧ e = .returned (.slice a (l.length - 1) k) ∧ OwnsOff w' n0 3 1 (.slice a (l.length - 1) k) (l.length - 1) (icells (l.take i ++ l.drop (i + 1))) ∧ Only (fun k => v.ownBlock = some k) w w':=by
  obtain ⟨g,off,cap,rfl,_,hgl,hnc,hcm,hfz,hcell⟩:=h.lies (by omega)
  have hH:Go.Sort.Holds (Value.int .i64) w g off l.toArray:=fun j hj => by
    have hj':j < l.length:=by simpa using hj
    refine ⟨?_,hfz _⟩
    rw [hcell j (.int .i64 l[j]) (by simp [icells,hj'])]
    simp [hj']
  have hc:=Go.Proofs.Any.slices_Delete_int Tryz.layDel g off cap i (i + 1) l w hH hnc (by unfold maxLen at hcm;exact hcm) (by omega) (by omega)
  refine Calls.mono (show Calls Tryz.prog 102 #[.slice (some ⟨g,off,none⟩) l.length cap,.int .i64 (i:Int),.int .i64 ((i + 1:Nat):Int)] w _ from hc) ?_
  rintro e w' ⟨rfl,q,hw⟩
  refine ⟨some ⟨g,off,none⟩,cap,rfl,by rw [show i + 1 - i = 1 by omega],?_⟩
  have hlen:(l.take i ++ l.drop (i + 1) ++ List.replicate (i + 1 - i) 0).length = l.toArray.size:=by simp;omega
  rw [Go.Lib.putRow_eq_setCells (Value.int .i64) w g off l.toArray _ q hH hlen] at hw
  have hO:Only (fun k => k = g) w w':=by
    rw [hw]
    exact Only.sets (S:=fun k => k = g) rfl _ _ ⟨rfl,rfl,rfl,Nat.le_refl _,fun _ _ _ => rfl⟩
  have h2:OwnsOff (w.drewN q) n0 3 1 (.slice (some ⟨g,off,none⟩) l.length cap) l.length (icells l):=h.kept (w':=w.drewN q) (S:=fun _ => False) ⟨rfl,rfl,rfl,Nat.le_refl _,fun _ _ _ => rfl⟩ (fun _ _ h => h)
  have h3:=own_sets h2 ((l.take i ++ l.drop (i + 1) ++ List.replicate (i + 1 - i) 0).map (Value.int .i64)) (by rw [List.length_map];simpa using hlen) (l.length - 1) (by omega)
  rw [← hw] at h3
  refine ⟨?_,hO.mono fun k _ e => by rw [e];rfl⟩
  have e1:((l.take i ++ l.drop (i + 1) ++ List.replicate (i + 1 - i) 0).map (Value.int .i64)).take (l.length - 1) = icells (l.take i ++ l.drop (i + 1)):=by
    unfold icells
    rw [List.map_append]
    exact List.take_left' (by simp;omega)
  rw [e1] at h3
  exact h3
end Go.Proofs.YtheeiklgblcjfaaGreatDoor
end
section
namespace Go.Proofs.YtheeiklgblcjfaaGreatDoor
open Go.RowKit Go.Sort
set_option linter.unusedVariables false
set_option linter.unusedSimpArgs false
set_option linter.unusedVariables false
set_option linter.unusedSimpArgs false
set_option maxRecDepth 100000
/-- What a call makes of the model: M' ;only what is the model's to write has turned. -/
def Turn8 (w:World) (own:Nat → Tg8) (n0:Nat) (c:Cfg) (M':Md8) (A:Mx8) (w':World):Prop:=∃ own' A',A'.b = A.b ∧ A'.sg = A.sg ∧ A'.so = A.so ∧ MAt w' own' n0 c M' A' ∧ (∀ k,k < w.heap.size → own' k = own k) ∧ Only (fun k => (own k).mut) w w'
/-- Nothing has turned. -/
theorem MAt.still {w:World} {own:Nat → Tg8} {n0:Nat} {c:Cfg} {M:Md8} {A:Mx8} (h:MAt w own n0 c M A) {w':World} (hb:Below w.heap.size w w'):MAt w' own n0 c M A ∧ (∀ k,k < w.heap.size → own k = own k):=
  ⟨MAt.later h (Only.of_below (S:=fun _ => False) hb) (fun _ _ => rfl) (fun k hk => h.free k (Nat.le_trans hb.size hk)) h.base (fun k _ e => e.elim),fun _ _ => rfl⟩
theorem Turn8.tick {w:World} {own:Nat → Tg8} {n0:Nat} {c:Cfg} {M:Md8} {A:Mx8} (h:MAt w own n0 c M A) {w':World} (hb:Below w.heap.size w w'):Turn8 w own n0 c (tick8 M) A w':=
  ⟨own,A,rfl,rfl,rfl,MAt.tick h (Only.of_below (S:=fun _ => False) hb) (fun _ _ => rfl) (fun k hk => h.free k (Nat.le_trans hb.size hk)) h.base (fun k _ e => e.elim),fun _ _ => rfl,Only.of_below hb⟩
theorem Turn8.after {w w1 w':World} {own:Nat → Tg8} {n0:Nat} {c:Cfg} {M':Md8} {A:Mx8} (hb:Below w.heap.size w w1) (h:Turn8 w1 own n0 c M' A w'):Turn8 w own n0 c M' A w':=by
  obtain ⟨own',A',e1,e2,e3,h1,h2,h3⟩:=h
  exact ⟨own',A',e1,e2,e3,h1,fun k hk => h2 k (Nat.lt_of_lt_of_le hk hb.size),(Only.of_below hb).trans h3⟩
theorem own_row8 {w:World} {base:Nat} {e:TypeId} {a:Option Addr} {n k:Nat} {l:List Int} (h:OwnsOff w base e 1 (.slice a n k) l.length (icells l)):IntRowK .i64 w w.heap.size a l:=fun hp => by
  obtain ⟨g,off,cap,hv,_,hg,_,_,_,hc⟩:=h.lies hp
  cases hv
  exact ⟨g,off,rfl,hg,fun i hi => hc i (.int .i64 (l.getD i 0)) (by simp [icells,List.getD_eq_getElem?_getD,hi])⟩
theorem setSt8_same {w:World} {own:Nat → Tg8} {n0:Nat} {c:Cfg} {M:Md8} {A:Mx8} (h:MAt w own n0 c M A) {p:Nat} {s:Sv8} (hs:A.sl[p]? = some s):setSt8 M p s.s = tick8 M:=by
  have e:M.st[p]? = some s.s:=by rw [← h.len.1,List.getElem?_map,hs];rfl
  unfold setSt8 tick8
  congr 1
  apply List.ext_getElem?
  intro q
  rw [Int.toNat_natCast,List.getElem?_set]
  split
  · rename_i e1;subst e1
    have:=(List.getElem?_eq_some_iff.1 e).1
    rw [if_pos this];exact e.symm
  · rfl
/-- Behind an append to the list,and the store of what it gave. -/
theorem app_made {w:World} {own:Nat → Tg8} {n0:Nat} {c:Cfg} {M:Md8} {A:Mx8} (h:MAt w own n0 c M A) {p:Nat} {s:Sv8} (hs:A.sl[p]? = some s) {w2:World} {tmp:Obj} {v':Value} {l:List Int} (hg:(w.alloc tmp).grownBy w2 s.mv.ownBlock) (hown:OwnsOff w2 n0 3 1 v' l.length (icells l)) (hfr:∀ g,v'.ownBlock = some g → s.mv.ownBlock = some g ∨ w.heap.size + 1 ≤ g)
    (hz:l.length ≤ M.t + 1):w2.cell? ⟨A.sg,A.so + p * 4 + 2,none⟩ = some s.mv ∧ w2.frozen? ⟨A.sg,A.so + p * 4 + 2,none⟩ = false ∧ Turn8 w own n0 c (setSt8 M p { s.s with made:=l }) A (w2.setCell ⟨A.sg,A.so + p * 4 + 2,none⟩ v'):=by
  obtain ⟨hst,hSt⟩:=h.stand (fun x => x)
  obtain ⟨hmo,hmt⟩:=h.made p s hs (fun x => x)
  obtain ⟨hoo,hot⟩:=h.valid p s hs (fun x => x)
  have hmem:=List.mem_of_getElem? (show M.st[p]? = some s.s from by rw [← h.len.1,List.getElem?_map,hs];rfl)
  have hb1:Below w.heap.size w (w.alloc tmp):=(Below.refl _ _).alloc (Nat.le_refl _) _
  have hsl:A.sg < w.heap.size:=mat_lt h hst (by decide)
  have n1:∀ k,s.mv.ownBlock = some k → k ≠ A.sg:=fun k e e2 => by have:=hmt k e;rw [e2,hst] at this;cases this
  have eb:w2.heap[A.sg]? = w.heap[A.sg]?:=(hg.block _ (by simp;omega) (fun e => n1 _ e.symm rfl)).trans (hb1.block _ hsl)
  have hS2:=hSt.of eb
  refine ⟨hS2.cell hs (j:=2) rfl,hS2.frozen _,?_⟩
  have hlt':∀ g,v'.ownBlock = some g → g < w2.heap.size:=fun g e => (hown.lt g e).2
  have hO2:Only (fun k => s.mv.ownBlock = some k) w w2:=(Only.of_below hb1).trans ((Only.of_grown hg).mono fun k _ e => e.symm)
  have hO:Only (fun k => s.mv.ownBlock = some k ∨ k = A.sg) w (w2.setCell ⟨A.sg,A.so + p * 4 + 2,none⟩ v'):=(hO2.mono fun k _ e => .inl e).trans ((Only.setCell w2 ⟨A.sg,A.so + p * 4 + 2,none⟩ v').mono fun k _ e => .inr e)
  have hsz:(w2.setCell ⟨A.sg,A.so + p * 4 + 2,none⟩ v').heap.size = w2.heap.size:=by simp [World.setCell]
  obtain ⟨own',hown'⟩:∃ o:Nat → Tg8,o = fun k => if w.heap.size ≤ k ∧ v'.ownBlock = some k then .made p else own k:=⟨_,rfl⟩
  have he:∀ k,k < w.heap.size → own' k = own k:=fun k hk => by rw [hown'];exact if_neg (by omega)
  have hf:∀ k,(w2.setCell ⟨A.sg,A.so + p * 4 + 2,none⟩ v').heap.size ≤ k → own' k = .free:=fun k hk => by
    rw [hown',hsz] at *
    have h1:=hO2.size
    show (if _ then _ else _) = _
    rw [if_neg (fun e => by have:=hlt' k e.2;omega)]
    exact h.free k (by omega)
  have hbase:∀ k,own' k ≠ .free → n0 ≤ k:=fun k hk => by
    rcases Nat.lt_or_ge k w.heap.size with h1 | h1
    · rw [he k h1] at hk;exact h.base k hk
    · exact Nat.le_trans h.n0le h1
  have hnv:Tagged own' v' (.made p):=fun g e => by
    rcases hfr g e with h1 | h1
    · rw [he g (hmo.lt g h1).2];exact hmt g h1
    · rw [hown'];exact if_pos ⟨by omega,e⟩
  have hvne:∀ k,v'.ownBlock = some k → k ≠ A.sg:=fun k e e2 => by have h1:=hnv k e;rw [e2,he _ hsl,hst] at h1;cases h1
  have hov:∀ k,s.vv.ownBlock = some k → ¬ (s.mv.ownBlock = some k ∨ k = A.sg):=fun k e e2 => by
    rcases e2 with e2 | e2
    · have h1:=hot k e;rw [hmt k e2] at h1;cases h1
    · have h1:=hot k e;rw [e2,hst] at h1;cases h1
  refine ⟨own',{ A with sl:=A.sl.set p (⟨{ s.s with made:=l },v',s.vv⟩:Sv8) },rfl,rfl,rfl,MAt.fillSt h hO he hf hbase p s (⟨{ s.s with made:=l },v',s.vv⟩:Sv8) hs (fun k hk e => ?_) (hS2.set hs (⟨{ s.s with made:=l },v',s.vv⟩:Sv8) 2 (by omega) v' rfl) ⟨hown.kept (Only.setCell w2 ⟨A.sg,A.so + p * 4 + 2,none⟩ v') hvne,hnv⟩ ⟨hoo.kept hO hov,hot.at_ (fun k e => (hoo.lt k e).2) he⟩ ?_,he,hO.mono fun k _ e => ?_⟩
  · rcases e with e | e
    · exact .inr (.inr (.inl (hmt k e)))
    · exact .inr (.inl (by rw [e];exact hst))
  · have:=h.sz s.s hmem
    exact ⟨hz,Nat.le_succ_of_le this.2⟩
  · rcases e with e | e
    · show (own k).mut;rw [hmt k e];trivial
    · show (own k).mut;rw [e,hst];trivial
/-- Behind an append to the list,and the store of what it gave. -/
theorem app_valid {w:World} {own:Nat → Tg8} {n0:Nat} {c:Cfg} {M:Md8} {A:Mx8} (h:MAt w own n0 c M A) {p:Nat} {s:Sv8} (hs:A.sl[p]? = some s) {w2:World} {tmp:Obj} {v':Value} {l:List Int} (hg:(w.alloc tmp).grownBy w2 s.vv.ownBlock) (hown:OwnsOff w2 n0 3 1 v' l.length (icells l)) (hfr:∀ g,v'.ownBlock = some g → s.vv.ownBlock = some g ∨ w.heap.size + 1 ≤ g)
    (hz:l.length ≤ M.t + 1):w2.cell? ⟨A.sg,A.so + p * 4 + 3,none⟩ = some s.vv ∧ w2.frozen? ⟨A.sg,A.so + p * 4 + 3,none⟩ = false ∧ Turn8 w own n0 c (setSt8 M p { s.s with valid:=l }) A (w2.setCell ⟨A.sg,A.so + p * 4 + 3,none⟩ v'):=by
  obtain ⟨hst,hSt⟩:=h.stand (fun x => x)
  obtain ⟨hmo,hmt⟩:=h.valid p s hs (fun x => x)
  obtain ⟨hoo,hot⟩:=h.made p s hs (fun x => x)
  have hmem:=List.mem_of_getElem? (show M.st[p]? = some s.s from by rw [← h.len.1,List.getElem?_map,hs];rfl)
  have hb1:Below w.heap.size w (w.alloc tmp):=(Below.refl _ _).alloc (Nat.le_refl _) _
  have hsl:A.sg < w.heap.size:=mat_lt h hst (by decide)
  have n1:∀ k,s.vv.ownBlock = some k → k ≠ A.sg:=fun k e e2 => by have:=hmt k e;rw [e2,hst] at this;cases this
  have eb:w2.heap[A.sg]? = w.heap[A.sg]?:=(hg.block _ (by simp;omega) (fun e => n1 _ e.symm rfl)).trans (hb1.block _ hsl)
  have hS2:=hSt.of eb
  refine ⟨hS2.cell hs (j:=3) rfl,hS2.frozen _,?_⟩
  have hlt':∀ g,v'.ownBlock = some g → g < w2.heap.size:=fun g e => (hown.lt g e).2
  have hO2:Only (fun k => s.vv.ownBlock = some k) w w2:=(Only.of_below hb1).trans ((Only.of_grown hg).mono fun k _ e => e.symm)
  have hO:Only (fun k => s.vv.ownBlock = some k ∨ k = A.sg) w (w2.setCell ⟨A.sg,A.so + p * 4 + 3,none⟩ v'):=(hO2.mono fun k _ e => .inl e).trans ((Only.setCell w2 ⟨A.sg,A.so + p * 4 + 3,none⟩ v').mono fun k _ e => .inr e)
  have hsz:(w2.setCell ⟨A.sg,A.so + p * 4 + 3,none⟩ v').heap.size = w2.heap.size:=by simp [World.setCell]
  obtain ⟨own',hown'⟩:∃ o:Nat → Tg8,o = fun k => if w.heap.size ≤ k ∧ v'.ownBlock = some k then .valid p else own k:=⟨_,rfl⟩
  have he:∀ k,k < w.heap.size → own' k = own k:=fun k hk => by rw [hown'];exact if_neg (by omega)
  have hf:∀ k,(w2.setCell ⟨A.sg,A.so + p * 4 + 3,none⟩ v').heap.size ≤ k → own' k = .free:=fun k hk => by
    rw [hown',hsz] at *
    have h1:=hO2.size
    show (if _ then _ else _) = _
    rw [if_neg (fun e => by have:=hlt' k e.2;omega)]
    exact h.free k (by omega)
  have hbase:∀ k,own' k ≠ .free → n0 ≤ k:=fun k hk => by
    rcases Nat.lt_or_ge k w.heap.size with h1 | h1
    · rw [he k h1] at hk;exact h.base k hk
    · exact Nat.le_trans h.n0le h1
  have hnv:Tagged own' v' (.valid p):=fun g e => by
    rcases hfr g e with h1 | h1
    · rw [he g (hmo.lt g h1).2];exact hmt g h1
    · rw [hown'];exact if_pos ⟨by omega,e⟩
  have hvne:∀ k,v'.ownBlock = some k → k ≠ A.sg:=fun k e e2 => by have h1:=hnv k e;rw [e2,he _ hsl,hst] at h1;cases h1
  have hov:∀ k,s.mv.ownBlock = some k → ¬ (s.vv.ownBlock = some k ∨ k = A.sg):=fun k e e2 => by
    rcases e2 with e2 | e2
    · have h1:=hot k e;rw [hmt k e2] at h1;cases h1
    · have h1:=hot k e;rw [e2,hst] at h1;cases h1
  refine ⟨own',{ A with sl:=A.sl.set p (⟨{ s.s with valid:=l },s.mv,v'⟩:Sv8) },rfl,rfl,rfl,MAt.fillSt h hO he hf hbase p s (⟨{ s.s with valid:=l },s.mv,v'⟩:Sv8) hs (fun k hk e => ?_) (hS2.set hs (⟨{ s.s with valid:=l },s.mv,v'⟩:Sv8) 3 (by omega) v' rfl) ⟨hoo.kept hO hov,hot.at_ (fun k e => (hoo.lt k e).2) he⟩ ⟨hown.kept (Only.setCell w2 ⟨A.sg,A.so + p * 4 + 3,none⟩ v') hvne,hnv⟩ ?_,he,hO.mono fun k _ e => ?_⟩
  · rcases e with e | e
    · exact .inr (.inr (.inr (hmt k e)))
    · exact .inr (.inl (by rw [e];exact hst))
  · have:=h.sz s.s hmem
    exact ⟨Nat.le_succ_of_le this.1,hz⟩
  · rcases e with e | e
    · show (own k).mut;rw [hmt k e];trivial
    · show (own k).mut;rw [e,hst];trivial
/-- Behind an erasing of one of the valid ones,and the store of what it gave. -/
theorem del_valid {w:World} {own:Nat → Tg8} {n0:Nat} {c:Cfg} {M:Md8} {A:Mx8} (h:MAt w own n0 c M A) {p:Nat} {s:Sv8} (hs:A.sl[p]? = some s) {w2:World} {v':Value} {l:List Int} (hO2:Only (fun k => s.vv.ownBlock = some k) w w2) (hown:OwnsOff w2 n0 3 1 v' l.length (icells l)) (hfr:∀ g,v'.ownBlock = some g → s.vv.ownBlock = some g) (hz:l.length ≤ s.s.valid.length) :
    w2.cell? ⟨A.sg,A.so + p * 4 + 3,none⟩ = some s.vv ∧ w2.frozen? ⟨A.sg,A.so + p * 4 + 3,none⟩ = false ∧ Turn8 w own n0 c (setSt8 M p { s.s with valid:=l }) A (w2.setCell ⟨A.sg,A.so + p * 4 + 3,none⟩ v'):=by
  obtain ⟨hst,hSt⟩:=h.stand (fun x => x)
  obtain ⟨hmo,hmt⟩:=h.valid p s hs (fun x => x)
  obtain ⟨hoo,hot⟩:=h.made p s hs (fun x => x)
  have hmem:=List.mem_of_getElem? (show M.st[p]? = some s.s from by rw [← h.len.1,List.getElem?_map,hs];rfl)
  have hsl:A.sg < w.heap.size:=mat_lt h hst (by decide)
  have n1:∀ k,s.vv.ownBlock = some k → k ≠ A.sg:=fun k e e2 => by have:=hmt k e;rw [e2,hst] at this;cases this
  have hS2:=hSt.of (hO2.block _ hsl (fun e => n1 _ e rfl))
  refine ⟨hS2.cell hs (j:=3) rfl,hS2.frozen _,?_⟩
  have hO:Only (fun k => s.vv.ownBlock = some k ∨ k = A.sg) w (w2.setCell ⟨A.sg,A.so + p * 4 + 3,none⟩ v'):=(hO2.mono fun k _ e => .inl e).trans ((Only.setCell w2 ⟨A.sg,A.so + p * 4 + 3,none⟩ v').mono fun k _ e => .inr e)
  have hsz:(w2.setCell ⟨A.sg,A.so + p * 4 + 3,none⟩ v').heap.size = w2.heap.size:=by simp [World.setCell]
  have hf:∀ k,(w2.setCell ⟨A.sg,A.so + p * 4 + 3,none⟩ v').heap.size ≤ k → own k = .free:=fun k hk => h.free k (by have:=hO2.size;omega)
  have hov:∀ k,s.mv.ownBlock = some k → ¬ (s.vv.ownBlock = some k ∨ k = A.sg):=fun k e e2 => by
    rcases e2 with e2 | e2
    · have h1:=hot k e;rw [hmt k e2] at h1;cases h1
    · have h1:=hot k e;rw [e2,hst] at h1;cases h1
  refine ⟨own,{ A with sl:=A.sl.set p (⟨{ s.s with valid:=l },s.mv,v'⟩:Sv8) },rfl,rfl,rfl,MAt.fillSt h hO (fun _ _ => rfl) hf h.base p s (⟨{ s.s with valid:=l },s.mv,v'⟩:Sv8) hs (fun k hk e => ?_) (hS2.set hs (⟨{ s.s with valid:=l },s.mv,v'⟩:Sv8) 3 (by omega) v' rfl) ⟨hoo.kept hO hov,hot⟩ ⟨hown.kept (Only.setCell w2 ⟨A.sg,A.so + p * 4 + 3,none⟩ v') (fun k e => n1 k (hfr k e)),fun g e => hmt g (hfr g e)⟩ ?_,fun _ _ => rfl,hO.mono fun k _ e => ?_⟩
  · rcases e with e | e
    · exact .inr (.inr (.inr (hmt k e)))
    · exact .inr (.inl (by rw [e];exact hst))
  · have:=h.sz s.s hmem
    exact ⟨Nat.le_succ_of_le this.1,by show l.length ≤ _;omega⟩
  · rcases e with e | e
    · show (own k).mut;rw [hmt k e];trivial
    · show (own k).mut;rw [e,hst];trivial
/-- Normal work begins. -/
theorem set_normal {w:World} {own:Nat → Tg8} {n0:Nat} {c:Cfg} {M:Md8} {A:Mx8} (h:MAt w own n0 c M A) {p:Nat} {s:Sv8} (hs:A.sl[p]? = some s):w.cell? ⟨A.sg,A.so + p * 4 + 1,none⟩ = some (.bool s.s.sn) ∧ w.frozen? ⟨A.sg,A.so + p * 4 + 1,none⟩ = false ∧ Turn8 w own n0 c (setSt8 M p { s.s with sn:=true }) A (w.setCell ⟨A.sg,A.so + p * 4 + 1,none⟩ (.bool true)):=by
  obtain ⟨hst,hSt⟩:=h.stand (fun x => x)
  obtain ⟨hmo,hmt⟩:=h.valid p s hs (fun x => x)
  obtain ⟨hoo,hot⟩:=h.made p s hs (fun x => x)
  have hmem:=List.mem_of_getElem? (show M.st[p]? = some s.s from by rw [← h.len.1,List.getElem?_map,hs];rfl)
  refine ⟨hSt.cell hs (j:=1) rfl,hSt.frozen _,?_⟩
  have hO:Only (fun k => k = A.sg) w (w.setCell ⟨A.sg,A.so + p * 4 + 1,none⟩ (.bool true)):=Only.setCell w ⟨A.sg,A.so + p * 4 + 1,none⟩ _
  have hsz:(w.setCell ⟨A.sg,A.so + p * 4 + 1,none⟩ (.bool true)).heap.size = w.heap.size:=by simp [World.setCell]
  refine ⟨own,{ A with sl:=A.sl.set p (⟨{ s.s with sn:=true },s.mv,s.vv⟩:Sv8) },rfl,rfl,rfl,MAt.fillSt h hO (fun _ _ => rfl) (fun k hk => h.free k (by omega)) h.base p s (⟨{ s.s with sn:=true },s.mv,s.vv⟩:Sv8) hs (fun k hk e => .inr (.inl (by rw [e];exact hst))) (hSt.set hs (⟨{ s.s with sn:=true },s.mv,s.vv⟩:Sv8) 1 (by omega) (.bool true) rfl)
    ⟨hoo.kept hO (fun k e e2 => by have h1:=hot k e;rw [e2,hst] at h1;cases h1),hot⟩ ⟨hmo.kept hO (fun k e e2 => by have h1:=hmt k e;rw [e2,hst] at h1;cases h1),hmt⟩ ?_,fun _ _ => rfl,hO.mono fun k _ e => ?_⟩
  · have:=h.sz s.s hmem
    exact ⟨Nat.le_succ_of_le this.1,Nat.le_succ_of_le this.2⟩
  · show (own k).mut;rw [e,hst];trivial
end Go.Proofs.YtheeiklgblcjfaaGreatDoor
end
section
namespace Go.Proofs.YtheeiklgblcjfaaGreatDoor
open Go.RowKit Go.Sort
set_option linter.unusedVariables false
set_option linter.unusedSimpArgs false
set_option linter.unusedVariables false
set_option linter.unusedSimpArgs false
set_option maxRecDepth 100000
theorem Tryz.infoI8:(Tryz.prog.info? 3).map (fun i => (i.zero,i.size,i.bytes)) = some (some (.int .i64 0),1,8):=by kernel_rfl
theorem sidx_no (l:List Int) (A:Option Addr) (m:Nat) (v:Int) (w:World) (hr:IntRowK .i64 w w.heap.size A l) (hl:l.length ≤ 1000000) (hv:v ∉ l):Calls Tryz.prog 101 #[.slice A l.length m,.int .i64 v] w fun e w' => e = .returned (.int .i64 (-1)) ∧ w = w':=by
  refine (sidx8_b l A m v w hr hl).mono ?_
  rintro e w' ⟨⟨r,rfl,⟨rfl,_⟩ | ⟨i,rfl,_,h,_⟩⟩,rfl⟩
  · exact ⟨rfl,rfl⟩
  · exact absurd (List.mem_of_getElem? h) hv
theorem sidx_yes (l:List Int) (A:Option Addr) (m:Nat) (v:Int) (w:World) (hr:IntRowK .i64 w w.heap.size A l) (hl:l.length ≤ 1000000) (hv:v ∈ l):Calls Tryz.prog 101 #[.slice A l.length m,.int .i64 v] w fun e w' => (∃ i:Nat,e = .returned (.int .i64 (i:Int)) ∧ i < l.length ∧ l.erase v = l.take i ++ l.drop (i + 1)) ∧ w = w':=by
  refine (sidx8_b l A m v w hr hl).mono ?_
  rintro e w' ⟨⟨r,rfl,⟨rfl,h⟩ | ⟨i,rfl,h1,h2,h3⟩⟩,rfl⟩
  · exact absurd hv h
  · exact ⟨⟨i,rfl,h1,erase_at h2 h3⟩,rfl⟩
set_option maxHeartbeats 1600000 in
theorem see_b {w:World} {own:Nat → Tg8} {n0:Nat} {c:Cfg} {M:Md8} {A:Mx8} (h:MAt w own n0 c M A) (p:Nat) (hp:p < c.parts.length) (port:Int) (v:Bool) (ht:M.t ≤ 100000):Calls Tryz.prog 69 #[.pointer (some ⟨A.sg,A.so + p * 4,none⟩),.int .i64 port,.bool v] w fun e w' => e = .returned (.tuple #[]) ∧ Turn8 w own n0 c (setSt8 M p { st8 M p with valid:=see8 (st8 M p).valid port v }) A w':=by
  obtain ⟨i0,hi,hz0,hz1,hz2⟩:=info_parts Tryz.infoI8
  obtain ⟨s,hs,est,hms⟩:=mat_at h hp
  rw [est]
  obtain ⟨hown,htag⟩:=h.valid p s hs (fun x => x)
  have hSt:=(h.stand (fun x => x)).2
  have hsz:=(h.sz s.s (List.mem_of_getElem? hms)).2
  obtain ⟨a,k,hvv,hck,hkm⟩:=hown.slice
  have c3:w.cell? ⟨A.sg,A.so + p * 4 + 3,none⟩ = some s.vv:=hSt.cell hs (j:=3) rfl
  have f3:w.frozen? ⟨A.sg,A.so + p * 4 + 3,none⟩ = false:=hSt.frozen _
  rw [hvv] at c3
  have hown':OwnsOff w n0 3 1 (.slice a s.s.valid.length k) s.s.valid.length (icells s.s.valid):=by rw [← hvv];exact hown
  have hrow:=own_row8 hown'
  obtain ⟨l,hl⟩:∃ l,l = s.s.valid:=⟨_,rfl⟩
  have HO:=Lib.hid hown';have HVV:=Lib.hid hvv;have H:=Lib.hid h;have HS:=Lib.hid hs;have HL:=Lib.hid hl;have HSZ:=Lib.hid hsz;have HN:=Lib.hid h.n0le
  rw [← hl] at hrow c3
  have hll:l.length ≤ 100000:=by rw [hl];omega
  clear hown hown' htag hSt hvv hsz hck hkm est hms hs h
  by_cases hm:port ∈ l
  · have HI:=Lib.hid (sidx_yes l a k port w hrow (by omega) hm)
    cases v with
    | true =>
      have HX:=Lib.hid (show { s.s with valid:=see8 s.s.valid port true } = s.s from by
        unfold see8;rw [← HL.out,if_pos rfl,if_pos hm,HL.out])
      clear hm hl hrow f3
      go_enter Tryz.func69,Tryz.ntmps69
      go_wp2_with fail
      refine HI.out.mono ?_
      rintro e w5 ⟨⟨i,rfl,hil,-⟩,rfl⟩
      clear HI
      go_wp2
      go_end0
      exact ⟨rfl,by rw [HX.out,setSt8_same H.out HS.out];exact Turn8.tick H.out (Below.refl _ _)⟩
    | false =>
      have HX:=Lib.hid (show see8 s.s.valid port false = l.erase port from by
        unfold see8;rw [← HL.out];rfl)
      have HM:=Lib.hid hm
      clear hm hl hrow
      go_enter Tryz.func69,Tryz.ntmps69
      go_wp2_with fail
      refine HI.out.mono ?_
      rintro e w5 ⟨⟨i,rfl,hil,her⟩,rfl⟩
      have HD:=Lib.hid (del8_b n0 (.slice a l.length k) l i w (by have:=HO.out;rw [← HL.out] at this;exact this) hil)
      have HER:=Lib.hid her
      clear HI her
      go_wp2_with fail
      refine HD.out.mono ?_
      rintro e w6 ⟨a',k',e1,rfl,hown6,hO6⟩
      obtain ⟨rfl,rfl⟩:a = a' ∧ k = k':=by injection e1 with e1 _ e2;exact ⟨e1,e2⟩
      have hlen:(l.erase port).length = l.length - 1:=by rw [List.length_erase_of_mem HM.out]
      obtain ⟨d3,g3,hT⟩:=del_valid H.out HS.out (w2:=w6) (v':=.slice a (l.length - 1) k) (l:=l.erase port) (by rw [HVV.out,← HL.out];exact hO6) (by rw [hlen,HER.out];exact hown6) (fun g e => by rw [HVV.out];cases a <;> first | exact e | cases e) (by rw [← HL.out,hlen];omega)
      rw [HVV.out,← HL.out] at d3
      have HT:=Lib.hid hT
      clear hT hown6 hO6 e1 HD c3 f3 hlen
      go_wp2
      go_end0
      exact ⟨rfl,by rw [HX.out];exact HT.out⟩
  · have HI:=Lib.hid (sidx_no l a k port w hrow (by omega) hm)
    cases v with
    | false =>
      have HX:=Lib.hid (show { s.s with valid:=see8 s.s.valid port false } = s.s from by
        unfold see8;rw [← HL.out,if_neg (by simp),List.erase_of_not_mem hm,HL.out])
      clear hm hl hrow f3
      go_enter Tryz.func69,Tryz.ntmps69
      go_wp2_with (go_at_call 101;((with_reducible refine HI.out.mono ?_);rintro e w5 ⟨rfl,rfl⟩))
      go_end0
      exact ⟨rfl,by rw [HX.out,setSt8_same H.out HS.out];exact Turn8.tick H.out (Below.refl _ _)⟩
    | true =>
      have HX:=Lib.hid (show see8 s.s.valid port true = l ++ [port] from by
        unfold see8;rw [← HL.out,if_pos rfl,if_neg hm])
      have hO:OwnsOff w n0 3 1 (.slice a l.length k) l.length (icells l):=by have:=HO.out;rw [← HL.out] at this;exact this
      have hn0:n0 ≤ (w.alloc (.cells #[.int .i64 port] 3)).heap.size:=by have:=HN.out;simp;omega
      clear hm hl hrow
      go_enter Tryz.func69,Tryz.ntmps69
      go_wp2_with (first | (go_at_call 101;((with_reducible refine HI.out.mono ?_);rintro e w5 ⟨rfl,rfl⟩)) | (at_builtin;refine wpList_append_off _ rfl _ _ 55 rfl n0 3 i0 (.int .i64 0) 1 8 Tryz.underlying55 hi hz0 hz1 hz2 rfl (by decide) _ _ _ rfl (hO.keptB ((Below.refl _ _).alloc (Nat.le_refl _) _)) ⟨w.heap.size,0,none⟩ 1 1 [.int .i64 port] rfl rfl (cell_one_new _ _ _) (by simp [Value.oneCell']) (by unfold maxLen;omega) (by omega) hn0 ?_))
      intro v' w2 hown2 hgrow hfr
      obtain ⟨a2,k2,rfl,-,-⟩:=hown2.slice
      obtain ⟨d3,g3,hT⟩:=app_valid H.out HS.out (w2:=w2) (tmp:=.cells #[.int .i64 port] 3) (v':=.slice a2 (l.length + 1) k2) (l:=l ++ [port]) (by rw [HVV.out,← HL.out];exact hgrow) (by have:=hown2;simpa [icells] using this) (fun g e => by rw [HVV.out,← HL.out];exact (hfr g e).imp id (fun h => by simpa using h)) (by rw [List.length_append];have:=HSZ.out;rw [← HL.out] at this;simp;omega)
      rw [HVV.out,← HL.out] at d3
      have HT:=Lib.hid hT
      clear hT hown2 hgrow hfr HI c3 f3 hO
      go_wp2
      go_end0
      exact ⟨rfl,by rw [HX.out];exact HT.out⟩
end Go.Proofs.YtheeiklgblcjfaaGreatDoor
end
