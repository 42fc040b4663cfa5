/- Texts of the ring, joined, what is used of them. No condition but those in the statements. -/
import Derived.BigQuiet
import Derived.BigRegion
import Derived.Deep.MidRow
import Derived.Deep.RegionHeld3
import Derived.Deep.Upon
import Derived.IntWalk
import Derived.OpenShut
import Derived.Shelf.Abstract
import Derived.Test.YtmhpcgcloojfbaaGreatQgK
import Derived.Test.YtmhpcgcloojfbaaGreatQgU
section
namespace Go.Proofs.YtmhpcgcloojfbaaGreat
open Go.RowKit Go.Sort
set_option linter.unusedVariables false
set_option linter.unusedSimpArgs false
set_option linter.unusedVariables false
set_option linter.unusedSimpArgs false
open Go.Proofs.YtmhpcgcloojfbaaGreat.Simp
set_option maxRecDepth 100000
set_option maxHeartbeats 12800000
section
variable {w:World} {vb yb zb:Nat} {c:Cfg} {x:CfgAt} {k:Nat} {op own:Int} {src:Bool} {dv:Value} {a len:Int} {ws:List Int} {bs:List Bool} {F:Qr} {gb ce xx n cp:Nat} {A:Option Addr}
theorem drecv_some (h:DAt w vb yb zb c x k (op) (own) (src) ((.slice A n cp)) (1) (len) (ws) (bs)) (hp:w.heap[gb]? = some (.cells #[.int .i64 (F.src:Int),.int .i64 (F.dst:Int),.int .i64 (ce:Int),.int .i64 (xx:Int)] 3 (0,0))) (hl:ws.length ≤ 1000000) (hn:n ≤ 16) (hd:F.src < ws.length) (hr:ws.getD F.src 0 ≠ own):Calls Tryz.prog 59 #[.pointer (some ⟨vb,0,none⟩),.slice (some ⟨yb,0,none⟩) ws.length ws.length,.slice (some ⟨gb,0,none⟩) 4 4] w (DGives w vb yb zb c x k (op) (own) (src) ((.slice A n cp)) (1) (len) (ws) (bs) (qdV false (0) (.slice none 0 0) (0) false false)):=by
  obtain ⟨W1,HW1,hsz,hO,hz⟩:=did_new w
  have hlt:=h.lt
  have hD1:=h.only hO ⟨fun h => h,fun h => h,fun h => h⟩
  have HD1:=Lib.hid hD1;have HO1:Hid (Only (New w.heap.size (fun j => j = vb ∨ j = yb ∨ j = zb)) w W1):=Lib.hid (hO.mono fun _ _ h => h.elim);have HZ1:=Lib.hid hz


  have x8:W1.cell? ⟨vb,8,none⟩ = some (.int .u32 own):=cell_blk HD1.out.blk rfl
  have x11:W1.cell? ⟨vb,11,none⟩ = some (.int .i64 1):=cell_blk HD1.out.blk rfl
  have HP1:=Lib.hid (hO.at_ hp (fun h => h))
  have p0:W1.cell? ⟨gb,0,none⟩ = some (.int .i64 (F.src:Int)):=cell_blk HP1.out rfl
  obtain ⟨y,hy0⟩:∃ y,ws.getD (F.src) 0 = y:=⟨_,rfl⟩
  have yc:W1.cell? ⟨yb,F.src,none⟩ = some (.int .u32 y):=by rw [← hy0];exact HD1.out.row.cell (by omega)
  rw [hy0] at hr
  have n1:(y == own) = false:=beq_false_of_ne hr
  clear hy0 hr
  clear hD1 hO hz h hp
  go_enter Tryz.func59,Tryz.ntmps59
  go_wp2_with (rw [← HW1.out])
  refine wp_region_held_drew (S:=(fun W' => W'.cell? ⟨gb,0,none⟩ = some (.int .i64 (F.src:Int)) ∧ W'.cell? ⟨yb,F.src,none⟩ = some (.int .u32 y) ∧ W'.cell? ⟨vb,8,none⟩ = some (.int .u32 own))) (by kernel_rfl) (by exact ⟨p0,yc,x8⟩) (fun hHeld => ?_)
  refine wpAnyH_take (i:=0) rfl (by kernel_rfl) (by kernel_rfl) (by kernel_rfl) (fun _ _ _ h => h) (Or.inl ⟨by rfl,by intro w hSw;(have z0:=hSw.1;have z1:=hSw.2.1;have z2:=hSw.2.2;clear hSw);(go_simp <;> with_reducible rfl)⟩) (by assumption) ?_
  (try simp only [Act.put,List.setIfInBounds_toArray,List.set_cons_zero,List.set_cons_succ,List.getElem_toArray,List.getElem_cons_zero,List.getElem_cons_succ])
  refine wpAnyH_take (i:=1) rfl (by kernel_rfl) (by kernel_rfl) (by kernel_rfl) (fun _ _ _ h => h) (Or.inl ⟨by rfl,by intro w hSw;(have z0:=hSw.1;have z1:=hSw.2.1;have z2:=hSw.2.2;clear hSw);(go_simp <;> with_reducible rfl)⟩) (by assumption) ?_
  (try simp only [Act.put,List.setIfInBounds_toArray,List.set_cons_zero,List.set_cons_succ,List.getElem_toArray,List.getElem_cons_zero,List.getElem_cons_succ])
  refine wpAnyH_take (i:=2) rfl (by kernel_rfl) (by kernel_rfl) (by kernel_rfl) (fun _ _ _ h => h) (Or.inl ⟨by rfl,by intro w hSw;(have z0:=hSw.1;have z1:=hSw.2.1;have z2:=hSw.2.2;clear hSw);(go_simp <;> with_reducible rfl)⟩) (by assumption) ?_
  (try simp only [Act.put,List.setIfInBounds_toArray,List.set_cons_zero,List.set_cons_succ,List.getElem_toArray,List.getElem_cons_zero,List.getElem_cons_succ])
  refine wpAnyH_take (i:=3) rfl (by kernel_rfl) (by kernel_rfl) (by kernel_rfl) (fun _ _ _ h => h) (Or.inl ⟨by rfl,by intro w hSw;(have z0:=hSw.1;have z1:=hSw.2.1;have z2:=hSw.2.2;clear hSw);(go_simp <;> with_reducible rfl)⟩) (by assumption) ?_
  (try simp only [Act.put,List.setIfInBounds_toArray,List.set_cons_zero,List.set_cons_succ,List.getElem_toArray,List.getElem_cons_zero,List.getElem_cons_succ])
  refine wpAnyH_take (i:=4) rfl (by kernel_rfl) (by kernel_rfl) (by kernel_rfl) (fun _ _ _ h => h) (Or.inl ⟨by rfl,by intro w hSw;(have z0:=hSw.1;have z1:=hSw.2.1;have z2:=hSw.2.2;clear hSw);(go_simp <;> with_reducible rfl)⟩) (by assumption) ?_
  (try simp only [Act.put,List.setIfInBounds_toArray,List.set_cons_zero,List.set_cons_succ,List.getElem_toArray,List.getElem_cons_zero,List.getElem_cons_succ])
  refine wpAnyH_take (i:=5) rfl (by kernel_rfl) (by kernel_rfl) (by kernel_rfl) (fun _ _ _ h => h) (Or.inl ⟨by rfl,by intro w hSw;(have z0:=hSw.1;have z1:=hSw.2.1;have z2:=hSw.2.2;clear hSw);(go_simp <;> with_reducible rfl)⟩) (by assumption) ?_
  (try simp only [Act.put,List.setIfInBounds_toArray,List.set_cons_zero,List.set_cons_succ,List.getElem_toArray,List.getElem_cons_zero,List.getElem_cons_succ])
  refine wpAnyH_take (i:=6) rfl (by kernel_rfl) (by kernel_rfl) (by kernel_rfl) (fun _ _ _ h => h) (Or.inl ⟨by rfl,by intro w hSw;(have z0:=hSw.1;have z1:=hSw.2.1;have z2:=hSw.2.2;clear hSw);(go_simp <;> with_reducible rfl)⟩) (by assumption) ?_
  (try simp only [Act.put,List.setIfInBounds_toArray,List.set_cons_zero,List.set_cons_succ,List.getElem_toArray,List.getElem_cons_zero,List.getElem_cons_succ])
  refine wpAnyH_take (i:=7) rfl (by kernel_rfl) (by kernel_rfl) (by kernel_rfl) (fun _ _ _ h => h) (Or.inl ⟨by rfl,by intro w hSw;(have z0:=hSw.1;have z1:=hSw.2.1;have z2:=hSw.2.2;clear hSw);(go_simp <;> with_reducible rfl)⟩) (by assumption) ?_
  (try simp only [Act.put,List.setIfInBounds_toArray,List.set_cons_zero,List.set_cons_succ,List.getElem_toArray,List.getElem_cons_zero,List.getElem_cons_succ])
  refine wpAnyH_take (i:=8) rfl (by kernel_rfl) (by kernel_rfl) (by kernel_rfl) (fun _ _ _ h => h) (Or.inl ⟨by rfl,by intro w hSw;(have z0:=hSw.1;have z1:=hSw.2.1;have z2:=hSw.2.2;clear hSw);(go_simp <;> with_reducible rfl)⟩) (by assumption) ?_
  (try simp only [Act.put,List.setIfInBounds_toArray,List.set_cons_zero,List.set_cons_succ,List.getElem_toArray,List.getElem_cons_zero,List.getElem_cons_succ])
  refine wpAnyH_take (i:=9) rfl (by kernel_rfl) (by kernel_rfl) (by kernel_rfl) (fun _ _ _ h => h) (Or.inl ⟨by rfl,by intro w hSw;(have z0:=hSw.1;have z1:=hSw.2.1;have z2:=hSw.2.2;clear hSw);(go_simp <;> with_reducible rfl)⟩) (by assumption) ?_
  (try simp only [Act.put,List.setIfInBounds_toArray,List.set_cons_zero,List.set_cons_succ,List.getElem_toArray,List.getElem_cons_zero,List.getElem_cons_succ])
  refine wpAnyH_take (i:=10) rfl (by kernel_rfl) (by kernel_rfl) (by kernel_rfl) (fun _ _ _ h => h) (Or.inl ⟨by rfl,by intro w hSw;(have z0:=hSw.1;have z1:=hSw.2.1;have z2:=hSw.2.2;clear hSw);(go_simp <;> with_reducible rfl)⟩) (by assumption) ?_
  (try simp only [Act.put,List.setIfInBounds_toArray,List.set_cons_zero,List.set_cons_succ,List.getElem_toArray,List.getElem_cons_zero,List.getElem_cons_succ])
  refine wpAnyH_done (by kernel_rfl) ?_ _
  obtain ⟨X,HX⟩:∃ u,Hid (u = W1.drew):=⟨_,rfl⟩
  have HDX:=Lib.hid (by have q:=HD1.out.drew;rw [← HX.out] at q;exact q)
  have HOX:Hid (Only (New w.heap.size (fun j => j = vb ∨ j = yb ∨ j = zb)) w X):=Lib.hid (by rw [HX.out];exact HO1.out.drew)
  have HZX:Hid (X.heap[w.heap.size]? = some (.cells #[.bool false,.int .i64 0,.slice none 0 0,.bool false,.int .i64 0,.bool false,.bool false,.bool false,.int .i64 0] 56 (0,0))):=Lib.hid (by rw [HX.out];exact HZ1.out)
  rw [← HX.out]
  have hth:=there_at (W:=X) HZX.out (n:=(qdV false (0) (.slice none 0 0) (0) false false:Array Value).size) rfl
  have hsd:(Tryz.prog.info? 56).map (·.size) = some (qdV false (0) (.slice none 0 0) (0) false false:Array Value).size:=did_size
  go_wp2_with (first | (rw [← HX.out]) | (with_reducible refine wpList_store_mid (by kernel_rfl) _ _ _ rfl w.heap.size 0 (qdV false (0) (.slice none 0 0) (0) false false) (by kernel_rfl) (by kernel_rfl) hth hsd (by kernel_rfl) ?_))
  have hrg:=World.rangeAt_setCells_same (X) w.heap.size 0 [.bool false,.int .i64 (0),.slice none 0 0,.bool false,.int .i64 (0),.bool false,.bool false,.bool false,.int .i64 0] (there_at (cs:=#[.bool false,.int .i64 0,.slice none 0 0,.bool false,.int .i64 0,.bool false,.bool false,.bool false,.int .i64 0]) (n:=9) (show (X).heap[w.heap.size]? = _ from HZX.out) rfl)
  (try simp only [Exit.inBlock,Exit.then])
  refine bodyPost_ret (results_cell_row rfl _ _ w.heap.size [.bool false,.int .i64 (0),.slice none 0 0,.bool false,.int .i64 (0),.bool false,.bool false,.bool false,.int .i64 0] _ rfl hrg Tryz.underlying56 rfl did_size) rfl ?_
  exact ⟨rfl,HDX.out.fin hlt HOX.out _⟩
theorem drecv_none (h:DAt w vb yb zb c x k (op) (own) (src) ((.slice A n cp)) (1) (len) (ws) (bs)) (hp:w.heap[gb]? = some (.cells #[.int .i64 (F.src:Int),.int .i64 (F.dst:Int),.int .i64 (ce:Int),.int .i64 (xx:Int)] 3 (0,0))) (hl:ws.length ≤ 1000000) (hn:n ≤ 16) (hd:F.src < ws.length) (hr:ws.getD F.src 0 = own):Calls Tryz.prog 59 #[.pointer (some ⟨vb,0,none⟩),.slice (some ⟨yb,0,none⟩) ws.length ws.length,.slice (some ⟨gb,0,none⟩) 4 4] w (DGives w vb yb zb c x k (op) (own) (src) ((.slice A n cp)) (-1) (len) (ws) (bs) (qdV true (2) (.slice none 0 0) (0) true false)):=by
  obtain ⟨W1,HW1,hsz,hO,hz⟩:=did_new w
  have hlt:=h.lt
  have hD1:=h.only hO ⟨fun h => h,fun h => h,fun h => h⟩
  have HD1:=Lib.hid hD1;have HO1:Hid (Only (New w.heap.size (fun j => j = vb ∨ j = yb ∨ j = zb)) w W1):=Lib.hid (hO.mono fun _ _ h => h.elim);have HZ1:=Lib.hid hz


  have x8:W1.cell? ⟨vb,8,none⟩ = some (.int .u32 own):=cell_blk HD1.out.blk rfl
  have x11:W1.cell? ⟨vb,11,none⟩ = some (.int .i64 1):=cell_blk HD1.out.blk rfl
  have HP1:=Lib.hid (hO.at_ hp (fun h => h))
  have p0:W1.cell? ⟨gb,0,none⟩ = some (.int .i64 (F.src:Int)):=cell_blk HP1.out rfl
  obtain ⟨y,hy0⟩:∃ y,ws.getD (F.src) 0 = y:=⟨_,rfl⟩
  have yc:W1.cell? ⟨yb,F.src,none⟩ = some (.int .u32 y):=by rw [← hy0];exact HD1.out.row.cell (by omega)
  rw [hy0] at hr
  have n1:(y == own) = true:=by rw [beq_iff_eq];exact hr
  clear hy0 hr
  clear hD1 hO hz h hp
  go_enter Tryz.func59,Tryz.ntmps59
  go_wp2_with (rw [← HW1.out])
  refine wp_region_held_drew (S:=(fun W' => W'.cell? ⟨gb,0,none⟩ = some (.int .i64 (F.src:Int)) ∧ W'.cell? ⟨yb,F.src,none⟩ = some (.int .u32 y) ∧ W'.cell? ⟨vb,8,none⟩ = some (.int .u32 own))) (by kernel_rfl) (by exact ⟨p0,yc,x8⟩) (fun hHeld => ?_)
  refine wpAnyH_take (i:=0) rfl (by kernel_rfl) (by kernel_rfl) (by kernel_rfl) (fun _ _ _ h => h) (Or.inl ⟨by rfl,by intro w hSw;(have z0:=hSw.1;have z1:=hSw.2.1;have z2:=hSw.2.2;clear hSw);(go_simp <;> with_reducible rfl)⟩) (by assumption) ?_
  (try simp only [Act.put,List.setIfInBounds_toArray,List.set_cons_zero,List.set_cons_succ,List.getElem_toArray,List.getElem_cons_zero,List.getElem_cons_succ])
  refine wpAnyH_take (i:=1) rfl (by kernel_rfl) (by kernel_rfl) (by kernel_rfl) (fun _ _ _ h => h) (Or.inl ⟨by rfl,by intro w hSw;(have z0:=hSw.1;have z1:=hSw.2.1;have z2:=hSw.2.2;clear hSw);(go_simp <;> with_reducible rfl)⟩) (by assumption) ?_
  (try simp only [Act.put,List.setIfInBounds_toArray,List.set_cons_zero,List.set_cons_succ,List.getElem_toArray,List.getElem_cons_zero,List.getElem_cons_succ])
  refine wpAnyH_take (i:=2) rfl (by kernel_rfl) (by kernel_rfl) (by kernel_rfl) (fun _ _ _ h => h) (Or.inl ⟨by rfl,by intro w hSw;(have z0:=hSw.1;have z1:=hSw.2.1;have z2:=hSw.2.2;clear hSw);(go_simp <;> with_reducible rfl)⟩) (by assumption) ?_
  (try simp only [Act.put,List.setIfInBounds_toArray,List.set_cons_zero,List.set_cons_succ,List.getElem_toArray,List.getElem_cons_zero,List.getElem_cons_succ])
  refine wpAnyH_take (i:=3) rfl (by kernel_rfl) (by kernel_rfl) (by kernel_rfl) (fun _ _ _ h => h) (Or.inl ⟨by rfl,by intro w hSw;(have z0:=hSw.1;have z1:=hSw.2.1;have z2:=hSw.2.2;clear hSw);(go_simp <;> with_reducible rfl)⟩) (by assumption) ?_
  (try simp only [Act.put,List.setIfInBounds_toArray,List.set_cons_zero,List.set_cons_succ,List.getElem_toArray,List.getElem_cons_zero,List.getElem_cons_succ])
  refine wpAnyH_take (i:=4) rfl (by kernel_rfl) (by kernel_rfl) (by kernel_rfl) (fun _ _ _ h => h) (Or.inl ⟨by rfl,by intro w hSw;(have z0:=hSw.1;have z1:=hSw.2.1;have z2:=hSw.2.2;clear hSw);(go_simp <;> with_reducible rfl)⟩) (by assumption) ?_
  (try simp only [Act.put,List.setIfInBounds_toArray,List.set_cons_zero,List.set_cons_succ,List.getElem_toArray,List.getElem_cons_zero,List.getElem_cons_succ])
  refine wpAnyH_take (i:=5) rfl (by kernel_rfl) (by kernel_rfl) (by kernel_rfl) (fun _ _ _ h => h) (Or.inl ⟨by rfl,by intro w hSw;(have z0:=hSw.1;have z1:=hSw.2.1;have z2:=hSw.2.2;clear hSw);(go_simp <;> with_reducible rfl)⟩) (by assumption) ?_
  (try simp only [Act.put,List.setIfInBounds_toArray,List.set_cons_zero,List.set_cons_succ,List.getElem_toArray,List.getElem_cons_zero,List.getElem_cons_succ])
  refine wpAnyH_take (i:=6) rfl (by kernel_rfl) (by kernel_rfl) (by kernel_rfl) (fun _ _ _ h => h) (Or.inl ⟨by rfl,by intro w hSw;(have z0:=hSw.1;have z1:=hSw.2.1;have z2:=hSw.2.2;clear hSw);(go_simp <;> with_reducible rfl)⟩) (by assumption) ?_
  (try simp only [Act.put,List.setIfInBounds_toArray,List.set_cons_zero,List.set_cons_succ,List.getElem_toArray,List.getElem_cons_zero,List.getElem_cons_succ])
  refine wpAnyH_take (i:=7) rfl (by kernel_rfl) (by kernel_rfl) (by kernel_rfl) (fun _ _ _ h => h) (Or.inl ⟨by rfl,by intro w hSw;(have z0:=hSw.1;have z1:=hSw.2.1;have z2:=hSw.2.2;clear hSw);(go_simp <;> with_reducible rfl)⟩) (by assumption) ?_
  (try simp only [Act.put,List.setIfInBounds_toArray,List.set_cons_zero,List.set_cons_succ,List.getElem_toArray,List.getElem_cons_zero,List.getElem_cons_succ])
  refine wpAnyH_take (i:=8) rfl (by kernel_rfl) (by kernel_rfl) (by kernel_rfl) (fun _ _ _ h => h) (Or.inl ⟨by rfl,by intro w hSw;(have z0:=hSw.1;have z1:=hSw.2.1;have z2:=hSw.2.2;clear hSw);(go_simp <;> with_reducible rfl)⟩) (by assumption) ?_
  (try simp only [Act.put,List.setIfInBounds_toArray,List.set_cons_zero,List.set_cons_succ,List.getElem_toArray,List.getElem_cons_zero,List.getElem_cons_succ])
  refine wpAnyH_take (i:=9) rfl (by kernel_rfl) (by kernel_rfl) (by kernel_rfl) (fun _ _ _ h => h) (Or.inl ⟨by rfl,by intro w hSw;(have z0:=hSw.1;have z1:=hSw.2.1;have z2:=hSw.2.2;clear hSw);(go_simp <;> with_reducible rfl)⟩) (by assumption) ?_
  (try simp only [Act.put,List.setIfInBounds_toArray,List.set_cons_zero,List.set_cons_succ,List.getElem_toArray,List.getElem_cons_zero,List.getElem_cons_succ])
  refine wpAnyH_take (i:=10) rfl (by kernel_rfl) (by kernel_rfl) (by kernel_rfl) (fun _ _ _ h => h) (Or.inl ⟨by rfl,by intro w hSw;(have z0:=hSw.1;have z1:=hSw.2.1;have z2:=hSw.2.2;clear hSw);(go_simp <;> with_reducible rfl)⟩) (by assumption) ?_
  (try simp only [Act.put,List.setIfInBounds_toArray,List.set_cons_zero,List.set_cons_succ,List.getElem_toArray,List.getElem_cons_zero,List.getElem_cons_succ])
  refine wpAnyH_done (by kernel_rfl) ?_ _
  go_wp2_with fail
  refine (dfull_b HD1.out.drew).mono ?_
  rintro e w2 ⟨rfl,hd2,ho2⟩
  obtain ⟨X,HX⟩:∃ u,Hid (u = w2):=⟨_,rfl⟩
  have HDX:=Lib.hid (by have q:=hd2;rw [← HX.out] at q;exact q)
  have HOX:Hid (Only (New w.heap.size (fun j => j = vb ∨ j = yb ∨ j = zb)) w X):=Lib.hid (by rw [HX.out];exact HO1.out.drew.trans (ho2.mono fun _ _ h => .inr h))
  have HZX:Hid (X.heap[w.heap.size]? = some (.cells #[.bool false,.int .i64 0,.slice none 0 0,.bool false,.int .i64 0,.bool false,.bool false,.bool false,.int .i64 0] 56 (0,0))):=Lib.hid (by rw [HX.out];exact ho2.at_ (show W1.drew.heap[w.heap.size]? = _ from HZ1.out) (by rintro (h | h | h) <;> omega))
  rw [← HX.out]
  have hth:=there_at (W:=X) HZX.out (n:=(qdV true (2) (.slice none 0 0) (0) true false:Array Value).size) rfl
  have hsd:(Tryz.prog.info? 56).map (·.size) = some (qdV true (2) (.slice none 0 0) (0) true false:Array Value).size:=did_size
  go_wp2_with (first | (rw [← HX.out]) | (with_reducible refine wpList_store_mid (by kernel_rfl) _ _ _ rfl w.heap.size 0 (qdV true (2) (.slice none 0 0) (0) true false) (by kernel_rfl) (by kernel_rfl) hth hsd (by kernel_rfl) ?_))
  have hrg:=World.rangeAt_setCells_same (X) w.heap.size 0 [.bool true,.int .i64 (2),.slice none 0 0,.bool false,.int .i64 (0),.bool true,.bool false,.bool false,.int .i64 0] (there_at (cs:=#[.bool false,.int .i64 0,.slice none 0 0,.bool false,.int .i64 0,.bool false,.bool false,.bool false,.int .i64 0]) (n:=9) (show (X).heap[w.heap.size]? = _ from HZX.out) rfl)
  (try simp only [Exit.inBlock,Exit.then])
  refine bodyPost_ret (results_cell_row rfl _ _ w.heap.size [.bool true,.int .i64 (2),.slice none 0 0,.bool false,.int .i64 (0),.bool true,.bool false,.bool false,.int .i64 0] _ rfl hrg Tryz.underlying56 rfl did_size) rfl ?_
  exact ⟨rfl,HDX.out.fin hlt HOX.out _⟩
theorem drecv_most (h:DAt w vb yb zb c x k (op) (own) (src) ((.slice A n cp)) (2) (len) (ws) (bs)) (hp:w.heap[gb]? = some (.cells #[.int .i64 (F.src:Int),.int .i64 (F.dst:Int),.int .i64 (ce:Int),.int .i64 (xx:Int)] 3 (0,0))) (hl:ws.length ≤ 1000000) (hn:n ≤ 16) (hd:ce < ws.length) (hx:xx ≤ 16) (hr:¬ ws.getD ce 0 ≤ (xx:Int)):Calls Tryz.prog 59 #[.pointer (some ⟨vb,0,none⟩),.slice (some ⟨yb,0,none⟩) ws.length ws.length,.slice (some ⟨gb,0,none⟩) 4 4] w (DGives w vb yb zb c x k (op) (own) (src) ((.slice A n cp)) (2) ((xx:Int)) (ws) (bs) (qdV false (0) (.slice none 0 0) (0) false false)):=by
  obtain ⟨W1,HW1,hsz,hO,hz⟩:=did_new w
  have hlt:=h.lt
  have hD1:=h.only hO ⟨fun h => h,fun h => h,fun h => h⟩
  have HD1:=Lib.hid hD1;have HO1:Hid (Only (New w.heap.size (fun j => j = vb ∨ j = yb ∨ j = zb)) w W1):=Lib.hid (hO.mono fun _ _ h => h.elim);have HZ1:=Lib.hid hz


  have x8:W1.cell? ⟨vb,8,none⟩ = some (.int .u32 own):=cell_blk HD1.out.blk rfl
  have x11:W1.cell? ⟨vb,11,none⟩ = some (.int .i64 2):=cell_blk HD1.out.blk rfl
  have HP1:=Lib.hid (hO.at_ hp (fun h => h))
  have p2:W1.cell? ⟨gb,2,none⟩ = some (.int .i64 (ce:Int)):=cell_blk HP1.out rfl
  have p3:W1.cell? ⟨gb,3,none⟩ = some (.int .i64 (xx:Int)):=cell_blk HP1.out rfl
  obtain ⟨y,hy0⟩:∃ y,ws.getD (ce) 0 = y:=⟨_,rfl⟩
  have yc:W1.cell? ⟨yb,ce,none⟩ = some (.int .u32 y):=by rw [← hy0];exact HD1.out.row.cell (by omega)
  rw [hy0] at hr
  have n2:IntKind.u32.wrap (xx:Int) = (xx:Int):=by rw [IntKind.wrap_u32];omega
  have n3:decide (y ≤ (xx:Int)) = false:=decide_eq_false hr
  have g12:=blk_frozen 12 HD1.out.blk
  have hgv:gb ≠ vb:=fun e => by have q:=HP1.out;rw [e] at q;have q2:=HD1.out.blk;rw [q] at q2;injection q2 with q3;injection q3 with q4 q5;exact absurd q5 (by decide)
  obtain ⟨V,HV⟩:∃ u,Hid (u = W1.setCell ⟨vb,12,none⟩ (.int .i64 (xx:Int))):=⟨_,rfl⟩
  have HDV:=Lib.hid (by have q:=HD1.out.put (o:=12) (v:=.int .i64 (xx:Int)) (op':=op) (own':=own) (src':=src) (dv':=(.slice A n cp)) (a':=2) (len':=(xx:Int)) rfl;rw [← HV.out] at q;exact q)
  have p2V:V.cell? ⟨gb,2,none⟩ = some (.int .i64 (ce:Int)):=by rw [HV.out];exact cset12 p2 (.inl hgv.symm)
  have p3V:V.cell? ⟨gb,3,none⟩ = some (.int .i64 (xx:Int)):=by rw [HV.out];exact cset12 p3 (.inl hgv.symm)
  have ycV:V.cell? ⟨yb,ce,none⟩ = some (.int .u32 y):=by rw [HV.out];exact cset12 yc (.inl HD1.out.ne.1)
  have v12:V.cell? ⟨vb,12,none⟩ = some (.int .i64 (xx:Int)):=cell_blk HDV.out.blk rfl
  have w12:=blk_frozen 12 HDV.out.blk
  have x12:W1.cell? ⟨vb,12,none⟩ = some (.int .i64 len):=cell_blk HD1.out.blk rfl
  clear hy0 hr
  clear hD1 hO hz h hp
  go_enter Tryz.func59,Tryz.ntmps59
  go_wp2_with (first | (rw [← HW1.out]) | (rw [← HV.out]))
  refine wp_region_held_drew (S:=(fun W' => W'.cell? ⟨gb,2,none⟩ = some (.int .i64 (ce:Int)) ∧ W'.cell? ⟨gb,3,none⟩ = some (.int .i64 (xx:Int)) ∧ W'.cell? ⟨yb,ce,none⟩ = some (.int .u32 y))) (by kernel_rfl) (by exact ⟨p2V,p3V,ycV⟩) (fun hHeld => ?_)
  refine wpAnyH_take (i:=0) rfl (by kernel_rfl) (by kernel_rfl) (by kernel_rfl) (fun _ _ _ h => h) (Or.inl ⟨by rfl,by intro w hSw;(have z0:=hSw.1;have z1:=hSw.2.1;have z2:=hSw.2.2;clear hSw);(go_simp <;> with_reducible rfl)⟩) (by assumption) ?_
  (try simp only [Act.put,List.setIfInBounds_toArray,List.set_cons_zero,List.set_cons_succ,List.getElem_toArray,List.getElem_cons_zero,List.getElem_cons_succ])
  refine wpAnyH_take (i:=1) rfl (by kernel_rfl) (by kernel_rfl) (by kernel_rfl) (fun _ _ _ h => h) (Or.inl ⟨by rfl,by intro w hSw;(have z0:=hSw.1;have z1:=hSw.2.1;have z2:=hSw.2.2;clear hSw);(go_simp <;> with_reducible rfl)⟩) (by assumption) ?_
  (try simp only [Act.put,List.setIfInBounds_toArray,List.set_cons_zero,List.set_cons_succ,List.getElem_toArray,List.getElem_cons_zero,List.getElem_cons_succ])
  refine wpAnyH_take (i:=2) rfl (by kernel_rfl) (by kernel_rfl) (by kernel_rfl) (fun _ _ _ h => h) (Or.inl ⟨by rfl,by intro w hSw;(have z0:=hSw.1;have z1:=hSw.2.1;have z2:=hSw.2.2;clear hSw);(go_simp <;> with_reducible rfl)⟩) (by assumption) ?_
  (try simp only [Act.put,List.setIfInBounds_toArray,List.set_cons_zero,List.set_cons_succ,List.getElem_toArray,List.getElem_cons_zero,List.getElem_cons_succ])
  refine wpAnyH_take (i:=3) rfl (by kernel_rfl) (by kernel_rfl) (by kernel_rfl) (fun _ _ _ h => h) (Or.inl ⟨by rfl,by intro w hSw;(have z0:=hSw.1;have z1:=hSw.2.1;have z2:=hSw.2.2;clear hSw);(go_simp <;> with_reducible rfl)⟩) (by assumption) ?_
  (try simp only [Act.put,List.setIfInBounds_toArray,List.set_cons_zero,List.set_cons_succ,List.getElem_toArray,List.getElem_cons_zero,List.getElem_cons_succ])
  refine wpAnyH_take (i:=4) rfl (by kernel_rfl) (by kernel_rfl) (by kernel_rfl) (fun _ _ _ h => h) (Or.inl ⟨by rfl,by intro w hSw;(have z0:=hSw.1;have z1:=hSw.2.1;have z2:=hSw.2.2;clear hSw);(go_simp <;> with_reducible rfl)⟩) (by assumption) ?_
  (try simp only [Act.put,List.setIfInBounds_toArray,List.set_cons_zero,List.set_cons_succ,List.getElem_toArray,List.getElem_cons_zero,List.getElem_cons_succ])
  refine wpAnyH_take (i:=5) rfl (by kernel_rfl) (by kernel_rfl) (by kernel_rfl) (fun _ _ _ h => h) (Or.inl ⟨by rfl,by intro w hSw;(have z0:=hSw.1;have z1:=hSw.2.1;have z2:=hSw.2.2;clear hSw);(go_simp <;> with_reducible rfl)⟩) (by assumption) ?_
  (try simp only [Act.put,List.setIfInBounds_toArray,List.set_cons_zero,List.set_cons_succ,List.getElem_toArray,List.getElem_cons_zero,List.getElem_cons_succ])
  refine wpAnyH_take (i:=6) rfl (by kernel_rfl) (by kernel_rfl) (by kernel_rfl) (fun _ _ _ h => h) (Or.inl ⟨by rfl,by intro w hSw;(have z0:=hSw.1;have z1:=hSw.2.1;have z2:=hSw.2.2;clear hSw);(go_simp <;> with_reducible rfl)⟩) (by assumption) ?_
  (try simp only [Act.put,List.setIfInBounds_toArray,List.set_cons_zero,List.set_cons_succ,List.getElem_toArray,List.getElem_cons_zero,List.getElem_cons_succ])
  refine wpAnyH_take (i:=7) rfl (by kernel_rfl) (by kernel_rfl) (by kernel_rfl) (fun _ _ _ h => h) (Or.inl ⟨by rfl,by intro w hSw;(have z0:=hSw.1;have z1:=hSw.2.1;have z2:=hSw.2.2;clear hSw);(go_simp <;> with_reducible rfl)⟩) (by assumption) ?_
  (try simp only [Act.put,List.setIfInBounds_toArray,List.set_cons_zero,List.set_cons_succ,List.getElem_toArray,List.getElem_cons_zero,List.getElem_cons_succ])
  refine wpAnyH_take (i:=8) rfl (by kernel_rfl) (by kernel_rfl) (by kernel_rfl) (fun _ _ _ h => h) (Or.inl ⟨by rfl,by intro w hSw;(have z0:=hSw.1;have z1:=hSw.2.1;have z2:=hSw.2.2;clear hSw);(go_simp <;> with_reducible rfl)⟩) (by assumption) ?_
  (try simp only [Act.put,List.setIfInBounds_toArray,List.set_cons_zero,List.set_cons_succ,List.getElem_toArray,List.getElem_cons_zero,List.getElem_cons_succ])
  refine wpAnyH_take (i:=9) rfl (by kernel_rfl) (by kernel_rfl) (by kernel_rfl) (fun _ _ _ h => h) (Or.inl ⟨by rfl,by intro w hSw;(have z0:=hSw.1;have z1:=hSw.2.1;have z2:=hSw.2.2;clear hSw);(go_simp <;> with_reducible rfl)⟩) (by assumption) ?_
  (try simp only [Act.put,List.setIfInBounds_toArray,List.set_cons_zero,List.set_cons_succ,List.getElem_toArray,List.getElem_cons_zero,List.getElem_cons_succ])
  refine wpAnyH_take (i:=10) rfl (by kernel_rfl) (by kernel_rfl) (by kernel_rfl) (fun _ _ _ h => h) (Or.inl ⟨by rfl,by intro w hSw;(have z0:=hSw.1;have z1:=hSw.2.1;have z2:=hSw.2.2;clear hSw);(go_simp <;> with_reducible rfl)⟩) (by assumption) ?_
  (try simp only [Act.put,List.setIfInBounds_toArray,List.set_cons_zero,List.set_cons_succ,List.getElem_toArray,List.getElem_cons_zero,List.getElem_cons_succ])
  refine wpAnyH_done (by kernel_rfl) ?_ _
  obtain ⟨X,HX⟩:∃ u,Hid (u = V.drew):=⟨_,rfl⟩
  have HDX:=Lib.hid (by have q:=HDV.out.drew;rw [← HX.out] at q;exact q)
  have HOX:Hid (Only (New w.heap.size (fun j => j = vb ∨ j = yb ∨ j = zb)) w X):=Lib.hid (by rw [HX.out];exact (show Only (New w.heap.size (fun j => j = vb ∨ j = yb ∨ j = zb)) w (V) from by rw [HV.out];exact HO1.out.set (p:=⟨vb,12,none⟩) (.inr (.inl rfl)) _).drew)
  have HZX:Hid (X.heap[w.heap.size]? = some (.cells #[.bool false,.int .i64 0,.slice none 0 0,.bool false,.int .i64 0,.bool false,.bool false,.bool false,.int .i64 0] 56 (0,0))):=Lib.hid (by rw [HX.out];exact (by show V.heap[w.heap.size]? = _;rw [HV.out];exact (Below.heap_setCell _ _ _ _ (by show w.heap.size ≠ vb;omega)).trans HZ1.out))
  rw [← HX.out]
  have hth:=there_at (W:=X) HZX.out (n:=(qdV false (0) (.slice none 0 0) (0) false false:Array Value).size) rfl
  have hsd:(Tryz.prog.info? 56).map (·.size) = some (qdV false (0) (.slice none 0 0) (0) false false:Array Value).size:=did_size
  go_wp2_with (first | (rw [← HX.out]) | (with_reducible refine wpList_store_mid (by kernel_rfl) _ _ _ rfl w.heap.size 0 (qdV false (0) (.slice none 0 0) (0) false false) (by kernel_rfl) (by kernel_rfl) hth hsd (by kernel_rfl) ?_))
  have hrg:=World.rangeAt_setCells_same (X) w.heap.size 0 [.bool false,.int .i64 (0),.slice none 0 0,.bool false,.int .i64 (0),.bool false,.bool false,.bool false,.int .i64 0] (there_at (cs:=#[.bool false,.int .i64 0,.slice none 0 0,.bool false,.int .i64 0,.bool false,.bool false,.bool false,.int .i64 0]) (n:=9) (show (X).heap[w.heap.size]? = _ from HZX.out) rfl)
  (try simp only [Exit.inBlock,Exit.then])
  refine bodyPost_ret (results_cell_row rfl _ _ w.heap.size [.bool false,.int .i64 (0),.slice none 0 0,.bool false,.int .i64 (0),.bool false,.bool false,.bool false,.int .i64 0] _ rfl hrg Tryz.underlying56 rfl did_size) rfl ?_
  exact ⟨rfl,HDX.out.fin hlt HOX.out _⟩
theorem drecv_len (h:DAt w vb yb zb c x k (op) (own) (src) ((.slice A n cp)) (2) (len) (ws) (bs)) (hp:w.heap[gb]? = some (.cells #[.int .i64 (F.src:Int),.int .i64 (F.dst:Int),.int .i64 (ce:Int),.int .i64 (xx:Int)] 3 (0,0))) (hl:ws.length ≤ 1000000) (hn:n ≤ 16) (hd:ce < ws.length) (hx:xx ≤ 16) (hr:ws.getD ce 0 ≤ (xx:Int)) (h0:0 ≤ ws.getD ce 0):Calls Tryz.prog 59 #[.pointer (some ⟨vb,0,none⟩),.slice (some ⟨yb,0,none⟩) ws.length ws.length,.slice (some ⟨gb,0,none⟩) 4 4] w (DGives w vb yb zb c x k (op) (own) (src) ((.slice A n cp)) (2) (ws.getD ce 0) (ws) (bs) (qdV false (0) (.slice none 0 0) (0) false false)):=by
  obtain ⟨W1,HW1,hsz,hO,hz⟩:=did_new w
  have hlt:=h.lt
  have hD1:=h.only hO ⟨fun h => h,fun h => h,fun h => h⟩
  have HD1:=Lib.hid hD1;have HO1:Hid (Only (New w.heap.size (fun j => j = vb ∨ j = yb ∨ j = zb)) w W1):=Lib.hid (hO.mono fun _ _ h => h.elim);have HZ1:=Lib.hid hz


  have x8:W1.cell? ⟨vb,8,none⟩ = some (.int .u32 own):=cell_blk HD1.out.blk rfl
  have x11:W1.cell? ⟨vb,11,none⟩ = some (.int .i64 2):=cell_blk HD1.out.blk rfl
  have HP1:=Lib.hid (hO.at_ hp (fun h => h))
  have p2:W1.cell? ⟨gb,2,none⟩ = some (.int .i64 (ce:Int)):=cell_blk HP1.out rfl
  have p3:W1.cell? ⟨gb,3,none⟩ = some (.int .i64 (xx:Int)):=cell_blk HP1.out rfl
  obtain ⟨y,hy0⟩:∃ y,ws.getD (ce) 0 = y:=⟨_,rfl⟩
  have yc:W1.cell? ⟨yb,ce,none⟩ = some (.int .u32 y):=by rw [← hy0];exact HD1.out.row.cell (by omega)
  rw [hy0] at hr
  have n2:IntKind.u32.wrap (xx:Int) = (xx:Int):=by rw [IntKind.wrap_u32];omega
  have n3:decide (y ≤ (xx:Int)) = true:=decide_eq_true hr
  have g12:=blk_frozen 12 HD1.out.blk
  have hgv:gb ≠ vb:=fun e => by have q:=HP1.out;rw [e] at q;have q2:=HD1.out.blk;rw [q] at q2;injection q2 with q3;injection q3 with q4 q5;exact absurd q5 (by decide)
  obtain ⟨V,HV⟩:∃ u,Hid (u = W1.setCell ⟨vb,12,none⟩ (.int .i64 (xx:Int))):=⟨_,rfl⟩
  have HDV:=Lib.hid (by have q:=HD1.out.put (o:=12) (v:=.int .i64 (xx:Int)) (op':=op) (own':=own) (src':=src) (dv':=(.slice A n cp)) (a':=2) (len':=(xx:Int)) rfl;rw [← HV.out] at q;exact q)
  have p2V:V.cell? ⟨gb,2,none⟩ = some (.int .i64 (ce:Int)):=by rw [HV.out];exact cset12 p2 (.inl hgv.symm)
  have p3V:V.cell? ⟨gb,3,none⟩ = some (.int .i64 (xx:Int)):=by rw [HV.out];exact cset12 p3 (.inl hgv.symm)
  have ycV:V.cell? ⟨yb,ce,none⟩ = some (.int .u32 y):=by rw [HV.out];exact cset12 yc (.inl HD1.out.ne.1)
  have v12:V.cell? ⟨vb,12,none⟩ = some (.int .i64 (xx:Int)):=cell_blk HDV.out.blk rfl
  have w12:=blk_frozen 12 HDV.out.blk
  have x12:W1.cell? ⟨vb,12,none⟩ = some (.int .i64 len):=cell_blk HD1.out.blk rfl
  rw [hy0] at h0 ⊢
  have n5:IntKind.i64.wrap y = y:=IntWalk.i64_in _ (by omega)
  clear hy0 hr
  clear hD1 hO hz h hp
  go_enter Tryz.func59,Tryz.ntmps59
  go_wp2_with (first | (rw [← HW1.out]) | (rw [← HV.out]))
  refine wp_region_held_drew (S:=(fun W' => W'.cell? ⟨gb,2,none⟩ = some (.int .i64 (ce:Int)) ∧ W'.cell? ⟨gb,3,none⟩ = some (.int .i64 (xx:Int)) ∧ W'.cell? ⟨yb,ce,none⟩ = some (.int .u32 y))) (by kernel_rfl) (by exact ⟨p2V,p3V,ycV⟩) (fun hHeld => ?_)
  refine wpAnyH_take (i:=0) rfl (by kernel_rfl) (by kernel_rfl) (by kernel_rfl) (fun _ _ _ h => h) (Or.inl ⟨by rfl,by intro w hSw;(have z0:=hSw.1;have z1:=hSw.2.1;have z2:=hSw.2.2;clear hSw);(go_simp <;> with_reducible rfl)⟩) (by assumption) ?_
  (try simp only [Act.put,List.setIfInBounds_toArray,List.set_cons_zero,List.set_cons_succ,List.getElem_toArray,List.getElem_cons_zero,List.getElem_cons_succ])
  refine wpAnyH_take (i:=1) rfl (by kernel_rfl) (by kernel_rfl) (by kernel_rfl) (fun _ _ _ h => h) (Or.inl ⟨by rfl,by intro w hSw;(have z0:=hSw.1;have z1:=hSw.2.1;have z2:=hSw.2.2;clear hSw);(go_simp <;> with_reducible rfl)⟩) (by assumption) ?_
  (try simp only [Act.put,List.setIfInBounds_toArray,List.set_cons_zero,List.set_cons_succ,List.getElem_toArray,List.getElem_cons_zero,List.getElem_cons_succ])
  refine wpAnyH_take (i:=2) rfl (by kernel_rfl) (by kernel_rfl) (by kernel_rfl) (fun _ _ _ h => h) (Or.inl ⟨by rfl,by intro w hSw;(have z0:=hSw.1;have z1:=hSw.2.1;have z2:=hSw.2.2;clear hSw);(go_simp <;> with_reducible rfl)⟩) (by assumption) ?_
  (try simp only [Act.put,List.setIfInBounds_toArray,List.set_cons_zero,List.set_cons_succ,List.getElem_toArray,List.getElem_cons_zero,List.getElem_cons_succ])
  refine wpAnyH_take (i:=3) rfl (by kernel_rfl) (by kernel_rfl) (by kernel_rfl) (fun _ _ _ h => h) (Or.inl ⟨by rfl,by intro w hSw;(have z0:=hSw.1;have z1:=hSw.2.1;have z2:=hSw.2.2;clear hSw);(go_simp <;> with_reducible rfl)⟩) (by assumption) ?_
  (try simp only [Act.put,List.setIfInBounds_toArray,List.set_cons_zero,List.set_cons_succ,List.getElem_toArray,List.getElem_cons_zero,List.getElem_cons_succ])
  refine wpAnyH_take (i:=4) rfl (by kernel_rfl) (by kernel_rfl) (by kernel_rfl) (fun _ _ _ h => h) (Or.inl ⟨by rfl,by intro w hSw;(have z0:=hSw.1;have z1:=hSw.2.1;have z2:=hSw.2.2;clear hSw);(go_simp <;> with_reducible rfl)⟩) (by assumption) ?_
  (try simp only [Act.put,List.setIfInBounds_toArray,List.set_cons_zero,List.set_cons_succ,List.getElem_toArray,List.getElem_cons_zero,List.getElem_cons_succ])
  refine wpAnyH_take (i:=5) rfl (by kernel_rfl) (by kernel_rfl) (by kernel_rfl) (fun _ _ _ h => h) (Or.inl ⟨by rfl,by intro w hSw;(have z0:=hSw.1;have z1:=hSw.2.1;have z2:=hSw.2.2;clear hSw);(go_simp <;> with_reducible rfl)⟩) (by assumption) ?_
  (try simp only [Act.put,List.setIfInBounds_toArray,List.set_cons_zero,List.set_cons_succ,List.getElem_toArray,List.getElem_cons_zero,List.getElem_cons_succ])
  refine wpAnyH_take (i:=6) rfl (by kernel_rfl) (by kernel_rfl) (by kernel_rfl) (fun _ _ _ h => h) (Or.inl ⟨by rfl,by intro w hSw;(have z0:=hSw.1;have z1:=hSw.2.1;have z2:=hSw.2.2;clear hSw);(go_simp <;> with_reducible rfl)⟩) (by assumption) ?_
  (try simp only [Act.put,List.setIfInBounds_toArray,List.set_cons_zero,List.set_cons_succ,List.getElem_toArray,List.getElem_cons_zero,List.getElem_cons_succ])
  refine wpAnyH_take (i:=7) rfl (by kernel_rfl) (by kernel_rfl) (by kernel_rfl) (fun _ _ _ h => h) (Or.inl ⟨by rfl,by intro w hSw;(have z0:=hSw.1;have z1:=hSw.2.1;have z2:=hSw.2.2;clear hSw);(go_simp <;> with_reducible rfl)⟩) (by assumption) ?_
  (try simp only [Act.put,List.setIfInBounds_toArray,List.set_cons_zero,List.set_cons_succ,List.getElem_toArray,List.getElem_cons_zero,List.getElem_cons_succ])
  refine wpAnyH_take (i:=8) rfl (by kernel_rfl) (by kernel_rfl) (by kernel_rfl) (fun _ _ _ h => h) (Or.inl ⟨by rfl,by intro w hSw;(have z0:=hSw.1;have z1:=hSw.2.1;have z2:=hSw.2.2;clear hSw);(go_simp <;> with_reducible rfl)⟩) (by assumption) ?_
  (try simp only [Act.put,List.setIfInBounds_toArray,List.set_cons_zero,List.set_cons_succ,List.getElem_toArray,List.getElem_cons_zero,List.getElem_cons_succ])
  refine wpAnyH_take (i:=9) rfl (by kernel_rfl) (by kernel_rfl) (by kernel_rfl) (fun _ _ _ h => h) (Or.inl ⟨by rfl,by intro w hSw;(have z0:=hSw.1;have z1:=hSw.2.1;have z2:=hSw.2.2;clear hSw);(go_simp <;> with_reducible rfl)⟩) (by assumption) ?_
  (try simp only [Act.put,List.setIfInBounds_toArray,List.set_cons_zero,List.set_cons_succ,List.getElem_toArray,List.getElem_cons_zero,List.getElem_cons_succ])
  refine wpAnyH_take (i:=10) rfl (by kernel_rfl) (by kernel_rfl) (by kernel_rfl) (fun _ _ _ h => h) (Or.inl ⟨by rfl,by intro w hSw;(have z0:=hSw.1;have z1:=hSw.2.1;have z2:=hSw.2.2;clear hSw);(go_simp <;> with_reducible rfl)⟩) (by assumption) ?_
  (try simp only [Act.put,List.setIfInBounds_toArray,List.set_cons_zero,List.set_cons_succ,List.getElem_toArray,List.getElem_cons_zero,List.getElem_cons_succ])
  refine wpAnyH_done (by kernel_rfl) ?_ _
  obtain ⟨X,HX⟩:∃ u,Hid (u = (V.setCell ⟨vb,12,none⟩ (.int .i64 y)).drew):=⟨_,rfl⟩
  have HDX:=Lib.hid (by have q:=(HDV.out.put (o:=12) (v:=.int .i64 y) (op':=op) (own':=own) (src':=src) (dv':=(.slice A n cp)) (a':=2) (len':=y) rfl).drew;rw [← HX.out] at q;exact q)
  have HOX:Hid (Only (New w.heap.size (fun j => j = vb ∨ j = yb ∨ j = zb)) w X):=Lib.hid (by rw [HX.out];exact (show Only (New w.heap.size (fun j => j = vb ∨ j = yb ∨ j = zb)) w (V.setCell ⟨vb,12,none⟩ (.int .i64 y)) from by rw [HV.out];exact (HO1.out.set (p:=⟨vb,12,none⟩) (.inr (.inl rfl)) _).set (p:=⟨vb,12,none⟩) (.inr (.inl rfl)) _).drew)
  have HZX:Hid (X.heap[w.heap.size]? = some (.cells #[.bool false,.int .i64 0,.slice none 0 0,.bool false,.int .i64 0,.bool false,.bool false,.bool false,.int .i64 0] 56 (0,0))):=Lib.hid (by rw [HX.out];exact (Below.heap_setCell _ _ _ _ (by show w.heap.size ≠ vb;omega)).trans (by rw [HV.out];exact (Below.heap_setCell _ _ _ _ (by show w.heap.size ≠ vb;omega)).trans HZ1.out))
  have hth:=there_at (W:=X) HZX.out (n:=(qdV false (0) (.slice none 0 0) (0) false false:Array Value).size) rfl
  have hsd:(Tryz.prog.info? 56).map (·.size) = some (qdV false (0) (.slice none 0 0) (0) false false:Array Value).size:=did_size
  go_wp2_with (first | (rw [← HX.out]) | (with_reducible refine wpList_store_mid (by kernel_rfl) _ _ _ rfl w.heap.size 0 (qdV false (0) (.slice none 0 0) (0) false false) (by kernel_rfl) (by kernel_rfl) hth hsd (by kernel_rfl) ?_))
  have hrg:=World.rangeAt_setCells_same (X) w.heap.size 0 [.bool false,.int .i64 (0),.slice none 0 0,.bool false,.int .i64 (0),.bool false,.bool false,.bool false,.int .i64 0] (there_at (cs:=#[.bool false,.int .i64 0,.slice none 0 0,.bool false,.int .i64 0,.bool false,.bool false,.bool false,.int .i64 0]) (n:=9) (show (X).heap[w.heap.size]? = _ from HZX.out) rfl)
  (try simp only [Exit.inBlock,Exit.then])
  refine bodyPost_ret (results_cell_row rfl _ _ w.heap.size [.bool false,.int .i64 (0),.slice none 0 0,.bool false,.int .i64 (0),.bool false,.bool false,.bool false,.int .i64 0] _ rfl hrg Tryz.underlying56 rfl did_size) rfl ?_
  exact ⟨rfl,HDX.out.fin hlt HOX.out _⟩
end
end Go.Proofs.YtmhpcgcloojfbaaGreat
end
section
namespace Go.Proofs.YtmhpcgcloojfbaaGreat
open Go.RowKit Go.Sort
set_option linter.unusedVariables false
set_option linter.unusedSimpArgs false
set_option linter.unusedVariables false
set_option linter.unusedSimpArgs false
open Go.Proofs.YtmhpcgcloojfbaaGreat.Simp
set_option maxRecDepth 100000
set_option maxHeartbeats 12800000
section
variable {w:World} {vb yb zb:Nat} {c:Cfg} {x:CfgAt} {k:Nat} {op own:Int} {src:Bool} {dv:Value} {a len:Int} {ws:List Int} {bs:List Bool} {F:Qr} {gb ce xx n cp:Nat} {A:Option Addr}
theorem drecv_end (h:DAt w vb yb zb c x k (op) (own) (src) ((.slice A n cp)) (a) (len) (ws) (bs)) (hp:w.heap[gb]? = some (.cells #[.int .i64 (F.src:Int),.int .i64 (F.dst:Int),.int .i64 (ce:Int),.int .i64 (xx:Int)] 3 (0,0))) (hl:ws.length ≤ 1000000) (hn:n ≤ 16) (ha:3 ≤ a) (hr:¬ (n:Int) < len) (hd:F.dst < ws.length):Calls Tryz.prog 59 #[.pointer (some ⟨vb,0,none⟩),.slice (some ⟨yb,0,none⟩) ws.length ws.length,.slice (some ⟨gb,0,none⟩) 4 4] w (DGives w vb yb zb c x k (op) (inc32 own) (src) ((.slice A n cp)) (-1) (len) (ws.set F.dst (inc32 own)) (bs) (qdV true (0) (.slice A n cp) (0) true false)):=by
  obtain ⟨W1,HW1,hsz,hO,hz⟩:=did_new w
  have hlt:=h.lt
  have hD1:=h.only hO ⟨fun h => h,fun h => h,fun h => h⟩
  have HD1:=Lib.hid hD1;have HO1:Hid (Only (New w.heap.size (fun j => j = vb ∨ j = yb ∨ j = zb)) w W1):=Lib.hid (hO.mono fun _ _ h => h.elim);have HZ1:=Lib.hid hz


  have x8:W1.cell? ⟨vb,8,none⟩ = some (.int .u32 own):=cell_blk HD1.out.blk rfl
  have x10:W1.cell? ⟨vb,10,none⟩ = some (.slice A n cp):=cell_blk HD1.out.blk rfl
  have x11:W1.cell? ⟨vb,11,none⟩ = some (.int .i64 a):=cell_blk HD1.out.blk rfl
  have x12:W1.cell? ⟨vb,12,none⟩ = some (.int .i64 len):=cell_blk HD1.out.blk rfl
  have HP1:=Lib.hid (hO.at_ hp (fun h => h))
  have p1:W1.cell? ⟨gb,1,none⟩ = some (.int .i64 (F.dst:Int)):=cell_blk HP1.out rfl
  obtain ⟨y,hy0⟩:∃ y,ws.getD (F.dst) 0 = y:=⟨_,rfl⟩
  have yc:W1.cell? ⟨yb,F.dst,none⟩ = some (.int .u32 y):=by rw [← hy0];exact HD1.out.row.cell (by omega)
  have b1:(a == 1) = false:=beq_false_of_ne (by omega)
  have b2:(a == 2) = false:=beq_false_of_ne (by omega)
  have n3:decide ((n:Int) < len) = false:=decide_eq_false hr
  clear hr ha
  obtain ⟨o1,ho1⟩:∃ o,inc32 own = o:=⟨_,rfl⟩
  have n1:IntKind.u32.wrap (own + 1) = o1:=by rw [IntKind.wrap_u32];exact ho1
  rw [ho1]
  have hgv:gb ≠ vb:=fun e => by have q:=HP1.out;rw [e] at q;have q2:=HD1.out.blk;rw [q] at q2;injection q2 with q3;injection q3 with q4 q5;exact absurd q5 (by decide)
  have hgy:gb ≠ yb:=fun e => by have q:=HP1.out;rw [e] at q;have q2:W1.heap[yb]? = some (.cells _ _ _):=HD1.out.row;rw [q] at q2;injection q2 with q3;injection q3 with q4 q5;exact absurd q5 (by decide)
  have g8:=blk_frozen 8 HD1.out.blk
  obtain ⟨V,HV⟩:∃ u,Hid (u = (W1.setCell ⟨vb,8,none⟩ (.int .u32 o1)).drew):=⟨_,rfl⟩
  have HDV:=Lib.hid (by have q:=(HD1.out.put (o:=8) (v:=.int .u32 o1) (op':=op) (own':=o1) (src':=src) (dv':=(.slice A n cp)) (a':=a) (len':=len) rfl).drew;rw [← HV.out] at q;exact q)
  have v8:V.cell? ⟨vb,8,none⟩ = some (.int .u32 o1):=cell_blk HDV.out.blk rfl
  have p1V:V.cell? ⟨gb,1,none⟩ = some (.int .i64 (F.dst:Int)):=by rw [HV.out];exact (cset12 p1 (.inl hgv.symm):(W1.setCell ⟨vb,8,none⟩ _).cell? ⟨gb,1,none⟩ = _)
  have ycV:V.cell? ⟨yb,F.dst,none⟩ = some (.int .u32 y):=by rw [HV.out];exact (cset12 yc (.inl HD1.out.ne.1):(W1.setCell ⟨vb,8,none⟩ _).cell? ⟨yb,F.dst,none⟩ = _)
  have yfV:V.frozen? ⟨yb,F.dst,none⟩ = false:=HDV.out.row.frozen _
  obtain ⟨U,HU⟩:∃ u,Hid (u = (V.setCell ⟨yb,F.dst,none⟩ (.int .u32 o1)).drew):=⟨_,rfl⟩
  have HDU:=Lib.hid (by have q:=(HDV.out.word F.dst o1).drew;rw [← HU.out] at q;exact q)
  have u11:U.cell? ⟨vb,11,none⟩ = some (.int .i64 a):=cell_blk HDU.out.blk rfl
  have h11:=blk_frozen 11 HDU.out.blk
  obtain ⟨X,HX⟩:∃ u,Hid (u = U.setCell ⟨vb,11,none⟩ (.int .i64 (-1))):=⟨_,rfl⟩
  have HDX:=Lib.hid (by have q:=HDU.out.put (o:=11) (v:=.int .i64 (-1)) (op':=op) (own':=o1) (src':=src) (dv':=(.slice A n cp)) (a':=-1) (len':=len) rfl;rw [← HX.out] at q;exact q)
  have HOX:Hid (Only (New w.heap.size (fun j => j = vb ∨ j = yb ∨ j = zb)) w X):=Lib.hid (by rw [HX.out];exact (show Only (New w.heap.size (fun j => j = vb ∨ j = yb ∨ j = zb)) w (U.setCell ⟨vb,11,none⟩ (.int .i64 (-1))) from by rw [HU.out,HV.out];exact ((((HO1.out.set (p:=⟨vb,8,none⟩) (.inr (.inl rfl)) _).drew).set (p:=⟨yb,F.dst,none⟩) (.inr (.inr (.inl rfl))) _).drew).set (p:=⟨vb,11,none⟩) (.inr (.inl rfl)) _))
  have HZX:Hid (X.heap[w.heap.size]? = some (.cells #[.bool false,.int .i64 0,.slice none 0 0,.bool false,.int .i64 0,.bool false,.bool false,.bool false,.int .i64 0] 56 (0,0))):=Lib.hid (by rw [HX.out];exact (Below.heap_setCell _ _ _ _ (by show w.heap.size ≠ vb;omega)).trans (by rw [HU.out];exact (show (V.setCell ⟨yb,F.dst,none⟩ (.int .u32 o1)).heap[w.heap.size]? = _ from (Below.heap_setCell _ _ _ _ (by show w.heap.size ≠ yb;omega)).trans (by rw [HV.out];exact (show (W1.setCell ⟨vb,8,none⟩ (.int .u32 o1)).heap[w.heap.size]? = _ from (Below.heap_setCell _ _ _ _ (by show w.heap.size ≠ vb;omega)).trans HZ1.out)))))
  have y10:X.cell? ⟨vb,10,none⟩ = some (.slice A n cp):=cell_blk HDX.out.blk rfl
  have hth:=there_at (W:=X) HZX.out (n:=(qdV true (0) (.slice A n cp) (0) true false:Array Value).size) rfl
  have hsd:(Tryz.prog.info? 56).map (·.size) = some (qdV true (0) (.slice A n cp) (0) true false:Array Value).size:=did_size
  clear hy0 ho1
  clear hD1 hO hz h hp

  go_enter Tryz.func59,Tryz.ntmps59
  go_wp2_with (rw [← HW1.out])
  refine wp_region_held_drew (S:=(fun W' => W'.cell? ⟨vb,10,none⟩ = some (.slice A n cp) ∧ W'.cell? ⟨vb,12,none⟩ = some (.int .i64 len))) (by kernel_rfl) (by exact ⟨x10,x12⟩) (fun hHeld => ?_)
  refine wpAnyH_take (i:=0) rfl (by kernel_rfl) (by kernel_rfl) (by kernel_rfl) (fun _ _ _ h => h) (Or.inl ⟨by rfl,by intro w hSw;(have z0:=hSw.1;have z1:=hSw.2;clear hSw);(go_simp <;> with_reducible rfl)⟩) (by assumption) ?_
  (try simp only [Act.put,List.setIfInBounds_toArray,List.set_cons_zero,List.set_cons_succ,List.getElem_toArray,List.getElem_cons_zero,List.getElem_cons_succ])
  refine wpAnyH_take (i:=1) rfl (by kernel_rfl) (by kernel_rfl) (by kernel_rfl) (fun _ _ _ h => h) (Or.inl ⟨by rfl,by intro w hSw;(have z0:=hSw.1;have z1:=hSw.2;clear hSw);(go_simp <;> with_reducible rfl)⟩) (by assumption) ?_
  (try simp only [Act.put,List.setIfInBounds_toArray,List.set_cons_zero,List.set_cons_succ,List.getElem_toArray,List.getElem_cons_zero,List.getElem_cons_succ])
  refine wpAnyH_take (i:=2) rfl (by kernel_rfl) (by kernel_rfl) (by kernel_rfl) (fun _ _ _ h => h) (Or.inl ⟨by rfl,by intro w hSw;(have z0:=hSw.1;have z1:=hSw.2;clear hSw);(go_simp <;> with_reducible rfl)⟩) (by assumption) ?_
  (try simp only [Act.put,List.setIfInBounds_toArray,List.set_cons_zero,List.set_cons_succ,List.getElem_toArray,List.getElem_cons_zero,List.getElem_cons_succ])
  refine wpAnyH_take (i:=3) rfl (by kernel_rfl) (by kernel_rfl) (by kernel_rfl) (fun _ _ _ h => h) (Or.inl ⟨by rfl,by intro w hSw;(have z0:=hSw.1;have z1:=hSw.2;clear hSw);(go_simp <;> with_reducible rfl)⟩) (by assumption) ?_
  (try simp only [Act.put,List.setIfInBounds_toArray,List.set_cons_zero,List.set_cons_succ,List.getElem_toArray,List.getElem_cons_zero,List.getElem_cons_succ])
  refine wpAnyH_take (i:=4) rfl (by kernel_rfl) (by kernel_rfl) (by kernel_rfl) (fun _ _ _ h => h) (Or.inl ⟨by rfl,by intro w hSw;(have z0:=hSw.1;have z1:=hSw.2;clear hSw);(go_simp <;> with_reducible rfl)⟩) (by assumption) ?_
  (try simp only [Act.put,List.setIfInBounds_toArray,List.set_cons_zero,List.set_cons_succ,List.getElem_toArray,List.getElem_cons_zero,List.getElem_cons_succ])
  refine wpAnyH_take (i:=5) rfl (by kernel_rfl) (by kernel_rfl) (by kernel_rfl) (fun _ _ _ h => h) (Or.inl ⟨by rfl,by intro w hSw;(have z0:=hSw.1;have z1:=hSw.2;clear hSw);(go_simp <;> with_reducible rfl)⟩) (by assumption) ?_
  (try simp only [Act.put,List.setIfInBounds_toArray,List.set_cons_zero,List.set_cons_succ,List.getElem_toArray,List.getElem_cons_zero,List.getElem_cons_succ])
  refine wpAnyH_take (i:=6) rfl (by kernel_rfl) (by kernel_rfl) (by kernel_rfl) (fun _ _ _ h => h) (Or.inl ⟨by rfl,by intro w hSw;(have z0:=hSw.1;have z1:=hSw.2;clear hSw);(go_simp <;> with_reducible rfl)⟩) (by assumption) ?_
  (try simp only [Act.put,List.setIfInBounds_toArray,List.set_cons_zero,List.set_cons_succ,List.getElem_toArray,List.getElem_cons_zero,List.getElem_cons_succ])
  refine wpAnyH_take (i:=7) rfl (by kernel_rfl) (by kernel_rfl) (by kernel_rfl) (fun _ _ _ h => h) (Or.inl ⟨by rfl,by intro w hSw;(have z0:=hSw.1;have z1:=hSw.2;clear hSw);(go_simp <;> with_reducible rfl)⟩) (by assumption) ?_
  (try simp only [Act.put,List.setIfInBounds_toArray,List.set_cons_zero,List.set_cons_succ,List.getElem_toArray,List.getElem_cons_zero,List.getElem_cons_succ])
  refine wpAnyH_take (i:=8) rfl (by kernel_rfl) (by kernel_rfl) (by kernel_rfl) (fun _ _ _ h => h) (Or.inl ⟨by rfl,by intro w hSw;(have z0:=hSw.1;have z1:=hSw.2;clear hSw);(go_simp <;> with_reducible rfl)⟩) (by assumption) ?_
  (try simp only [Act.put,List.setIfInBounds_toArray,List.set_cons_zero,List.set_cons_succ,List.getElem_toArray,List.getElem_cons_zero,List.getElem_cons_succ])
  refine wpAnyH_take (i:=9) rfl (by kernel_rfl) (by kernel_rfl) (by kernel_rfl) (fun _ _ _ h => h) (Or.inl ⟨by rfl,by intro w hSw;(have z0:=hSw.1;have z1:=hSw.2;clear hSw);(go_simp <;> with_reducible rfl)⟩) (by assumption) ?_
  (try simp only [Act.put,List.setIfInBounds_toArray,List.set_cons_zero,List.set_cons_succ,List.getElem_toArray,List.getElem_cons_zero,List.getElem_cons_succ])
  refine wpAnyH_take (i:=10) rfl (by kernel_rfl) (by kernel_rfl) (by kernel_rfl) (fun _ _ _ h => h) (Or.inl ⟨by rfl,by intro w hSw;(have z0:=hSw.1;have z1:=hSw.2;clear hSw);(go_simp <;> with_reducible rfl)⟩) (by assumption) ?_
  (try simp only [Act.put,List.setIfInBounds_toArray,List.set_cons_zero,List.set_cons_succ,List.getElem_toArray,List.getElem_cons_zero,List.getElem_cons_succ])
  refine wpAnyH_done (by kernel_rfl) ?_ _
  clear hHeld
  go_wp2_with (rw [← HV.out])
  refine wp_region_held_drew (S:=(fun W' => W'.cell? ⟨gb,1,none⟩ = some (.int .i64 (F.dst:Int)) ∧ W'.cell? ⟨vb,8,none⟩ = some (.int .u32 o1))) (by kernel_rfl) (by exact ⟨p1V,v8⟩) (fun hHeld => ?_)
  refine wpAnyH_take (i:=0) rfl (by kernel_rfl) (by kernel_rfl) (by kernel_rfl) (fun _ _ _ h => h) (Or.inl ⟨by rfl,by intro w hSw;(have z0:=hSw.1;have z1:=hSw.2;clear hSw);(go_simp <;> with_reducible rfl)⟩) (by assumption) ?_
  (try simp only [Act.put,List.setIfInBounds_toArray,List.set_cons_zero,List.set_cons_succ,List.getElem_toArray,List.getElem_cons_zero,List.getElem_cons_succ])
  refine wpAnyH_take (i:=1) rfl (by kernel_rfl) (by kernel_rfl) (by kernel_rfl) (fun _ _ _ h => h) (Or.inl ⟨by rfl,by intro w hSw;(have z0:=hSw.1;have z1:=hSw.2;clear hSw);(go_simp <;> with_reducible rfl)⟩) (by assumption) ?_
  (try simp only [Act.put,List.setIfInBounds_toArray,List.set_cons_zero,List.set_cons_succ,List.getElem_toArray,List.getElem_cons_zero,List.getElem_cons_succ])
  refine wpAnyH_take (i:=2) rfl (by kernel_rfl) (by kernel_rfl) (by kernel_rfl) (fun _ _ _ h => h) (Or.inl ⟨by rfl,by intro w hSw;(have z0:=hSw.1;have z1:=hSw.2;clear hSw);(go_simp <;> with_reducible rfl)⟩) (by assumption) ?_
  (try simp only [Act.put,List.setIfInBounds_toArray,List.set_cons_zero,List.set_cons_succ,List.getElem_toArray,List.getElem_cons_zero,List.getElem_cons_succ])
  refine wpAnyH_take (i:=3) rfl (by kernel_rfl) (by kernel_rfl) (by kernel_rfl) (fun _ _ _ h => h) (Or.inl ⟨by rfl,by intro w hSw;(have z0:=hSw.1;have z1:=hSw.2;clear hSw);(go_simp <;> with_reducible rfl)⟩) (by assumption) ?_
  (try simp only [Act.put,List.setIfInBounds_toArray,List.set_cons_zero,List.set_cons_succ,List.getElem_toArray,List.getElem_cons_zero,List.getElem_cons_succ])
  refine wpAnyH_take (i:=4) rfl (by kernel_rfl) (by kernel_rfl) (by kernel_rfl) (fun _ _ _ h => h) (Or.inl ⟨by rfl,by intro w hSw;(have z0:=hSw.1;have z1:=hSw.2;clear hSw);(go_simp <;> with_reducible rfl)⟩) (by assumption) ?_
  (try simp only [Act.put,List.setIfInBounds_toArray,List.set_cons_zero,List.set_cons_succ,List.getElem_toArray,List.getElem_cons_zero,List.getElem_cons_succ])
  refine wpAnyH_take (i:=5) rfl (by kernel_rfl) (by kernel_rfl) (by kernel_rfl) (fun _ _ _ h => h) (Or.inl ⟨by rfl,by intro w hSw;(have z0:=hSw.1;have z1:=hSw.2;clear hSw);(go_simp <;> with_reducible rfl)⟩) (by assumption) ?_
  (try simp only [Act.put,List.setIfInBounds_toArray,List.set_cons_zero,List.set_cons_succ,List.getElem_toArray,List.getElem_cons_zero,List.getElem_cons_succ])
  refine wpAnyH_take (i:=6) rfl (by kernel_rfl) (by kernel_rfl) (by kernel_rfl) (fun _ _ _ h => h) (Or.inl ⟨by rfl,by intro w hSw;(have z0:=hSw.1;have z1:=hSw.2;clear hSw);(go_simp <;> with_reducible rfl)⟩) (by assumption) ?_
  (try simp only [Act.put,List.setIfInBounds_toArray,List.set_cons_zero,List.set_cons_succ,List.getElem_toArray,List.getElem_cons_zero,List.getElem_cons_succ])
  refine wpAnyH_take (i:=7) rfl (by kernel_rfl) (by kernel_rfl) (by kernel_rfl) (fun _ _ _ h => h) (Or.inl ⟨by rfl,by intro w hSw;(have z0:=hSw.1;have z1:=hSw.2;clear hSw);(go_simp <;> with_reducible rfl)⟩) (by assumption) ?_
  (try simp only [Act.put,List.setIfInBounds_toArray,List.set_cons_zero,List.set_cons_succ,List.getElem_toArray,List.getElem_cons_zero,List.getElem_cons_succ])
  refine wpAnyH_take (i:=8) rfl (by kernel_rfl) (by kernel_rfl) (by kernel_rfl) (fun _ _ _ h => h) (Or.inl ⟨by rfl,by intro w hSw;(have z0:=hSw.1;have z1:=hSw.2;clear hSw);(go_simp <;> with_reducible rfl)⟩) (by assumption) ?_
  (try simp only [Act.put,List.setIfInBounds_toArray,List.set_cons_zero,List.set_cons_succ,List.getElem_toArray,List.getElem_cons_zero,List.getElem_cons_succ])
  have yc2:V.drew.cell? ⟨yb,F.dst,none⟩ = some (.int .u32 y):=ycV
  have yf2:V.drew.frozen? ⟨yb,F.dst,none⟩ = false:=yfV
  refine wpAnyH_ready (rs:=[9]) (by kernel_rfl) (by simp) (AllReadyH.cons rfl (fun K hK => ?_) AllReadyH.nil)
  go_simp
  refine hK.out _ _ (by exact ⟨cset12 hHeld.1 (.inl hgy.symm),cset12 hHeld.2 (.inl HD1.out.ne.1.symm)⟩) (fun hHeld => ?_)
  clear hK K
  (try simp only [Act.put,List.setIfInBounds_toArray,List.set_cons_zero,List.set_cons_succ,List.getElem_toArray,List.getElem_cons_zero,List.getElem_cons_succ])
  refine wpAnyH_done (by kernel_rfl) ?_ _
  rw [← HU.out]
  go_wp2_with (first | (rw [← HX.out]) | (with_reducible refine wpList_store_mid (by kernel_rfl) _ _ _ rfl w.heap.size 0 (qdV true (0) (.slice A n cp) (0) true false) (by kernel_rfl) (by kernel_rfl) hth hsd (by kernel_rfl) ?_))
  have hrg:=World.rangeAt_setCells_same (X) w.heap.size 0 [.bool true,.int .i64 (0),.slice A n cp,.bool false,.int .i64 (0),.bool true,.bool false,.bool false,.int .i64 0] (there_at (cs:=#[.bool false,.int .i64 0,.slice none 0 0,.bool false,.int .i64 0,.bool false,.bool false,.bool false,.int .i64 0]) (n:=9) (show (X).heap[w.heap.size]? = _ from HZX.out) rfl)
  (try simp only [Exit.inBlock,Exit.then])
  refine bodyPost_ret (results_cell_row rfl _ _ w.heap.size [.bool true,.int .i64 (0),.slice A n cp,.bool false,.int .i64 (0),.bool true,.bool false,.bool false,.int .i64 0] _ rfl hrg Tryz.underlying56 rfl did_size) rfl ?_
  exact ⟨rfl,HDX.out.fin hlt HOX.out _⟩
end
end Go.Proofs.YtmhpcgcloojfbaaGreat
end
section
namespace Go.Proofs.YtmhpcgcloojfbaaGreat
open Go.RowKit Go.Sort
set_option linter.unusedVariables false
set_option linter.unusedSimpArgs false
set_option linter.unusedVariables false
set_option linter.unusedSimpArgs false
open Go.Proofs.YtmhpcgcloojfbaaGreat.Simp
set_option maxRecDepth 100000
set_option maxHeartbeats 12800000
section
variable {w:World} {vb yb zb:Nat} {c:Cfg} {x:CfgAt} {k:Nat} {op own:Int} {src:Bool} {dv:Value} {a len:Int} {ws:List Int} {bs:List Bool} {F:Qr} {gb ce xx cp:Nat} {A:Option Addr} {ds:List Int}
theorem drecv_word (h:DAt w vb yb zb c x k (op) (own) (src) ((.slice A ds.length cp)) (a) (len) (ws) (bs)) (hp:w.heap[gb]? = some (.cells #[.int .i64 (F.src:Int),.int .i64 (F.dst:Int),.int .i64 (ce:Int),.int .i64 (xx:Int)] 3 (0,0))) (hl:ws.length ≤ 1000000) (hn:ds.length ≤ 16) (ha:3 ≤ a) (hr:(ds.length:Int) < len) (hd:ce + 1 + ds.length < ws.length) (hrow:OwnsOff w 0 34 1 (.slice A ds.length cp) ds.length (wcells ds)) (hby0:Value.ownBlock (.slice A ds.length cp) ≠ some yb):Calls Tryz.prog 59 #[.pointer (some ⟨vb,0,none⟩),.slice (some ⟨yb,0,none⟩) ws.length ws.length,.slice (some ⟨gb,0,none⟩) 4 4] w fun e w' => ∃ dv',e = .returned (.agg (qdV false (0) (.slice none 0 0) (0) false false)) ∧ DAt w' vb yb zb c x k (op) (own) (src) (dv') (a) (len) (ws) (bs) ∧ OwnsOff w' 0 34 1 dv' (ds.length + 1) (wcells (ds ++ [ws.getD (ce + 1 + ds.length) 0])) ∧ (∀ g,dv'.ownBlock = some g → Value.ownBlock (.slice A ds.length cp) = some g ∨ w.heap.size ≤ g) ∧ Only (fun j => j = vb ∨ Value.ownBlock (.slice A ds.length cp) = some j) w w':=by
  obtain ⟨W1,HW1,hsz,hO,hz⟩:=did_new w
  have hlt:=h.lt
  have hD1:=h.only hO ⟨fun h => h,fun h => h,fun h => h⟩
  have HD1:=Lib.hid hD1;have HO1:Hid (Only (New w.heap.size (fun j => j = vb ∨ j = yb ∨ j = zb)) w W1):=Lib.hid (hO.mono fun _ _ h => h.elim);have HZ1:=Lib.hid hz


  have x8:W1.cell? ⟨vb,8,none⟩ = some (.int .u32 own):=cell_blk HD1.out.blk rfl
  have x11:W1.cell? ⟨vb,11,none⟩ = some (.int .i64 a):=cell_blk HD1.out.blk rfl
  have x12:W1.cell? ⟨vb,12,none⟩ = some (.int .i64 len):=cell_blk HD1.out.blk rfl
  have x10:W1.cell? ⟨vb,10,none⟩ = some (.slice A ds.length cp):=cell_blk HD1.out.blk rfl
  have HP1:=Lib.hid (hO.at_ hp (fun h => h))
  have HR1:=Lib.hid (hrow.kept hO (fun _ _ h => h))
  have HR0:=Lib.hid hrow
  have HO0:=Lib.hid hO
  have hby:=Lib.hid hby0
  have p2:W1.cell? ⟨gb,2,none⟩ = some (.int .i64 (ce:Int)):=cell_blk HP1.out rfl
  obtain ⟨T,hT⟩:∃ T:Nat,ce + 1 + ds.length = T:=⟨_,rfl⟩
  rw [hT] at hd ⊢
  obtain ⟨y,hy0⟩:∃ y,ws.getD (T) 0 = y:=⟨_,rfl⟩
  have yc:W1.cell? ⟨yb,T,none⟩ = some (.int .u32 y):=by rw [← hy0];exact HD1.out.row.cell (by omega)
  rw [hy0]
  obtain ⟨s1,hs1⟩:∃ s1:Int,(ce:Int) + 1 = s1:=⟨_,rfl⟩
  have n1:IntKind.i64.wrap ((ce:Int) + 1) = s1:=by rw [hs1];exact IntWalk.i64_in _ (by omega)
  have n2:IntKind.i64.wrap (s1 + (ds.length:Int)) = (T:Int):=by rw [IntWalk.i64_in _ (by omega)];omega
  have hTl:(T:Int) < (ws.length:Int):=by omega
  have b1:(a == 1) = false:=beq_false_of_ne (by omega)
  have b2:(a == 2) = false:=beq_false_of_ne (by omega)
  have n3:decide ((ds.length:Int) < len) = true:=decide_eq_true hr
  clear hr ha
  obtain ⟨i0,hi0,hz0,hz1,hz2⟩:=info_parts Tryz.infoW
  clear hy0 hT hs1 hrow hby0 hD1 hO hz h hp
  have HSZ:=Lib.hid hsz
  clear hsz

  go_enter Tryz.func59,Tryz.ntmps59
  go_wp2_with (rw [← HW1.out])
  refine wp_region_held_drew (S:=(fun W' => W'.cell? ⟨vb,10,none⟩ = some (.slice A ds.length cp) ∧ W'.cell? ⟨vb,12,none⟩ = some (.int .i64 len))) (by kernel_rfl) (by exact ⟨x10,x12⟩) (fun hHeld => ?_)
  refine wpAnyH_take (i:=0) rfl (by kernel_rfl) (by kernel_rfl) (by kernel_rfl) (fun _ _ _ h => h) (Or.inl ⟨by rfl,by intro w hSw;(have z0:=hSw.1;have z1:=hSw.2;clear hSw);(go_simp <;> with_reducible rfl)⟩) (by assumption) ?_
  (try simp only [Act.put,List.setIfInBounds_toArray,List.set_cons_zero,List.set_cons_succ,List.getElem_toArray,List.getElem_cons_zero,List.getElem_cons_succ])
  refine wpAnyH_take (i:=1) rfl (by kernel_rfl) (by kernel_rfl) (by kernel_rfl) (fun _ _ _ h => h) (Or.inl ⟨by rfl,by intro w hSw;(have z0:=hSw.1;have z1:=hSw.2;clear hSw);(go_simp <;> with_reducible rfl)⟩) (by assumption) ?_
  (try simp only [Act.put,List.setIfInBounds_toArray,List.set_cons_zero,List.set_cons_succ,List.getElem_toArray,List.getElem_cons_zero,List.getElem_cons_succ])
  refine wpAnyH_take (i:=2) rfl (by kernel_rfl) (by kernel_rfl) (by kernel_rfl) (fun _ _ _ h => h) (Or.inl ⟨by rfl,by intro w hSw;(have z0:=hSw.1;have z1:=hSw.2;clear hSw);(go_simp <;> with_reducible rfl)⟩) (by assumption) ?_
  (try simp only [Act.put,List.setIfInBounds_toArray,List.set_cons_zero,List.set_cons_succ,List.getElem_toArray,List.getElem_cons_zero,List.getElem_cons_succ])
  refine wpAnyH_take (i:=3) rfl (by kernel_rfl) (by kernel_rfl) (by kernel_rfl) (fun _ _ _ h => h) (Or.inl ⟨by rfl,by intro w hSw;(have z0:=hSw.1;have z1:=hSw.2;clear hSw);(go_simp <;> with_reducible rfl)⟩) (by assumption) ?_
  (try simp only [Act.put,List.setIfInBounds_toArray,List.set_cons_zero,List.set_cons_succ,List.getElem_toArray,List.getElem_cons_zero,List.getElem_cons_succ])
  refine wpAnyH_take (i:=4) rfl (by kernel_rfl) (by kernel_rfl) (by kernel_rfl) (fun _ _ _ h => h) (Or.inl ⟨by rfl,by intro w hSw;(have z0:=hSw.1;have z1:=hSw.2;clear hSw);(go_simp <;> with_reducible rfl)⟩) (by assumption) ?_
  (try simp only [Act.put,List.setIfInBounds_toArray,List.set_cons_zero,List.set_cons_succ,List.getElem_toArray,List.getElem_cons_zero,List.getElem_cons_succ])
  refine wpAnyH_take (i:=5) rfl (by kernel_rfl) (by kernel_rfl) (by kernel_rfl) (fun _ _ _ h => h) (Or.inl ⟨by rfl,by intro w hSw;(have z0:=hSw.1;have z1:=hSw.2;clear hSw);(go_simp <;> with_reducible rfl)⟩) (by assumption) ?_
  (try simp only [Act.put,List.setIfInBounds_toArray,List.set_cons_zero,List.set_cons_succ,List.getElem_toArray,List.getElem_cons_zero,List.getElem_cons_succ])
  refine wpAnyH_take (i:=6) rfl (by kernel_rfl) (by kernel_rfl) (by kernel_rfl) (fun _ _ _ h => h) (Or.inl ⟨by rfl,by intro w hSw;(have z0:=hSw.1;have z1:=hSw.2;clear hSw);(go_simp <;> with_reducible rfl)⟩) (by assumption) ?_
  (try simp only [Act.put,List.setIfInBounds_toArray,List.set_cons_zero,List.set_cons_succ,List.getElem_toArray,List.getElem_cons_zero,List.getElem_cons_succ])
  refine wpAnyH_take (i:=7) rfl (by kernel_rfl) (by kernel_rfl) (by kernel_rfl) (fun _ _ _ h => h) (Or.inl ⟨by rfl,by intro w hSw;(have z0:=hSw.1;have z1:=hSw.2;clear hSw);(go_simp <;> with_reducible rfl)⟩) (by assumption) ?_
  (try simp only [Act.put,List.setIfInBounds_toArray,List.set_cons_zero,List.set_cons_succ,List.getElem_toArray,List.getElem_cons_zero,List.getElem_cons_succ])
  refine wpAnyH_take (i:=8) rfl (by kernel_rfl) (by kernel_rfl) (by kernel_rfl) (fun _ _ _ h => h) (Or.inl ⟨by rfl,by intro w hSw;(have z0:=hSw.1;have z1:=hSw.2;clear hSw);(go_simp <;> with_reducible rfl)⟩) (by assumption) ?_
  (try simp only [Act.put,List.setIfInBounds_toArray,List.set_cons_zero,List.set_cons_succ,List.getElem_toArray,List.getElem_cons_zero,List.getElem_cons_succ])
  refine wpAnyH_take (i:=9) rfl (by kernel_rfl) (by kernel_rfl) (by kernel_rfl) (fun _ _ _ h => h) (Or.inl ⟨by rfl,by intro w hSw;(have z0:=hSw.1;have z1:=hSw.2;clear hSw);(go_simp <;> with_reducible rfl)⟩) (by assumption) ?_
  (try simp only [Act.put,List.setIfInBounds_toArray,List.set_cons_zero,List.set_cons_succ,List.getElem_toArray,List.getElem_cons_zero,List.getElem_cons_succ])
  refine wpAnyH_take (i:=10) rfl (by kernel_rfl) (by kernel_rfl) (by kernel_rfl) (fun _ _ _ h => h) (Or.inl ⟨by rfl,by intro w hSw;(have z0:=hSw.1;have z1:=hSw.2;clear hSw);(go_simp <;> with_reducible rfl)⟩) (by assumption) ?_
  (try simp only [Act.put,List.setIfInBounds_toArray,List.set_cons_zero,List.set_cons_succ,List.getElem_toArray,List.getElem_cons_zero,List.getElem_cons_succ])
  refine wpAnyH_done (by kernel_rfl) ?_ _
  clear hHeld
  go_wp2
  refine wp_region_till (fun W' => W'.cell? ⟨vb,10,none⟩ = some (.slice A ds.length cp) ∧ W'.cell? ⟨gb,2,none⟩ = some (.int .i64 (ce:Int)) ∧ W'.cell? ⟨yb,T,none⟩ = some (.int .u32 y)) 22 (by kernel_rfl) (by exact ⟨x10,p2,yc⟩) (fun hHeld => ?_)
  refine till_take (i:=0) rfl (by kernel_rfl) (by kernel_rfl) (by kernel_rfl) (fun _ _ _ h => h) (by kernel_rfl) (Or.inl ⟨by rfl,by intro w _;(go_simp <;> with_reducible rfl)⟩) (by assumption) ?_
  (try simp only [Act.put,List.setIfInBounds_toArray,List.set_cons_zero,List.set_cons_succ,List.getElem_toArray,List.getElem_cons_zero,List.getElem_cons_succ])
  refine till_take (i:=1) rfl (by kernel_rfl) (by kernel_rfl) (by kernel_rfl) (fun _ _ _ h => h) (by kernel_rfl) (Or.inl ⟨by rfl,by intro w _;(go_simp <;> with_reducible rfl)⟩) (by assumption) ?_
  (try simp only [Act.put,List.setIfInBounds_toArray,List.set_cons_zero,List.set_cons_succ,List.getElem_toArray,List.getElem_cons_zero,List.getElem_cons_succ])
  refine till_take (i:=2) rfl (by kernel_rfl) (by kernel_rfl) (by kernel_rfl) (fun _ _ _ h => h) (by kernel_rfl) (Or.inl ⟨by rfl,by intro w _;(go_simp <;> with_reducible rfl)⟩) (by assumption) ?_
  (try simp only [Act.put,List.setIfInBounds_toArray,List.set_cons_zero,List.set_cons_succ,List.getElem_toArray,List.getElem_cons_zero,List.getElem_cons_succ])
  refine till_take (i:=3) rfl (by kernel_rfl) (by kernel_rfl) (by kernel_rfl) (fun _ _ _ h => h) (by kernel_rfl) (Or.inl ⟨by rfl,by intro w _;(go_simp <;> with_reducible rfl)⟩) (by assumption) ?_
  (try simp only [Act.put,List.setIfInBounds_toArray,List.set_cons_zero,List.set_cons_succ,List.getElem_toArray,List.getElem_cons_zero,List.getElem_cons_succ])
  refine till_load (i:=4) rfl (by kernel_rfl) (by kernel_rfl) (by kernel_rfl) (fun _ _ _ h => h) (by kernel_rfl) (by kernel_rfl) (by kernel_rfl) (Or.inl ⟨by rfl,by intro w hSw;(have z0:=hSw.1;have z1:=hSw.2.1;have z2:=hSw.2.2);(go_simp <;> with_reducible rfl)⟩) (by assumption) ?_
  (try simp only [Act.put,List.setIfInBounds_toArray,List.set_cons_zero,List.set_cons_succ,List.getElem_toArray,List.getElem_cons_zero,List.getElem_cons_succ])
  refine till_take (i:=5) rfl (by kernel_rfl) (by kernel_rfl) (by kernel_rfl) (fun _ _ _ h => h) (by kernel_rfl) (Or.inl ⟨by rfl,by intro w _;(go_simp <;> with_reducible rfl)⟩) (by assumption) ?_
  (try simp only [Act.put,List.setIfInBounds_toArray,List.set_cons_zero,List.set_cons_succ,List.getElem_toArray,List.getElem_cons_zero,List.getElem_cons_succ])
  refine till_take (i:=6) rfl (by kernel_rfl) (by kernel_rfl) (by kernel_rfl) (fun _ _ _ h => h) (by kernel_rfl) (Or.inl ⟨by rfl,by intro w _;(go_simp <;> with_reducible rfl)⟩) (by assumption) ?_
  (try simp only [Act.put,List.setIfInBounds_toArray,List.set_cons_zero,List.set_cons_succ,List.getElem_toArray,List.getElem_cons_zero,List.getElem_cons_succ])
  refine till_take (i:=7) rfl (by kernel_rfl) (by kernel_rfl) (by kernel_rfl) (fun _ _ _ h => h) (by kernel_rfl) (Or.inl ⟨by rfl,by intro w _;(go_simp <;> with_reducible rfl)⟩) (by assumption) ?_
  (try simp only [Act.put,List.setIfInBounds_toArray,List.set_cons_zero,List.set_cons_succ,List.getElem_toArray,List.getElem_cons_zero,List.getElem_cons_succ])
  refine till_load (i:=8) rfl (by kernel_rfl) (by kernel_rfl) (by kernel_rfl) (fun _ _ _ h => h) (by kernel_rfl) (by kernel_rfl) (by kernel_rfl) (Or.inl ⟨by rfl,by intro w hSw;(have z0:=hSw.1;have z1:=hSw.2.1;have z2:=hSw.2.2);(go_simp <;> with_reducible rfl)⟩) (by assumption) ?_
  (try simp only [Act.put,List.setIfInBounds_toArray,List.set_cons_zero,List.set_cons_succ,List.getElem_toArray,List.getElem_cons_zero,List.getElem_cons_succ])
  refine till_take (i:=9) rfl (by kernel_rfl) (by kernel_rfl) (by kernel_rfl) (fun _ _ _ h => h) (by kernel_rfl) (Or.inl ⟨by rfl,by intro w _;(go_simp <;> with_reducible rfl)⟩) (by assumption) ?_
  (try simp only [Act.put,List.setIfInBounds_toArray,List.set_cons_zero,List.set_cons_succ,List.getElem_toArray,List.getElem_cons_zero,List.getElem_cons_succ])
  refine till_take (i:=10) rfl (by kernel_rfl) (by kernel_rfl) (by kernel_rfl) (fun _ _ _ h => h) (by kernel_rfl) (Or.inl ⟨by rfl,by intro w _;(go_simp <;> with_reducible rfl)⟩) (by assumption) ?_
  (try simp only [Act.put,List.setIfInBounds_toArray,List.set_cons_zero,List.set_cons_succ,List.getElem_toArray,List.getElem_cons_zero,List.getElem_cons_succ])
  refine till_take (i:=11) rfl (by kernel_rfl) (by kernel_rfl) (by kernel_rfl) (fun _ _ _ h => h) (by kernel_rfl) (Or.inl ⟨by rfl,by intro w _;(go_simp <;> with_reducible rfl)⟩) (by assumption) ?_
  (try simp only [Act.put,List.setIfInBounds_toArray,List.set_cons_zero,List.set_cons_succ,List.getElem_toArray,List.getElem_cons_zero,List.getElem_cons_succ])
  refine till_take (i:=12) rfl (by kernel_rfl) (by kernel_rfl) (by kernel_rfl) (fun _ _ _ h => h) (by kernel_rfl) (Or.inl ⟨by rfl,by intro w _;(go_simp <;> with_reducible rfl)⟩) (by assumption) ?_
  (try simp only [Act.put,List.setIfInBounds_toArray,List.set_cons_zero,List.set_cons_succ,List.getElem_toArray,List.getElem_cons_zero,List.getElem_cons_succ])
  refine till_load (i:=13) rfl (by kernel_rfl) (by kernel_rfl) (by kernel_rfl) (fun _ _ _ h => h) (by kernel_rfl) (by kernel_rfl) (by kernel_rfl) (Or.inl ⟨by rfl,by intro w hSw;(have z0:=hSw.1;have z1:=hSw.2.1;have z2:=hSw.2.2);(go_simp <;> with_reducible rfl)⟩) (by assumption) ?_
  (try simp only [Act.put,List.setIfInBounds_toArray,List.set_cons_zero,List.set_cons_succ,List.getElem_toArray,List.getElem_cons_zero,List.getElem_cons_succ])
  refine till_take (i:=14) rfl (by kernel_rfl) (by kernel_rfl) (by kernel_rfl) (fun _ _ _ h => h) (by kernel_rfl) (Or.inl ⟨by rfl,by intro w _;(go_simp <;> with_reducible rfl)⟩) (by assumption) ?_
  (try simp only [Act.put,List.setIfInBounds_toArray,List.set_cons_zero,List.set_cons_succ,List.getElem_toArray,List.getElem_cons_zero,List.getElem_cons_succ])
  refine till_take (i:=15) rfl (by kernel_rfl) (by kernel_rfl) (by kernel_rfl) (fun _ _ _ h => h) (by kernel_rfl) (Or.inl ⟨by rfl,by intro w _;(go_simp <;> with_reducible rfl)⟩) (by assumption) ?_
  (try simp only [Act.put,List.setIfInBounds_toArray,List.set_cons_zero,List.set_cons_succ,List.getElem_toArray,List.getElem_cons_zero,List.getElem_cons_succ])
  refine till_take (i:=16) rfl (by kernel_rfl) (by kernel_rfl) (by kernel_rfl) (fun _ _ _ h => h) (by kernel_rfl) (Or.inl ⟨by rfl,by intro w _;(go_simp <;> with_reducible rfl)⟩) (by assumption) ?_
  (try simp only [Act.put,List.setIfInBounds_toArray,List.set_cons_zero,List.set_cons_succ,List.getElem_toArray,List.getElem_cons_zero,List.getElem_cons_succ])
  refine till_load (i:=17) rfl (by kernel_rfl) (by kernel_rfl) (by kernel_rfl) (fun _ _ _ h => h) (by kernel_rfl) (by kernel_rfl) (by kernel_rfl) (Or.inl ⟨by rfl,by intro w hSw;(have z0:=hSw.1;have z1:=hSw.2.1;have z2:=hSw.2.2);(go_simp <;> with_reducible rfl)⟩) (by assumption) ?_
  (try simp only [Act.put,List.setIfInBounds_toArray,List.set_cons_zero,List.set_cons_succ,List.getElem_toArray,List.getElem_cons_zero,List.getElem_cons_succ])
  refine till_one (i:=18) (by kernel_rfl) rfl (fun K hK => ?_)
  go_simp
  obtain ⟨w5,hw5⟩:∃ u,Hid (u = ((W1.alloc (.cells #[.int .u32 y] 34)).drew).drew):=⟨_,rfl⟩
  rw [← hw5.out]
  have hl5:Below W1.heap.size W1 w5:=by rw [hw5.out];exact ((Below.refl W1.heap.size W1).alloc (Nat.le_refl _) _).drew.drew
  have hE5:w5.heap[W1.heap.size]? = some (.cells #[.int .u32 y] 34 (0,0)):=by rw [hw5.out];exact heap_alloc_new W1 _
  obtain ⟨g5,hg5⟩:∃ b,b = W1.heap.size:=⟨_,rfl⟩
  rw [← hg5] at hE5
  have HG5:=Lib.hid hg5
  (try simp only [← HG5.out])
  have HL5:=Lib.hid hl5
  have HD5:=Lib.hid (HD1.out.below hl5)
  have HR5:=Lib.hid (HR1.out.kept (Only.of_below (S:=fun _ => False) hl5) (fun _ _ h => h))
  have q10:w5.cell? ⟨vb,10,none⟩ = some (.slice A ds.length cp):=cell_blk HD5.out.blk rfl
  have q2:w5.cell? ⟨gb,2,none⟩ = some (.int .i64 (ce:Int)):=cell_of_blk p2 (hl5.block gb (World.block_lt_of_cell? _ _ p2))
  have qy:w5.cell? ⟨yb,T,none⟩ = some (.int .u32 y):=cell_of_blk yc (hl5.block yb (World.block_lt_of_cell? _ _ yc))
  clear hl5 hg5
  refine hK.out _ _ (by exact ⟨q10,q2,qy⟩) (fun hHeld => ?_)
  clear hK K
  (try simp only [Act.put,List.setIfInBounds_toArray,List.set_cons_zero,List.set_cons_succ,List.getElem_toArray,List.getElem_cons_zero,List.getElem_cons_succ])
  refine till_one (i:=19) (by kernel_rfl) rfl (fun K hK => ?_)
  refine step_append_off rfl _ _ 30 rfl 0 34 i0 (.int .u32 0) 1 4 Tryz.underlying30 hi0 hz0 hz1 hz2 rfl (by decide) _ ds.length (wcells ds) rfl HR5.out ⟨g5,0,none⟩ 1 1 [.int .u32 y] rfl rfl (news_block hE5) (by intro u hu;simp at hu;subst hu;rfl) (by unfold maxLen;omega) (by omega) (Nat.zero_le _) ?_
  intro v' w6 hown' hgr hfr
  have HO6:=Lib.hid (Only.of_grown hgr)
  have HOW:=Lib.hid hown';have HFR:=Lib.hid hfr
  obtain ⟨a',cp',rfl,-,-⟩:=hown'.slice
  have HD6:=Lib.hid (HD5.out.only HO6.out ⟨fun e => by obtain ⟨cs,hc⟩:=HR5.out.typed vb e.symm;have q:=HD5.out.blk;rw [hc] at q;injection q with q3;injection q3 with q4 q5;exact absurd q5 (by decide),fun e => hby.out e.symm,fun e => by obtain ⟨cs,hc⟩:=HR5.out.typed zb e.symm;have q:w5.heap[zb]? = some (.cells _ _ _):=HD5.out.bel;rw [hc] at q;injection q with q3;injection q3 with q4 q5;exact absurd q5 (by decide)⟩)
  have q10':w6.cell? ⟨vb,10,none⟩ = some (.slice A ds.length cp):=cell_blk HD6.out.blk rfl
  have f10':=blk_frozen 10 HD6.out.blk
  have q2':w6.cell? ⟨gb,2,none⟩ = some (.int .i64 (ce:Int)):=cell_of_blk q2 (HO6.out.block gb (World.block_lt_of_cell? _ _ q2) (fun e => by obtain ⟨cs,hc⟩:=HR5.out.typed gb e.symm;have q:=(HL5.out.block gb (World.block_lt_of_cell? _ _ p2)).trans HP1.out;rw [hc] at q;injection q with q3;injection q3 with q4 q5;exact absurd q5 (by decide)))
  have qy':w6.cell? ⟨yb,T,none⟩ = some (.int .u32 y):=cell_of_blk qy (HO6.out.block yb (World.block_lt_of_cell? _ _ qy) (fun e => hby.out e.symm))
  clear hown' hgr hfr hE5 q10 q2 qy
  refine hK.out _ _ (by exact ⟨q10',q2',qy'⟩) (fun hHeld => ?_)
  clear hK K
  (try simp only [Act.put,List.setIfInBounds_toArray,List.set_cons_zero,List.set_cons_succ,List.getElem_toArray,List.getElem_cons_zero,List.getElem_cons_succ])
  refine till_take (i:=20) rfl (by kernel_rfl) (by kernel_rfl) (by kernel_rfl) (fun _ _ _ h => h) (by kernel_rfl) (Or.inl ⟨by rfl,by intro w _;(go_simp <;> with_reducible rfl)⟩) (by assumption) ?_
  (try simp only [Act.put,List.setIfInBounds_toArray,List.set_cons_zero,List.set_cons_succ,List.getElem_toArray,List.getElem_cons_zero,List.getElem_cons_succ])
  refine till_take (i:=21) rfl (by kernel_rfl) (by kernel_rfl) (by kernel_rfl) (fun _ _ _ h => h) (by kernel_rfl) (Or.inl ⟨by rfl,by intro w _;(go_simp <;> with_reducible rfl)⟩) (by assumption) ?_
  (try simp only [Act.put,List.setIfInBounds_toArray,List.set_cons_zero,List.set_cons_succ,List.getElem_toArray,List.getElem_cons_zero,List.getElem_cons_succ])
  clear hHeld
  refine till_last (by kernel_rfl) rfl (fun K hK => ?_)
  go_simp
  refine hK.out _ _ ?_
  clear hK K
  (try simp only [Act.put,List.setIfInBounds_toArray,List.set_cons_zero,List.set_cons_succ,List.getElem_toArray,List.getElem_cons_zero,List.getElem_cons_succ])
  refine till_done (by kernel_rfl) ?_ _
  obtain ⟨X,HX⟩:∃ u,Hid (u = w6.setCell ⟨vb,10,none⟩ (.slice a' (ds.length + 1) cp')):=⟨_,rfl⟩
  rw [← HX.out]
  have HDX:=Lib.hid (by have q:=HD6.out.put (o:=10) (v:=.slice a' (ds.length + 1) cp') (op':=op) (own':=own) (src':=src) (dv':=(.slice a' (ds.length + 1) cp')) (a':=a) (len':=len) rfl;rw [← HX.out] at q;exact q)
  have hwl:w.heap.size < W1.heap.size:=(Array.getElem?_eq_some_iff.1 HZ1.out).1
  have HZX:Hid (X.heap[w.heap.size]? = some (.cells #[.bool false,.int .i64 0,.slice none 0 0,.bool false,.int .i64 0,.bool false,.bool false,.bool false,.int .i64 0] 56 (0,0))):=Lib.hid (by
    rw [HX.out]
    refine (Below.heap_setCell _ _ _ _ (by show w.heap.size ≠ vb;omega)).trans ?_
    refine HO6.out.at_ ((HL5.out.block w.heap.size hwl).trans HZ1.out) (fun e => ?_)
    have:=(HR0.out.lt w.heap.size e.symm).2
    omega)
  clear q10' f10' q2' qy'
  have hth:=there_at (W:=X) HZX.out (n:=(qdV false (0) (.slice none 0 0) (0) false false:Array Value).size) rfl
  have hsd:(Tryz.prog.info? 56).map (·.size) = some (qdV false (0) (.slice none 0 0) (0) false false:Array Value).size:=did_size
  go_wp2_with (first | (rw [← HX.out]) | (with_reducible refine wpList_store_mid (by kernel_rfl) _ _ _ rfl w.heap.size 0 (qdV false (0) (.slice none 0 0) (0) false false) (by kernel_rfl) (by kernel_rfl) hth hsd (by kernel_rfl) ?_))
  have hrg:=World.rangeAt_setCells_same (X) w.heap.size 0 [.bool false,.int .i64 (0),.slice none 0 0,.bool false,.int .i64 (0),.bool false,.bool false,.bool false,.int .i64 0] (there_at (cs:=#[.bool false,.int .i64 0,.slice none 0 0,.bool false,.int .i64 0,.bool false,.bool false,.bool false,.int .i64 0]) (n:=9) (show (X).heap[w.heap.size]? = _ from HZX.out) rfl)
  (try simp only [Exit.inBlock,Exit.then])
  refine bodyPost_ret (results_cell_row rfl _ _ w.heap.size [.bool false,.int .i64 (0),.slice none 0 0,.bool false,.int .i64 (0),.bool false,.bool false,.bool false,.int .i64 0] _ rfl hrg Tryz.underlying56 rfl did_size) rfl ?_
  skip
  have hs:=Only.sets (S:=fun j => j = w.heap.size) rfl [.bool false,.int .i64 (0),.slice none 0 0,.bool false,.int .i64 (0),.bool false,.bool false,.bool false,.int .i64 0] 0 (Only.refl _ X)
  have hs5:=HL5.out.size
  have hvx:Only (fun j => j = vb) w6 X:=by rw [HX.out];exact Only.setCell w6 ⟨vb,10,none⟩ _
  have hlo:∀ g,Value.ownBlock (.slice A ds.length cp) = some g → g < w.heap.size:=fun g hg => (HR0.out.lt g hg).2
  have hwc:wcells (ds ++ [y]) = wcells ds ++ [.int .u32 y]:=by unfold wcells;simp
  have k1:∀ g,Value.ownBlock (.slice a' (ds.length + 1) cp') = some g → ¬ g = vb:=fun g hg e => by
    subst e
    obtain ⟨cs,hc⟩:=HOW.out.typed _ hg
    have q:=HD6.out.blk
    rw [hc] at q;injection q with q3;injection q3 with q4 q5;exact absurd q5 (by decide)
  have k2:∀ g,Value.ownBlock (.slice a' (ds.length + 1) cp') = some g → ¬ g = w.heap.size:=fun g hg e => by
    rcases HFR.out g hg with h | h
    · have:=hlo g h;omega
    · omega
  refine ⟨_,rfl,HDX.out.only hs ⟨by omega,by omega,by omega⟩,(by rw [hwc];exact (HOW.out.kept hvx k1).kept hs k2),fun g hg => (HFR.out g hg).imp id (fun h => by omega),?_⟩
  · exact (((((HO0.out.mono (T:=New w.heap.size fun j => j = vb ∨ Value.ownBlock (.slice A ds.length cp) = some j) fun _ _ h => h.elim).trans (Only.of_below (S:=New w.heap.size fun j => j = vb ∨ Value.ownBlock (.slice A ds.length cp) = some j) HL5.out)).trans (HO6.out.mono fun k _ e => .inr (.inr e.symm))).trans (hvx.mono fun k _ e => .inr (.inl e))).trans (hs.mono fun k _ e => .inl (Nat.le_of_eq e.symm))).old
end
end Go.Proofs.YtmhpcgcloojfbaaGreat
end
section
namespace Go.Proofs.YtmhpcgcloojfbaaGreat
open Go.RowKit Go.Sort
set_option linter.unusedVariables false
set_option linter.unusedSimpArgs false
set_option linter.unusedVariables false
set_option linter.unusedSimpArgs false
open Go.Proofs.YtmhpcgcloojfbaaGreat.Simp
set_option maxRecDepth 100000
set_option maxHeartbeats 12800000
section
variable {w:World} {vb yb zb:Nat} {c:Cfg} {x:CfgAt} {k:Nat} {op:Int} {src:Bool} {len:Int} {ws:List Int} {bs:List Bool} {F:Qr} {gb db dof dc cp:Nat} {A:Option Addr}
theorem dsend_b (s:QS) (h:DAt w vb yb zb c x k (op) (s.own) (src) ((.slice (some ⟨db,dof,none⟩) s.data.length dc)) (s.no + 1) (len) (ws) (bs)) (hp:w.heap[gb]? = some (.cells #[.int .i64 (F.src:Int),.int .i64 (F.dst:Int),.int .i64 (cellQ F s.own:Int),.int .i64 (F.d:Int)] 3 (0,0))) (hdat:∃ cs mm,w.heap[db]? = some (.cells cs 34 mm) ∧ ∀ j,j < s.data.length → cs[dof + j]? = some (.int .u32 (s.data.getD j 0))) (hF:QIn F ws.length) (hn:s.data.length ≤ F.n) (hk:k ≤ 8) (hbk:2 * k + 1 < bs.length) (hno:0 ≤ s.no ∧ s.no ≤ 100) (hby:db ≠ yb):Calls Tryz.prog 58 #[.pointer (some ⟨vb,0,none⟩),.slice (some ⟨yb,0,none⟩) ws.length ws.length,.slice (some ⟨zb,0,none⟩) bs.length bs.length,.slice (some ⟨gb,0,none⟩) 4 4] w (DGives w vb yb zb c x k op (qsend F s ws).1.own src (.slice (some ⟨db,dof,none⟩) s.data.length dc) (qsend F s ws).1.no len (qsend F s ws).2.1 (ringB12 (qsend F s ws).2.2.ring (2 * k + 1) bs) (qdOf (qsend F s ws).2.2 (.slice none 0 0))):=by
  have hin:=hF.inn
  have hlo:=hF.low
  have hmx:=hF.max
  have hce:=hF.cell s.own
  by_cases z0:s.no = 0
  · rw [z0] at h
    by_cases hr:(F.d:Int) ≤ (s.own - rd ws F.dst) % 4294967296
    · rw [qs0f z0 hr]
      exact dsend_full h hp hdat hmx (by omega) (by omega) (by omega) hr
    · rw [qs0 z0 hr]
      exact dsend_room h hp hdat hmx (by omega) (by omega) (by omega) hr
  by_cases z1:s.no = 1
  · rw [z1] at h
    rw [qs1 z1]
    exact dsend_len h hp hdat hmx (by omega) (by omega)
  by_cases z2:s.no < 2 + (s.data.length:Int)
  · obtain ⟨j,hj⟩:∃ j:Nat,s.no = 2 + (j:Int):=⟨(s.no - 2).toNat,by omega⟩
    rw [qs2 hj (by omega)]
    have q:=dsend_word h hp hdat hmx (by omega) j (by omega) (by omega) (by omega) hby
    rw [show s.no + 1 = 3 + (j:Int) by omega] at q
    exact q
  by_cases z3:s.no = 2 + (s.data.length:Int)
  · rw [qs3 z3]
    have q:=dsend_tail h hp hdat hmx (by omega) (by omega) (by omega)
    rw [show s.no + 1 = 3 + (s.data.length:Int) by omega] at q
    exact q
  · have e:qsend F s ws = ({ s with no:=-1 },ws,{ qd0 with done:=true,ring:=true }):=by
      unfold qsend;rw [if_neg (by omega),if_neg z0,if_neg z1,if_neg z2,if_neg z3]
    rw [e]
    exact dsend_ring h hp hdat hmx (by omega) (by omega) (by omega) hbk
theorem drecv_b (s:QS) (h:DAt w vb yb zb c x k (op) (s.own) (src) ((.slice A s.data.length cp)) (s.no + 1) (s.len) (ws) (bs)) (hp:w.heap[gb]? = some (.cells #[.int .i64 (F.src:Int),.int .i64 (F.dst:Int),.int .i64 (cellQ F s.own:Int),.int .i64 (F.n:Int)] 3 (0,0))) (hrow:OwnsOff w 0 34 1 (.slice A s.data.length cp) s.data.length (wcells s.data)) (hby0:Value.ownBlock (.slice A s.data.length cp) ≠ some yb) (hF:QIn F ws.length) (h32:W32 ws) (hno:0 ≤ s.no ∧ s.no ≤ 100) (hdl:s.data.length ≤ F.n) (hln:s.len ≤ F.n):Calls Tryz.prog 59 #[.pointer (some ⟨vb,0,none⟩),.slice (some ⟨yb,0,none⟩) ws.length ws.length,.slice (some ⟨gb,0,none⟩) 4 4] w fun e w' => ∃ A' cp',e = .returned (.agg (qdOf (qrecv F s ws).2.2 (if (qrecv F s ws).2.2.done = true ∧ (qrecv F s ws).2.2.code = 0 then .slice A' s.data.length cp' else .slice none 0 0))) ∧ (DAt w' vb yb zb c x k op (qrecv F s ws).1.own src (.slice A' (qrecv F s ws).1.data.length cp') (qrecv F s ws).1.no (qrecv F s ws).1.len (qrecv F s ws).2.1 bs) ∧ OwnsOff w' 0 34 1 (.slice A' (qrecv F s ws).1.data.length cp') (qrecv F s ws).1.data.length (wcells (qrecv F s ws).1.data) ∧ (∀ g,Value.ownBlock (.slice A' (qrecv F s ws).1.data.length cp') = some g → Value.ownBlock (.slice A s.data.length cp) = some g ∨ w.heap.size ≤ g) ∧ Only (fun j => j = vb ∨ j = yb ∨ j = zb ∨ Value.ownBlock (.slice A s.data.length cp) = some j) w w':=by
  have hin:=hF.inn
  have hlo:=hF.low
  have hmx:=hF.max
  have hce:=hF.cell s.own
  have hlt:=h.lt
  have keep:∀ {w':World},Only (fun j => j = vb ∨ j = yb ∨ j = zb) w w' → OwnsOff w' 0 34 1 (.slice A s.data.length cp) s.data.length (wcells s.data):=fun ho => hrow.kept ho (fun g hg e => by
    obtain ⟨cs,hc⟩:=hrow.typed g hg
    rcases e with rfl | rfl | rfl
    · have q:=h.blk;rw [hc] at q;injection q with q3;injection q3 with q4 q5;exact absurd q5 (by decide)
    · exact hby0 hg
    · have q:w.heap[g]? = some (.cells _ _ _):=h.bel;rw [hc] at q;injection q with q3;injection q3 with q4 q5;exact absurd q5 (by decide))
  have o4:∀ {w':World},Only (fun j => j = vb ∨ j = yb ∨ j = zb) w w' → Only (fun j => j = vb ∨ j = yb ∨ j = zb ∨ Value.ownBlock (.slice A s.data.length cp) = some j) w w':=fun ho => ho.mono fun j _ e => by rcases e with e | e | e;exact .inl e;exact .inr (.inl e);exact .inr (.inr (.inl e))
  by_cases z0:s.no = 0
  · rw [z0] at h
    by_cases hr:rd ws F.src = s.own
    · rw [qr0f z0 hr]
      refine (drecv_none h hp hmx (by omega) (by omega) hr).mono ?_
      rintro e w' ⟨rfl,hd,ho⟩
      exact ⟨A,cp,rfl,hd,keep ho,fun g hg => .inl hg,o4 ho⟩
    · rw [qr0 z0 hr]
      refine (drecv_some h hp hmx (by omega) (by omega) hr).mono ?_
      rintro e w' ⟨rfl,hd,ho⟩
      exact ⟨A,cp,rfl,hd,keep ho,fun g hg => .inl hg,o4 ho⟩
  by_cases z1:s.no = 1
  · rw [z1] at h
    rw [qr1 z1]
    have h0:=(h32 (cellQ F s.own)).1
    by_cases hr:rd ws (cellQ F s.own) ≤ (F.n:Int)
    · rw [show lenQ F (rd ws (cellQ F s.own)) = rd ws (cellQ F s.own) from if_pos hr]
      refine (drecv_len h hp hmx (by omega) (by omega) (by omega) hr h0).mono ?_
      rintro e w' ⟨rfl,hd,ho⟩
      exact ⟨A,cp,rfl,hd,keep ho,fun g hg => .inl hg,o4 ho⟩
    · rw [show lenQ F (rd ws (cellQ F s.own)) = (F.n:Int) from if_neg hr]
      refine (drecv_most h hp hmx (by omega) (by omega) (by omega) hr).mono ?_
      rintro e w' ⟨rfl,hd,ho⟩
      exact ⟨A,cp,rfl,hd,keep ho,fun g hg => .inl hg,o4 ho⟩
  by_cases z2:(s.data.length:Int) < s.len
  · rw [qr2s (by omega) z2]
    refine (drecv_word h hp hmx (by omega) (by omega) z2 (by omega) hrow hby0).mono ?_
    rintro e w' ⟨dv',rfl,hd,hrow',hg,ho⟩
    obtain ⟨A',cp',rfl,-,-⟩:=hrow'.slice
    have hlen:(s.data ++ [rd ws (cellQ F s.own + 1 + s.data.length)]).length = s.data.length + 1:=by simp
    refine ⟨A',cp',rfl,?_,?_,?_,ho.mono fun j _ e => e.elim .inl (fun e => .inr (.inr (.inr e)))⟩
    · show DAt w' vb yb zb c x k op s.own src (.slice A' (s.data ++ [rd ws (cellQ F s.own + 1 + s.data.length)]).length cp') (s.no + 1) s.len ws bs
      rw [hlen];exact hd
    · show OwnsOff w' 0 34 1 (.slice A' (s.data ++ [rd ws (cellQ F s.own + 1 + s.data.length)]).length cp') (s.data ++ [rd ws (cellQ F s.own + 1 + s.data.length)]).length (wcells (s.data ++ [rd ws (cellQ F s.own + 1 + s.data.length)]))
      rw [hlen];exact hrow'
    · intro g hg2
      exact hg g (by simpa [Value.ownBlock] using hg2)
  · rw [qr3 (by omega) z2]
    refine (drecv_end h hp hmx (by omega) (by omega) z2 (by omega)).mono ?_
    rintro e w' ⟨rfl,hd,ho⟩
    exact ⟨A,cp,rfl,hd,keep ho,fun g hg => .inl hg,o4 ho⟩
end
end Go.Proofs.YtmhpcgcloojfbaaGreat
end
section
namespace Go.Proofs.YtmhpcgcloojfbaaGreat
open Go.RowKit Go.Sort
set_option linter.unusedVariables false
set_option linter.unusedSimpArgs false
set_option linter.unusedVariables false
set_option linter.unusedSimpArgs false
open Go.Proofs.YtmhpcgcloojfbaaGreat.Simp
set_option maxRecDepth 100000
set_option maxHeartbeats 12800000
theorem chan_size:(Tryz.prog.info? 36).map (·.size) = some 7:=by kernel_rfl
theorem blk_chan {X:World} {b:Nat} (h:X.heap[b]? = some (.cells #[.int .i64 0,.int .i64 0,.int .i64 0,.int .i64 0,.int .i64 0,.int .i64 0,.int .u32 0] 36 (0,0))) (cs:List Value) (hc:cs.length = 7):(X.setCells b 0 cs).heap[b]? = some (.cells cs.toArray 36 (0,0)):=by
  match cs,hc with
  | [c0,c1,c2,c3,c4,c5,c6],_ =>
    simp [World.setCells,World.setCell,Array.getElem?_modify,h,Addr.add]
section
variable {W w:World} {vb yb zb:Nat} {c:Cfg} {x:CfgAt} {k:Nat} {F:Qr} {src:Bool} {len:Int} {ws:List Int} {bs:List Bool} {db dof dc cp:Nat} {A:Option Addr}
theorem dzero_b {op own:Int} {dv:Value} {a:Int} (h:DAt w vb yb zb c x k (op) (own) (src) (dv) (a) (len) (ws) (bs)) (ha:a < 0):Calls Tryz.prog 26 #[.pointer (some ⟨vb,0,none⟩),.slice (some ⟨yb,0,none⟩) ws.length ws.length,.slice (some ⟨zb,0,none⟩) bs.length bs.length] w (DGives w vb yb zb c x k op own src dv a len ws bs (qdV false (0) (.slice none 0 0) (0) false false)):=by
  obtain ⟨W1,HW1,hsz,hO,hz⟩:=did_new w
  have hlt:=h.lt
  have hD1:=h.only hO ⟨fun h => h,fun h => h,fun h => h⟩
  have HDX:=Lib.hid hD1;have HOX:Hid (Only (New w.heap.size (fun j => j = vb ∨ j = yb ∨ j = zb)) w W1):=Lib.hid (hO.mono fun _ _ h => h.elim);have HZX:=Lib.hid hz
  have x11:W1.cell? ⟨vb,11,none⟩ = some (.int .i64 a):=cell_blk hD1.blk rfl
  have b0:decide (a < 0) = true:=decide_eq_true ha
  have hth:=there_at (W:=W1) HZX.out (n:=(qdV false (0) (.slice none 0 0) (0) false false:Array Value).size) rfl
  have hsd:(Tryz.prog.info? 56).map (·.size) = some (qdV false (0) (.slice none 0 0) (0) false false:Array Value).size:=did_size
  clear hD1 hO hz h
  go_enter Tryz.func26,Tryz.ntmps26
  go_wp2_with (first | (rw [← HW1.out]) | (with_reducible refine wpList_store_mid (by kernel_rfl) _ _ _ rfl w.heap.size 0 (qdV false (0) (.slice none 0 0) (0) false false) (by kernel_rfl) (by kernel_rfl) hth hsd (by kernel_rfl) ?_))
  have hrg:=World.rangeAt_setCells_same (W1) w.heap.size 0 [.bool false,.int .i64 (0),.slice none 0 0,.bool false,.int .i64 (0),.bool false,.bool false,.bool false,.int .i64 0] (there_at (cs:=#[.bool false,.int .i64 0,.slice none 0 0,.bool false,.int .i64 0,.bool false,.bool false,.bool false,.int .i64 0]) (n:=9) (show (W1).heap[w.heap.size]? = _ from HZX.out) rfl)
  (try simp only [Exit.inBlock,Exit.then])
  refine bodyPost_ret (results_cell_row rfl _ _ w.heap.size [.bool false,.int .i64 (0),.slice none 0 0,.bool false,.int .i64 (0),.bool false,.bool false,.bool false,.int .i64 0] _ rfl hrg Tryz.underlying56 rfl did_size) rfl ?_
  exact ⟨rfl,HDX.out.fin hlt HOX.out _⟩
theorem dstepS_b (s:QS) (h:DAt w vb yb zb c x k (5) (s.own) (src) ((.slice (some ⟨db,dof,none⟩) s.data.length dc)) (s.no) (len) (ws) (bs)) (hb:Below W.heap.size W w) (hlo:W.heap.size ≤ vb ∧ W.heap.size ≤ yb ∧ W.heap.size ≤ zb) (hx:CfgIn W W.heap.size c x) (wx:CfgWf c) (lx:CfgFew c) (hF:QrOf c k F) (hQ:QIn F ws.length) (hdat:∃ cs mm,w.heap[db]? = some (.cells cs 34 mm) ∧ ∀ j,j < s.data.length → cs[dof + j]? = some (.int .u32 (s.data.getD j 0))) (hn:s.data.length ≤ F.n) (hbk:2 * k + 1 < bs.length) (hno:s.no ≤ 99) (hby:db ≠ yb) (hw:WQ s) :
    Calls Tryz.prog 26 #[.pointer (some ⟨vb,0,none⟩),.slice (some ⟨yb,0,none⟩) ws.length ws.length,.slice (some ⟨zb,0,none⟩) bs.length bs.length] w (DGives w vb yb zb c x k 5 (qsend F s ws).1.own src (.slice (some ⟨db,dof,none⟩) s.data.length dc) (qsend F s ws).1.no len (qsend F s ws).2.1 (ringB12 (qsend F s ws).2.2.ring (2 * k + 1) bs) (qdOf (qsend F s ws).2.2 (.slice none 0 0))):=by
  by_cases hneg:s.no < 0
  · have e:qsend F s ws = (s,ws,qd0):=by unfold qsend;rw [if_pos hneg]
    rw [e]
    exact dzero_b h hneg
  have hcal:=fun (w4:World) (gb:Nat) (h4:DAt w4 vb yb zb c x k (5) (s.own) (src) ((.slice (some ⟨db,dof,none⟩) s.data.length dc)) (s.no + 1) (len) (ws) (bs)) (hp:w4.heap[gb]? = some (.cells #[.int .i64 (F.src:Int),.int .i64 (F.dst:Int),.int .i64 (cellQ F s.own:Int),.int .i64 (F.d:Int)] 3 (0,0))) (hd4:w4.heap[db]? = w.heap[db]?) => dsend_b s h4 hp (by obtain ⟨cs,mm,h1,h2⟩:=hdat;exact ⟨cs,mm,hd4.trans h1,h2⟩) hQ hn (by have:=hF.lk;have:=hF.chans;omega) hbk (by omega) hby
  have hdne:¬ (db = vb ∨ db = yb ∨ db = zb):=by
    obtain ⟨cs,mm,hc,-⟩:=hdat
    rintro (e | e | e)
    · rw [e] at hc;have q:=h.blk;rw [hc] at q;injection q with q3;injection q3 with q4 q5;exact absurd q5 (by decide)
    · exact hby e
    · rw [e] at hc;have q:w.heap[zb]? = some (.cells _ _ _):=h.bel;rw [hc] at q;injection q with q3;injection q3 with q4 q5;exact absurd q5 (by decide)
  have hdlt:db < w.heap.size:=by obtain ⟨cs,mm,hc,-⟩:=hdat;exact (Array.getElem?_eq_some_iff.1 hc).1
  obtain ⟨R,hR⟩:∃ R,qsend F s ws = R:=⟨_,rfl⟩
  rw [hR] at hcal ⊢
  obtain ⟨s',ws',d⟩:=R
  obtain ⟨dn,mk,rg,cd,dd⟩:=d
  obtain ⟨ds,a,own,sl⟩:=s
  have h0:0 ≤ own ∧ own ≤ 4294967295:=hw.2
  have ha:0 ≤ a ∧ a ≤ 1000:=by have q1:¬ a < 0:=hneg;have q2:a ≤ 99:=hno;omega
  have h:DAt w vb yb zb c x k (5) (own) (src) ((.slice (some ⟨db,dof,none⟩) ds.length dc)) (a) (len) (ws) (bs):=h
  have HCAL:=Lib.hid hcal;have HDNE:=Lib.hid hdne
  clear hcal hdne hR hdat hw hn hno hneg hQ hby
  obtain ⟨W1,HW1,hsz,hO,hz⟩:=did_new w
  have hlt:=h.lt
  have hD1:=h.only hO ⟨fun h => h,fun h => h,fun h => h⟩
  have HD1:=Lib.hid hD1;have HO1:Hid (Only (New w.heap.size (fun j => j = vb ∨ j = yb ∨ j = zb)) w W1):=Lib.hid (hO.mono fun _ _ h => h.elim);have HZ1:=Lib.hid hz
  have x11:W1.cell? ⟨vb,11,none⟩ = some (.int .i64 a):=cell_blk hD1.blk rfl
  have g11:=blk_frozen 11 hD1.blk
  have b0:decide (a < 0) = false:=decide_eq_false (by omega)
  obtain ⟨a1,ha1⟩:∃ a1,a + 1 = a1:=⟨_,rfl⟩
  have n0:IntKind.i64.wrap (a + 1) = a1:=by rw [ha1];exact IntWalk.i64_in _ (by omega)
  (try rw [ha1])
  obtain ⟨V1,HV1⟩:∃ u,Hid (u = W1.setCell ⟨vb,11,none⟩ (.int .i64 a1)):=⟨_,rfl⟩
  have HDV:=Lib.hid (by have q:=hD1.put (o:=11) (v:=.int .i64 a1) (op':=5) (own':=own) (src':=src) (dv':=(.slice (some ⟨db,dof,none⟩) ds.length dc)) (a':=a1) (len':=len) rfl;rw [← HV1.out] at q;exact q)
  have HOV:Hid (Only (New w.heap.size (fun j => j = vb ∨ j = yb ∨ j = zb)) w V1):=Lib.hid (by rw [HV1.out];exact HO1.out.set (p:=⟨vb,11,none⟩) (.inr (.inl rfl)) _)
  have HZV:Hid (V1.heap[w.heap.size]? = some (.cells #[.bool false,.int .i64 0,.slice none 0 0,.bool false,.int .i64 0,.bool false,.bool false,.bool false,.int .i64 0] 56 (0,0))):=Lib.hid (by rw [HV1.out];exact (Below.heap_setCell _ _ _ _ (by show w.heap.size ≠ vb;omega)).trans HZ1.out)
  have hbV:Below W.heap.size W V1:=by
    have hv:=HOV.out.old
    exact hb.trans ⟨hv.os,hv.tape,hv.output,hv.size,fun j hj => hv.block j (by have:=hb.size;omega) (fun e => by rcases e with e | e | e <;> omega)⟩
  obtain ⟨b,o,x0,x1,x2,x3,x4,x5,x6,hA,hbl,hrw,hwf,hcc⟩:=hx.rc.at7 wx.wc hF.lk
  have hr:row c.chans k = [x0,x1,x2,x3,x4,x5,x6]:=by unfold row;rw [List.getD_eq_getElem?_getD,hrw];rfl
  have e3:x3 = (F.n:Int):=by have:=hF.words;rw [hr] at this;exact this
  have e4:x4 = (F.d:Int):=by have:=hF.depth;rw [hr] at this;exact this
  subst e3;subst e4
  have hlow:=hF.low
  have hkl:=hF.lk
  have hcn:=hF.chans
  have k0:(k:Int) < (c.chans.length:Int):=by omega
  obtain ⟨r0,r1,r2,r3,r4,r5,r6⟩:=hcc V1 hbV
  have hcV:CfgIn V1 V1.heap.size c x:=hx.later hbV
  obtain ⟨pa,pc,ca,cc,aa,ac,ba,bc⟩:=x
  subst hA
  have x1_:V1.cell? ⟨vb,1,none⟩ = some (.slice (some ⟨b,o,none⟩) c.chans.length cc):=cell_blk HDV.out.blk rfl
  have x6_:V1.cell? ⟨vb,6,none⟩ = some (.int .i64 (k:Int)):=cell_blk HDV.out.blk rfl
  have HCV:=Lib.hid hcV;have HHF:=Lib.hid hF;have HWX:=Lib.hid wx;have HLX:=Lib.hid lx;have HBV:=Lib.hid hbV;have HSZ:=Lib.hid hsz;have HA1:=Lib.hid ha1
  clear hD1 hO hz h hb hx wx lx hF hrw hr hcc hwf hcV hbV hsz ha1
  have HVL:Hid (vb < V1.heap.size):=Lib.hid HDV.out.lt.1
  have HBL:Hid (b < V1.heap.size):=Lib.hid (by have:=HBV.out.size;omega)
  go_enter Tryz.func26,Tryz.ntmps26
  go_wp2_with (first | (rw [← HW1.out]) | (rw [← HV1.out]))
  refine wp_region_held_drew (S:=(fun W' => Below V1.heap.size V1 W')) (by kernel_rfl) (by exact (Below.refl _ _).drew) (fun hHeld => ?_)
  refine wpAnyH_take (i:=0) rfl (by kernel_rfl) (by kernel_rfl) (by kernel_rfl) (fun _ _ _ h => h) (Or.inl ⟨by rfl,by intro w hSw;(have z1:=(hSw.cell (p:=⟨vb,1,none⟩) HVL.out).trans x1_;have z6:=(hSw.cell (p:=⟨vb,6,none⟩) HVL.out).trans x6_;have y0:=(hSw.cell (p:=⟨b,o + k * 7,none⟩) HBL.out).trans r0;have y1:=(hSw.cell (p:=⟨b,o + k * 7 + 1,none⟩) HBL.out).trans r1;have y2:=(hSw.cell (p:=⟨b,o + k * 7 + 2,none⟩) HBL.out).trans r2;have y3:=(hSw.cell (p:=⟨b,o + k * 7 + 3,none⟩) HBL.out).trans r3;have y4:=(hSw.cell (p:=⟨b,o + k * 7 + 4,none⟩) HBL.out).trans r4;have y5:=(hSw.cell (p:=⟨b,o + k * 7 + 5,none⟩) HBL.out).trans r5;have y6:=(hSw.cell (p:=⟨b,o + k * 7 + 6,none⟩) HBL.out).trans r6;clear hSw);(go_simp <;> with_reducible rfl)⟩) (by assumption) ?_
  (try simp only [Act.put,List.setIfInBounds_toArray,List.set_cons_zero,List.set_cons_succ,List.getElem_toArray,List.getElem_cons_zero,List.getElem_cons_succ])
  refine wpAnyH_take (i:=1) rfl (by kernel_rfl) (by kernel_rfl) (by kernel_rfl) (fun _ _ _ h => h) (Or.inl ⟨by rfl,by intro w hSw;(have z1:=(hSw.cell (p:=⟨vb,1,none⟩) HVL.out).trans x1_;have z6:=(hSw.cell (p:=⟨vb,6,none⟩) HVL.out).trans x6_;have y0:=(hSw.cell (p:=⟨b,o + k * 7,none⟩) HBL.out).trans r0;have y1:=(hSw.cell (p:=⟨b,o + k * 7 + 1,none⟩) HBL.out).trans r1;have y2:=(hSw.cell (p:=⟨b,o + k * 7 + 2,none⟩) HBL.out).trans r2;have y3:=(hSw.cell (p:=⟨b,o + k * 7 + 3,none⟩) HBL.out).trans r3;have y4:=(hSw.cell (p:=⟨b,o + k * 7 + 4,none⟩) HBL.out).trans r4;have y5:=(hSw.cell (p:=⟨b,o + k * 7 + 5,none⟩) HBL.out).trans r5;have y6:=(hSw.cell (p:=⟨b,o + k * 7 + 6,none⟩) HBL.out).trans r6;clear hSw);(go_simp <;> with_reducible rfl)⟩) (by assumption) ?_
  (try simp only [Act.put,List.setIfInBounds_toArray,List.set_cons_zero,List.set_cons_succ,List.getElem_toArray,List.getElem_cons_zero,List.getElem_cons_succ])
  refine wpAnyH_take (i:=2) rfl (by kernel_rfl) (by kernel_rfl) (by kernel_rfl) (fun _ _ _ h => h) (Or.inl ⟨by rfl,by intro w hSw;(have z1:=(hSw.cell (p:=⟨vb,1,none⟩) HVL.out).trans x1_;have z6:=(hSw.cell (p:=⟨vb,6,none⟩) HVL.out).trans x6_;have y0:=(hSw.cell (p:=⟨b,o + k * 7,none⟩) HBL.out).trans r0;have y1:=(hSw.cell (p:=⟨b,o + k * 7 + 1,none⟩) HBL.out).trans r1;have y2:=(hSw.cell (p:=⟨b,o + k * 7 + 2,none⟩) HBL.out).trans r2;have y3:=(hSw.cell (p:=⟨b,o + k * 7 + 3,none⟩) HBL.out).trans r3;have y4:=(hSw.cell (p:=⟨b,o + k * 7 + 4,none⟩) HBL.out).trans r4;have y5:=(hSw.cell (p:=⟨b,o + k * 7 + 5,none⟩) HBL.out).trans r5;have y6:=(hSw.cell (p:=⟨b,o + k * 7 + 6,none⟩) HBL.out).trans r6;clear hSw);(go_simp <;> with_reducible rfl)⟩) (by assumption) ?_
  (try simp only [Act.put,List.setIfInBounds_toArray,List.set_cons_zero,List.set_cons_succ,List.getElem_toArray,List.getElem_cons_zero,List.getElem_cons_succ])
  refine wpAnyH_take (i:=3) rfl (by kernel_rfl) (by kernel_rfl) (by kernel_rfl) (fun _ _ _ h => h) (Or.inl ⟨by rfl,by intro w hSw;(have z1:=(hSw.cell (p:=⟨vb,1,none⟩) HVL.out).trans x1_;have z6:=(hSw.cell (p:=⟨vb,6,none⟩) HVL.out).trans x6_;have y0:=(hSw.cell (p:=⟨b,o + k * 7,none⟩) HBL.out).trans r0;have y1:=(hSw.cell (p:=⟨b,o + k * 7 + 1,none⟩) HBL.out).trans r1;have y2:=(hSw.cell (p:=⟨b,o + k * 7 + 2,none⟩) HBL.out).trans r2;have y3:=(hSw.cell (p:=⟨b,o + k * 7 + 3,none⟩) HBL.out).trans r3;have y4:=(hSw.cell (p:=⟨b,o + k * 7 + 4,none⟩) HBL.out).trans r4;have y5:=(hSw.cell (p:=⟨b,o + k * 7 + 5,none⟩) HBL.out).trans r5;have y6:=(hSw.cell (p:=⟨b,o + k * 7 + 6,none⟩) HBL.out).trans r6;clear hSw);(go_simp <;> with_reducible rfl)⟩) (by assumption) ?_
  (try simp only [Act.put,List.setIfInBounds_toArray,List.set_cons_zero,List.set_cons_succ,List.getElem_toArray,List.getElem_cons_zero,List.getElem_cons_succ])
  refine wpAnyH_take (i:=4) rfl (by kernel_rfl) (by kernel_rfl) (by kernel_rfl) (fun _ _ _ h => h) (Or.inl ⟨by rfl,by intro w hSw;(have z1:=(hSw.cell (p:=⟨vb,1,none⟩) HVL.out).trans x1_;have z6:=(hSw.cell (p:=⟨vb,6,none⟩) HVL.out).trans x6_;have y0:=(hSw.cell (p:=⟨b,o + k * 7,none⟩) HBL.out).trans r0;have y1:=(hSw.cell (p:=⟨b,o + k * 7 + 1,none⟩) HBL.out).trans r1;have y2:=(hSw.cell (p:=⟨b,o + k * 7 + 2,none⟩) HBL.out).trans r2;have y3:=(hSw.cell (p:=⟨b,o + k * 7 + 3,none⟩) HBL.out).trans r3;have y4:=(hSw.cell (p:=⟨b,o + k * 7 + 4,none⟩) HBL.out).trans r4;have y5:=(hSw.cell (p:=⟨b,o + k * 7 + 5,none⟩) HBL.out).trans r5;have y6:=(hSw.cell (p:=⟨b,o + k * 7 + 6,none⟩) HBL.out).trans r6;clear hSw);(go_simp <;> with_reducible rfl)⟩) (by assumption) ?_
  (try simp only [Act.put,List.setIfInBounds_toArray,List.set_cons_zero,List.set_cons_succ,List.getElem_toArray,List.getElem_cons_zero,List.getElem_cons_succ])
  refine wpAnyH_take (i:=5) rfl (by kernel_rfl) (by kernel_rfl) (by kernel_rfl) (fun _ _ _ h => h) (Or.inl ⟨by rfl,by intro w hSw;(have z1:=(hSw.cell (p:=⟨vb,1,none⟩) HVL.out).trans x1_;have z6:=(hSw.cell (p:=⟨vb,6,none⟩) HVL.out).trans x6_;have y0:=(hSw.cell (p:=⟨b,o + k * 7,none⟩) HBL.out).trans r0;have y1:=(hSw.cell (p:=⟨b,o + k * 7 + 1,none⟩) HBL.out).trans r1;have y2:=(hSw.cell (p:=⟨b,o + k * 7 + 2,none⟩) HBL.out).trans r2;have y3:=(hSw.cell (p:=⟨b,o + k * 7 + 3,none⟩) HBL.out).trans r3;have y4:=(hSw.cell (p:=⟨b,o + k * 7 + 4,none⟩) HBL.out).trans r4;have y5:=(hSw.cell (p:=⟨b,o + k * 7 + 5,none⟩) HBL.out).trans r5;have y6:=(hSw.cell (p:=⟨b,o + k * 7 + 6,none⟩) HBL.out).trans r6;clear hSw);(go_simp <;> with_reducible rfl)⟩) (by assumption) ?_
  (try simp only [Act.put,List.setIfInBounds_toArray,List.set_cons_zero,List.set_cons_succ,List.getElem_toArray,List.getElem_cons_zero,List.getElem_cons_succ])
  refine wpAnyH_take (i:=6) rfl (by kernel_rfl) (by kernel_rfl) (by kernel_rfl) (fun _ _ _ h => h) (Or.inl ⟨by rfl,by intro w hSw;(have z1:=(hSw.cell (p:=⟨vb,1,none⟩) HVL.out).trans x1_;have z6:=(hSw.cell (p:=⟨vb,6,none⟩) HVL.out).trans x6_;have y0:=(hSw.cell (p:=⟨b,o + k * 7,none⟩) HBL.out).trans r0;have y1:=(hSw.cell (p:=⟨b,o + k * 7 + 1,none⟩) HBL.out).trans r1;have y2:=(hSw.cell (p:=⟨b,o + k * 7 + 2,none⟩) HBL.out).trans r2;have y3:=(hSw.cell (p:=⟨b,o + k * 7 + 3,none⟩) HBL.out).trans r3;have y4:=(hSw.cell (p:=⟨b,o + k * 7 + 4,none⟩) HBL.out).trans r4;have y5:=(hSw.cell (p:=⟨b,o + k * 7 + 5,none⟩) HBL.out).trans r5;have y6:=(hSw.cell (p:=⟨b,o + k * 7 + 6,none⟩) HBL.out).trans r6;clear hSw);(go_simp <;> with_reducible rfl)⟩) (by assumption) ?_
  (try simp only [Act.put,List.setIfInBounds_toArray,List.set_cons_zero,List.set_cons_succ,List.getElem_toArray,List.getElem_cons_zero,List.getElem_cons_succ])
  refine wpAnyH_take (i:=7) rfl (by kernel_rfl) (by kernel_rfl) (by kernel_rfl) (fun _ _ _ h => h) (Or.inl ⟨by rfl,by intro w hSw;(have z1:=(hSw.cell (p:=⟨vb,1,none⟩) HVL.out).trans x1_;have z6:=(hSw.cell (p:=⟨vb,6,none⟩) HVL.out).trans x6_;have y0:=(hSw.cell (p:=⟨b,o + k * 7,none⟩) HBL.out).trans r0;have y1:=(hSw.cell (p:=⟨b,o + k * 7 + 1,none⟩) HBL.out).trans r1;have y2:=(hSw.cell (p:=⟨b,o + k * 7 + 2,none⟩) HBL.out).trans r2;have y3:=(hSw.cell (p:=⟨b,o + k * 7 + 3,none⟩) HBL.out).trans r3;have y4:=(hSw.cell (p:=⟨b,o + k * 7 + 4,none⟩) HBL.out).trans r4;have y5:=(hSw.cell (p:=⟨b,o + k * 7 + 5,none⟩) HBL.out).trans r5;have y6:=(hSw.cell (p:=⟨b,o + k * 7 + 6,none⟩) HBL.out).trans r6;clear hSw);(go_simp <;> with_reducible rfl)⟩) (by assumption) ?_
  (try simp only [Act.put,List.setIfInBounds_toArray,List.set_cons_zero,List.set_cons_succ,List.getElem_toArray,List.getElem_cons_zero,List.getElem_cons_succ])
  refine wpAnyH_take (i:=8) rfl (by kernel_rfl) (by kernel_rfl) (by kernel_rfl) (fun _ _ _ h => h) (Or.inl ⟨by rfl,by intro w hSw;(have z1:=(hSw.cell (p:=⟨vb,1,none⟩) HVL.out).trans x1_;have z6:=(hSw.cell (p:=⟨vb,6,none⟩) HVL.out).trans x6_;have y0:=(hSw.cell (p:=⟨b,o + k * 7,none⟩) HBL.out).trans r0;have y1:=(hSw.cell (p:=⟨b,o + k * 7 + 1,none⟩) HBL.out).trans r1;have y2:=(hSw.cell (p:=⟨b,o + k * 7 + 2,none⟩) HBL.out).trans r2;have y3:=(hSw.cell (p:=⟨b,o + k * 7 + 3,none⟩) HBL.out).trans r3;have y4:=(hSw.cell (p:=⟨b,o + k * 7 + 4,none⟩) HBL.out).trans r4;have y5:=(hSw.cell (p:=⟨b,o + k * 7 + 5,none⟩) HBL.out).trans r5;have y6:=(hSw.cell (p:=⟨b,o + k * 7 + 6,none⟩) HBL.out).trans r6;clear hSw);(go_simp <;> with_reducible rfl)⟩) (by assumption) ?_
  (try simp only [Act.put,List.setIfInBounds_toArray,List.set_cons_zero,List.set_cons_succ,List.getElem_toArray,List.getElem_cons_zero,List.getElem_cons_succ])
  refine wpAnyH_take (i:=9) rfl (by kernel_rfl) (by kernel_rfl) (by kernel_rfl) (fun _ _ _ h => h) (Or.inl ⟨by rfl,by intro w hSw;(have z1:=(hSw.cell (p:=⟨vb,1,none⟩) HVL.out).trans x1_;have z6:=(hSw.cell (p:=⟨vb,6,none⟩) HVL.out).trans x6_;have y0:=(hSw.cell (p:=⟨b,o + k * 7,none⟩) HBL.out).trans r0;have y1:=(hSw.cell (p:=⟨b,o + k * 7 + 1,none⟩) HBL.out).trans r1;have y2:=(hSw.cell (p:=⟨b,o + k * 7 + 2,none⟩) HBL.out).trans r2;have y3:=(hSw.cell (p:=⟨b,o + k * 7 + 3,none⟩) HBL.out).trans r3;have y4:=(hSw.cell (p:=⟨b,o + k * 7 + 4,none⟩) HBL.out).trans r4;have y5:=(hSw.cell (p:=⟨b,o + k * 7 + 5,none⟩) HBL.out).trans r5;have y6:=(hSw.cell (p:=⟨b,o + k * 7 + 6,none⟩) HBL.out).trans r6;clear hSw);(go_simp <;> with_reducible rfl)⟩) (by assumption) ?_
  (try simp only [Act.put,List.setIfInBounds_toArray,List.set_cons_zero,List.set_cons_succ,List.getElem_toArray,List.getElem_cons_zero,List.getElem_cons_succ])
  refine wpAnyH_take (i:=10) rfl (by kernel_rfl) (by kernel_rfl) (by kernel_rfl) (fun _ _ _ h => h) (Or.inl ⟨by rfl,by intro w hSw;(have z1:=(hSw.cell (p:=⟨vb,1,none⟩) HVL.out).trans x1_;have z6:=(hSw.cell (p:=⟨vb,6,none⟩) HVL.out).trans x6_;have y0:=(hSw.cell (p:=⟨b,o + k * 7,none⟩) HBL.out).trans r0;have y1:=(hSw.cell (p:=⟨b,o + k * 7 + 1,none⟩) HBL.out).trans r1;have y2:=(hSw.cell (p:=⟨b,o + k * 7 + 2,none⟩) HBL.out).trans r2;have y3:=(hSw.cell (p:=⟨b,o + k * 7 + 3,none⟩) HBL.out).trans r3;have y4:=(hSw.cell (p:=⟨b,o + k * 7 + 4,none⟩) HBL.out).trans r4;have y5:=(hSw.cell (p:=⟨b,o + k * 7 + 5,none⟩) HBL.out).trans r5;have y6:=(hSw.cell (p:=⟨b,o + k * 7 + 6,none⟩) HBL.out).trans r6;clear hSw);(go_simp <;> with_reducible rfl)⟩) (by assumption) ?_
  (try simp only [Act.put,List.setIfInBounds_toArray,List.set_cons_zero,List.set_cons_succ,List.getElem_toArray,List.getElem_cons_zero,List.getElem_cons_succ])
  refine wpAnyH_ready (rs:=[11]) (by kernel_rfl) (by simp) (AllReadyH.cons rfl (fun K hK => ?_) AllReadyH.nil)
  go_simp
  refine hK.out _ _ (by exact ((Below.refl V1.heap.size V1).alloc (Nat.le_refl _) _).drew) (fun hHeld => ?_)
  clear hK K
  (try simp only [Act.put,List.setIfInBounds_toArray,List.set_cons_zero,List.set_cons_succ,List.getElem_toArray,List.getElem_cons_zero,List.getElem_cons_succ])
  refine wpAnyH_ready (rs:=[12]) (by kernel_rfl) (by simp) (AllReadyH.cons rfl (fun K hK => ?_) AllReadyH.nil)
  have h7:((V1.alloc (.cells #[.int .i64 0,.int .i64 0,.int .i64 0,.int .i64 0,.int .i64 0,.int .i64 0,.int .u32 0] 36)).drew).heap[V1.heap.size]? = some (.cells #[.int .i64 0,.int .i64 0,.int .i64 0,.int .i64 0,.int .i64 0,.int .i64 0,.int .u32 0] 36 (0,0)):=heap_alloc_new V1 _
  have hth:=there_at h7 (n:=(#[.int .i64 x0,.int .i64 x1,.int .i64 x2,.int .i64 (F.n:Int),.int .i64 (F.d:Int),.int .i64 x5,.int .u32 x6]:Array Value).size) rfl
  have hsd:(Tryz.prog.info? 36).map (·.size) = some (#[.int .i64 x0,.int .i64 x1,.int .i64 x2,.int .i64 (F.n:Int),.int .i64 (F.d:Int),.int .i64 x5,.int .u32 x6]:Array Value).size:=chan_size
  rw [if_pos (by rfl)]
  refine wp_store_mid _ _ _ rfl V1.heap.size 0 (#[.int .i64 x0,.int .i64 x1,.int .i64 x2,.int .i64 (F.n:Int),.int .i64 (F.d:Int),.int .i64 x5,.int .u32 x6]) rfl rfl hth hsd (by kernel_rfl) ?_
  refine hK.out _ _ (by exact below_sets hHeld (Nat.le_refl _) _) (fun hHeld => ?_)
  clear hK K
  (try simp only [Act.put,List.setIfInBounds_toArray,List.set_cons_zero,List.set_cons_succ,List.getElem_toArray,List.getElem_cons_zero,List.getElem_cons_succ])
  refine wpAnyH_done (by kernel_rfl) ?_ _
  obtain ⟨W2,HW2⟩:∃ u,Hid (u = ((V1.alloc (.cells #[.int .i64 0,.int .i64 0,.int .i64 0,.int .i64 0,.int .i64 0,.int .i64 0,.int .u32 0] 36)).drew).setCells V1.heap.size 0 [.int .i64 x0,.int .i64 x1,.int .i64 x2,.int .i64 (F.n:Int),.int .i64 (F.d:Int),.int .i64 x5,.int .u32 x6]):=⟨_,rfl⟩
  have hB2:Below V1.heap.size V1 W2:=by rw [HW2.out];exact below_sets ((Below.refl V1.heap.size V1).alloc (Nat.le_refl _) _).drew (Nat.le_refl _) _
  have hx7:W2.heap[V1.heap.size]? = some (.cells #[.int .i64 x0,.int .i64 x1,.int .i64 x2,.int .i64 (F.n:Int),.int .i64 (F.d:Int),.int .i64 x5,.int .u32 x6] 36 (0,0)):=by rw [HW2.out];exact blk_chan h7 _ rfl
  obtain ⟨xb,hxb⟩:∃ t,t = V1.heap.size:=⟨_,rfl⟩
  rw [← HW2.out]
  simp only [← hxb]
  rw [← hxb] at hx7
  have HXB:=Lib.hid hxb
  clear hxb
  have HD2:=Lib.hid (HDV.out.below hB2)
  have hcW:CfgIn W2 W2.heap.size c ⟨pa,pc,some ⟨b,o,none⟩,cc,aa,ac,ba,bc⟩:=HCV.out.later hB2
  have HSRC:Hid (∀ d os,Calls Tryz.prog 55 #[.agg #[.slice pa c.parts.length pc,.slice (some ⟨b,o,none⟩) c.chans.length cc,.int .i64 c.len0,.slice aa c.win0.length ac,.int .i64 c.len1,.slice ba c.win1.length bc],.int .i64 (k:Int)] (grow (redrawn W2 d) os) (fun e w'' => e = .returned (.agg #[.int .i64 (F.src:Int),.int .i64 (srcSpan c k).2]) ∧ ∃ p:Regrown,w'' = grow (redrawn W2 p.d) p.os)):=Lib.hid (fun d os => by
    have q:=rsource_b c _ k (grow (redrawn W2 d) os) (hcW.later (below_regrown W2 d os)) HWX.out HLX.out
    rw [HHF.out.src] at q
    exact Calls.regrown_of q)
  have HDST:Hid (∀ d os,Calls Tryz.prog 56 #[.agg #[.slice pa c.parts.length pc,.slice (some ⟨b,o,none⟩) c.chans.length cc,.int .i64 c.len0,.slice aa c.win0.length ac,.int .i64 c.len1,.slice ba c.win1.length bc],.int .i64 (k:Int)] (grow (redrawn W2 d) os) (fun e w'' => e = .returned (.agg #[.int .i64 (F.dst:Int),.int .i64 (dstSpan c k).2]) ∧ ∃ p:Regrown,w'' = grow (redrawn W2 p.d) p.os)):=Lib.hid (fun d os => by
    have q:=rdest_b c _ k (grow (redrawn W2 d) os) (hcW.later (below_regrown W2 d os)) HWX.out HLX.out
    rw [HHF.out.dst] at q
    exact Calls.regrown_of q)
  obtain ⟨ci,hci⟩:∃ ci:Nat,ci = (own % (F.d:Int)).toNat:=⟨_,rfl⟩
  have hm1:=Int.emod_nonneg own (show (F.d:Int) ≠ 0 by omega)
  have hm2:=Int.emod_lt_of_pos own (show (0:Int) < F.d by omega)
  have hcl:ci < F.d:=by omega
  have htm:own.tmod (F.d:Int) = (ci:Int):=by rw [Int.tmod_eq_emod_of_nonneg h0.1];omega
  have hcq:cellQ F own = F.src + 1 + ci * (F.n + 1):=by unfold cellQ;rw [hci]
  obtain ⟨ce,hce2⟩:∃ ce,cellQ F own = ce:=⟨_,rfl⟩
  have HCE:=Lib.hid hce2
  have HCEL:Hid (∀ d os,Calls Tryz.prog 57 #[.agg #[.slice pa c.parts.length pc,.slice (some ⟨b,o,none⟩) c.chans.length cc,.int .i64 c.len0,.slice aa c.win0.length ac,.int .i64 c.len1,.slice ba c.win1.length bc],.int .i64 (k:Int),.int .i64 (ci:Int)] (grow (redrawn W2 d) os) (fun e w'' => e = .returned (.agg #[.int .i64 (ce:Int),.int .i64 (cellSpan c k ci).2]) ∧ ∃ p:Regrown,w'' = grow (redrawn W2 p.d) p.os)):=Lib.hid (fun d os => by
    have q:=rcell_b c _ k ci (grow (redrawn W2 d) os) (hcW.later (below_regrown W2 d os)) HWX.out HLX.out
    rw [HHF.out.cell ci hcl,← hcq,hce2] at q
    exact Calls.regrown_of q)
  have hfs:=run_span0
  have d0:((F.d:Int) == 0) = false:=by rw [beq_eq_false_iff_ne];omega
  have d1:¬ ((F.d:Int) = 0):=by omega
  have d2:¬ (F.d = 0):=by omega
  have n1:IntKind.i64.wrap own = own:=IntWalk.i64_in _ (by omega)
  have n2:IntKind.i64.wrap (ci:Int) = (ci:Int):=IntWalk.i64_in _ (by omega)
  have n3:IntKind.i64.wrap (own.tmod (F.d:Int)) = (ci:Int):=by rw [htm];exact IntWalk.i64_in _ (by omega)

  have q0:∀ p:Regrown,(grow (redrawn W2 p.d) p.os).cell? ⟨vb,0,none⟩ = some (.slice pa c.parts.length pc):=fun p => cell_regrown (cell_blk HD2.out.blk rfl) p.d p.os
  have q1:∀ p:Regrown,(grow (redrawn W2 p.d) p.os).cell? ⟨vb,1,none⟩ = some (.slice (some ⟨b,o,none⟩) c.chans.length cc):=fun p => cell_regrown (cell_blk HD2.out.blk rfl) p.d p.os
  have q2:∀ p:Regrown,(grow (redrawn W2 p.d) p.os).cell? ⟨vb,2,none⟩ = some (.int .i64 c.len0):=fun p => cell_regrown (cell_blk HD2.out.blk rfl) p.d p.os
  have q3:∀ p:Regrown,(grow (redrawn W2 p.d) p.os).cell? ⟨vb,3,none⟩ = some (.slice aa c.win0.length ac):=fun p => cell_regrown (cell_blk HD2.out.blk rfl) p.d p.os
  have q4:∀ p:Regrown,(grow (redrawn W2 p.d) p.os).cell? ⟨vb,4,none⟩ = some (.int .i64 c.len1):=fun p => cell_regrown (cell_blk HD2.out.blk rfl) p.d p.os
  have q5:∀ p:Regrown,(grow (redrawn W2 p.d) p.os).cell? ⟨vb,5,none⟩ = some (.slice ba c.win1.length bc):=fun p => cell_regrown (cell_blk HD2.out.blk rfl) p.d p.os
  have q6:∀ p:Regrown,(grow (redrawn W2 p.d) p.os).cell? ⟨vb,6,none⟩ = some (.int .i64 (k:Int)):=fun p => cell_regrown (cell_blk HD2.out.blk rfl) p.d p.os
  have q7:∀ p:Regrown,(grow (redrawn W2 p.d) p.os).cell? ⟨vb,7,none⟩ = some (.int .i64 5):=fun p => cell_regrown (cell_blk HD2.out.blk rfl) p.d p.os
  have q8:∀ p:Regrown,(grow (redrawn W2 p.d) p.os).cell? ⟨vb,8,none⟩ = some (.int .u32 own):=fun p => cell_regrown (cell_blk HD2.out.blk rfl) p.d p.os
  have q9:∀ p:Regrown,(grow (redrawn W2 p.d) p.os).cell? ⟨vb,9,none⟩ = some (.bool src):=fun p => cell_regrown (cell_blk HD2.out.blk rfl) p.d p.os
  have q20:∀ p:Regrown,(grow (redrawn W2 p.d) p.os).cell? ⟨xb,3,none⟩ = some (.int .i64 (F.n:Int)):=fun p => cell_regrown (cell_blk hx7 rfl) p.d p.os
  have q21:∀ p:Regrown,(grow (redrawn W2 p.d) p.os).cell? ⟨xb,4,none⟩ = some (.int .i64 (F.d:Int)):=fun p => cell_regrown (cell_blk hx7 rfl) p.d p.os
  have HX7:=Lib.hid hx7
  have HXL:Hid (xb < W2.heap.size):=Lib.hid (Array.getElem?_eq_some_iff.1 hx7).1
  have hbc:=Below.refl W2.heap.size W2
  clear hHeld hth hsd h7 hcW hci hm1 hm2 hcq hce2 hx7 r0 r1 r2 r3 r4 r5 r6 x1_ x6_ x11 g11
  go_wp2_with ((first | with_reducible refine wpList_on hbc ?_ | with_reducible refine wp_on hbc (by kernel_rfl) (by kernel_rfl) ?_);(repeat (go_big_quiet_step (first | exact HSRC.out _ _ | exact HDST.out _ _ | exact HCEL.out _ _)));with_reducible refine wpQuiet_nil ?_;intro wc hbc;(try clear y3 y4);have y3:wc.cell? ⟨xb,3,none⟩ = some (.int .i64 (F.n:Int)):=cell_blk ((hbc.block xb HXL.out).trans HX7.out) rfl;have y4:wc.cell? ⟨xb,4,none⟩ = some (.int .i64 (F.d:Int)):=cell_blk ((hbc.block xb HXL.out).trans HX7.out) rfl)

  obtain ⟨w4,HW4⟩:∃ u,Hid (u = wc.alloc (.cells #[.int .i64 (F.src:Int),.int .i64 (F.dst:Int),.int .i64 (ce:Int),.int .i64 (F.d:Int)] 3)):=⟨_,rfl⟩
  obtain ⟨gb,hgb⟩:∃ g,g = wc.heap.size:=⟨_,rfl⟩
  rw [← HW4.out]
  simp only [← hgb]
  have hp4:w4.heap[gb]? = some (.cells #[.int .i64 (F.src:Int),.int .i64 (F.dst:Int),.int .i64 (ce:Int),.int .i64 (F.d:Int)] 3 (0,0)):=by rw [HW4.out,hgb];exact heap_alloc_new _ _
  have hb24:Below W2.heap.size W2 w4:=by rw [HW4.out];exact hbc.alloc hbc.size _
  have hD4:=HD2.out.below hb24
  rw [← HA1.out] at hD4
  have hO4:Only (New w.heap.size (fun j => j = vb ∨ j = yb ∨ j = zb)) w w4:=(HOV.out.trans ((Only.of_below (S:=fun _ => False) hB2).mono fun _ _ h => h.elim)).trans ((Only.of_below (S:=fun _ => False) hb24).mono fun _ _ h => h.elim)
  have hvw:w.heap.size < V1.heap.size:=(Array.getElem?_eq_some_iff.1 HZV.out).1
  have hZ4:w4.heap[w.heap.size]? = some (.cells #[.bool false,.int .i64 0,.slice none 0 0,.bool false,.int .i64 0,.bool false,.bool false,.bool false,.int .i64 0] 56 (0,0)):=(hb24.block w.heap.size (by have:=hB2.size;omega)).trans ((hB2.block w.heap.size hvw).trans HZV.out)

  rw [← HCE.out] at hp4
  have hd4:w4.heap[db]? = w.heap[db]?:=hO4.old.block db hdlt HDNE.out
  have HC4:=Lib.hid (HCAL.out w4 gb hD4 hp4 hd4)
  have HO4:=Lib.hid hO4;have HZ4:=Lib.hid hZ4
  clear hd4 hp4 hb24 hD4 hO4 hZ4 y3 y4
  refine HC4.out.mono ?_
  rintro e w5 ⟨rfl,hd5,ho5⟩
  obtain ⟨X,HX⟩:∃ u,Hid (u = w5):=⟨_,rfl⟩
  have HDX:=Lib.hid (by have q:=hd5;rw [← HX.out] at q;exact q)
  have HOX:Hid (Only (New w.heap.size (fun j => j = vb ∨ j = yb ∨ j = zb)) w X):=Lib.hid (by rw [HX.out];exact HO4.out.trans (ho5.mono fun _ _ h => .inr h))
  have HZX:Hid (X.heap[w.heap.size]? = some (.cells #[.bool false,.int .i64 0,.slice none 0 0,.bool false,.int .i64 0,.bool false,.bool false,.bool false,.int .i64 0] 56 (0,0))):=Lib.hid (by rw [HX.out];exact ho5.at_ HZ4.out (by rintro (h | h | h) <;> omega))
  rw [← HX.out]
  clear hd5 ho5
  have hth:=there_at (W:=X) HZX.out (n:=(qdV dn cd (.slice none 0 0) 0 mk rg:Array Value).size) rfl
  have hsd:(Tryz.prog.info? 56).map (·.size) = some (qdV dn cd (.slice none 0 0) 0 mk rg:Array Value).size:=did_size
  go_wp2_with (first | (rw [← HX.out]) | (with_reducible refine wpList_store_mid (by kernel_rfl) _ _ _ rfl w.heap.size 0 (qdV dn cd (.slice none 0 0) 0 mk rg) (by kernel_rfl) (by kernel_rfl) hth hsd (by kernel_rfl) ?_))
  have hrg:=World.rangeAt_setCells_same (X) w.heap.size 0 [.bool dn,.int .i64 cd,.slice none 0 0,.bool false,.int .i64 0,.bool mk,.bool rg,.bool false,.int .i64 0] (there_at (cs:=#[.bool false,.int .i64 0,.slice none 0 0,.bool false,.int .i64 0,.bool false,.bool false,.bool false,.int .i64 0]) (n:=9) (show (X).heap[w.heap.size]? = _ from HZX.out) rfl)
  (try simp only [Exit.inBlock,Exit.then])
  refine bodyPost_ret (results_cell_row rfl _ _ w.heap.size [.bool dn,.int .i64 cd,.slice none 0 0,.bool false,.int .i64 0,.bool mk,.bool rg,.bool false,.int .i64 0] _ rfl hrg Tryz.underlying56 rfl did_size) rfl ?_
  exact ⟨rfl,HDX.out.fin hlt HOX.out _⟩
end
end Go.Proofs.YtmhpcgcloojfbaaGreat
end
