/- Texts of the ring, joined, what is used of them. No condition but those in the statements. -/
import Derived.BigQuiet
import Derived.BigRegion
import Derived.Deep.MidRow
import Derived.Deep.RegionHeld3
import Derived.Deep.Upon
import Derived.IntWalk
import Derived.Maps.Own
import Derived.Maps.OwnSet
import Derived.Test.YtheeiklgblcjfaaGreatDoorRPSg
import Derived.Test.YtheeiklgblcjfaaGreatDoorRgf
import Derived.Test.YtheeiklgblcjfaaGreatDoorRgn
section
namespace Go.Proofs.YtheeiklgblcjfaaGreatDoor
open Go.RowKit Go.Sort
set_option linter.unusedVariables false
set_option linter.unusedSimpArgs false
set_option linter.unusedVariables false
set_option linter.unusedSimpArgs false
set_option maxRecDepth 100000
theorem ans8_size:(Tryz.prog.info? 42).map (·.size) = some 4:=by kernel_rfl
theorem msg8_zero (w:World):(zeroValue 96).run Tryz.prog w = .ok (.agg #[.slice none 0 0,.int .i64 0]) w:=by kernel_rfl
theorem below_put4 {B:Nat} {w V:World} (h:Below B w V) {b:Nat} (hb:B ≤ b) (cs:List Value):Below B w (V.setCells b 0 cs):=by
  have hs:=Only.sets (S:=fun k => k = b) rfl cs 0 (Only.refl _ V)
  exact h.trans ⟨hs.os,hs.tape,hs.output,hs.size,fun k hk => by
    rcases Nat.lt_or_ge k V.heap.size with hl | hl
    · exact hs.block k hl (by omega)
    · have h2:=h.size
      rw [Array.getElem?_eq_none hl,Array.getElem?_eq_none]
      have e:∀ (vs:List Value) (o:Nat) (X:World),(X.setCells b o vs).heap.size = X.heap.size:=fun vs => by
        induction vs with
        | nil => intro o X;rfl
        | cons v r ih => intro o X;rw [World.setCells,ih];simp [World.setCell]
      rw [e];exact hl⟩
theorem row_put4 {K:IntKind} {w:World} {A:Option Addr} {l:List Int} {n b:Nat} {cs:List Value} (h:IntRowK K w w.heap.size A l) (hn:0 < l.length → ∀ a,A = some a → n ≤ a.block) (hb:b < n):IntRowK K (w.setCells b 0 cs) (w.setCells b 0 cs).heap.size A l:=by
  have hs:=Only.sets (S:=fun k => k = b) rfl cs 0 (Only.refl _ w)
  exact (h.only8 (Nat.le_refl _) hs (fun hp a ha e => by have:=hn hp a ha;omega)).more hs.size
theorem row8_lt {K:IntKind} {w:World} {B:Nat} {A:Option Addr} {l:List Int} (h:IntRowK K w B A l) (hp:0 < l.length) (a:Addr) (ha:A = some a):a.block < B:=by
  obtain ⟨b,o,e,hb,_⟩:=h hp
  rw [e] at ha;cases ha;exact hb
/-- An answer of a call that turned nothing that was there: its data lie in new memory,or nowhere. -/
def Gives8 (w:World) (a:An8) (e:Ending) (w':World):Prop:=∃ rA rk,e = .returned (.agg #[.int .i64 a.code,.slice rA a.data.length rk,.bool a.valid,.int .i64 a.count]) ∧ IntRowK .u32 w' w'.heap.size rA a.data ∧ (a.data.length ≤ rk ∧ rk ≤ maxLen ∧ (rA = none → a.data = [])) ∧ Below w.heap.size w w' ∧ (0 < a.data.length → ∀ b,rA = some b → w.heap.size ≤ b.block)
/-- What a read finds. -/
def found8 (c:Cfg) (M:Md8) (k:Nat) (t1:Int):An8:=match M.wr k with | none => code8 1 | some m => ⟨0,m.ds,fresh8 c k m t1,0⟩
set_option maxHeartbeats 1600000 in
theorem read8_none {w:World} {own:Nat → Tg8} {n0:Nat} {c:Cfg} {M:Md8} {A:Mx8} (h:MAt w own n0 c M A) (k:Nat) (t1:Int) (hw:A.wv k = none) (hk:k < 1000) (ht:M.t ≤ 100000):Calls Tryz.prog 68 #[.pointer (some ⟨A.b,0,none⟩),.int .i64 (k:Int),.int .i64 t1] w (Gives8 w (code8 1)):=by
  obtain ⟨W,HW,hB,hWs,bx⟩:=box_new w #[.int .i64 0,.slice none 0 0,.bool false,.int .i64 0] 42
  have h1:=(MAt.still h hB).1
  have kwf:(Lit.int .i64 (k:Int)).wf = true:=WalkArith.wf_i64 (by omega)
  have hrun:=(h1.mw (fun x => x)).2.look Tryz.underlying3 Tryz.underlying83 (msg8_zero W) kwf true
  have ef:fw8 A.wv (k:Int) = none:=by unfold fw8;rw [if_pos (by omega),Int.toNat_natCast,hw];rfl
  rw [ef] at hrun
  have hrun2:(Instr.lookup 83 (.map (some A.mw)) (.int .i64 (k:Int)) true).run Tryz.prog W = .ok (.tuple #[.agg #[.slice none 0 0,.int .i64 0],.bool false]) W:=hrun
  have c7:W.cell? ⟨A.b,7,none⟩ = some (.map (some A.mw)):=blk_at h1.head.2 (i:=7) rfl
  obtain ⟨W2,HW2,hB2,hWs2,bx2⟩:=box_new W #[.slice none 0 0,.int .i64 0] 96
  obtain ⟨ab,hab⟩:∃ n,n = w.heap.size:=⟨_,rfl⟩
  have hA2:=bx W2 hB2
  rw [← hab] at hA2
  have hth:=there_blk (W:=W2) hA2 (n:=(#[.int .i64 1,.slice none 0 0,.bool false,.int .i64 0]:Array Value).size) rfl
  have hsz4:(Tryz.prog.info? 42).map (·.size) = some (#[.int .i64 1,.slice none 0 0,.bool false,.int .i64 0]:Array Value).size:=ans8_size
  rw [HW2.out] at hth
  have HB:=Lib.hid (hB.trans (hB2.mono hB.size));have HAB:=Lib.hid hab
  clear h1 h hB hWs bx hB2 hWs2 bx2 hrun ef hA2 hab hw
  go_enter Tryz.func68,Tryz.ntmps68
  go_wp2_with (first | (rw [← HW.out];(try simp only [← HAB.out])) | (with_reducible refine wpList_store_mid (by kernel_rfl) _ _ _ rfl ab 0 #[.int .i64 1,.slice none 0 0,.bool false,.int .i64 0] (by kernel_rfl) (by kernel_rfl) hth hsz4 (by kernel_rfl) ?_))
  rw [← HW2.out] at hth ⊢
  have hrg:=World.rangeAt_setCells_same (W2) (ab) 0 (#[.int .i64 1,.slice none 0 0,.bool false,.int .i64 0]:Array Value).toList (by simpa using hth)
  (try simp only [Exit.inBlock,Exit.then])
  refine bodyPost_ret (results_cell_mid rfl _ _ (ab) (#[.int .i64 1,.slice none 0 0,.bool false,.int .i64 0]:Array Value).toList _ rfl hrg Tryz.underlying42 rfl ans8_size) rfl ?_
  refine ⟨none,0,rfl,(fun h => by simp [code8] at h),⟨by simp [code8],by simp [maxLen],fun _ => rfl⟩,below_put4 HB.out (by rw [HAB.out];exact Nat.le_refl _) _,fun h => by simp [code8] at h⟩
set_option maxHeartbeats 3200000 in
theorem read8_some {w:World} {own:Nat → Tg8} {n0:Nat} {c:Cfg} {M:Md8} {A:Mx8} (h:MAt w own n0 c M A) (wx:CfgWf c) (k:Nat) (t1:Int) (g:Gv8) (hw:A.wv k = some g) (hk:k < c.chans.length) (hk2:k < 1000) (ht:M.t ≤ 100000) (ht1:-1 ≤ t1 ∧ t1 ≤ 1099511627776):Calls Tryz.prog 68 #[.pointer (some ⟨A.b,0,none⟩),.int .i64 (k:Int),.int .i64 t1] w (Gives8 w ⟨0,g.ds,fresh8 c k g.ms t1,0⟩):=by
  obtain ⟨W,HW,hB,hWs,bx⟩:=box_new w #[.int .i64 0,.slice none 0 0,.bool false,.int .i64 0] 42
  have h1:=(MAt.still h hB).1
  have kwf:(Lit.int .i64 (k:Int)).wf = true:=WalkArith.wf_i64 (by omega)
  have hrun:=(h1.mw (fun x => x)).2.look Tryz.underlying3 Tryz.underlying83 (msg8_zero W) kwf true
  have ef:fw8 A.wv (k:Int) = some (.agg #[.slice g.A g.ds.length g.k,.int .i64 g.stamp]):=by unfold fw8;rw [if_pos (by omega),Int.toNat_natCast,hw];rfl
  rw [ef] at hrun
  have hrun2:(Instr.lookup 83 (.map (some A.mw)) (.int .i64 (k:Int)) true).run Tryz.prog W = .ok (.tuple #[.agg #[.slice g.A g.ds.length g.k,.int .i64 g.stamp],.bool true]) W:=hrun
  have c7:W.cell? ⟨A.b,7,none⟩ = some (.map (some A.mw)):=blk_at h1.head.2 (i:=7) rfl
  obtain ⟨W2,HW2,hB2,hWs2,bx2⟩:=box_new W #[.slice g.A g.ds.length g.k,.int .i64 g.stamp] 96
  obtain ⟨ab,hab⟩:∃ n,n = w.heap.size:=⟨_,rfl⟩
  obtain ⟨gx,hgx⟩:∃ n,n = W.heap.size:=⟨_,rfl⟩
  have hA2:=bx W2 hB2
  rw [← hab] at hA2
  have hG2:=bx2 W2 (Below.refl _ _)
  rw [← hgx] at hG2
  have h2:=(MAt.still h1 hB2).1
  have y0:W2.cell? ⟨gx,0,none⟩ = some (.slice g.A g.ds.length g.k):=blk_at hG2 (i:=0) rfl
  have y1:W2.cell? ⟨gx,1,none⟩ = some (.int .i64 g.stamp):=blk_at hG2 (i:=1) rfl
  obtain ⟨cb,co,x0,x1,x2,x3,x4,x5,x6,eca,hcb,hx,-,hcell⟩:=h2.cfg.1.rc.at7 wx.wc hk
  have c1:W2.cell? ⟨A.b,1,none⟩ = some (.slice (some ⟨cb,co,none⟩) c.chans.length A.x.cc):=by rw [← eca];exact blk_at h2.head.2 (i:=1) rfl
  obtain ⟨-,-,-,-,-,c5,-⟩:=hcell W2 (Below.refl _ _)
  have hper:per8 c k = x5:=by unfold per8;rw [row_at hx];rfl
  obtain ⟨hgd,hgs⟩:=h.wz k g.ms (by rw [← h.gw,hw];rfl)
  have hgs2:-1 ≤ g.stamp ∧ g.stamp ≤ 1099511627776:=hgs
  have hwr:IntKind.i64.wrap (t1 - g.stamp) = t1 - g.stamp:=IntWalk.i64_in _ (by omega)
  obtain ⟨q,hq⟩:∃ q,decide (t1 - g.stamp ≤ x5) = q:=⟨_,rfl⟩
  have HQ:=Lib.hid (show fresh8 c k g.ms t1 = q by unfold fresh8;rw [hper];exact hq)
  have hkl:(k:Int) < (c.chans.length:Int):=by omega
  have hGA:=h2.msgw k g hw
  have HCL:=Lib.hid (cloneU_b g.A g.k g.ds W2.drew (by have:=hGA.row.later8 (Below.refl _ _).drew;exact this) hGA.cap.2.2 hgd)
  have HGL:=Lib.hid (Array.getElem?_eq_some_iff.1 hG2).1
  have HABL:=Lib.hid (Array.getElem?_eq_some_iff.1 hA2).1
  have HBL:=Lib.hid (Array.getElem?_eq_some_iff.1 h2.head.2).1
  have HCB:=Lib.hid hcb
  have HA2:=Lib.hid hA2
  have HB:=Lib.hid (hB.trans (hB2.mono hB.size));have HAB:=Lib.hid hab;have HGX:=Lib.hid hgx
  clear h1 h2 h hB hWs bx hB2 hWs2 bx2 hrun ef hA2 hG2 hab hgx hw hcell hx hper hgd hgs hGA eca hcb
  go_enter Tryz.func68,Tryz.ntmps68
  go_wp2_with (first | (rw [← HW.out];(try simp only [← HAB.out])) | (rw [← HW2.out];(try simp only [← HGX.out])))
  refine wp_region_till (fun W' => Below W2.heap.size W2 W') 18 (by kernel_rfl) (by exact (Below.refl _ _).drew) (fun hHeld => ?_)
  refine till_take (i:=0) rfl (by kernel_rfl) (by kernel_rfl) (by kernel_rfl) (fun _ _ _ h => h) (by kernel_rfl) (Or.inl ⟨by rfl,by intro w _;(go_simp <;> with_reducible rfl)⟩) (by assumption) ?_
  (try simp only [Act.put,List.setIfInBounds_toArray,List.set_cons_zero,List.set_cons_succ,List.getElem_toArray,List.getElem_cons_zero,List.getElem_cons_succ])
  refine till_load (i:=1) rfl (by kernel_rfl) (by kernel_rfl) (by kernel_rfl) (fun _ _ _ h => h) (by kernel_rfl) (by kernel_rfl) (by kernel_rfl) (Or.inl ⟨by rfl,by intro w hSw;(have z0:=(hSw.cell (p:=⟨gx,0,none⟩) HGL.out).trans y0);(go_simp <;> with_reducible rfl)⟩) (by assumption) ?_
  (try simp only [Act.put,List.setIfInBounds_toArray,List.set_cons_zero,List.set_cons_succ,List.getElem_toArray,List.getElem_cons_zero,List.getElem_cons_succ])
  refine till_take (i:=3) rfl (by kernel_rfl) (by kernel_rfl) (by kernel_rfl) (fun _ _ _ h => h) (by kernel_rfl) (Or.inl ⟨by rfl,by intro w _;(go_simp <;> with_reducible rfl)⟩) (by assumption) ?_
  (try simp only [Act.put,List.setIfInBounds_toArray,List.set_cons_zero,List.set_cons_succ,List.getElem_toArray,List.getElem_cons_zero,List.getElem_cons_succ])
  refine till_take (i:=4) rfl (by kernel_rfl) (by kernel_rfl) (by kernel_rfl) (fun _ _ _ h => h) (by kernel_rfl) (Or.inl ⟨by rfl,by intro w _;(go_simp <;> with_reducible rfl)⟩) (by assumption) ?_
  (try simp only [Act.put,List.setIfInBounds_toArray,List.set_cons_zero,List.set_cons_succ,List.getElem_toArray,List.getElem_cons_zero,List.getElem_cons_succ])
  refine till_load (i:=5) rfl (by kernel_rfl) (by kernel_rfl) (by kernel_rfl) (fun _ _ _ h => h) (by kernel_rfl) (by kernel_rfl) (by kernel_rfl) (Or.inl ⟨by rfl,by intro w hSw;(have z1:=(hSw.cell (p:=⟨gx,1,none⟩) HGL.out).trans y1);(go_simp <;> with_reducible rfl)⟩) (by assumption) ?_
  (try simp only [Act.put,List.setIfInBounds_toArray,List.set_cons_zero,List.set_cons_succ,List.getElem_toArray,List.getElem_cons_zero,List.getElem_cons_succ])
  refine till_take (i:=6) rfl (by kernel_rfl) (by kernel_rfl) (by kernel_rfl) (fun _ _ _ h => h) (by kernel_rfl) (Or.inl ⟨by rfl,by intro w _;(go_simp <;> with_reducible rfl)⟩) (by assumption) ?_
  (try simp only [Act.put,List.setIfInBounds_toArray,List.set_cons_zero,List.set_cons_succ,List.getElem_toArray,List.getElem_cons_zero,List.getElem_cons_succ])
  refine till_take (i:=7) rfl (by kernel_rfl) (by kernel_rfl) (by kernel_rfl) (fun _ _ _ h => h) (by kernel_rfl) (Or.inl ⟨by rfl,by intro w _;(go_simp <;> with_reducible rfl)⟩) (by assumption) ?_
  (try simp only [Act.put,List.setIfInBounds_toArray,List.set_cons_zero,List.set_cons_succ,List.getElem_toArray,List.getElem_cons_zero,List.getElem_cons_succ])
  refine till_take (i:=8) rfl (by kernel_rfl) (by kernel_rfl) (by kernel_rfl) (fun _ _ _ h => h) (by kernel_rfl) (Or.inl ⟨by rfl,by intro w _;(go_simp <;> with_reducible rfl)⟩) (by assumption) ?_
  (try simp only [Act.put,List.setIfInBounds_toArray,List.set_cons_zero,List.set_cons_succ,List.getElem_toArray,List.getElem_cons_zero,List.getElem_cons_succ])
  refine till_take (i:=9) rfl (by kernel_rfl) (by kernel_rfl) (by kernel_rfl) (fun _ _ _ h => h) (by kernel_rfl) (Or.inl ⟨by rfl,by intro w _;(go_simp <;> with_reducible rfl)⟩) (by assumption) ?_
  (try simp only [Act.put,List.setIfInBounds_toArray,List.set_cons_zero,List.set_cons_succ,List.getElem_toArray,List.getElem_cons_zero,List.getElem_cons_succ])
  refine till_take (i:=10) rfl (by kernel_rfl) (by kernel_rfl) (by kernel_rfl) (fun _ _ _ h => h) (by kernel_rfl) (Or.inl ⟨by rfl,by intro w _;(go_simp <;> with_reducible rfl)⟩) (by assumption) ?_
  (try simp only [Act.put,List.setIfInBounds_toArray,List.set_cons_zero,List.set_cons_succ,List.getElem_toArray,List.getElem_cons_zero,List.getElem_cons_succ])
  refine till_load (i:=11) rfl (by kernel_rfl) (by kernel_rfl) (by kernel_rfl) (fun _ _ _ h => h) (by kernel_rfl) (by kernel_rfl) (by kernel_rfl) (Or.inl ⟨by rfl,by intro w hSw;(have z2:=(hSw.cell (p:=⟨A.b,1,none⟩) HBL.out).trans c1);(go_simp <;> with_reducible rfl)⟩) (by assumption) ?_
  (try simp only [Act.put,List.setIfInBounds_toArray,List.set_cons_zero,List.set_cons_succ,List.getElem_toArray,List.getElem_cons_zero,List.getElem_cons_succ])
  refine till_take (i:=12) rfl (by kernel_rfl) (by kernel_rfl) (by kernel_rfl) (fun _ _ _ h => h) (by kernel_rfl) (Or.inl ⟨by rfl,by intro w _;(go_simp <;> with_reducible rfl)⟩) (by assumption) ?_
  (try simp only [Act.put,List.setIfInBounds_toArray,List.set_cons_zero,List.set_cons_succ,List.getElem_toArray,List.getElem_cons_zero,List.getElem_cons_succ])
  refine till_take (i:=13) rfl (by kernel_rfl) (by kernel_rfl) (by kernel_rfl) (fun _ _ _ h => h) (by kernel_rfl) (Or.inl ⟨by rfl,by intro w _;(go_simp <;> with_reducible rfl)⟩) (by assumption) ?_
  (try simp only [Act.put,List.setIfInBounds_toArray,List.set_cons_zero,List.set_cons_succ,List.getElem_toArray,List.getElem_cons_zero,List.getElem_cons_succ])
  refine till_take (i:=14) rfl (by kernel_rfl) (by kernel_rfl) (by kernel_rfl) (fun _ _ _ h => h) (by kernel_rfl) (Or.inl ⟨by rfl,by intro w _;(go_simp <;> with_reducible rfl)⟩) (by assumption) ?_
  (try simp only [Act.put,List.setIfInBounds_toArray,List.set_cons_zero,List.set_cons_succ,List.getElem_toArray,List.getElem_cons_zero,List.getElem_cons_succ])
  refine till_load (i:=15) rfl (by kernel_rfl) (by kernel_rfl) (by kernel_rfl) (fun _ _ _ h => h) (by kernel_rfl) (by kernel_rfl) (by kernel_rfl) (Or.inl ⟨by rfl,by intro w hSw;(have z3:=(hSw.cell (p:=⟨cb,co + k * 7 + 5,none⟩) HCB.out).trans c5);(go_simp <;> with_reducible rfl)⟩) (by assumption) ?_
  (try simp only [Act.put,List.setIfInBounds_toArray,List.set_cons_zero,List.set_cons_succ,List.getElem_toArray,List.getElem_cons_zero,List.getElem_cons_succ])
  refine till_take (i:=16) rfl (by kernel_rfl) (by kernel_rfl) (by kernel_rfl) (fun _ _ _ h => h) (by kernel_rfl) (Or.inl ⟨by rfl,by intro w _;(go_simp <;> with_reducible rfl)⟩) (by assumption) ?_
  (try simp only [Act.put,List.setIfInBounds_toArray,List.set_cons_zero,List.set_cons_succ,List.getElem_toArray,List.getElem_cons_zero,List.getElem_cons_succ])
  refine till_one (i:=2) (by kernel_rfl) rfl (fun K hK => ?_)
  go_simp
  refine HCL.out.mono ?_
  rintro e w5 ⟨A5,k5,rfl,hr5,hn5,hq5,hb5o⟩
  (try go_wp2_with fail)
  have hb5:=(Below.refl W2.heap.size W2).drew.trans hb5o
  have HB5:=Lib.hid hb5;have HR5:=Lib.hid hr5;have HQ5:=Lib.hid hq5;have HN5:=Lib.hid hn5
  clear hr5 hn5 hq5 hb5 hb5o HCL hHeld
  refine hK.out _ _ (by exact HB5.out) (fun hHeld => ?_)
  clear hK K
  (try simp only [Act.put,List.setIfInBounds_toArray,List.set_cons_zero,List.set_cons_succ,List.getElem_toArray,List.getElem_cons_zero,List.getElem_cons_succ])
  refine till_one (i:=17) (by kernel_rfl) rfl (fun K hK => ?_)
  go_simp
  refine hK.out _ _ (by exact HB5.out) (fun hHeld => ?_)
  clear hK K
  (try simp only [Act.put,List.setIfInBounds_toArray,List.set_cons_zero,List.set_cons_succ,List.getElem_toArray,List.getElem_cons_zero,List.getElem_cons_succ])
  refine till_last (by kernel_rfl) rfl (fun K hK => ?_)
  rw [if_pos (by rfl)]
  have hA5:=(HB5.out.block ab HABL.out).trans HA2.out
  have hth:=there_blk (W:=w5) hA5 (n:=(#[.int .i64 0,.slice A5 g.ds.length k5,.bool q,.int .i64 0]:Array Value).size) rfl
  have hsz4:(Tryz.prog.info? 42).map (·.size) = some (#[.int .i64 0,.slice A5 g.ds.length k5,.bool q,.int .i64 0]:Array Value).size:=ans8_size
  refine wp_store_mid _ _ _ rfl ab 0 #[.int .i64 0,.slice A5 g.ds.length k5,.bool q,.int .i64 0] rfl rfl hth hsz4 (by kernel_rfl) ?_
  have HTH:=Lib.hid hth
  clear hth
  refine hK.out _ _ ?_
  clear hK K
  (try simp only [Act.put,List.setIfInBounds_toArray,List.set_cons_zero,List.set_cons_succ,List.getElem_toArray,List.getElem_cons_zero,List.getElem_cons_succ])
  refine till_done (by kernel_rfl) ?_ _
  go_wp2
  have hth:=HTH.out
  have hrg:=World.rangeAt_setCells_same (w5) (ab) 0 (#[.int .i64 0,.slice A5 g.ds.length k5,.bool q,.int .i64 0]:Array Value).toList (by simpa using hth)
  (try simp only [Exit.inBlock,Exit.then])
  refine bodyPost_ret (results_cell_mid rfl _ _ (ab) (#[.int .i64 0,.slice A5 g.ds.length k5,.bool q,.int .i64 0]:Array Value).toList _ rfl hrg Tryz.underlying42 rfl ans8_size) rfl ?_
  refine ⟨A5,k5,by rw [HQ.out],row_put4 HR5.out HN5.out (by have:=HABL.out;exact this),HQ5.out,below_put4 (HB.out.trans (HB5.out.mono HB.out.size)) (by rw [HAB.out];exact Nat.le_refl _) _,fun hp b hb => by have h1:=HN5.out hp b hb;have h2:W2.drew.heap.size = W2.heap.size:=rfl;have:=HB.out.size;omega⟩
end Go.Proofs.YtheeiklgblcjfaaGreatDoor
end
section
namespace Go.Proofs.YtheeiklgblcjfaaGreatDoor
open Go.RowKit Go.Sort
set_option linter.unusedVariables false
set_option linter.unusedSimpArgs false
set_option linter.unusedVariables false
set_option linter.unusedSimpArgs false
set_option maxRecDepth 100000
section
variable {ops:Array Oper} {rest:List Oper} {o:Oper} {a:Act} {w:World} {Q:Exit → Act → World → Prop} {kt et t:TypeId} {q:IntKind} {mb n:Nat} {f:Int → Option Value}
theorem wpList_del8 (h:MapH w kt q mb f n) (hk:Tryz.prog.underlying kt = some (.int q)) (ht:Tryz.prog.underlying t = some (.map kt et)) (p:Int) (hp:(Lit.int q p).wf = true) (hgd:o.guard = none) (m x:Operand) (ho:o.op = .call { callee:=.builtin .delete,args:=#[m,x],argTypes:=#[t,kt] })
    (hm:a.eval m = .map (some mb)) (hx:a.eval x = .int q p) (hK:∀ w',MapH w' kt q mb (fun j => if j = p then none else f j) n → Only (fun k => k = mb) w w' → wpList Tryz.prog ops Q rest (a.put o.dst (.tuple #[])) w'):wpList Tryz.prog ops Q (o :: rest) a w:=by
  refine wpList_plain hgd fun K hK' => ?_
  obtain ⟨w',hrun,r1,r2⟩:=h.del hk ht hp o.type
  unfold Oper.wp
  simp [execOp,ho,resolve,invoke,builtin,hm,hx,hrun,Result.andThen]
  exact hK' _ _ (hK w' r1 r2)
theorem wpList_put8 (h:MapH w kt q mb f n) (hk:Tryz.prog.underlying kt = some (.int q)) (ht:Tryz.prog.underlying t = some (.map kt et)) (p:Int) (hp:(Lit.int q p).wf = true) (hn:n ≤ 2000000) (v:Value) (hgd:o.guard = none) (m x y:Operand) (ho:o.op = .mapUpdate t m x y)
    (hm:a.eval m = .map (some mb)) (hx:a.eval x = .int q p) (hy:a.eval y = v) (hK:∀ w',MapH w' kt q mb (fun j => if j = p then some v else f j) (n + 1) → Only (fun k => k = mb) w w' → wpList Tryz.prog ops Q rest (a.put o.dst undef) w'):wpList Tryz.prog ops Q (o :: rest) a w:=by
  refine wpList_plain hgd fun K hK' => ?_
  obtain ⟨w',hrun,r1,r2⟩:=h.put hk ht hp hn v
  unfold Oper.wp
  simp [execOp,ho,hm,hx,hy,hrun,Result.andThen]
  exact hK' _ _ (hK w' r1 r2)
end
theorem poke_turn {w:World} {own:Nat → Tg8} {n0:Nat} {c:Cfg} {M:Md8} {A:Mx8} (h:MAt w own n0 c M A) {a x:Int} {w':World} (hm:MapH w' 36 .u64 A.mp (fun j => if j = a then (if x = 0 then none else some (.int .u32 x)) else fp8 M.wd j) (M.t + 1)) (ho:Only (fun k => k = A.mp) w w'):Turn8 w own n0 c { M with wd:=upI M.wd a x,t:=M.t + 1 } A w':=by
  have hp:=(h.mp (fun x => x)).1
  have hlt:=mat_lt h hp (by decide)
  exact ⟨own,A,rfl,rfl,rfl,MAt.fillWd h ho (fun _ _ => rfl) (fun k hk => h.free k (Nat.le_trans ho.size hk)) h.base a x (fun k hk e => .inr (by rw [e];exact hp)) ⟨hp,hm⟩,fun _ _ => rfl,ho.mono fun k _ e => by show (own k).mut;rw [e,hp];trivial⟩
theorem poke_b {w:World} {own:Nat → Tg8} {n0:Nat} {c:Cfg} {M:Md8} {A:Mx8} (h:MAt w own n0 c M A) (a x:Int) (ha:(Lit.int .u64 a).wf = true) (ht:M.t ≤ 100000):Calls Tryz.prog 41 #[.pointer (some ⟨A.b,0,none⟩),.int .u64 a,.int .u32 x] w fun e w' => e = .returned (.tuple #[]) ∧ Turn8 w own n0 c { M with wd:=upI M.wd a x,t:=M.t + 1 } A w':=by
  have c9:w.cell? ⟨A.b,9,none⟩ = some (.map (some A.mp)):=blk_at h.head.2 (i:=9) rfl
  have hmp:=(h.mp (fun x => x)).2
  have H:=Lib.hid h
  by_cases hx:x = 0
  · subst hx
    clear h
    go_enter Tryz.func41,Tryz.ntmps41
    go_wp2_with (at_delete;refine wpList_del8 hmp Tryz.underlying36 Tryz.underlying85 a ha rfl _ _ rfl rfl rfl ?_)
    intro w' hm' ho
    have HT:=Lib.hid (poke_turn H.out (a:=a) (x:=0) ((hm'.as fun j hj => by by_cases e:j = a <;> simp [e]).more (Nat.le_succ _)) ho)
    clear hm' ho
    go_wp2
    refine bodyPost_ret (results_none rfl _ _ _) rfl ?_
    exact ⟨rfl,HT.out⟩
  · have hx2:(x == 0) = false:=by simp [hx]
    have HX:=Lib.hid hx
    clear h hx
    go_enter Tryz.func41,Tryz.ntmps41
    go_wp2_with (at_mapUpdate;refine wpList_put8 hmp Tryz.underlying36 Tryz.underlying85 a ha (by omega) (.int .u32 x) rfl _ _ _ rfl rfl rfl rfl ?_)
    intro w' hm' ho
    have HT:=Lib.hid (poke_turn H.out (a:=a) (x:=x) (hm'.as fun j hj => by by_cases e:j = a <;> simp [e,HX.out]) ho)
    clear hm' ho
    go_wp2
    go_end0
    exact ⟨rfl,HT.out⟩
end Go.Proofs.YtheeiklgblcjfaaGreatDoor
end
section
namespace Go.Proofs.YtheeiklgblcjfaaGreatDoor
open Go.RowKit Go.Sort
set_option linter.unusedVariables false
set_option linter.unusedSimpArgs false
set_option linter.unusedVariables false
set_option linter.unusedSimpArgs false
set_option maxRecDepth 100000
/-- Of blocks that are new some are marked. -/
theorem own_new {w:World} {own:Nat → Tg8} {n0:Nat} {c:Cfg} {M:Md8} {A:Mx8} (h:MAt w own n0 c M A) {w':World} (hsz:w.heap.size ≤ w'.heap.size) (f:Nat → Tg8) (hf:∀ k,f k ≠ .free → w.heap.size ≤ k ∧ k < w'.heap.size):∃ own':Nat → Tg8,(∀ k,k < w.heap.size → own' k = own k) ∧ (∀ k,w'.heap.size ≤ k → own' k = .free) ∧ (∀ k,own' k ≠ .free → n0 ≤ k) ∧ ∀ k,w.heap.size ≤ k → own' k = f k:=by
  refine ⟨fun k => if w.heap.size ≤ k then f k else own k,fun k hk => if_neg (by omega),fun k hk => ?_,fun k hk => ?_,fun k hk => if_pos hk⟩
  · show (if _ then _ else _) = _
    rw [if_pos (by omega)]
    cases e:f k <;> first | rfl | (exfalso;have:=hf k (by rw [e];simp);omega)
  · have hk:(if w.heap.size ≤ k then f k else own k) ≠ .free:=hk
    by_cases h1:w.heap.size ≤ k
    · exact Nat.le_trans h.n0le h1
    · rw [if_neg h1] at hk;exact h.base k hk
/-- Does a message's row lie in block k? -/
def inRow (g:Gv8) (k:Nat):Bool:=decide (0 < g.ds.length) && (match g.A with | some a => decide (a.block = k) | none => false)
theorem inRow_of {g:Gv8} (hp:0 < g.ds.length) {a:Addr} (ha:g.A = some a):inRow g a.block = true:=by unfold inRow;rw [ha];simp [hp]
theorem inRow_is {g:Gv8} {k:Nat} (h:inRow g k = true):0 < g.ds.length ∧ ∃ a,g.A = some a ∧ a.block = k:=by
  unfold inRow at h
  cases e:g.A with
  | none => rw [e] at h;simp at h
  | some a => rw [e] at h;simp at h;exact ⟨h.1,a,rfl,h.2⟩
theorem wr_turn {w:World} {own:Nat → Tg8} {n0:Nat} {c:Cfg} {M:Md8} {A:Mx8} (h:MAt w own n0 c M A) (k:Nat) (g:Gv8) {w':World} (ho:Only (fun j => j = A.mw) w w') (hm:MapH w' 3 .i64 A.mw (fun j => if j = (k:Int) then some (.agg (gC g).toArray) else fw8 A.wv j) (M.t + 1)) (hr:IntRowK .u32 w' w'.heap.size g.A g.ds) (hc:g.ds.length ≤ g.k ∧ g.k ≤ maxLen ∧ (g.A = none → g.ds = []))
    (hn:0 < g.ds.length → ∀ a,g.A = some a → w.heap.size ≤ a.block) (hz:g.ds.length ≤ 1000000 ∧ -1 ≤ g.stamp ∧ g.stamp ≤ 1099511627776):Turn8 w own n0 c { M with wr:=up8 M.wr k (some g.ms),t:=M.t + 1 } A w':=by
  have hmw:=(h.mw (fun x => x)).1
  have hlt:=mat_lt h hmw (by decide)
  obtain ⟨own',h1,h2,h3,h4⟩:=own_new h ho.size (fun j => if inRow g j = true then .msg else .free) (fun j hj => by
    by_cases e:inRow g j = true
    · obtain ⟨hp,a,ha,rfl⟩:=inRow_is e
      obtain ⟨b,o,e2,hb,_⟩:=hr hp
      exact ⟨hn hp a ha,by rw [e2] at ha;cases ha;exact hb⟩
    · rw [if_neg e] at hj;exact absurd rfl hj)
  refine ⟨own',{ A with wv:=up8 A.wv k (some g) },rfl,rfl,rfl,MAt.fillWr h ho h1 h2 h3 k g (fun j hj e => .inr (by rw [e];exact hmw)) ⟨hr,hc,fun hp a ha => ?_⟩ hz ⟨by rw [h1 _ hlt];exact hmw,hm⟩,h1,ho.mono fun j _ e => by show (own j).mut;rw [e,hmw];trivial⟩
  rw [h4 _ (hn hp a ha),if_pos (inRow_of hp ha)]
/-- A queue takes one more. -/
theorem send_turn {w:World} {own:Nat → Tg8} {n0:Nat} {c:Cfg} {M:Md8} {A:Mx8} (h:MAt w own n0 c M A) (k:Nat) (hq:qing c k = true) (g:Gv8) (v:Value) {w':World} (ho:Only (fun j => j = A.rb k ∨ (A.iv k).ownBlock = some j) w w') (hb:w'.heap[A.rb k]? = some (.cells #[.int .i64 (dep8 c k),v] 139 (0,0))) (hi:OwnsOff w' n0 96 2 v (A.qv k ++ [g]).length (gsC (A.qv k ++ [g])))
    (hv:∀ j,v.ownBlock = some j → (A.iv k).ownBlock = some j ∨ w.heap.size ≤ j) (hr:IntRowK .u32 w' w'.heap.size g.A g.ds) (hc:g.ds.length ≤ g.k ∧ g.k ≤ maxLen ∧ (g.A = none → g.ds = [])) (hn:0 < g.ds.length → ∀ a,g.A = some a → w.heap.size ≤ a.block) (hne:0 < g.ds.length → ∀ a,g.A = some a → v.ownBlock ≠ some a.block) (hs:g.stamp = 0)
    (hl:((M.qs k).length:Int) < dep8 c k):Turn8 w own n0 c { M with qs:=up8 M.qs k (M.qs k ++ [g.ds]),t:=M.t + 1 } A w':=by
  obtain ⟨r1,r2⟩:=h.row k hq (fun x => x)
  obtain ⟨i1,i2⟩:=h.items k hq (fun x => x)
  have hlt:=mat_lt h r1 (by simp)
  have hvl:∀ j,v.ownBlock = some j → j < w'.heap.size:=fun j e => (hi.lt j e).2
  obtain ⟨own',h1,h2,h3,h4⟩:=own_new h ho.size (fun j => if v.ownBlock = some j ∧ w.heap.size ≤ j then .items k else if inRow g j = true then .msg else .free) (fun j hj => by
    by_cases e0:v.ownBlock = some j ∧ w.heap.size ≤ j
    · exact ⟨e0.2,hvl j e0.1⟩
    · rw [if_neg e0] at hj
      by_cases e:inRow g j = true
      · obtain ⟨hp,a,ha,rfl⟩:=inRow_is e
        obtain ⟨b,o,e2,hb,_⟩:=hr hp
        exact ⟨hn hp a ha,by rw [e2] at ha;cases ha;exact hb⟩
      · rw [if_neg e] at hj;exact absurd rfl hj)
  have tg:∀ j,v.ownBlock = some j → own' j = .items k:=fun j e => by
    rcases hv j e with h5 | h5
    · rw [h1 j (i1.lt j h5).2];exact i2 j h5
    · rw [h4 j h5,if_pos ⟨e,h5⟩]
  have hS:∀ j,j < w.heap.size → (j = A.rb k ∨ (A.iv k).ownBlock = some j) → own j = .row k ∨ own j = .items k:=fun j _ e => by
    rcases e with e | e
    · exact .inl (by rw [e];exact r1)
    · exact .inr (i2 j e)
  have old:∀ z,z ∈ A.qv k → GAt w' own' z:=fun z hz => (h.msgq k z hz).only ho h1 (fun j hj e e2 => by rcases hS j hj e with h5 | h5 <;> (rw [e2] at h5;cases h5))
  have hlen:(A.qv k).length = (M.qs k).length:=by rw [← h.gq k,List.length_map]
  have hM:(M.qs k ++ [g.ds]) = (A.qv k ++ [g]).map (·.ds):=by rw [List.map_append,h.gq k];rfl
  rw [hM]
  refine ⟨own',{ A with iv:=up8 A.iv k v,qv:=up8 A.qv k (A.qv k ++ [g]) },rfl,rfl,rfl,MAt.fillQ h ho h1 h2 h3 k v (A.qv k ++ [g]) (fun j hj e => .inr (hS j hj e)) (by rw [List.length_append,hlen];simp;omega) (fun z hz => ?_) ⟨by rw [h1 _ hlt];exact r1,hb⟩ ⟨hi,tg⟩ (fun z hz => ?_),h1,ho.mono fun j hj e => by show (own j).mut;rcases hS j hj e with h5 | h5 <;> (rw [h5];trivial)⟩
  · rcases List.mem_append.1 hz with hz | hz
    · exact h.gs k z hz
    · rw [List.mem_singleton.1 hz];exact hs
  · rcases List.mem_append.1 hz with hz | hz
    · exact old z hz
    · rw [List.mem_singleton.1 hz]
      refine ⟨hr,hc,fun hp a ha => ?_⟩
      rw [h4 _ (hn hp a ha),if_neg (fun e => hne hp a ha e.1),if_pos (inRow_of hp ha)]
/-- A queue gives its first one. -/
theorem recv_turn {w:World} {own:Nat → Tg8} {n0:Nat} {c:Cfg} {M:Md8} {A:Mx8} (h:MAt w own n0 c M A) (k:Nat) (hq:qing c k = true) (g:Gv8) (l:List Gv8) (hg:A.qv k = g :: l) (v:Value) {w':World} (ho:Only (fun j => j = A.rb k ∨ (A.iv k).ownBlock = some j) w w') (hb:w'.heap[A.rb k]? = some (.cells #[.int .i64 (dep8 c k),v] 139 (0,0))) (hi:OwnsOff w' n0 96 2 v l.length (gsC l))
    (hv:∀ j,v.ownBlock = some j → (A.iv k).ownBlock = some j ∨ w.heap.size ≤ j):Turn8 w own n0 c { M with qs:=up8 M.qs k (l.map (·.ds)),t:=M.t + 1 } A w' ∧ IntRowK .u32 w' w'.heap.size g.A g.ds:=by
  obtain ⟨r1,r2⟩:=h.row k hq (fun x => x)
  obtain ⟨i1,i2⟩:=h.items k hq (fun x => x)
  have hlt:=mat_lt h r1 (by simp)
  have hS:∀ j,j < w.heap.size → (j = A.rb k ∨ (A.iv k).ownBlock = some j) → own j = .row k ∨ own j = .items k:=fun j _ e => by
    rcases e with e | e
    · exact .inl (by rw [e];exact r1)
    · exact .inr (i2 j e)
  obtain ⟨own',h1,h2,h3,h4⟩:=own_new h ho.size (fun j => if v.ownBlock = some j ∧ w.heap.size ≤ j then .items k else .free) (fun j hj => by
    by_cases e0:v.ownBlock = some j ∧ w.heap.size ≤ j
    · exact ⟨e0.2,(hi.lt j e0.1).2⟩
    · rw [if_neg e0] at hj;exact absurd rfl hj)
  have tg:∀ j,v.ownBlock = some j → own' j = .items k:=fun j e => by
    rcases hv j e with h5 | h5
    · rw [h1 j (i1.lt j h5).2];exact i2 j h5
    · rw [h4 j h5,if_pos ⟨e,h5⟩]
  have old:∀ z,z ∈ A.qv k → GAt w' own' z:=fun z hz => (h.msgq k z hz).only ho h1 (fun j hj e e2 => by rcases hS j hj e with h5 | h5 <;> (rw [e2] at h5;cases h5))
  have hlen:(A.qv k).length = (M.qs k).length:=by rw [← h.gq k,List.length_map]
  have hqz:=h.qz k hq
  exact ⟨⟨own',{ A with iv:=up8 A.iv k v,qv:=up8 A.qv k l },rfl,rfl,rfl,MAt.fillQ h ho h1 h2 h3 k v l (fun j hj e => .inr (hS j hj e)) (by rw [hg] at hlen;simp at hlen;omega) (fun z hz => h.gs k z (by rw [hg];exact List.mem_cons_of_mem _ hz)) ⟨by rw [h1 _ hlt];exact r1,hb⟩ ⟨hi,tg⟩ (fun z hz => old z (by rw [hg];exact List.mem_cons_of_mem _ hz)),h1,ho.mono fun j hj e => by show (own j).mut;rcases hS j hj e with h5 | h5 <;> (rw [h5];trivial)⟩,(old g (by rw [hg];exact List.mem_cons_self ..)).row⟩
/-- An answer's data: a message's own,or in new memory. -/
def DataAt (w:World) (own:Nat → Tg8) (w':World) (rA:Option Addr) (l:List Int):Prop:=0 < l.length → IntRowK .u32 w' w'.heap.size rA l ∧ ∀ a,rA = some a → own a.block = .msg ∨ w.heap.size ≤ a.block
/-- A call's answer,and what it makes of the model. -/
def Goes8 (w:World) (own:Nat → Tg8) (n0:Nat) (c:Cfg) (a:An8) (M':Md8) (A:Mx8) (e:Ending) (w':World):Prop:=∃ rA rk,e = .returned (.agg #[.int .i64 a.code,.slice rA a.data.length rk,.bool a.valid,.int .i64 a.count]) ∧ DataAt w own w' rA a.data ∧ (a.data.length ≤ rk ∧ rk ≤ maxLen ∧ (rA = none → a.data = [])) ∧ Turn8 w own n0 c M' A w'
theorem Turn8.low {w w1 w':World} {own:Nat → Tg8} {n0:Nat} {c:Cfg} {M':Md8} {A:Mx8} (h:Turn8 w1 own n0 c M' A w') (hb:Below w.heap.size w w1):Turn8 w own n0 c M' A w':=h.after hb
end Go.Proofs.YtheeiklgblcjfaaGreatDoor
end
