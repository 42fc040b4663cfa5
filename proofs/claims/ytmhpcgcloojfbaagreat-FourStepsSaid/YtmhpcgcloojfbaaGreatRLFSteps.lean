/- Texts of the ring, joined, what is used of them. No condition but those in the statements. -/
import Derived.BigQuiet
import Derived.BigRegion
import Derived.Deep.MidRow
import Derived.Deep.RegionHeld3
import Derived.Deep.Upon
import Derived.IntWalk
import Derived.Shelf.Abstract
import Derived.Test.YtmhpcgcloojfbaaGreatRFZd
import Derived.Test.YtmhpcgcloojfbaaGreatRLOpen
import Derived.Test.YtmhpcgcloojfbaaGreatRMK
import Derived.Test.YtmhpcgcloojfbaaGreatRgN
namespace Go.Proofs.YtmhpcgcloojfbaaGreat
open Go.RowKit Go.Sort
set_option linter.unusedVariables false
set_option linter.unusedSimpArgs false
set_option linter.unusedVariables false
set_option linter.unusedSimpArgs false
open Go.Proofs.YtmhpcgcloojfbaaGreat.Simp
set_option maxRecDepth 100000
set_option maxHeartbeats 12800000
structure LockF (T:Prop):Prop where
  get:T
theorem cut2F {T G:Prop} (six:T) (body:LockF T → G):G:=body ⟨six⟩
theorem lfsteps_b (c:Cfg) (x:CfgAt) (zs al:List Int) (AZ AA:Option Addr) (capZ capA:Nat) (w:World) (hx:CfgIn w w.heap.size c x) (wx:CfgWf c) (hrz:IntRowK .u32 w w.heap.size AZ zs) (hra:IntRowK .u8 w w.heap.size AA al) (hz32:W32 zs) (ha8:∀ j,0 ≤ al.getD j 0 ∧ al.getD j 0 ≤ 255) (hcz:zs.length ≤ capZ) (hca:al.length ≤ capA):Calls Tryz.prog 3 #[.agg (cfgCells c x),.slice AZ zs.length capZ,.slice AA al.length capA] w fun e w' => e = .returned (.bool true) ∧ Below w.heap.size w w':=by
  obtain ⟨W,HW,hB0,hWs,bx⟩:=one_cbox w c x 29
  have hxW:=hx.later hB0
  have HB:=Lib.hid hB0;have HXW:=Lib.hid hxW;have HRZ:=Lib.hid hrz;have HRA:=Lib.hid hra;have HZ32:=Lib.hid hz32;have HA8:=Lib.hid ha8;have HCP:=Lib.hid (And.intro hcz hca);have BX:=Lib.hid bx
  have HWX:=Lib.hid wx
  simp only [cfgCells] at HW ⊢
  clear hx hB0 hxW hrz hra hz32 ha8 hWs hcz hca bx wx
  go_enter Tryz.func3,Tryz.ntmps3
  go_wp2_with (rw [← HW.out])
  refine (wakes_b W).mono ?_
  rintro e w1 ⟨rfl,hb1⟩
  have HX1:=Lib.hid (HXW.out.later hb1)
  obtain ⟨c0,c1,c2,c3,c4,c5⟩:=BX.out _ hb1
  have HB1:=Lib.hid hb1
  clear hb1
  by_cases hg:cfgLe 100 c = true
  case neg =>
    have HG:=Lib.hid (great_is c x true w1 (by rw [Bool.not_eq_true] at hg;rw [hg];rfl))
    simp only [cfgCells] at HG
    clear hg
    go_wp2_with fail
    refine HG.out.mono ?_
    rintro e w2 ⟨rfl,hb2⟩
    have HF:=Lib.hid (HB.out.trans ((HB1.out.trans (hb2.mono HB1.out.size)).mono HB.out.size))
    clear hb2
    go_wp2
    go_ret
    exact ⟨rfl,HF.out⟩
  have lx:=cfgLe_few hg (by omega)
  have HLX:=Lib.hid lx
  have HG:=Lib.hid (great_is c x false w1 (by rw [hg];rfl))
  simp only [cfgCells] at HG
  clear hg lx
  go_wp2_with fail
  refine HG.out.mono ?_
  rintro e w2 ⟨rfl,hb2⟩
  have HX2:=Lib.hid (HX1.out.later hb2)
  have HB2:=Lib.hid (HB1.out.trans (hb2.mono HB1.out.size))
  clear hb2 c0 c1 c2 c3 c4 c5
  obtain ⟨c0,c1,c2,c3,c4,c5⟩:=BX.out _ HB2.out
  by_cases ha:acceptsB c = true
  case neg =>
    have HRC:=Lib.hid (racc_b c x false w2 HX2.out HWX.out HLX.out (by simpa using ha))
    simp only [cfgCells] at HRC
    clear ha
    go_wp2_with fail
    refine HRC.out.mono ?_
    rintro e w3 ⟨rfl,hb3⟩
    have HF:=Lib.hid (HB.out.trans ((HB2.out.trans (hb3.mono HB2.out.size)).mono HB.out.size))
    clear hb3
    go_wp2
    go_ret
    exact ⟨rfl,HF.out⟩
  have HACC:=Lib.hid ha
  have HRC:=Lib.hid (racc_b c x true w2 HX2.out HWX.out HLX.out ha)
  simp only [cfgCells] at HRC
  clear ha
  go_wp2_with fail
  refine HRC.out.mono ?_
  rintro e w3 ⟨rfl,hb3⟩
  have HB3:=Lib.hid (HB2.out.trans (hb3.mono HB2.out.size))
  clear hb3 c0 c1 c2 c3 c4 c5
  obtain ⟨c0,c1,c2,c3,c4,c5⟩:=BX.out _ HB3.out
  by_cases hl:200 < al.length
  case pos =>
    have hl2:(200:Int) < (al.length:Int):=by omega
    clear hl
    go_wp2
    go_ret
    exact ⟨rfl,HB.out.trans (HB3.out.mono HB.out.size)⟩
  have hl2:¬ ((200:Int) < (al.length:Int)):=by omega
  by_cases hm:100 < zs.length
  case pos =>
    have hm2:(100:Int) < (zs.length:Int):=by omega
    clear hm hl
    go_wp2
    go_ret
    exact ⟨rfl,HB.out.trans (HB3.out.mono HB.out.size)⟩
  have hm2:¬ ((100:Int) < (zs.length:Int)):=by omega
  have HLM:Hid (al.length ≤ 200 ∧ zs.length ≤ 100):=Lib.hid (by omega)
  clear hl hm
  go_wp2
  clear c0 c1 c2 c3 c4 c5 hl2 hm2
  go_loopw [45] (fun ix wr => ∃ j:Nat,j ≤ c.chans.length ∧ ix = .int .i64 j ∧ Below W.heap.size W wr) (fun ix _ => c.chans.length - (intOf ix).toNat)
  case atStart => exact ⟨0,Nat.zero_le _,rfl,HB3.out⟩
  obtain ⟨j,hj,rfl,hbr⟩:=hrel
  by_cases hjl:j < c.chans.length
  case neg =>
    have s1:¬ ((j:Int) < (c.chans.length:Int)):=by omega
    have HF:=Lib.hid (HB.out.trans (hbr.mono HB.out.size))
    clear hbr
    go_wp2
    go_ret
    exact ⟨rfl,HF.out⟩
  have s1:(j:Int) < (c.chans.length:Int):=by omega
  obtain ⟨b,o,y0,y1,y2,y3,y4,y5,y6,e0,hlt,e1,hwf,hrow⟩:=HXW.out.rc.at7 HWX.out.wc hjl
  obtain ⟨k0,k1,k2,k3,k4,k5,k6⟩:=hrow wr hbr
  rw [e0]
  have HE1:=Lib.hid e1;have HWF:=Lib.hid hwf;have HROW:=Lib.hid hrow;have HBR:=Lib.hid hbr
  clear e1 hwf hrow hbr e0 hlt
  obtain ⟨_,hcl,_,_⟩:=HLX.out

  by_cases hk:y0 = 1
  case neg =>
    have hkb:(y0 != 1) = true:=by simp [hk]
    have hkc:(y0 == 1) = false:=by simp [hk]
    obtain ⟨V,HV⟩:∃ u,Hid (u = wr.alloc (.cells #[.int .i64 y0,.int .i64 y1,.int .i64 y2,.int .i64 y3,.int .i64 y4,.int .i64 y5,.int .u32 y6] 36)):=⟨_,rfl⟩
    have HBV:Hid (Below W.heap.size W V):=Lib.hid (by rw [HV.out];exact HBR.out.alloc HBR.out.size _)
    have hv0:V.cell? ⟨wr.heap.size,0,none⟩ = some (.int .i64 y0):=by rw [HV.out];exact cell_blk (heap_alloc_new _ _) rfl
    clear hk
    go_wp2_with (rw [← HV.out])
    go_roundw
    case rel => exact ⟨j + 1,by omega,by go_num,HBV.out⟩
    case measure => simp [intOf];omega
  subst hk
  obtain ⟨V,HV⟩:∃ u,Hid (u = wr.alloc (.cells #[.int .i64 1,.int .i64 y1,.int .i64 y2,.int .i64 y3,.int .i64 y4,.int .i64 y5,.int .u32 y6] 36)):=⟨_,rfl⟩
  obtain ⟨xb,hxb⟩:∃ q,q = wr.heap.size:=⟨_,rfl⟩
  have HBV:Hid (Below W.heap.size W V):=Lib.hid (by rw [HV.out];exact HBR.out.alloc HBR.out.size _)
  have HVX:Hid (V.heap[xb]? = some (.cells #[.int .i64 1,.int .i64 y1,.int .i64 y2,.int .i64 y3,.int .i64 y4,.int .i64 y5,.int .u32 y6] 36 (0,0))):=Lib.hid (by rw [HV.out,hxb];exact heap_alloc_new _ _)
  have HXB:=Lib.hid hxb
  obtain ⟨c0,c1,c2,c3,c4,c5⟩:=BX.out _ HBV.out
  have hrj:=row_at HE1.out
  have HF0:Hid (FrOf c j ⟨(beforeN c j).toNat,(beforeN c j + srcN (row c.chans j)).toNat,(fld (row c.chans j) 3).toNat,fld (row c.chans j) 5⟩):=Lib.hid (frOf HACC.out j hjl (by rw [hrj];rfl) (per_of HACC.out j hjl (by rw [hrj];rfl)))
  obtain ⟨F,HF⟩:∃ F,Hid (FrOf c j F):=⟨_,HF0⟩
  have hwd:y3 = (F.n:Int):=by have q:=HF.out.words;rw [hrj] at q;exact q
  have hsz0:=HF.out.size
  obtain ⟨n,hn⟩:=Int.eq_ofNat_of_zero_le hsz0.1
  have HNN:Hid ((sizeN c).toNat = n):=Lib.hid (by omega)
  have HN:Hid (n ≤ 65536):=Lib.hid (by omega)
  have HSZ:=Lib.hid (rsize_b c x V (HXW.out.later HBV.out) HWX.out HLX.out)
  rw [hn] at HSZ
  simp only [cfgCells] at HSZ
  clear hrj HF0 hsz0 hn hxb
  subst hwd
  have hv0:V.cell? ⟨wr.heap.size,0,none⟩ = some (.int .i64 1):=by rw [HV.out];exact cell_blk (heap_alloc_new _ _) rfl
  go_wp2_with (rw [← HV.out])
  simp only [← HXB.out]
  clear hv0 k0 k1 k2 k3 k4 k5 k6
  refine HSZ.out.mono ?_
  rintro e v1 ⟨rfl,hb1⟩
  have HB4:=Lib.hid (HBV.out.trans (hb1.mono HBV.out.size))
  have HV1:=Lib.hid ((hb1.block xb (Array.getElem?_eq_some_iff.1 HVX.out).1).trans HVX.out)
  clear hb1 c0 c1 c2 c3 c4 c5
  go_wp2_with fail
  refine (memNew_at n _ rfl v1 HN.out).mono ?_
  rintro e v2 ⟨mb,rb,rfl,hmb,hrb,hmem,hb2⟩
  have HMB:=Lib.hid (And.intro hmb hrb)
  have HB5:=Lib.hid (HB4.out.trans (hb2.mono HB4.out.size))
  have HB12:=Lib.hid hb2
  have HV2:=Lib.hid ((hb2.block xb (Array.getElem?_eq_some_iff.1 HV1.out).1).trans HV1.out)
  have HMEM:=Lib.hid hmem
  clear hmb hrb hmem hb2
  obtain ⟨c0,c1,c2,c3,c4,c5⟩:=BX.out _ HB5.out
  obtain ⟨v3,rfl⟩:∃ u,u = v2:=⟨_,rfl⟩
  have HM3:=HMEM;have HB6:=HB5;have HV3:=HV2
  clear c0 c1 c2 c3 c4 c5
  go_wp2_with fail
  refine (memLen_b mb rb _ v3 HM3.out).mono ?_
  rintro e w' ⟨rfl,rfl⟩
  rw [List.length_replicate]
  go_wp2
  go_loopw [67] (fun ix wv => ∃ (i:Nat) (ws:List Int),i ≤ n ∧ ix = .int .i64 i ∧ ws.length = n ∧ W32 ws ∧ MemAt wv mb rb ws ∧ Only (fun k => k = rb) v3 wv) (fun ix _ => n - (intOf ix).toNat)
  case atStart => exact ⟨0,List.replicate n 0,Nat.zero_le _,rfl,List.length_replicate ..,w32_zero n,HM3.out,Only.refl _ _⟩
  obtain ⟨i,ws,hi,rfl,hwl,hw32,hm,ho⟩:=hrel
  have HMW:=Lib.hid hm;have HOW:=Lib.hid ho;have HW32:=Lib.hid hw32;have HWL:=Lib.hid hwl
  have HBW:Hid (Below W.heap.size W wr):=Lib.hid (belF HB6.out ho (fun k hk => by subst hk;have:=HMB.out.2;have:=HB4.out.size;omega) (Nat.le_refl _))
  clear hm ho hw32 hwl
  have hn6:=HN.out
  by_cases hil:i < n
  case pos =>
    have s2:(i:Int) < (n:Int):=by omega
    have hu:IntKind.u64.wrap (i:Int) = (i:Int):=IntWalk.u64_in _ (by omega)
    by_cases hz:0 < zs.length
    case neg =>
      have hz2:¬ ((0:Int) < (zs.length:Int)):=by omega
      clear hz
      go_wp2
      go_roundw
      case rel => exact ⟨i + 1,ws,by omega,by go_num,HWL.out,HW32.out,HMW.out,HOW.out⟩
      case measure => simp [intOf];omega
    have hz2:(0:Int) < (zs.length:Int):=by omega
    have hz3:¬ ((zs.length:Int) = 0):=by omega
    have hzl:=HLM.out.2
    obtain ⟨r,hr⟩:∃ r,r = i % zs.length:=⟨_,rfl⟩
    have hrl:r < zs.length:=by rw [hr];exact Nat.mod_lt _ hz
    have hrm:(i:Int).tmod (zs.length:Int) = (r:Int):=by rw [Int.tmod_eq_emod_of_nonneg (by omega),hr];rfl
    have hrw:IntKind.i64.wrap (r:Int) = (r:Int):=IntWalk.i64_in _ (by omega)
    have hrs:(r:Int) < (zs.length:Int):=by omega
    obtain ⟨bz,oz,hAZ,-,hcz⟩:=HRZ.out hz
    have hzc:=((HB.out.trans (HBW.out.mono HB.out.size)).cell (p:=⟨bz,oz + r,none⟩) (by obtain ⟨_,_,q,q2,_⟩:=HRZ.out hz;rw [hAZ] at q;cases q;exact q2)).trans (hcz r hrl)
    obtain ⟨z,hz0⟩:∃ z,zs.getD r 0 = z:=⟨_,rfl⟩
    have HZ0:=Lib.hid (show 0 ≤ z ∧ z ≤ 4294967295 from by have q:=HZ32.out r;unfold rd at q;rw [hz0] at q;exact q)
    rw [hz0] at hzc
    subst hAZ
    clear hr hz hcz hz0
    go_wp2_with fail
    refine (memStore_at mb rb ws i _ _ (by rfl) wr HMW.out (by have:=HWL.out;omega) (by have:=HWL.out;omega)).mono ?_
    rintro e w5 ⟨rfl,hw5⟩
    have HM5:=Lib.hid (show MemAt w5 mb rb (ws.set i z) from by rw [hw5];exact HMW.out.set i z)
    have HO5:=Lib.hid (show Only (fun k => k = rb) v3 w5 from by rw [hw5];exact HOW.out.set (p:=⟨rb,i,none⟩) rfl _)
    clear hw5 hzc
    go_wp2
    go_roundw
    case rel => exact ⟨i + 1,ws.set i z,by omega,by go_num,by rw [List.length_set];exact HWL.out,HW32.out.set HZ0.out,HM5.out,HO5.out⟩
    case measure => simp [intOf];omega
  obtain rfl:i = n:=by omega
  have s2:¬ ((i:Int) < (i:Int)):=by omega
  clear hil hi
  go_wp2_with fail
  refine (memWords_b mb rb ws wr HMW.out (by have:=HWL.out;omega)).mono ?_
  rintro e v4 ⟨yb,rfl,hyb,hwy,hb4⟩
  rw [HWL.out]
  have HYB:=Lib.hid hyb;have HWY:=Lib.hid hwy;have HB4':=Lib.hid hb4
  have HBX:=Lib.hid (HBW.out.trans (hb4.mono HBW.out.size))
  obtain ⟨c0,c1,c2,c3,c4,c5⟩:=BX.out _ HBX.out
  clear hyb hwy hb4
  obtain ⟨W5,HW5⟩:∃ u,Hid (u = v4):=⟨_,rfl⟩
  have HB45:Hid (Below v4.heap.size v4 W5):=Lib.hid (by rw [HW5.out];exact (Below.refl _ _))
  obtain ⟨W6,HW6⟩:∃ u,Hid (u = W5.alloc (.cells #[.int .u32 7,.int .u32 8,.int .u32 9] 34)):=⟨_,rfl⟩
  obtain ⟨db,hdb⟩:∃ q,q = W5.heap.size:=⟨_,rfl⟩
  have HB56:Hid (Below W5.heap.size W5 W6):=Lib.hid (by rw [HW6.out];exact (Below.refl _ _).alloc (Nat.le_refl _) _)
  have HB46:Hid (Below v4.heap.size v4 W6):=Lib.hid (HB45.out.trans (HB56.out.mono HB45.out.size))
  have HB6':Hid (Below W.heap.size W W6):=Lib.hid (HBX.out.trans (HB46.out.mono HBX.out.size))
  have HV4:Hid (v4.heap[xb]? = some (.cells #[.int .i64 1,.int .i64 y1,.int .i64 y2,.int .i64 (F.n:Int),.int .i64 y4,.int .i64 y5,.int .u32 y6] 36 (0,0))):=Lib.hid (by
    have h1:=HV3.out
    have h2:=HOW.out.at_ h1 (fun e => by have:=(Array.getElem?_eq_some_iff.1 HV1.out).1;have:=HMB.out.2;omega)
    exact (HB4'.out.block xb (Array.getElem?_eq_some_iff.1 h2).1).trans h2)
  have HVW6:=Lib.hid ((HB46.out.block xb (Array.getElem?_eq_some_iff.1 HV4.out).1).trans HV4.out)
  have e3:W6.cell? ⟨xb,3,none⟩ = some (.int .i64 (F.n:Int)):=cell_blk HVW6.out rfl
  have e6:W6.cell? ⟨xb,6,none⟩ = some (.int .u32 y6):=cell_blk HVW6.out rfl
  have HDB:Hid (W6.heap[db]? = some (.cells #[.int .u32 7,.int .u32 8,.int .u32 9] 34 (0,0))):=Lib.hid (by rw [HW6.out,hdb];exact heap_alloc_new _ _)
  obtain ⟨m,hm⟩:∃ m,m = min F.n 3:=⟨_,rfl⟩
  have HMM:Hid (m = min F.n 3):=Lib.hid hm
  have hm3:m ≤ 3:=by omega
  have hmin:∀ (ts:Array TypeId) (t:TypeId) (w:World),(Builtin.min_ ts t #[.int .i64 (F.n:Int),.int .i64 3]).run Tryz.prog w = .ok (.int .i64 (m:Int)) w:=fun ts t w => by
    rw [run_min_int2,show (if (3:Int) < (F.n:Int) then (3:Int) else (F.n:Int)) = (m:Int) by rw [hm];split <;> omega]
  obtain ⟨p0,hp0,_,_,_⟩:=info_parts Tryz.infoW
  have hup:=fun w => upto_row (P:=Tryz.prog) (t:=30) Tryz.underlying30 hp0 (some ⟨db,0,none⟩) 3 3 m (by omega) w
  clear hm
  have HDBN:=Lib.hid hdb
  rw [hdb] at hup
  clear hdb
  go_wp2_with (first | (fail) | (rw [← HW5.out]) | (rw [← HW6.out]))
  simp only [← HDBN.out]
  obtain ⟨ds,hds⟩:∃ ds:List Int,ds = List.take m [7,8,9]:=⟨_,rfl⟩
  have hn1:=HF.out.fin.n1
  have hdl:ds.length = m:=by rw [hds,List.length_take];show min m 3 = m;omega
  have hdg:∀ q,q < m → (#[.int .u32 7,.int .u32 8,.int .u32 9]:Array Value)[0 + q]? = some (.int .u32 (ds.getD q 0)):=fun q hq => by
    have:q = 0 ∨ q = 1 ∨ q = 2:=by omega
    rcases this with rfl | rfl | rfl <;> (rw [hds];simp [List.getD_eq_getElem?_getD,List.getElem?_take,hq])
  have HDS:Hid (ds.length = m ∧ W32 ds ∧ 1 ≤ m ∧ m ≤ F.n ∧ (∀ q,q < m → (#[.int .u32 7,.int .u32 8,.int .u32 9]:Array Value)[0 + q]? = some (.int .u32 (ds.getD q 0)))):=Lib.hid ⟨hdl,w32_of (fun q hq => by rw [hds] at hq;have:=List.mem_of_mem_take hq;simp at this;omega),by have:=HMM.out;omega,by have:=HMM.out;omega,hdg⟩
  have HNW:=Lib.hid (fun (W':World) (hb:Below W6.heap.size W6 W') => newW_b c x j F ds db 0 3 W' (HXW.out.later (HB6'.out.trans (hb.mono HB6'.out.size))) HWX.out HLX.out HF.out (fun q v hv => by
    have hql:q < ds.length:=(List.getElem?_eq_some_iff.1 hv).1
    have hg:ds.getD q 0 = v:=by rw [List.getD_eq_getElem?_getD,hv];rfl
    rw [← hg]
    exact cell_blk ((hb.block db (Array.getElem?_eq_some_iff.1 HDB.out).1).trans HDB.out) (HDS.out.2.2.2.2 q (by rw [← HDS.out.1];exact hql))) (by rw [HDS.out.1];exact ⟨HDS.out.2.2.1,HDS.out.2.2.2.1⟩))
  have HNR:=Lib.hid (fun (W':World) (hb:Below W6.heap.size W6 W') => newR_b c x j F W' (HXW.out.later (HB6'.out.trans (hb.mono HB6'.out.size))) HWX.out HLX.out HF.out)
  have HCX:=Lib.hid (fun (W':World) (hb:Below W6.heap.size W6 W') => BX.out W' (HB6'.out.trans (hb.mono HB6'.out.size)))
  rw [hdl] at HNW
  unfold GivesNewW at HNW
  unfold GivesNewR at HNR
  simp only [cfgCells] at HNW HNR
  clear hds hdl hdg hn1 e3 e6 hmin hup c0 c1 c2 c3 c4 c5
  refine wp_region_held_drew (S:=(fun W' => Below W6.heap.size W6 W')) (by kernel_rfl) ((Below.refl _ _).drew) (fun hHeld => ?_)
  refine wpAnyH_take (i:=0) rfl (by kernel_rfl) (by kernel_rfl) (by kernel_rfl) (fun _ _ _ h => h) (Or.inl ⟨by rfl,by intro w hSw;(obtain ⟨c0,c1,c2,c3,c4,c5⟩:=HCX.out _ hSw);(go_simp <;> with_reducible rfl)⟩) (by assumption) ?_
  (try simp only [Act.put,List.setIfInBounds_toArray,List.set_cons_zero,List.set_cons_succ,List.getElem_toArray,List.getElem_cons_zero,List.getElem_cons_succ])
  refine wpAnyH_take (i:=1) rfl (by kernel_rfl) (by kernel_rfl) (by kernel_rfl) (fun _ _ _ h => h) (Or.inl ⟨by rfl,by intro w hSw;(obtain ⟨c0,c1,c2,c3,c4,c5⟩:=HCX.out _ hSw);(go_simp <;> with_reducible rfl)⟩) (by assumption) ?_
  (try simp only [Act.put,List.setIfInBounds_toArray,List.set_cons_zero,List.set_cons_succ,List.getElem_toArray,List.getElem_cons_zero,List.getElem_cons_succ])
  refine wpAnyH_take (i:=2) rfl (by kernel_rfl) (by kernel_rfl) (by kernel_rfl) (fun _ _ _ h => h) (Or.inl ⟨by rfl,by intro w hSw;(obtain ⟨c0,c1,c2,c3,c4,c5⟩:=HCX.out _ hSw);(go_simp <;> with_reducible rfl)⟩) (by assumption) ?_
  (try simp only [Act.put,List.setIfInBounds_toArray,List.set_cons_zero,List.set_cons_succ,List.getElem_toArray,List.getElem_cons_zero,List.getElem_cons_succ])
  refine wpAnyH_take (i:=4) rfl (by kernel_rfl) (by kernel_rfl) (by kernel_rfl) (fun _ _ _ h => h) (Or.inl ⟨by rfl,by intro w hSw;(obtain ⟨c0,c1,c2,c3,c4,c5⟩:=HCX.out _ hSw);(go_simp <;> with_reducible rfl)⟩) (by assumption) ?_
  (try simp only [Act.put,List.setIfInBounds_toArray,List.set_cons_zero,List.set_cons_succ,List.getElem_toArray,List.getElem_cons_zero,List.getElem_cons_succ])
  refine wpAnyH_take (i:=5) rfl (by kernel_rfl) (by kernel_rfl) (by kernel_rfl) (fun _ _ _ h => h) (Or.inl ⟨by rfl,by intro w hSw;(obtain ⟨c0,c1,c2,c3,c4,c5⟩:=HCX.out _ hSw);(go_simp <;> with_reducible rfl)⟩) (by assumption) ?_
  (try simp only [Act.put,List.setIfInBounds_toArray,List.set_cons_zero,List.set_cons_succ,List.getElem_toArray,List.getElem_cons_zero,List.getElem_cons_succ])
  refine wpAnyH_ready (rs:=[3]) (by kernel_rfl) (by simp) (AllReadyH.cons rfl (fun K hK => ?_) AllReadyH.nil)
  go_simp
  refine (HNW.out _ (by exact hHeld)).mono ?_
  rintro e w7 ⟨wb,S1,rfl,hsat,hS1,hbw7⟩
  have HBQw7:=Lib.hid (hHeld.trans (hbw7.mono hHeld.size))
  refine hK.out _ _ ((by exact HBQw7.out)) (fun hHeld => ?_)
  clear hK K
  (try simp only [Act.put,List.setIfInBounds_toArray,List.set_cons_zero,List.set_cons_succ,List.getElem_toArray,List.getElem_cons_zero,List.getElem_cons_succ])
  refine wpAnyH_ready (rs:=[6]) (by kernel_rfl) (by simp) (AllReadyH.cons rfl (fun K hK => ?_) AllReadyH.nil)
  go_simp
  refine (HNR.out _ (by exact hHeld)).mono ?_
  rintro e w8 ⟨qb,S2,rfl,hgat,hS2,hbw8⟩
  have HBQw8:=Lib.hid (hHeld.trans (hbw8.mono hHeld.size))
  refine hK.out _ _ ((by exact HBQw8.out)) (fun hHeld => ?_)
  clear hK K
  (try simp only [Act.put,List.setIfInBounds_toArray,List.set_cons_zero,List.set_cons_succ,List.getElem_toArray,List.getElem_cons_zero,List.getElem_cons_succ])
  refine wpAnyH_take (i:=7) rfl (by kernel_rfl) (by kernel_rfl) (by kernel_rfl) (fun _ _ _ h => h) (Or.inl ⟨by rfl,by intro w hSw;(obtain ⟨c0,c1,c2,c3,c4,c5⟩:=HCX.out _ hSw);(go_simp <;> with_reducible rfl)⟩) (by assumption) ?_
  (try simp only [Act.put,List.setIfInBounds_toArray,List.set_cons_zero,List.set_cons_succ,List.getElem_toArray,List.getElem_cons_zero,List.getElem_cons_succ])
  refine wpAnyH_take (i:=8) rfl (by kernel_rfl) (by kernel_rfl) (by kernel_rfl) (fun _ _ _ h => h) (Or.inl ⟨by rfl,by intro w hSw;(obtain ⟨c0,c1,c2,c3,c4,c5⟩:=HCX.out _ hSw);(go_simp <;> with_reducible rfl)⟩) (by assumption) ?_
  (try simp only [Act.put,List.setIfInBounds_toArray,List.set_cons_zero,List.set_cons_succ,List.getElem_toArray,List.getElem_cons_zero,List.getElem_cons_succ])
  refine wpAnyH_done (by kernel_rfl) ?_ _
  clear hHeld

  have HC8:=Lib.hid (fun (W':World) (hb:Below w8.heap.size w8 W') => HCX.out W' (HBQw8.out.trans (hb.mono HBQw8.out.size)))
  go_wp2_with fail
  refine wp_region_held_drew (S:=(fun W' => Below w8.heap.size w8 W')) (by kernel_rfl) (by exact (Below.refl w8.heap.size w8).drew) (fun hHeld => ?_)
  refine wpAnyH_take (i:=0) rfl (by kernel_rfl) (by kernel_rfl) (by kernel_rfl) (fun _ _ _ h => h) (Or.inl ⟨by rfl,by intro w hSw;(obtain ⟨c0,c1,c2,c3,c4,c5⟩:=HC8.out _ hSw);(go_simp <;> with_reducible rfl)⟩) (by assumption) ?_
  (try simp only [Act.put,List.setIfInBounds_toArray,List.set_cons_zero,List.set_cons_succ,List.getElem_toArray,List.getElem_cons_zero,List.getElem_cons_succ])
  refine wpAnyH_take (i:=1) rfl (by kernel_rfl) (by kernel_rfl) (by kernel_rfl) (fun _ _ _ h => h) (Or.inl ⟨by rfl,by intro w hSw;(obtain ⟨c0,c1,c2,c3,c4,c5⟩:=HC8.out _ hSw);(go_simp <;> with_reducible rfl)⟩) (by assumption) ?_
  (try simp only [Act.put,List.setIfInBounds_toArray,List.set_cons_zero,List.set_cons_succ,List.getElem_toArray,List.getElem_cons_zero,List.getElem_cons_succ])
  refine wpAnyH_take (i:=2) rfl (by kernel_rfl) (by kernel_rfl) (by kernel_rfl) (fun _ _ _ h => h) (Or.inl ⟨by rfl,by intro w hSw;(obtain ⟨c0,c1,c2,c3,c4,c5⟩:=HC8.out _ hSw);(go_simp <;> with_reducible rfl)⟩) (by assumption) ?_
  (try simp only [Act.put,List.setIfInBounds_toArray,List.set_cons_zero,List.set_cons_succ,List.getElem_toArray,List.getElem_cons_zero,List.getElem_cons_succ])
  refine wpAnyH_take (i:=3) rfl (by kernel_rfl) (by kernel_rfl) (by kernel_rfl) (fun _ _ _ h => h) (Or.inl ⟨by rfl,by intro w hSw;(obtain ⟨c0,c1,c2,c3,c4,c5⟩:=HC8.out _ hSw);(go_simp <;> with_reducible rfl)⟩) (by assumption) ?_
  (try simp only [Act.put,List.setIfInBounds_toArray,List.set_cons_zero,List.set_cons_succ,List.getElem_toArray,List.getElem_cons_zero,List.getElem_cons_succ])
  refine wpAnyH_take (i:=5) rfl (by kernel_rfl) (by kernel_rfl) (by kernel_rfl) (fun _ _ _ h => h) (Or.inl ⟨by rfl,by intro w hSw;(obtain ⟨c0,c1,c2,c3,c4,c5⟩:=HC8.out _ hSw);(go_simp <;> with_reducible rfl)⟩) (by assumption) ?_
  (try simp only [Act.put,List.setIfInBounds_toArray,List.set_cons_zero,List.set_cons_succ,List.getElem_toArray,List.getElem_cons_zero,List.getElem_cons_succ])
  refine wpAnyH_take (i:=6) rfl (by kernel_rfl) (by kernel_rfl) (by kernel_rfl) (fun _ _ _ h => h) (Or.inl ⟨by rfl,by intro w hSw;(obtain ⟨c0,c1,c2,c3,c4,c5⟩:=HC8.out _ hSw);(go_simp <;> with_reducible rfl)⟩) (by assumption) ?_
  (try simp only [Act.put,List.setIfInBounds_toArray,List.set_cons_zero,List.set_cons_succ,List.getElem_toArray,List.getElem_cons_zero,List.getElem_cons_succ])
  refine wpAnyH_take (i:=7) rfl (by kernel_rfl) (by kernel_rfl) (by kernel_rfl) (fun _ _ _ h => h) (Or.inl ⟨by rfl,by intro w hSw;(obtain ⟨c0,c1,c2,c3,c4,c5⟩:=HC8.out _ hSw);(go_simp <;> with_reducible rfl)⟩) (by assumption) ?_
  (try simp only [Act.put,List.setIfInBounds_toArray,List.set_cons_zero,List.set_cons_succ,List.getElem_toArray,List.getElem_cons_zero,List.getElem_cons_succ])
  apply cut2F
  rotate_left
  intro key
  have hHeld:=hHeld
  refine wpAnyH_ready (rs:=[4,8]) (by kernel_rfl) (by simp) (AllReadyH.cons rfl (fun K hK => ?_) (AllReadyH.cons rfl (fun K hK => ?_) AllReadyH.nil))
  · skip
    go_simp
    obtain ⟨Y1,HY1⟩:∃ u,Hid (u = w8.alloc (.cells (#[.slice x.pa c.parts.length x.pc,.slice x.ca c.chans.length x.cc,.int .i64 c.len0,.slice x.aa c.win0.length x.ac,.int .i64 c.len1,.slice x.ba c.win1.length x.bc,.int .i64 (j:Int),.bool true,.slice (some ⟨db,0,none⟩) m 3,.int .i64 0,.int .i64 0,.int .i64 0,.int .i64 0,.int .i64 0,.bool false]) 52)):=⟨_,rfl⟩
    obtain ⟨vw,hvw⟩:∃ q,q = w8.heap.size:=⟨_,rfl⟩
    have hy1:Below w8.heap.size w8 Y1:=by rw [HY1.out];exact (Below.refl _ _).alloc (Nat.le_refl _) _
    have hz1:Y1.heap.size = vw + 1:=by rw [HY1.out,hvw];simp
    have hk1:Y1.heap[vw]? = some (.cells (#[.slice x.pa c.parts.length x.pc,.slice x.ca c.chans.length x.cc,.int .i64 c.len0,.slice x.aa c.win0.length x.ac,.int .i64 c.len1,.slice x.ba c.win1.length x.bc,.int .i64 (j:Int),.bool true,.slice (some ⟨db,0,none⟩) m 3,.int .i64 0,.int .i64 0,.int .i64 0,.int .i64 0,.int .i64 0,.bool false]) 52 (0,0)):=by rw [HY1.out,hvw];exact heap_alloc_new _ _
    rw [← HY1.out]
    refine hK.out _ _ (by exact hy1.drew) (fun hHeld => ?_)
    clear hK K
    (try simp only [Act.put,List.setIfInBounds_toArray,List.set_cons_zero,List.set_cons_succ,List.getElem_toArray,List.getElem_cons_zero,List.getElem_cons_succ])
    refine wpAnyH_take (i:=9) rfl (by kernel_rfl) (by kernel_rfl) (by kernel_rfl) (fun _ _ _ h => h) (Or.inl ⟨by rfl,by intro w hSw;(obtain ⟨c0,c1,c2,c3,c4,c5⟩:=HC8.out _ hSw);(go_simp <;> with_reducible rfl)⟩) (by assumption) ?_
    (try simp only [Act.put,List.setIfInBounds_toArray,List.set_cons_zero,List.set_cons_succ,List.getElem_toArray,List.getElem_cons_zero,List.getElem_cons_succ])
    refine wpAnyH_ready (rs:=[8]) (by kernel_rfl) (by simp) (AllReadyH.cons rfl (fun K hK => ?_) AllReadyH.nil)
    go_simp
    obtain ⟨Y2,HY2⟩:∃ u,Hid (u = Y1.alloc (.cells (#[.slice x.pa c.parts.length x.pc,.slice x.ca c.chans.length x.cc,.int .i64 c.len0,.slice x.aa c.win0.length x.ac,.int .i64 c.len1,.slice x.ba c.win1.length x.bc,.int .i64 (j:Int),.bool false,.slice none 0 0,.int .i64 0,.int .i64 0,.int .i64 0,.int .i64 0,.int .i64 0,.bool false]) 52)):=⟨_,rfl⟩
    obtain ⟨vr,hvr⟩:∃ q,q = Y1.heap.size:=⟨_,rfl⟩
    have hy2:Below Y1.heap.size Y1 Y2:=by rw [HY2.out];exact (Below.refl _ _).alloc (Nat.le_refl _) _
    have hz2:Y2.heap.size = vr + 1:=by rw [HY2.out,hvr];simp
    have hk2:Y2.heap[vr]? = some (.cells (#[.slice x.pa c.parts.length x.pc,.slice x.ca c.chans.length x.cc,.int .i64 c.len0,.slice x.aa c.win0.length x.ac,.int .i64 c.len1,.slice x.ba c.win1.length x.bc,.int .i64 (j:Int),.bool false,.slice none 0 0,.int .i64 0,.int .i64 0,.int .i64 0,.int .i64 0,.int .i64 0,.bool false]) 52 (0,0)):=by rw [HY2.out,hvr];exact heap_alloc_new _ _
    have hk3:Y2.heap[vw]? = some (.cells (#[.slice x.pa c.parts.length x.pc,.slice x.ca c.chans.length x.cc,.int .i64 c.len0,.slice x.aa c.win0.length x.ac,.int .i64 c.len1,.slice x.ba c.win1.length x.bc,.int .i64 (j:Int),.bool true,.slice (some ⟨db,0,none⟩) m 3,.int .i64 0,.int .i64 0,.int .i64 0,.int .i64 0,.int .i64 0,.bool false]) 52 (0,0)):=(hy2.block vw (by omega)).trans hk1
    have hyy0:Below w8.heap.size w8 Y2:=hy1.trans (hy2.mono hy1.size)
    rw [← HY2.out]
    refine hK.out _ _ (by exact hyy0.drew) (fun hHeld => ?_)
    clear hK K
    (try simp only [Act.put,List.setIfInBounds_toArray,List.set_cons_zero,List.set_cons_succ,List.getElem_toArray,List.getElem_cons_zero,List.getElem_cons_succ])

    refine wpAnyH_take (i:=10) rfl (by kernel_rfl) (by kernel_rfl) (by kernel_rfl) (fun _ _ _ h => h) (Or.inl ⟨by rfl,by intro w hSw;(obtain ⟨c0,c1,c2,c3,c4,c5⟩:=HC8.out _ hSw);(go_simp <;> with_reducible rfl)⟩) (by assumption) ?_
    (try simp only [Act.put,List.setIfInBounds_toArray,List.set_cons_zero,List.set_cons_succ,List.getElem_toArray,List.getElem_cons_zero,List.getElem_cons_succ])
    refine wpAnyH_done (by kernel_rfl) ?_ _
    (try simp only [← hvw])
    (try simp only [← hvr])
    have hnb:vr = vw + 1:=by omega
    (try simp only [← hnb])
    have hin0:(w8.heap.size ≤ vw ∧ w8.heap.size ≤ vr) ∧ (vw < Y2.heap.size ∧ vr < Y2.heap.size) ∧ vw ≠ vr:=by omega
    clear hnb
    clear hHeld hy1 hy2 hz1 hz2 hk1 HY1 HY2 hvw hvr
    obtain ⟨Y,hY⟩:∃ u,u = Y2.drew:=⟨_,rfl⟩
    have hyy:Below w8.heap.size w8 Y:=by rw [hY];exact hyy0.drew
    have hkw:Y.heap[vw]? = some (.cells (vV c x j true (.slice (some ⟨db,0,none⟩) m 3) 0 0 0 0 0 false) 52 (0,0)):=by rw [hY];exact hk3
    have hkr:Y.heap[vr]? = some (.cells (vV c x j false (.slice none 0 0) 0 0 0 0 0 false) 52 (0,0)):=by rw [hY];exact hk2
    have hin:(w8.heap.size ≤ vw ∧ w8.heap.size ≤ vr) ∧ (vw < Y.heap.size ∧ vr < Y.heap.size) ∧ vw ≠ vr:=by rw [hY];exact hin0
    rw [← hY]
    clear hY hk2 hk3 hin0 hyy0
    revert hin;revert hkr;revert hkw;revert hyy;revert Y;revert vr;revert vw
    exact key.get
  · skip
    go_simp
    obtain ⟨Y1,HY1⟩:∃ u,Hid (u = w8.alloc (.cells (#[.slice x.pa c.parts.length x.pc,.slice x.ca c.chans.length x.cc,.int .i64 c.len0,.slice x.aa c.win0.length x.ac,.int .i64 c.len1,.slice x.ba c.win1.length x.bc,.int .i64 (j:Int),.bool false,.slice none 0 0,.int .i64 0,.int .i64 0,.int .i64 0,.int .i64 0,.int .i64 0,.bool false]) 52)):=⟨_,rfl⟩
    obtain ⟨vr,hvr⟩:∃ q,q = w8.heap.size:=⟨_,rfl⟩
    have hy1:Below w8.heap.size w8 Y1:=by rw [HY1.out];exact (Below.refl _ _).alloc (Nat.le_refl _) _
    have hz1:Y1.heap.size = vr + 1:=by rw [HY1.out,hvr];simp
    have hk1:Y1.heap[vr]? = some (.cells (#[.slice x.pa c.parts.length x.pc,.slice x.ca c.chans.length x.cc,.int .i64 c.len0,.slice x.aa c.win0.length x.ac,.int .i64 c.len1,.slice x.ba c.win1.length x.bc,.int .i64 (j:Int),.bool false,.slice none 0 0,.int .i64 0,.int .i64 0,.int .i64 0,.int .i64 0,.int .i64 0,.bool false]) 52 (0,0)):=by rw [HY1.out,hvr];exact heap_alloc_new _ _
    rw [← HY1.out]
    refine hK.out _ _ (by exact hy1.drew) (fun hHeld => ?_)
    clear hK K
    (try simp only [Act.put,List.setIfInBounds_toArray,List.set_cons_zero,List.set_cons_succ,List.getElem_toArray,List.getElem_cons_zero,List.getElem_cons_succ])

    refine wpAnyH_ready (rs:=[4]) (by kernel_rfl) (by simp) (AllReadyH.cons rfl (fun K hK => ?_) AllReadyH.nil)
    go_simp
    obtain ⟨Y2,HY2⟩:∃ u,Hid (u = Y1.alloc (.cells (#[.slice x.pa c.parts.length x.pc,.slice x.ca c.chans.length x.cc,.int .i64 c.len0,.slice x.aa c.win0.length x.ac,.int .i64 c.len1,.slice x.ba c.win1.length x.bc,.int .i64 (j:Int),.bool true,.slice (some ⟨db,0,none⟩) m 3,.int .i64 0,.int .i64 0,.int .i64 0,.int .i64 0,.int .i64 0,.bool false]) 52)):=⟨_,rfl⟩
    obtain ⟨vw,hvw⟩:∃ q,q = Y1.heap.size:=⟨_,rfl⟩
    have hy2:Below Y1.heap.size Y1 Y2:=by rw [HY2.out];exact (Below.refl _ _).alloc (Nat.le_refl _) _
    have hz2:Y2.heap.size = vw + 1:=by rw [HY2.out,hvw];simp
    have hk2:Y2.heap[vw]? = some (.cells (#[.slice x.pa c.parts.length x.pc,.slice x.ca c.chans.length x.cc,.int .i64 c.len0,.slice x.aa c.win0.length x.ac,.int .i64 c.len1,.slice x.ba c.win1.length x.bc,.int .i64 (j:Int),.bool true,.slice (some ⟨db,0,none⟩) m 3,.int .i64 0,.int .i64 0,.int .i64 0,.int .i64 0,.int .i64 0,.bool false]) 52 (0,0)):=by rw [HY2.out,hvw];exact heap_alloc_new _ _
    have hk3:Y2.heap[vr]? = some (.cells (#[.slice x.pa c.parts.length x.pc,.slice x.ca c.chans.length x.cc,.int .i64 c.len0,.slice x.aa c.win0.length x.ac,.int .i64 c.len1,.slice x.ba c.win1.length x.bc,.int .i64 (j:Int),.bool false,.slice none 0 0,.int .i64 0,.int .i64 0,.int .i64 0,.int .i64 0,.int .i64 0,.bool false]) 52 (0,0)):=(hy2.block vr (by omega)).trans hk1
    have hyy0:Below w8.heap.size w8 Y2:=hy1.trans (hy2.mono hy1.size)
    rw [← HY2.out]
    refine hK.out _ _ (by exact hyy0.drew) (fun hHeld => ?_)
    clear hK K
    (try simp only [Act.put,List.setIfInBounds_toArray,List.set_cons_zero,List.set_cons_succ,List.getElem_toArray,List.getElem_cons_zero,List.getElem_cons_succ])
    refine wpAnyH_take (i:=9) rfl (by kernel_rfl) (by kernel_rfl) (by kernel_rfl) (fun _ _ _ h => h) (Or.inl ⟨by rfl,by intro w hSw;(obtain ⟨c0,c1,c2,c3,c4,c5⟩:=HC8.out _ hSw);(go_simp <;> with_reducible rfl)⟩) (by assumption) ?_
    (try simp only [Act.put,List.setIfInBounds_toArray,List.set_cons_zero,List.set_cons_succ,List.getElem_toArray,List.getElem_cons_zero,List.getElem_cons_succ])
    refine wpAnyH_take (i:=10) rfl (by kernel_rfl) (by kernel_rfl) (by kernel_rfl) (fun _ _ _ h => h) (Or.inl ⟨by rfl,by intro w hSw;(obtain ⟨c0,c1,c2,c3,c4,c5⟩:=HC8.out _ hSw);(go_simp <;> with_reducible rfl)⟩) (by assumption) ?_
    (try simp only [Act.put,List.setIfInBounds_toArray,List.set_cons_zero,List.set_cons_succ,List.getElem_toArray,List.getElem_cons_zero,List.getElem_cons_succ])
    refine wpAnyH_done (by kernel_rfl) ?_ _
    (try simp only [← hvr])
    (try simp only [← hvw])
    have hnb:vw = vr + 1:=by omega
    (try simp only [← hnb])
    have hin0:(w8.heap.size ≤ vw ∧ w8.heap.size ≤ vr) ∧ (vw < Y2.heap.size ∧ vr < Y2.heap.size) ∧ vw ≠ vr:=by omega
    clear hnb
    clear hHeld hy1 hy2 hz1 hz2 hk1 HY1 HY2 hvr hvw
    obtain ⟨Y,hY⟩:∃ u,u = Y2.drew:=⟨_,rfl⟩
    have hyy:Below w8.heap.size w8 Y:=by rw [hY];exact hyy0.drew
    have hkw:Y.heap[vw]? = some (.cells (vV c x j true (.slice (some ⟨db,0,none⟩) m 3) 0 0 0 0 0 false) 52 (0,0)):=by rw [hY];exact hk2
    have hkr:Y.heap[vr]? = some (.cells (vV c x j false (.slice none 0 0) 0 0 0 0 0 false) 52 (0,0)):=by rw [hY];exact hk3
    have hin:(w8.heap.size ≤ vw ∧ w8.heap.size ≤ vr) ∧ (vw < Y.heap.size ∧ vr < Y.heap.size) ∧ vw ≠ vr:=by rw [hY];exact hin0
    rw [← hY]
    clear hY hk2 hk3 hin0 hyy0
    revert hin;revert hkr;revert hkw;revert hyy;revert Y;revert vr;revert vw
    exact key.get
  intro vw vr Y hyy hkw hkr hin
  clear hHeld
  have HYY:=Lib.hid hyy;have HKW:=Lib.hid hkw;have HKR:=Lib.hid hkr;have HIN:=Lib.hid hin
  clear hyy hkw hkr hin
  have HFX0:Hid (FSx W Y (fun _ => False) mb rb wb qb vw vr yb i j c x F):=Lib.hid (by
    have m1:=HMW.out.lt;have m2:=HMB.out
    have z1:=HB6.out.size;have z2:=HB5.out.size;have z3:=HB4.out.size;have z4:=HOW.out.size;have z5:=HB4'.out.size;have z7:=HB56.out.size;have z8:=HB45.out.size
    have n1:=HYB.out;have n3:=HDBN.out;have n4:=HWY.out.lt
    have h46:=HB46.out
    have hw6:Below wr.heap.size wr W6:=HB4'.out.trans (h46.mono z5)
    have hd6:W6.heap.size = db + 1:=by rw [HW6.out,HDBN.out];simp
    have hq:Duo W W6 W.heap.size (fun k => k = yb ∨ k = db) mb rb F ws none none:=Duo.first HB6'.out (HMW.out.below hw6) ⟨by omega,by omega,Nat.le_refl _⟩ (by rw [HWL.out,← HNN.out];exact HF.out.fin) HW32.out (fun k hk => by
      have:k = yb ∨ k = db:=hk
      exact ⟨by omega,by omega,by omega⟩)
    have q:=FSx.begin (dof:=0) (cap:=3) (data:=ds) hq hsat hS1 HBQw7.out hgat hS2 hbw8 HYY.out ⟨HIN.out.1,HIN.out.2.1⟩ HIN.out.2.2 HXW.out HWX.out HLX.out HF.out (by rw [HDS.out.1];exact HDS.out.2.2.2.1) HDS.out.2.1 (HWY.out.of (h46.block yb n4)) (by rw [HDS.out.1];exact HKW.out) HKR.out ⟨_,_,HDB.out,fun q hq => HDS.out.2.2.2.2 q (by rw [← HDS.out.1];exact hq)⟩ (by omega) (by omega)
    rw [HWL.out] at q
    exact q)
  clear hsat hS1 hbw7 hgat hS2 hbw8
  have HNI:Hid (i ≤ 65536):=Lib.hid hn6
  go_wp2
  go_loopw [18,116] (fun nv ix wv => ∃ (a:Nat) (nw:Int),a ≤ al.length ∧ ix = .int .i64 a ∧ nv = .int .i64 nw ∧ 0 ≤ nw ∧ nw ≤ 255 * (a:Int) ∧ FSx W wv (fun _ => False) mb rb wb qb vw vr yb i j c x F) (fun _ ix _ => al.length - (intOf ix).toNat)
  case atStart => exact ⟨0,0,Nat.zero_le _,rfl,rfl,Int.le_refl _,by omega,HFX0.out⟩
  obtain ⟨a,nw,hal,rfl,rfl,hn0,hn1,hfx⟩:=hrel
  by_cases hall:a < al.length
  case neg =>
    have sa:¬ ((a:Int) < (al.length:Int)):=by omega
    have HBF:=Lib.hid hfx.below
    clear hfx
    go_wp2
    go_roundw
    case rel => exact ⟨j + 1,by omega,by go_num,HBF.out⟩
    case measure => simp [intOf];omega
  have sa:(a:Int) < (al.length:Int):=by omega
  have hbw:=HB.out.trans (hfx.below.mono HB.out.size)
  have hall2:=HLM.out.1
  have HNW2:Hid (0 ≤ nw ∧ nw ≤ 1000000):=Lib.hid (by omega)
  obtain ⟨bA,oA,hAA,hbA,hcA⟩:=HRA.out (by omega)
  have hca:=(hbw.cell (p:=⟨bA,oA + a,none⟩) hbA).trans (hcA a hall)
  have hv8:=HA8.out a
  obtain ⟨v,hv⟩:∃ v,al.getD a 0 = v:=⟨_,rfl⟩
  rw [hv] at hca hv8
  have hvw:IntKind.i64.wrap v = v:=IntWalk.i64_in _ (by omega)
  have hv3:v % 3 = 0 ∨ v % 3 = 1 ∨ v % 3 = 2:=by omega
  subst hAA
  obtain ⟨G1,HG1⟩:∃ u,Hid (u = wr.alloc (.cells #[.bool false,.int .i64 0,.slice none 0 0,.bool false,.int .i64 0,.bool false,.bool false,.bool false,.int .i64 0] 56)):=⟨_,rfl⟩
  obtain ⟨G2,HG2⟩:∃ u,Hid (u = G1.alloc (.cells #[.bool false,.int .i64 0,.slice none 0 0,.bool false,.int .i64 0,.bool false,.bool false,.bool false,.int .i64 0] 56)):=⟨_,rfl⟩
  obtain ⟨gb,hgb⟩:∃ q,q = wr.heap.size:=⟨_,rfl⟩
  obtain ⟨eb,heb⟩:∃ q,q = G1.heap.size:=⟨_,rfl⟩
  have hg1:Below wr.heap.size wr G1:=by rw [HG1.out];exact (Below.refl _ _).alloc (Nat.le_refl _) _
  have hg2:Below G1.heap.size G1 G2:=by rw [HG2.out];exact (Below.refl _ _).alloc (Nat.le_refl _) _
  have hs1:G1.heap.size = wr.heap.size + 1:=by rw [HG1.out];simp
  have hs2:G2.heap.size = G1.heap.size + 1:=by rw [HG2.out];simp
  have hk1:G1.heap[gb]? = some (.cells #[.bool false,.int .i64 0,.slice none 0 0,.bool false,.int .i64 0,.bool false,.bool false,.bool false,.int .i64 0] 56 (0,0)):=by rw [HG1.out,hgb];exact heap_alloc_new _ _
  have HGG:Hid (G2.heap[gb]? = some (.cells #[.bool false,.int .i64 0,.slice none 0 0,.bool false,.int .i64 0,.bool false,.bool false,.bool false,.int .i64 0] 56 (0,0))):=Lib.hid ((hg2.block gb (by omega)).trans hk1)
  have HGE:Hid (G2.heap[eb]? = some (.cells #[.bool false,.int .i64 0,.slice none 0 0,.bool false,.int .i64 0,.bool false,.bool false,.bool false,.int .i64 0] 56 (0,0))):=Lib.hid (by rw [HG2.out,heb];exact heap_alloc_new _ _)
  have HNE2:Hid (gb ≠ eb):=Lib.hid (by omega)
  have HFXG:Hid (FSx W G2 (fun q => q = gb ∨ q = eb) mb rb wb qb vw vr yb i j c x F):=Lib.hid (hfx.lock (hg1.trans (hg2.mono hg1.size)) (fun q hq => .inr (by rcases hq with rfl | rfl <;> omega)))
  have HGB:=Lib.hid hgb;have HEB:=Lib.hid heb;have HS1:=Lib.hid hs1
  clear hcA hv hbA hfx hbw hg1 hg2 hs1 hs2 hk1 hgb heb
  rcases hv3 with hr3 | hr3 | hr3
  · skip
    have m0:(v % 3 == 0) = true:=by rw [hr3];rfl
    have m1:(v % 3 == 1) = false:=by rw [hr3];rfl
    have hst:=HFXG.out.write nw HNW2.out
    unfold FXs at hst
    have HST:=Lib.hid hst
    clear hr3 hst
    go_wp2_with fail
    rw [← HG1.out,← HG2.out]
    have hs1:=HS1.out
    (try simp only [← hs1])
    clear hs1
    (try simp only [← HGB.out])
    (try simp only [← HEB.out])
    clear hca hvw
    refine HST.out.mono ?_
    rintro e w15 ⟨dn,cd,vl,mk,st,bf,dd,Ad,nd,cpd,rfl,rfl,ho5,hC5⟩
    have HC5:=Lib.hid hC5
    clear ho5 hC5
    go_wp2_with fail
    refine HC5.out.mono ?_
    rintro e w16 ⟨Ae,cpe,rfl,hrA,hrE,hdl6,hfx6,ho6⟩
    have HFX6:=Lib.hid hfx6;have HDL6:=Lib.hid hdl6
    have hg6:=ho6.at_ HGG.out (fun h => h.1 (.inl rfl))
    have he6:=ho6.at_ HGE.out (fun h => h.1 (.inr rfl))
    obtain ⟨X1,HX1⟩:∃ u,Hid (u = w16.setCells gb 0 [.bool dn,.int .i64 cd,.slice Ad dd.length cpd,.bool vl,.int .i64 0,.bool mk,.bool false,.bool st,.int .i64 bf]):=⟨_,rfl⟩
    have ho1:Only (fun q => q = gb) w16 X1:=by rw [HX1.out];exact Only.sets (S:=fun q => q = gb) rfl _ 0 (Only.refl _ w16)
    have hgX1:X1.heap[gb]? = some (.cells #[.bool dn,.int .i64 cd,.slice Ad dd.length cpd,.bool vl,.int .i64 0,.bool mk,.bool false,.bool st,.int .i64 bf] 56 (0,0)):=by rw [HX1.out];exact blk_over hg6 rfl _ rfl
    have heX1:=ho1.at_ he6 (fun e => HNE2.out e.symm)
    have hrA1:=row_set9 hrA hg6 ho1
    have hrE1:=row_set9 hrE hg6 ho1
    obtain ⟨X,HX⟩:∃ u,Hid (u = X1.setCells eb 0 [.bool dn,.int .i64 cd,.slice Ae dd.length cpe,.bool vl,.int .i64 0,.bool mk,.bool false,.bool st,.int .i64 bf]):=⟨_,rfl⟩
    have ho2:Only (fun q => q = eb) X1 X:=by rw [HX.out];exact Only.sets (S:=fun q => q = eb) rfl _ 0 (Only.refl _ X1)
    have heX:X.heap[eb]? = some (.cells #[.bool dn,.int .i64 cd,.slice Ae dd.length cpe,.bool vl,.int .i64 0,.bool mk,.bool false,.bool st,.int .i64 bf] 56 (0,0)):=by rw [HX.out];exact blk_over heX1 rfl _ rfl
    have hgX:=ho2.at_ hgX1 (fun e => HNE2.out e)
    have HRA:=Lib.hid (row_set9 hrA1 heX1 ho2);have HRE:=Lib.hid (row_set9 hrE1 heX1 ho2)
    have HFXX:=Lib.hid ((HFX6.out.turn ho1 (fun q h => .inl h)).turn ho2 (fun q h => .inr h))
    have hth1:=there_at (W:=w16) hg6 (n:=(didV dn cd (.slice Ad dd.length cpd) vl mk st bf:Array Value).size) rfl
    have hth2:=there_at (W:=X1) heX1 (n:=(didV dn cd (.slice Ae dd.length cpe) vl mk st bf:Array Value).size) rfl
    have hsd1:(Tryz.prog.info? 56).map (·.size) = some (didV dn cd (.slice Ad dd.length cpd) vl mk st bf:Array Value).size:=did_size
    have hsd2:(Tryz.prog.info? 56).map (·.size) = some (didV dn cd (.slice Ae dd.length cpe) vl mk st bf:Array Value).size:=did_size
    have xgb0:X.cell? ⟨gb,0,none⟩ = some (.bool dn):=cell_blk hgX rfl
    have xgb1:X.cell? ⟨gb,1,none⟩ = some (.int .i64 cd):=cell_blk hgX rfl
    have xgb2:X.cell? ⟨gb,2,none⟩ = some (.slice Ad dd.length cpd):=cell_blk hgX rfl
    have xgb3:X.cell? ⟨gb,3,none⟩ = some (.bool vl):=cell_blk hgX rfl
    have xgb4:X.cell? ⟨gb,4,none⟩ = some (.int .i64 0):=cell_blk hgX rfl
    have xgb5:X.cell? ⟨gb,5,none⟩ = some (.bool mk):=cell_blk hgX rfl
    have xgb6:X.cell? ⟨gb,6,none⟩ = some (.bool false):=cell_blk hgX rfl
    have xgb7:X.cell? ⟨gb,7,none⟩ = some (.bool st):=cell_blk hgX rfl
    have xgb8:X.cell? ⟨gb,8,none⟩ = some (.int .i64 bf):=cell_blk hgX rfl
    have xeb0:X.cell? ⟨eb,0,none⟩ = some (.bool dn):=cell_blk heX rfl
    have xeb1:X.cell? ⟨eb,1,none⟩ = some (.int .i64 cd):=cell_blk heX rfl
    have xeb2:X.cell? ⟨eb,2,none⟩ = some (.slice Ae dd.length cpe):=cell_blk heX rfl
    have xeb3:X.cell? ⟨eb,3,none⟩ = some (.bool vl):=cell_blk heX rfl
    have xeb4:X.cell? ⟨eb,4,none⟩ = some (.int .i64 0):=cell_blk heX rfl
    have xeb5:X.cell? ⟨eb,5,none⟩ = some (.bool mk):=cell_blk heX rfl
    have xeb6:X.cell? ⟨eb,6,none⟩ = some (.bool false):=cell_blk heX rfl
    have xeb7:X.cell? ⟨eb,7,none⟩ = some (.bool st):=cell_blk heX rfl
    have xeb8:X.cell? ⟨eb,8,none⟩ = some (.int .i64 bf):=cell_blk heX rfl
    clear hrA hrE hdl6 hfx6 ho6 hg6 he6 ho1 hgX1 heX1 hrA1 hrE1 ho2 heX hgX
    go_wp2_with (first | (with_reducible refine wpList_store_mid (by kernel_rfl) _ _ _ rfl gb 0 (didV dn cd (.slice Ad dd.length cpd) vl mk st bf) (by kernel_rfl) (by kernel_rfl) hth1 hsd1 (by kernel_rfl) ?_) | (with_reducible refine wpList_store_mid (by kernel_rfl) _ _ _ rfl eb 0 (didV dn cd (.slice Ae dd.length cpe) vl mk st bf) (by kernel_rfl) (by kernel_rfl) hth2 hsd2 (by kernel_rfl) ?_) | (rw [← HX1.out]) | (rw [← HX.out]))
    clear xgb0 xeb0 xgb1 xeb1 xgb2 xeb2 xgb3 xeb3 xgb4 xeb4 xgb5 xeb5 xgb6 xeb6 xgb7 xeb7 xgb8 xeb8 hth1 hth2 hsd1 hsd2
    refine (sameDid_eq dn cd vl 0 mk false st bf dd Ad Ae cpd cpe X HRA.out HRE.out HDL6.out).mono ?_
    rintro e w17 ⟨rfl,hb17⟩
    have HFX7:=Lib.hid ((HFXX.out).later hb17)
    clear hb17
    obtain ⟨ws7,hm7,hy7,he7,hmx7⟩:=HFX7.out.open
    have HM7:=Lib.hid hm7;have HY7:=Lib.hid hy7;have HE7:=Lib.hid he7;have HX7:=Lib.hid hmx7
    clear hm7 hy7 he7 hmx7
    go_wp2_with fail
    refine (memWords_b mb rb ws7 w17 HM7.out (by rw [HE7.out];exact HX7.out)).mono ?_
    rintro e w19 ⟨gq,rfl,hgq,hwg,hb19⟩
    rw [HE7.out]
    have HB19:=Lib.hid hb19;have HWG:=Lib.hid hwg
    clear hgq hwg hb19
    have hsm:=same32_b ws7 (some ⟨gq,0,none⟩) (some ⟨yb,0,none⟩) i i w19 (words_row HWG.out) (words_row (HY7.out.below HB19.out)) (by rw [HE7.out];exact HX7.out)
    rw [HE7.out] at hsm
    have HSM:=Lib.hid hsm
    clear hsm
    go_wp2_with fail
    refine HSM.out.mono ?_
    rintro e w20 ⟨rfl,hb20⟩
    have HFX8:=Lib.hid ((HFX7.out.later HB19.out).later hb20).free
    clear hb20
    go_wp2
    go_roundw
    case rel => exact ⟨a + 1,nw,by omega,by go_num,by go_num,by omega,by omega,HFX8.out⟩
    case measure => simp [intOf];omega
  · skip
    have m0:(v % 3 == 0) = false:=by rw [hr3];rfl
    have m1:(v % 3 == 1) = true:=by rw [hr3];rfl
    have hst:=HFXG.out.read nw HNW2.out
    unfold FXs at hst
    have HST:=Lib.hid hst
    clear hr3 hst
    go_wp2_with fail
    rw [← HG1.out,← HG2.out]
    have hs1:=HS1.out
    (try simp only [← hs1])
    clear hs1
    (try simp only [← HGB.out])
    (try simp only [← HEB.out])
    clear hca hvw
    refine HST.out.mono ?_
    rintro e w15 ⟨dn,cd,vl,mk,st,bf,dd,Ad,nd,cpd,rfl,rfl,ho5,hC5⟩
    have HC5:=Lib.hid hC5
    clear ho5 hC5
    go_wp2_with fail
    refine HC5.out.mono ?_
    rintro e w16 ⟨Ae,cpe,rfl,hrA,hrE,hdl6,hfx6,ho6⟩
    have HFX6:=Lib.hid hfx6;have HDL6:=Lib.hid hdl6
    have hg6:=ho6.at_ HGG.out (fun h => h.1 (.inl rfl))
    have he6:=ho6.at_ HGE.out (fun h => h.1 (.inr rfl))
    obtain ⟨X1,HX1⟩:∃ u,Hid (u = w16.setCells gb 0 [.bool dn,.int .i64 cd,.slice Ad dd.length cpd,.bool vl,.int .i64 0,.bool mk,.bool false,.bool st,.int .i64 bf]):=⟨_,rfl⟩
    have ho1:Only (fun q => q = gb) w16 X1:=by rw [HX1.out];exact Only.sets (S:=fun q => q = gb) rfl _ 0 (Only.refl _ w16)
    have hgX1:X1.heap[gb]? = some (.cells #[.bool dn,.int .i64 cd,.slice Ad dd.length cpd,.bool vl,.int .i64 0,.bool mk,.bool false,.bool st,.int .i64 bf] 56 (0,0)):=by rw [HX1.out];exact blk_over hg6 rfl _ rfl
    have heX1:=ho1.at_ he6 (fun e => HNE2.out e.symm)
    have hrA1:=row_set9 hrA hg6 ho1
    have hrE1:=row_set9 hrE hg6 ho1
    obtain ⟨X,HX⟩:∃ u,Hid (u = X1.setCells eb 0 [.bool dn,.int .i64 cd,.slice Ae dd.length cpe,.bool vl,.int .i64 0,.bool mk,.bool false,.bool st,.int .i64 bf]):=⟨_,rfl⟩
    have ho2:Only (fun q => q = eb) X1 X:=by rw [HX.out];exact Only.sets (S:=fun q => q = eb) rfl _ 0 (Only.refl _ X1)
    have heX:X.heap[eb]? = some (.cells #[.bool dn,.int .i64 cd,.slice Ae dd.length cpe,.bool vl,.int .i64 0,.bool mk,.bool false,.bool st,.int .i64 bf] 56 (0,0)):=by rw [HX.out];exact blk_over heX1 rfl _ rfl
    have hgX:=ho2.at_ hgX1 (fun e => HNE2.out e)
    have HRA:=Lib.hid (row_set9 hrA1 heX1 ho2);have HRE:=Lib.hid (row_set9 hrE1 heX1 ho2)
    have HFXX:=Lib.hid ((HFX6.out.turn ho1 (fun q h => .inl h)).turn ho2 (fun q h => .inr h))
    have hth1:=there_at (W:=w16) hg6 (n:=(didV dn cd (.slice Ad dd.length cpd) vl mk st bf:Array Value).size) rfl
    have hth2:=there_at (W:=X1) heX1 (n:=(didV dn cd (.slice Ae dd.length cpe) vl mk st bf:Array Value).size) rfl
    have hsd1:(Tryz.prog.info? 56).map (·.size) = some (didV dn cd (.slice Ad dd.length cpd) vl mk st bf:Array Value).size:=did_size
    have hsd2:(Tryz.prog.info? 56).map (·.size) = some (didV dn cd (.slice Ae dd.length cpe) vl mk st bf:Array Value).size:=did_size
    have xgb0:X.cell? ⟨gb,0,none⟩ = some (.bool dn):=cell_blk hgX rfl
    have xgb1:X.cell? ⟨gb,1,none⟩ = some (.int .i64 cd):=cell_blk hgX rfl
    have xgb2:X.cell? ⟨gb,2,none⟩ = some (.slice Ad dd.length cpd):=cell_blk hgX rfl
    have xgb3:X.cell? ⟨gb,3,none⟩ = some (.bool vl):=cell_blk hgX rfl
    have xgb4:X.cell? ⟨gb,4,none⟩ = some (.int .i64 0):=cell_blk hgX rfl
    have xgb5:X.cell? ⟨gb,5,none⟩ = some (.bool mk):=cell_blk hgX rfl
    have xgb6:X.cell? ⟨gb,6,none⟩ = some (.bool false):=cell_blk hgX rfl
    have xgb7:X.cell? ⟨gb,7,none⟩ = some (.bool st):=cell_blk hgX rfl
    have xgb8:X.cell? ⟨gb,8,none⟩ = some (.int .i64 bf):=cell_blk hgX rfl
    have xeb0:X.cell? ⟨eb,0,none⟩ = some (.bool dn):=cell_blk heX rfl
    have xeb1:X.cell? ⟨eb,1,none⟩ = some (.int .i64 cd):=cell_blk heX rfl
    have xeb2:X.cell? ⟨eb,2,none⟩ = some (.slice Ae dd.length cpe):=cell_blk heX rfl
    have xeb3:X.cell? ⟨eb,3,none⟩ = some (.bool vl):=cell_blk heX rfl
    have xeb4:X.cell? ⟨eb,4,none⟩ = some (.int .i64 0):=cell_blk heX rfl
    have xeb5:X.cell? ⟨eb,5,none⟩ = some (.bool mk):=cell_blk heX rfl
    have xeb6:X.cell? ⟨eb,6,none⟩ = some (.bool false):=cell_blk heX rfl
    have xeb7:X.cell? ⟨eb,7,none⟩ = some (.bool st):=cell_blk heX rfl
    have xeb8:X.cell? ⟨eb,8,none⟩ = some (.int .i64 bf):=cell_blk heX rfl
    clear hrA hrE hdl6 hfx6 ho6 hg6 he6 ho1 hgX1 heX1 hrA1 hrE1 ho2 heX hgX
    go_wp2_with (first | (with_reducible refine wpList_store_mid (by kernel_rfl) _ _ _ rfl gb 0 (didV dn cd (.slice Ad dd.length cpd) vl mk st bf) (by kernel_rfl) (by kernel_rfl) hth1 hsd1 (by kernel_rfl) ?_) | (with_reducible refine wpList_store_mid (by kernel_rfl) _ _ _ rfl eb 0 (didV dn cd (.slice Ae dd.length cpe) vl mk st bf) (by kernel_rfl) (by kernel_rfl) hth2 hsd2 (by kernel_rfl) ?_) | (rw [← HX1.out]) | (rw [← HX.out]))
    clear xgb0 xeb0 xgb1 xeb1 xgb2 xeb2 xgb3 xeb3 xgb4 xeb4 xgb5 xeb5 xgb6 xeb6 xgb7 xeb7 xgb8 xeb8 hth1 hth2 hsd1 hsd2
    refine (sameDid_eq dn cd vl 0 mk false st bf dd Ad Ae cpd cpe X HRA.out HRE.out HDL6.out).mono ?_
    rintro e w17 ⟨rfl,hb17⟩
    have HFX7:=Lib.hid ((HFXX.out).later hb17)
    clear hb17
    obtain ⟨ws7,hm7,hy7,he7,hmx7⟩:=HFX7.out.open
    have HM7:=Lib.hid hm7;have HY7:=Lib.hid hy7;have HE7:=Lib.hid he7;have HX7:=Lib.hid hmx7
    clear hm7 hy7 he7 hmx7
    go_wp2_with fail
    refine (memWords_b mb rb ws7 w17 HM7.out (by rw [HE7.out];exact HX7.out)).mono ?_
    rintro e w19 ⟨gq,rfl,hgq,hwg,hb19⟩
    rw [HE7.out]
    have HB19:=Lib.hid hb19;have HWG:=Lib.hid hwg
    clear hgq hwg hb19
    have hsm:=same32_b ws7 (some ⟨gq,0,none⟩) (some ⟨yb,0,none⟩) i i w19 (words_row HWG.out) (words_row (HY7.out.below HB19.out)) (by rw [HE7.out];exact HX7.out)
    rw [HE7.out] at hsm
    have HSM:=Lib.hid hsm
    clear hsm
    go_wp2_with fail
    refine HSM.out.mono ?_
    rintro e w20 ⟨rfl,hb20⟩
    have HFX8:=Lib.hid ((HFX7.out.later HB19.out).later hb20).free
    clear hb20
    go_wp2
    go_roundw
    case rel => exact ⟨a + 1,nw,by omega,by go_num,by go_num,by omega,by omega,HFX8.out⟩
    case measure => simp [intOf];omega
  · skip
    have m0:(v % 3 == 0) = false:=by rw [hr3];rfl
    have m1:(v % 3 == 1) = false:=by rw [hr3];rfl
    have hnv:IntKind.i64.wrap (nw + v) = nw + v:=IntWalk.i64_in _ (by have:=HNW2.out;omega)
    clear hr3
    go_wp2_with fail
    rw [← HG1.out,← HG2.out]
    clear hca hvw hnv
    refine (sameDid_eq false 0 false 0 false false false 0 [] none none 0 0 G2 (fun h => absurd h (by decide)) (fun h => absurd h (by decide)) (by decide)).mono ?_
    rintro e w17 ⟨rfl,hb17⟩
    have HFX7:=Lib.hid ((HFXG.out).later hb17)
    clear hb17
    obtain ⟨ws7,hm7,hy7,he7,hmx7⟩:=HFX7.out.open
    have HM7:=Lib.hid hm7;have HY7:=Lib.hid hy7;have HE7:=Lib.hid he7;have HX7:=Lib.hid hmx7
    clear hm7 hy7 he7 hmx7
    go_wp2_with fail
    refine (memWords_b mb rb ws7 w17 HM7.out (by rw [HE7.out];exact HX7.out)).mono ?_
    rintro e w19 ⟨gq,rfl,hgq,hwg,hb19⟩
    rw [HE7.out]
    have HB19:=Lib.hid hb19;have HWG:=Lib.hid hwg
    clear hgq hwg hb19
    have hsm:=same32_b ws7 (some ⟨gq,0,none⟩) (some ⟨yb,0,none⟩) i i w19 (words_row HWG.out) (words_row (HY7.out.below HB19.out)) (by rw [HE7.out];exact HX7.out)
    rw [HE7.out] at hsm
    have HSM:=Lib.hid hsm
    clear hsm
    go_wp2_with fail
    refine HSM.out.mono ?_
    rintro e w20 ⟨rfl,hb20⟩
    have HFX8:=Lib.hid ((HFX7.out.later HB19.out).later hb20).free
    clear hb20
    go_wp2
    go_roundw
    case rel => exact ⟨a + 1,(nw + v),by omega,by go_num,by go_num,by omega,by omega,HFX8.out⟩
    case measure => simp [intOf];omega
end Go.Proofs.YtmhpcgcloojfbaaGreat
