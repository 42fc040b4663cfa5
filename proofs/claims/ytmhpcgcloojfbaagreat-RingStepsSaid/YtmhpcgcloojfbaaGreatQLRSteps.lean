/- Texts of the ring, joined, what is used of them. No condition but those in the statements. -/
import Derived.BigQuiet
import Derived.BigRegion
import Derived.Deep.MidRow
import Derived.Deep.RegionHeld3
import Derived.Deep.Upon
import Derived.IntWalk
import Derived.Shelf.Abstract
import Derived.Test.YtmhpcgcloojfbaaGreatQLOpen
import Derived.Test.YtmhpcgcloojfbaaGreatQMK
import Derived.Test.YtmhpcgcloojfbaaGreatQRWk
import Derived.Test.YtmhpcgcloojfbaaGreatQgD
import Derived.Test.YtmhpcgcloojfbaaGreatQgM
import Derived.Test.YtmhpcgcloojfbaaGreatQgN
namespace Go.Proofs.YtmhpcgcloojfbaaGreat
open Go.RowKit Go.Sort
set_option linter.unusedVariables false
set_option linter.unusedSimpArgs false
set_option linter.unusedVariables false
set_option linter.unusedSimpArgs false
open Go.Proofs.YtmhpcgcloojfbaaGreat.Simp
set_option maxRecDepth 100000
set_option maxHeartbeats 12800000
theorem lrsteps_b (c:Cfg) (x:CfgAt) (zs al:List Int) (AZ AA:Option Addr) (capZ capA:Nat) (w:World) (hx:CfgIn w w.heap.size c x) (wx:CfgWf c) (hrz:IntRowK .u32 w w.heap.size AZ zs) (hra:IntRowK .u8 w w.heap.size AA al) (hz32:W32 zs) (ha8:∀ j,0 ≤ al.getD j 0 ∧ al.getD j 0 ≤ 255) (hcz:zs.length ≤ capZ) (hca:al.length ≤ capA):Calls Tryz.prog 4 #[.agg (cfgCells c x),.slice AZ zs.length capZ,.slice AA al.length capA] w fun e w' => e = .returned (.bool true) ∧ Below w.heap.size w w':=by
  obtain ⟨W,HW,hB0,hWs,bx⟩:=one_cbox w c x 29
  have hxW:=hx.later hB0
  have HB:=Lib.hid hB0;have HXW:=Lib.hid hxW;have HRZ:=Lib.hid hrz;have HRA:=Lib.hid hra;have HZ32:=Lib.hid hz32;have HA8:=Lib.hid ha8;have HCP:=Lib.hid (And.intro hcz hca);have BX:=Lib.hid bx
  have HWX:=Lib.hid wx
  simp only [cfgCells] at HW ⊢
  clear hx hB0 hxW hrz hra hz32 ha8 hWs hcz hca bx wx
  go_enter Tryz.func4,Tryz.ntmps4
  go_wp2_with (rw [← HW.out])
  refine (wakesQ_b W).mono ?_
  rintro e w1 ⟨rfl,hb1⟩
  have HX1:=Lib.hid (HXW.out.later hb1)
  obtain ⟨c0,c1,c2,c3,c4,c5⟩:=BX.out _ hb1
  have HB1:=Lib.hid hb1
  clear hb1
  by_cases hg:cfgLe 100 c = true
  case neg =>
    have HG:=Lib.hid (great_is c x true w1 (by rw [Bool.not_eq_true] at hg;rw [hg];rfl))
    simp only [cfgCells] at HG
    clear hg
    go_wp2_with fail
    refine HG.out.mono ?_
    rintro e w2 ⟨rfl,hb2⟩
    have HF:=Lib.hid (HB.out.trans ((HB1.out.trans (hb2.mono HB1.out.size)).mono HB.out.size))
    clear hb2
    go_wp2
    go_ret
    exact ⟨rfl,HF.out⟩
  have lx:=cfgLe_few hg (by omega)
  have HLX:=Lib.hid lx
  have HG:=Lib.hid (great_is c x false w1 (by rw [hg];rfl))
  simp only [cfgCells] at HG
  clear hg lx
  go_wp2_with fail
  refine HG.out.mono ?_
  rintro e w2 ⟨rfl,hb2⟩
  have HX2:=Lib.hid (HX1.out.later hb2)
  have HB2:=Lib.hid (HB1.out.trans (hb2.mono HB1.out.size))
  clear hb2 c0 c1 c2 c3 c4 c5
  obtain ⟨c0,c1,c2,c3,c4,c5⟩:=BX.out _ HB2.out
  by_cases ha:acceptsB c = true
  case neg =>
    have HRC:=Lib.hid (racc_b c x false w2 HX2.out HWX.out HLX.out (by simpa using ha))
    simp only [cfgCells] at HRC
    clear ha
    go_wp2_with fail
    refine HRC.out.mono ?_
    rintro e w3 ⟨rfl,hb3⟩
    have HF:=Lib.hid (HB.out.trans ((HB2.out.trans (hb3.mono HB2.out.size)).mono HB.out.size))
    clear hb3
    go_wp2
    go_ret
    exact ⟨rfl,HF.out⟩
  have HACC:=Lib.hid ha
  have HRC:=Lib.hid (racc_b c x true w2 HX2.out HWX.out HLX.out ha)
  simp only [cfgCells] at HRC
  clear ha
  go_wp2_with fail
  refine HRC.out.mono ?_
  rintro e w3 ⟨rfl,hb3⟩
  have HB3:=Lib.hid (HB2.out.trans (hb3.mono HB2.out.size))
  clear hb3 c0 c1 c2 c3 c4 c5
  obtain ⟨c0,c1,c2,c3,c4,c5⟩:=BX.out _ HB3.out
  by_cases hl:200 < al.length
  case pos =>
    have hl2:(200:Int) < (al.length:Int):=by omega
    clear hl
    go_wp2
    go_ret
    exact ⟨rfl,HB.out.trans (HB3.out.mono HB.out.size)⟩
  have hl2:¬ ((200:Int) < (al.length:Int)):=by omega
  by_cases hm:100 < zs.length
  case pos =>
    have hm2:(100:Int) < (zs.length:Int):=by omega
    clear hm hl
    go_wp2
    go_ret
    exact ⟨rfl,HB.out.trans (HB3.out.mono HB.out.size)⟩
  have hm2:¬ ((100:Int) < (zs.length:Int)):=by omega
  have HLM:Hid (al.length ≤ 200 ∧ zs.length ≤ 100):=Lib.hid (by omega)
  clear hl hm
  go_wp2
  clear c0 c1 c2 c3 c4 c5 hl2 hm2
  go_loopw [47] (fun ix wr => ∃ j:Nat,j ≤ c.chans.length ∧ ix = .int .i64 j ∧ Below W.heap.size W wr) (fun ix _ => c.chans.length - (intOf ix).toNat)
  case atStart => exact ⟨0,Nat.zero_le _,rfl,HB3.out⟩
  obtain ⟨j,hj,rfl,hbr⟩:=hrel
  by_cases hjl:j < c.chans.length
  case neg =>
    have s1:¬ ((j:Int) < (c.chans.length:Int)):=by omega
    have HF:=Lib.hid (HB.out.trans (hbr.mono HB.out.size))
    clear hbr
    go_wp2
    go_ret
    exact ⟨rfl,HF.out⟩
  have s1:(j:Int) < (c.chans.length:Int):=by omega
  obtain ⟨b,o,y0,y1,y2,y3,y4,y5,y6,e0,hlt,e1,hwf,hrow⟩:=HXW.out.rc.at7 HWX.out.wc hjl
  obtain ⟨k0,k1,k2,k3,k4,k5,k6⟩:=hrow wr hbr
  rw [e0]
  have HE1:=Lib.hid e1;have HWF:=Lib.hid hwf;have HROW:=Lib.hid hrow;have HBR:=Lib.hid hbr
  clear e1 hwf hrow hbr e0 hlt
  obtain ⟨_,hcl,_,_⟩:=HLX.out

  by_cases hk:y0 = 2
  case neg =>
    have hkb:(y0 != 2) = true:=by simp [hk]
    have hkc:(y0 == 2) = false:=by simp [hk]
    obtain ⟨V,HV⟩:∃ u,Hid (u = wr.alloc (.cells #[.int .i64 y0,.int .i64 y1,.int .i64 y2,.int .i64 y3,.int .i64 y4,.int .i64 y5,.int .u32 y6] 36)):=⟨_,rfl⟩
    have HBV:Hid (Below W.heap.size W V):=Lib.hid (by rw [HV.out];exact HBR.out.alloc HBR.out.size _)
    have hv0:V.cell? ⟨wr.heap.size,0,none⟩ = some (.int .i64 y0):=by rw [HV.out];exact cell_blk (heap_alloc_new _ _) rfl
    clear hk
    go_wp2_with (rw [← HV.out])
    go_roundw
    case rel => exact ⟨j + 1,by omega,by go_num,HBV.out⟩
    case measure => simp [intOf];omega
  subst hk
  obtain ⟨V,HV⟩:∃ u,Hid (u = wr.alloc (.cells #[.int .i64 2,.int .i64 y1,.int .i64 y2,.int .i64 y3,.int .i64 y4,.int .i64 y5,.int .u32 y6] 36)):=⟨_,rfl⟩
  obtain ⟨xb,hxb⟩:∃ q,q = wr.heap.size:=⟨_,rfl⟩
  have HBV:Hid (Below W.heap.size W V):=Lib.hid (by rw [HV.out];exact HBR.out.alloc HBR.out.size _)
  have HVX:Hid (V.heap[xb]? = some (.cells #[.int .i64 2,.int .i64 y1,.int .i64 y2,.int .i64 y3,.int .i64 y4,.int .i64 y5,.int .u32 y6] 36 (0,0))):=Lib.hid (by rw [HV.out,hxb];exact heap_alloc_new _ _)
  have HXB:=Lib.hid hxb
  obtain ⟨c0,c1,c2,c3,c4,c5⟩:=BX.out _ HBV.out
  have hrj:=row_at HE1.out
  have HF0:Hid (QrOf c j (qrOfN c j)):=Lib.hid (qrOf HACC.out j hjl (by rw [hrj];rfl))
  obtain ⟨F,HF⟩:∃ F,Hid (QrOf c j F):=⟨_,HF0⟩
  have hwd:y3 = (F.n:Int):=by have q:=HF.out.words;rw [hrj] at q;exact q
  have hsz0:=HF.out.size
  obtain ⟨n,hn⟩:=Int.eq_ofNat_of_zero_le hsz0.1
  have HNN:Hid ((sizeN c).toNat = n):=Lib.hid (by omega)
  have HN:Hid (n ≤ 65536):=Lib.hid (by omega)
  have HSZ:=Lib.hid (rsize_b c x V (HXW.out.later HBV.out) HWX.out HLX.out)
  rw [hn] at HSZ
  simp only [cfgCells] at HSZ
  clear hrj HF0 hsz0 hn hxb
  subst hwd
  have hv0:V.cell? ⟨wr.heap.size,0,none⟩ = some (.int .i64 2):=by rw [HV.out];exact cell_blk (heap_alloc_new _ _) rfl
  go_wp2_with (rw [← HV.out])
  simp only [← HXB.out]
  clear hv0 k0 k1 k2 k3 k4 k5 k6
  refine HSZ.out.mono ?_
  rintro e v1 ⟨rfl,hb1⟩
  have HB4:=Lib.hid (HBV.out.trans (hb1.mono HBV.out.size))
  have HV1:=Lib.hid ((hb1.block xb (Array.getElem?_eq_some_iff.1 HVX.out).1).trans HVX.out)
  clear hb1 c0 c1 c2 c3 c4 c5
  go_wp2_with fail
  refine (memNew_at n _ rfl v1 HN.out).mono ?_
  rintro e v2 ⟨mb,rb,rfl,hmb,hrb,hmem,hb2⟩
  have HMB:=Lib.hid (And.intro hmb hrb)
  have HB5:=Lib.hid (HB4.out.trans (hb2.mono HB4.out.size))
  have HB12:=Lib.hid hb2
  have HV2:=Lib.hid ((hb2.block xb (Array.getElem?_eq_some_iff.1 HV1.out).1).trans HV1.out)
  have HMEM:=Lib.hid hmem
  clear hmb hrb hmem hb2
  obtain ⟨c0,c1,c2,c3,c4,c5⟩:=BX.out _ HB5.out
  have hcl8:c.chans.length ≤ 8:=HF.out.chans
  go_wp2_with fail
  refine (Bel.new_in (2 * c.chans.length) _ (by go_num) v2 (by omega)).mono ?_
  rintro e v3 ⟨bb,br,rfl,hbb,hbr,hbel,hb3⟩
  have HBB:=Lib.hid (And.intro hbb hbr)
  have HB23:=Lib.hid hb3
  have HM3:=Lib.hid (HMEM.out.below hb3)
  have HB6:=Lib.hid (HB5.out.trans (hb3.mono HB5.out.size))
  have HV3:=Lib.hid ((hb3.block xb (Array.getElem?_eq_some_iff.1 HV2.out).1).trans HV2.out)
  have HBEL:=Lib.hid hbel
  clear hbb hbr hbel hb3 c0 c1 c2 c3 c4 c5
  go_wp2_with fail
  refine (memLen_b mb rb _ v3 HM3.out).mono ?_
  rintro e w' ⟨rfl,rfl⟩
  rw [List.length_replicate]
  go_wp2
  go_loopw [85] (fun ix wv => ∃ (i:Nat) (ws:List Int),i ≤ n ∧ ix = .int .i64 i ∧ ws.length = n ∧ W32 ws ∧ MemAt wv mb rb ws ∧ Only (fun k => k = rb) v3 wv) (fun ix _ => n - (intOf ix).toNat)
  case atStart => exact ⟨0,List.replicate n 0,Nat.zero_le _,rfl,List.length_replicate ..,w32_zero n,HM3.out,Only.refl _ _⟩
  obtain ⟨i,ws,hi,rfl,hwl,hw32,hm,ho⟩:=hrel
  have HMW:=Lib.hid hm;have HOW:=Lib.hid ho;have HW32:=Lib.hid hw32;have HWL:=Lib.hid hwl
  have HBW:Hid (Below W.heap.size W wr):=Lib.hid (belk HB6.out ho (fun k hk => by subst hk;have:=HMB.out.2;have:=HB4.out.size;omega) (Nat.le_refl _))
  clear hm ho hw32 hwl
  have hn6:=HN.out
  by_cases hil:i < n
  case pos =>
    have s2:(i:Int) < (n:Int):=by omega
    have hu:IntKind.u64.wrap (i:Int) = (i:Int):=IntWalk.u64_in _ (by omega)
    by_cases hz:0 < zs.length
    case neg =>
      have hz2:¬ ((0:Int) < (zs.length:Int)):=by omega
      clear hz
      go_wp2
      go_roundw
      case rel => exact ⟨i + 1,ws,by omega,by go_num,HWL.out,HW32.out,HMW.out,HOW.out⟩
      case measure => simp [intOf];omega
    have hz2:(0:Int) < (zs.length:Int):=by omega
    have hz3:¬ ((zs.length:Int) = 0):=by omega
    have hzl:=HLM.out.2
    obtain ⟨r,hr⟩:∃ r,r = i % zs.length:=⟨_,rfl⟩
    have hrl:r < zs.length:=by rw [hr];exact Nat.mod_lt _ hz
    have hrm:(i:Int).tmod (zs.length:Int) = (r:Int):=by rw [Int.tmod_eq_emod_of_nonneg (by omega),hr];rfl
    have hrw:IntKind.i64.wrap (r:Int) = (r:Int):=IntWalk.i64_in _ (by omega)
    have hrs:(r:Int) < (zs.length:Int):=by omega
    obtain ⟨bz,oz,hAZ,-,hcz⟩:=HRZ.out hz
    have hzc:=((HB.out.trans (HBW.out.mono HB.out.size)).cell (p:=⟨bz,oz + r,none⟩) (by obtain ⟨_,_,q,q2,_⟩:=HRZ.out hz;rw [hAZ] at q;cases q;exact q2)).trans (hcz r hrl)
    obtain ⟨z,hz0⟩:∃ z,zs.getD r 0 = z:=⟨_,rfl⟩
    have HZ0:=Lib.hid (show 0 ≤ z ∧ z ≤ 4294967295 from by have q:=HZ32.out r;unfold rd at q;rw [hz0] at q;exact q)
    rw [hz0] at hzc
    subst hAZ
    clear hr hz hcz hz0
    go_wp2_with fail
    refine (memStore_at mb rb ws i _ _ (by rfl) wr HMW.out (by have:=HWL.out;omega) (by have:=HWL.out;omega)).mono ?_
    rintro e w5 ⟨rfl,hw5⟩
    have HM5:=Lib.hid (show MemAt w5 mb rb (ws.set i z) from by rw [hw5];exact HMW.out.set i z)
    have HO5:=Lib.hid (show Only (fun k => k = rb) v3 w5 from by rw [hw5];exact HOW.out.set (p:=⟨rb,i,none⟩) rfl _)
    clear hw5 hzc
    go_wp2
    go_roundw
    case rel => exact ⟨i + 1,ws.set i z,by omega,by go_num,by rw [List.length_set];exact HWL.out,HW32.out.set HZ0.out,HM5.out,HO5.out⟩
    case measure => simp [intOf];omega
  obtain rfl:i = n:=by omega
  have s2:¬ ((i:Int) < (i:Int)):=by omega
  clear hil hi
  go_wp2_with fail
  refine (memWords_b mb rb ws wr HMW.out (by have:=HWL.out;omega)).mono ?_
  rintro e v4 ⟨yb,rfl,hyb,hwy,hb4⟩
  rw [HWL.out]
  have HYB:=Lib.hid hyb;have HWY:=Lib.hid hwy;have HB4':=Lib.hid hb4
  have HBX:=Lib.hid (HBW.out.trans (hb4.mono HBW.out.size))
  obtain ⟨c0,c1,c2,c3,c4,c5⟩:=BX.out _ HBX.out
  clear hyb hwy hb4
  obtain ⟨q0,hq0,hqz0,hqz1,hqz2⟩:=info_parts Bel.Tryz.infoB
  obtain ⟨nb,hnb⟩:∃ nb,nb = 2 * c.chans.length:=⟨_,rfl⟩
  have hnbw:IntKind.i64.wrap (2 * (c.chans.length:Int)) = (nb:Int):=by rw [IntWalk.i64_in _ (by omega)];omega
  have hnb16:nb ≤ 16:=by omega
  obtain ⟨W5,HW5⟩:∃ u,Hid (u = v4.alloc (.cells (madeCells #[Value.bool false] nb) 4)):=⟨_,rfl⟩
  obtain ⟨zb,hzb⟩:∃ q,q = v4.heap.size:=⟨_,rfl⟩
  have HB45:Hid (Below v4.heap.size v4 W5):=Lib.hid (by rw [HW5.out];exact (Below.refl _ _).alloc (Nat.le_refl _) _)
  obtain ⟨W6,HW6⟩:∃ u,Hid (u = W5.alloc (.cells #[.int .u32 7,.int .u32 8,.int .u32 9] 34)):=⟨_,rfl⟩
  obtain ⟨db,hdb⟩:∃ q,q = W5.heap.size:=⟨_,rfl⟩
  have HB56:Hid (Below W5.heap.size W5 W6):=Lib.hid (by rw [HW6.out];exact (Below.refl _ _).alloc (Nat.le_refl _) _)
  have HB46:Hid (Below v4.heap.size v4 W6):=Lib.hid (HB45.out.trans (HB56.out.mono HB45.out.size))
  have HB6':Hid (Below W.heap.size W W6):=Lib.hid (HBX.out.trans (HB46.out.mono HBX.out.size))
  have HV4:Hid (v4.heap[xb]? = some (.cells #[.int .i64 2,.int .i64 y1,.int .i64 y2,.int .i64 (F.n:Int),.int .i64 y4,.int .i64 y5,.int .u32 y6] 36 (0,0))):=Lib.hid (by
    have h1:=HV3.out
    have h2:=HOW.out.at_ h1 (fun e => by have:=(Array.getElem?_eq_some_iff.1 HV1.out).1;have:=HMB.out.2;omega)
    exact (HB4'.out.block xb (Array.getElem?_eq_some_iff.1 h2).1).trans h2)
  have HVW6:=Lib.hid ((HB46.out.block xb (Array.getElem?_eq_some_iff.1 HV4.out).1).trans HV4.out)
  have e3:W6.cell? ⟨xb,3,none⟩ = some (.int .i64 (F.n:Int)):=cell_blk HVW6.out rfl
  have e6:W6.cell? ⟨xb,6,none⟩ = some (.int .u32 y6):=cell_blk HVW6.out rfl
  have HDB:Hid (W6.heap[db]? = some (.cells #[.int .u32 7,.int .u32 8,.int .u32 9] 34 (0,0))):=Lib.hid (by rw [HW6.out,hdb];exact heap_alloc_new _ _)
  obtain ⟨m,hm⟩:∃ m,m = min F.n 3:=⟨_,rfl⟩
  have HMM:Hid (m = min F.n 3):=Lib.hid hm
  have hm3:m ≤ 3:=by omega
  have hmin:∀ (ts:Array TypeId) (t:TypeId) (w:World),(Builtin.min_ ts t #[.int .i64 (F.n:Int),.int .i64 3]).run Tryz.prog w = .ok (.int .i64 (m:Int)) w:=fun ts t w => by
    rw [run_min_int2,show (if (3:Int) < (F.n:Int) then (3:Int) else (F.n:Int)) = (m:Int) by rw [hm];split <;> omega]
  obtain ⟨p0,hp0,_,_,_⟩:=info_parts Tryz.infoW
  have hup:=fun w => upto_row (P:=Tryz.prog) (t:=30) Tryz.underlying30 hp0 (some ⟨db,0,none⟩) 3 3 m (by omega) w
  clear hm
  have HZB:=Lib.hid hzb;have HDBN:=Lib.hid hdb;have HNB:=Lib.hid hnb
  rw [hdb] at hup
  clear hzb hdb hnb
  go_wp2_with (first | (refine wpList_make_row _ rfl _ _ 65 rfl 4 q0 (.bool false) Tryz.underlying65 hq0 hqz0 hqz1 rfl .i64 .i64 nb rfl rfl (by rw [hqz2];omega) (by omega) ?_) | (rw [← HW5.out]) | (rw [← HW6.out]))
  simp only [← HDBN.out,← HZB.out]
  have hy6:0 ≤ y6 ∧ y6 ≤ 4294967295:=u32_inQ HWF.out.2.2.2.2.2.2
  obtain ⟨ds,hds⟩:∃ ds:List Int,ds = List.take m [7,8,9]:=⟨_,rfl⟩
  have hlow:=HF.out.low
  have hdl:ds.length = m:=by rw [hds,List.length_take];show min m 3 = m;omega
  have hdg:∀ q,q < m → (#[.int .u32 7,.int .u32 8,.int .u32 9]:Array Value)[0 + q]? = some (.int .u32 (ds.getD q 0)):=fun q hq => by
    have:q = 0 ∨ q = 1 ∨ q = 2:=by omega
    rcases this with rfl | rfl | rfl <;> (rw [hds];simp [List.getD_eq_getElem?_getD,List.getElem?_take,hq])
  have HDS:Hid (ds.length = m ∧ W32 ds ∧ 1 ≤ m ∧ m ≤ F.n ∧ (∀ q,q < m → (#[.int .u32 7,.int .u32 8,.int .u32 9]:Array Value)[0 + q]? = some (.int .u32 (ds.getD q 0)))):=Lib.hid ⟨hdl,w32_of (fun q hq => by rw [hds] at hq;have:=List.mem_of_mem_take hq;simp at this;omega),by have:=HMM.out;omega,by have:=HMM.out;omega,hdg⟩
  have HY6:=Lib.hid hy6
  have HNS:=Lib.hid (fun (W':World) (hb:Below W6.heap.size W6 W') => callsIn_wide.1 (newS_in c x j F y6 ds db 0 3 W' (HXW.out.later (HB6'.out.trans (hb.mono HB6'.out.size))) HWX.out HLX.out HF.out HY6.out ⟨_,_,(hb.block db (Array.getElem?_eq_some_iff.1 HDB.out).1).trans HDB.out,fun q hq => HDS.out.2.2.2.2 q (by rw [← HDS.out.1];exact hq)⟩ (by rw [HDS.out.1];exact ⟨HDS.out.2.2.1,HDS.out.2.2.2.1⟩)))
  have HNG:=Lib.hid (fun (W':World) (hb:Below W6.heap.size W6 W') => newG_b c x j F y6 W' (HXW.out.later (HB6'.out.trans (hb.mono HB6'.out.size))) HWX.out HLX.out HF.out HY6.out)
  have HNC:=Lib.hid (fun (sr:Bool) (W':World) (hb:Below W6.heap.size W6 W') => newC_b c x j F y6 sr W' (HXW.out.later (HB6'.out.trans (hb.mono HB6'.out.size))) HWX.out HLX.out HF.out HY6.out)
  have HCX:=Lib.hid (fun (W':World) (hb:Below W6.heap.size W6 W') => BX.out W' (HB6'.out.trans (hb.mono HB6'.out.size)))
  rw [hdl] at HNS
  simp only [cfgCells] at HNS HNG HNC
  clear hy6 hds hdl hdg e3 e6 hmin hup c0 c1 c2 c3 c4 c5 hlow
  refine wp_region_held_drew (S:=(fun W' => Below W6.heap.size W6 W')) (by kernel_rfl) ((Below.refl _ _).drew) (fun hHeld => ?_)
  refine wpAnyH_take (i:=0) rfl (by kernel_rfl) (by kernel_rfl) (by kernel_rfl) (fun _ _ _ h => h) (Or.inl ⟨by rfl,by intro w hSw;(obtain ⟨c0,c1,c2,c3,c4,c5⟩:=HCX.out _ hSw);(go_simp <;> with_reducible rfl)⟩) (by assumption) ?_
  (try simp only [Act.put,List.setIfInBounds_toArray,List.set_cons_zero,List.set_cons_succ,List.getElem_toArray,List.getElem_cons_zero,List.getElem_cons_succ])
  refine wpAnyH_take (i:=1) rfl (by kernel_rfl) (by kernel_rfl) (by kernel_rfl) (fun _ _ _ h => h) (Or.inl ⟨by rfl,by intro w hSw;(obtain ⟨c0,c1,c2,c3,c4,c5⟩:=HCX.out _ hSw);(go_simp <;> with_reducible rfl)⟩) (by assumption) ?_
  (try simp only [Act.put,List.setIfInBounds_toArray,List.set_cons_zero,List.set_cons_succ,List.getElem_toArray,List.getElem_cons_zero,List.getElem_cons_succ])
  refine wpAnyH_take (i:=2) rfl (by kernel_rfl) (by kernel_rfl) (by kernel_rfl) (fun _ _ _ h => h) (Or.inl ⟨by rfl,by intro w hSw;(obtain ⟨c0,c1,c2,c3,c4,c5⟩:=HCX.out _ hSw);(go_simp <;> with_reducible rfl)⟩) (by assumption) ?_
  (try simp only [Act.put,List.setIfInBounds_toArray,List.set_cons_zero,List.set_cons_succ,List.getElem_toArray,List.getElem_cons_zero,List.getElem_cons_succ])
  refine wpAnyH_take (i:=3) rfl (by kernel_rfl) (by kernel_rfl) (by kernel_rfl) (fun _ _ _ h => h) (Or.inl ⟨by rfl,by intro w hSw;(obtain ⟨c0,c1,c2,c3,c4,c5⟩:=HCX.out _ hSw);(go_simp <;> with_reducible rfl)⟩) (by assumption) ?_
  (try simp only [Act.put,List.setIfInBounds_toArray,List.set_cons_zero,List.set_cons_succ,List.getElem_toArray,List.getElem_cons_zero,List.getElem_cons_succ])
  refine wpAnyH_take (i:=5) rfl (by kernel_rfl) (by kernel_rfl) (by kernel_rfl) (fun _ _ _ h => h) (Or.inl ⟨by rfl,by intro w hSw;(obtain ⟨c0,c1,c2,c3,c4,c5⟩:=HCX.out _ hSw);(go_simp <;> with_reducible rfl)⟩) (by assumption) ?_
  (try simp only [Act.put,List.setIfInBounds_toArray,List.set_cons_zero,List.set_cons_succ,List.getElem_toArray,List.getElem_cons_zero,List.getElem_cons_succ])
  refine wpAnyH_take (i:=6) rfl (by kernel_rfl) (by kernel_rfl) (by kernel_rfl) (fun _ _ _ h => h) (Or.inl ⟨by rfl,by intro w hSw;(obtain ⟨c0,c1,c2,c3,c4,c5⟩:=HCX.out _ hSw);(go_simp <;> with_reducible rfl)⟩) (by assumption) ?_
  (try simp only [Act.put,List.setIfInBounds_toArray,List.set_cons_zero,List.set_cons_succ,List.getElem_toArray,List.getElem_cons_zero,List.getElem_cons_succ])
  refine wpAnyH_take (i:=7) rfl (by kernel_rfl) (by kernel_rfl) (by kernel_rfl) (fun _ _ _ h => h) (Or.inl ⟨by rfl,by intro w hSw;(obtain ⟨c0,c1,c2,c3,c4,c5⟩:=HCX.out _ hSw);(go_simp <;> with_reducible rfl)⟩) (by assumption) ?_
  (try simp only [Act.put,List.setIfInBounds_toArray,List.set_cons_zero,List.set_cons_succ,List.getElem_toArray,List.getElem_cons_zero,List.getElem_cons_succ])
  refine wpAnyH_take (i:=9) rfl (by kernel_rfl) (by kernel_rfl) (by kernel_rfl) (fun _ _ _ h => h) (Or.inl ⟨by rfl,by intro w hSw;(obtain ⟨c0,c1,c2,c3,c4,c5⟩:=HCX.out _ hSw);(go_simp <;> with_reducible rfl)⟩) (by assumption) ?_
  (try simp only [Act.put,List.setIfInBounds_toArray,List.set_cons_zero,List.set_cons_succ,List.getElem_toArray,List.getElem_cons_zero,List.getElem_cons_succ])
  refine wpAnyH_take (i:=10) rfl (by kernel_rfl) (by kernel_rfl) (by kernel_rfl) (fun _ _ _ h => h) (Or.inl ⟨by rfl,by intro w hSw;(obtain ⟨c0,c1,c2,c3,c4,c5⟩:=HCX.out _ hSw);(go_simp <;> with_reducible rfl)⟩) (by assumption) ?_
  (try simp only [Act.put,List.setIfInBounds_toArray,List.set_cons_zero,List.set_cons_succ,List.getElem_toArray,List.getElem_cons_zero,List.getElem_cons_succ])
  refine wpAnyH_take (i:=11) rfl (by kernel_rfl) (by kernel_rfl) (by kernel_rfl) (fun _ _ _ h => h) (Or.inl ⟨by rfl,by intro w hSw;(obtain ⟨c0,c1,c2,c3,c4,c5⟩:=HCX.out _ hSw);(go_simp <;> with_reducible rfl)⟩) (by assumption) ?_
  (try simp only [Act.put,List.setIfInBounds_toArray,List.set_cons_zero,List.set_cons_succ,List.getElem_toArray,List.getElem_cons_zero,List.getElem_cons_succ])
  refine wpAnyH_take (i:=13) rfl (by kernel_rfl) (by kernel_rfl) (by kernel_rfl) (fun _ _ _ h => h) (Or.inl ⟨by rfl,by intro w hSw;(obtain ⟨c0,c1,c2,c3,c4,c5⟩:=HCX.out _ hSw);(go_simp <;> with_reducible rfl)⟩) (by assumption) ?_
  (try simp only [Act.put,List.setIfInBounds_toArray,List.set_cons_zero,List.set_cons_succ,List.getElem_toArray,List.getElem_cons_zero,List.getElem_cons_succ])
  refine wpAnyH_take (i:=14) rfl (by kernel_rfl) (by kernel_rfl) (by kernel_rfl) (fun _ _ _ h => h) (Or.inl ⟨by rfl,by intro w hSw;(obtain ⟨c0,c1,c2,c3,c4,c5⟩:=HCX.out _ hSw);(go_simp <;> with_reducible rfl)⟩) (by assumption) ?_
  (try simp only [Act.put,List.setIfInBounds_toArray,List.set_cons_zero,List.set_cons_succ,List.getElem_toArray,List.getElem_cons_zero,List.getElem_cons_succ])
  refine wpAnyH_take (i:=15) rfl (by kernel_rfl) (by kernel_rfl) (by kernel_rfl) (fun _ _ _ h => h) (Or.inl ⟨by rfl,by intro w hSw;(obtain ⟨c0,c1,c2,c3,c4,c5⟩:=HCX.out _ hSw);(go_simp <;> with_reducible rfl)⟩) (by assumption) ?_
  (try simp only [Act.put,List.setIfInBounds_toArray,List.set_cons_zero,List.set_cons_succ,List.getElem_toArray,List.getElem_cons_zero,List.getElem_cons_succ])
  refine wpAnyH_ready (rs:=[4]) (by kernel_rfl) (by simp) (AllReadyH.cons rfl (fun K hK => ?_) AllReadyH.nil)
  go_simp
  refine (HNS.out _ (by exact hHeld)).mono ?_
  rintro e w7 ⟨sq,S1,rfl,hsat,hS1,hbw7⟩
  have HBQw7:=Lib.hid (hHeld.trans (hbw7.mono hHeld.size))
  refine hK.out _ _ ((by exact HBQw7.out)) (fun hHeld => ?_)
  clear hK K
  (try simp only [Act.put,List.setIfInBounds_toArray,List.set_cons_zero,List.set_cons_succ,List.getElem_toArray,List.getElem_cons_zero,List.getElem_cons_succ])
  refine wpAnyH_ready (rs:=[8]) (by kernel_rfl) (by simp) (AllReadyH.cons rfl (fun K hK => ?_) AllReadyH.nil)
  go_simp
  refine (HNG.out _ (by exact hHeld)).mono ?_
  rintro e w8 ⟨rq,S2,rfl,hgat,hS2,hbw8⟩
  have HBQw8:=Lib.hid (hHeld.trans (hbw8.mono hHeld.size))
  refine hK.out _ _ ((by exact HBQw8.out)) (fun hHeld => ?_)
  clear hK K
  (try simp only [Act.put,List.setIfInBounds_toArray,List.set_cons_zero,List.set_cons_succ,List.getElem_toArray,List.getElem_cons_zero,List.getElem_cons_succ])
  refine wpAnyH_ready (rs:=[12]) (by kernel_rfl) (by simp) (AllReadyH.cons rfl (fun K hK => ?_) AllReadyH.nil)
  go_simp
  refine (HNC.out true _ (by exact hHeld)).mono ?_
  rintro e w9 ⟨q1,S3,rfl,hcat,hS3,hbw9⟩
  have HBQw9:=Lib.hid (hHeld.trans (hbw9.mono hHeld.size))
  refine hK.out _ _ ((by exact HBQw9.out)) (fun hHeld => ?_)
  clear hK K
  (try simp only [Act.put,List.setIfInBounds_toArray,List.set_cons_zero,List.set_cons_succ,List.getElem_toArray,List.getElem_cons_zero,List.getElem_cons_succ])
  refine wpAnyH_ready (rs:=[16]) (by kernel_rfl) (by simp) (AllReadyH.cons rfl (fun K hK => ?_) AllReadyH.nil)
  go_simp
  refine (HNC.out false _ (by exact hHeld)).mono ?_
  rintro e w10 ⟨q2,S4,rfl,hdat,hS4,hbw10⟩
  have HBQw10:=Lib.hid (hHeld.trans (hbw10.mono hHeld.size))
  refine hK.out _ _ ((by exact HBQw10.out)) (fun hHeld => ?_)
  clear hK K
  (try simp only [Act.put,List.setIfInBounds_toArray,List.set_cons_zero,List.set_cons_succ,List.getElem_toArray,List.getElem_cons_zero,List.getElem_cons_succ])
  refine wpAnyH_ready (rs:=[17]) (by kernel_rfl) (by simp) (AllReadyH.cons rfl (fun K hK => ?_) AllReadyH.nil)
  go_simp
  obtain ⟨Y1,HY1⟩:∃ u,Hid (u = w10.alloc (.cells #[.pointer (some ⟨sq,0,none⟩),.pointer (some ⟨rq,0,none⟩),.pointer (some ⟨q1,0,none⟩),.pointer (some ⟨q2,0,none⟩)] 66)):=⟨_,rfl⟩
  rw [← HY1.out]
  have HBY1:Hid (Below w10.heap.size w10 Y1):=Lib.hid (by rw [HY1.out];exact (Below.refl _ _).alloc (Nat.le_refl _) _)
  refine hK.out _ _ ((by exact HBQw10.out.trans (HBY1.out.mono HBQw10.out.size))) (fun hHeld => ?_)
  clear hK K
  (try simp only [Act.put,List.setIfInBounds_toArray,List.set_cons_zero,List.set_cons_succ,List.getElem_toArray,List.getElem_cons_zero,List.getElem_cons_succ])
  refine wpAnyH_take (i:=18) rfl (by kernel_rfl) (by kernel_rfl) (by kernel_rfl) (fun _ _ _ h => h) (Or.inl ⟨by rfl,by intro w hSw;(obtain ⟨c0,c1,c2,c3,c4,c5⟩:=HCX.out _ hSw);(go_simp <;> with_reducible rfl)⟩) (by assumption) ?_
  (try simp only [Act.put,List.setIfInBounds_toArray,List.set_cons_zero,List.set_cons_succ,List.getElem_toArray,List.getElem_cons_zero,List.getElem_cons_succ])
  refine wpAnyH_done (by kernel_rfl) ?_ _
  clear hHeld

  obtain ⟨lb,hlb⟩:∃ q,q = w10.heap.size:=⟨_,rfl⟩
  have HQY1:Hid (Below W6.heap.size W6 Y1):=Lib.hid (HBQw10.out.trans (HBY1.out.mono HBQw10.out.size))
  have HLB:Hid (Y1.heap[lb]? = some (.cells #[.pointer (some ⟨sq,0,none⟩),.pointer (some ⟨rq,0,none⟩),.pointer (some ⟨q1,0,none⟩),.pointer (some ⟨q2,0,none⟩)] 66 (0,0))):=Lib.hid (by rw [HY1.out,hlb];exact heap_alloc_new _ _)
  obtain ⟨Y2,HY2⟩:∃ u,Hid (u = Y1.alloc (.cells (dqV c x j 5 y6 false (.slice (some ⟨db,0,none⟩) m 3) 0 0) 73)):=⟨_,rfl⟩
  obtain ⟨v5,hv5⟩:∃ q,q = Y1.heap.size:=⟨_,rfl⟩
  have HQY2:Hid (Below Y1.heap.size Y1 Y2):=Lib.hid (by rw [HY2.out];exact (Below.refl _ _).alloc (Nat.le_refl _) _)
  have HWY2:Hid (Y2.heap[v5]? = some (.cells (dqV c x j 5 y6 false (.slice (some ⟨db,0,none⟩) m 3) 0 0) 73 (0,0))):=Lib.hid (by rw [HY2.out,hv5];exact heap_alloc_new _ _)
  have hz2:Y2.heap.size = v5 + 1:=by rw [HY2.out,hv5];simp
  obtain ⟨Y3,HY3⟩:∃ u,Hid (u = Y2.alloc (.cells (dqV c x j 6 y6 false (.slice none 0 0) 0 0) 73)):=⟨_,rfl⟩
  obtain ⟨v6,hv6⟩:∃ q,q = Y2.heap.size:=⟨_,rfl⟩
  have HQY3:Hid (Below Y2.heap.size Y2 Y3):=Lib.hid (by rw [HY3.out];exact (Below.refl _ _).alloc (Nat.le_refl _) _)
  have HWY3:Hid (Y3.heap[v6]? = some (.cells (dqV c x j 6 y6 false (.slice none 0 0) 0 0) 73 (0,0))):=Lib.hid (by rw [HY3.out,hv6];exact heap_alloc_new _ _)
  have hz3:Y3.heap.size = v6 + 1:=by rw [HY3.out,hv6];simp
  obtain ⟨Y4,HY4⟩:∃ u,Hid (u = Y3.alloc (.cells (dqV c x j 7 y6 true (.slice none 0 0) 0 0) 73)):=⟨_,rfl⟩
  obtain ⟨v7,hv7⟩:∃ q,q = Y3.heap.size:=⟨_,rfl⟩
  have HQY4:Hid (Below Y3.heap.size Y3 Y4):=Lib.hid (by rw [HY4.out];exact (Below.refl _ _).alloc (Nat.le_refl _) _)
  have HWY4:Hid (Y4.heap[v7]? = some (.cells (dqV c x j 7 y6 true (.slice none 0 0) 0 0) 73 (0,0))):=Lib.hid (by rw [HY4.out,hv7];exact heap_alloc_new _ _)
  have hz4:Y4.heap.size = v7 + 1:=by rw [HY4.out,hv7];simp
  obtain ⟨Y5,HY5⟩:∃ u,Hid (u = Y4.alloc (.cells (dqV c x j 7 y6 false (.slice none 0 0) 0 0) 73)):=⟨_,rfl⟩
  obtain ⟨v8,hv8⟩:∃ q,q = Y4.heap.size:=⟨_,rfl⟩
  have HQY5:Hid (Below Y4.heap.size Y4 Y5):=Lib.hid (by rw [HY5.out];exact (Below.refl _ _).alloc (Nat.le_refl _) _)
  have HWY5:Hid (Y5.heap[v8]? = some (.cells (dqV c x j 7 y6 false (.slice none 0 0) 0 0) 73 (0,0))):=Lib.hid (by rw [HY5.out,hv8];exact heap_alloc_new _ _)
  have hz5:Y5.heap.size = v8 + 1:=by rw [HY5.out,hv8];simp
  obtain ⟨Y6,HY6'⟩:∃ u,Hid (u = Y5.alloc (.cells #[.pointer (some ⟨v5,0,none⟩),.pointer (some ⟨v6,0,none⟩),.pointer (some ⟨v7,0,none⟩),.pointer (some ⟨v8,0,none⟩)] 71)):=⟨_,rfl⟩
  obtain ⟨qb,hqb⟩:∃ q,q = Y5.heap.size:=⟨_,rfl⟩
  have HQB:Hid (Y6.heap[qb]? = some (.cells #[.pointer (some ⟨v5,0,none⟩),.pointer (some ⟨v6,0,none⟩),.pointer (some ⟨v7,0,none⟩),.pointer (some ⟨v8,0,none⟩)] 71 (0,0))):=Lib.hid (by rw [HY6'.out,hqb];exact heap_alloc_new _ _)
  have HQY6:Hid (Below Y5.heap.size Y5 Y6):=Lib.hid (by rw [HY6'.out];exact (Below.refl _ _).alloc (Nat.le_refl _) _)
  have hz6:Y6.heap.size = qb + 1:=by rw [HY6'.out,hqb];simp
  have hz1:Y1.heap.size = lb + 1:=by rw [HY1.out,hlb];simp
  have HR2:Hid (Below W6.heap.size W6 Y2):=Lib.hid (HQY1.out.trans (HQY2.out.mono HQY1.out.size))
  have HR3:Hid (Below W6.heap.size W6 Y3):=Lib.hid (HR2.out.trans (HQY3.out.mono HR2.out.size))
  have HR4:Hid (Below W6.heap.size W6 Y4):=Lib.hid (HR3.out.trans (HQY4.out.mono HR3.out.size))
  have HR5:Hid (Below W6.heap.size W6 Y5):=Lib.hid (HR4.out.trans (HQY5.out.mono HR4.out.size))
  have HR6:Hid (Below W6.heap.size W6 Y6):=Lib.hid (HR5.out.trans (HQY6.out.mono HR5.out.size))
  obtain ⟨c10,c11,c12,c13,c14,c15⟩:=HCX.out _ HQY1.out
  obtain ⟨c20,c21,c22,c23,c24,c25⟩:=HCX.out _ HR2.out
  obtain ⟨c30,c31,c32,c33,c34,c35⟩:=HCX.out _ HR3.out
  obtain ⟨c40,c41,c42,c43,c44,c45⟩:=HCX.out _ HR4.out
  have HLBN:=Lib.hid hlb;have HQBN:=Lib.hid hqb;have HSZS:=Lib.hid (And.intro hz1 (And.intro hz2 (And.intro hz3 (And.intro hz4 (And.intro hz5 hz6)))))
  have HVN5:=Lib.hid hv5
  have HVN6:=Lib.hid hv6
  have HVN7:=Lib.hid hv7
  have HVN8:=Lib.hid hv8
  clear hlb hqb hz1 hz2 hz3 hz4 hz5 hz6 hv5 hv6 hv7 hv8
  (try simp only [← HLBN.out])
  go_wp2_with (first | ((try simp only [← HVN5.out]);rw [← HY2.out]) | ((try simp only [← HVN6.out]);rw [← HY3.out]) | ((try simp only [← HVN7.out]);rw [← HY4.out]) | ((try simp only [← HVN8.out]);rw [← HY5.out]) | ((try simp only [← HVN5.out,← HVN6.out,← HVN7.out,← HVN8.out]);rw [← HY6'.out]))
  (try simp only [← HQBN.out,← HVN5.out,← HVN6.out,← HVN7.out,← HVN8.out])
  have HRX0:Hid (RSx W Y6 (fun q => q = lb ∨ q = qb) mb rb bb br sq rq q1 q2 v5 v6 v7 v8 yb zb i nb j c x F y6):=Lib.hid (by
    obtain ⟨g1,g2,g3,g4,g5,g6⟩:=HSZS.out
    have k1:=HLBN.out;have k2:=HQBN.out;have k5:=HVN5.out;have k6:=HVN6.out;have k7:=HVN7.out;have k8:=HVN8.out
    have m1:=HMW.out.lt;have m2:=HMB.out;have m3:=HBB.out
    have hbs0:Bel.SetAt wr bb br (List.replicate (2 * c.chans.length) false):=HBEL.out.kept HOW.out (fun e => by have:=(HMEM.out.lt).2;have:=m3.1;omega) (fun e => by have:=(HMEM.out.lt).2;have:=m3.2;omega)
    rw [← HNB.out] at hbs0
    have m4:=hbs0.lt
    have z1:=HB6.out.size;have z2:=HB5.out.size;have z3:=HB4.out.size;have z4:=HOW.out.size;have z5:=HB4'.out.size;have z6:=HB45.out.size;have z7:=HB56.out.size;have z8:=HBQw10.out.size
    have n1:=HYB.out;have n2:=HZB.out;have n3:=HDBN.out;have n4:=HWY.out.lt
    have h46:=HB46.out
    have hw6:Below wr.heap.size wr W6:=HB4'.out.trans (h46.mono z5)
    have hbel5:Bel.BellsAt W5 zb (List.replicate nb false):=by
      unfold Bel.BellsAt
      rw [← Bel.made_bools,HW5.out,HZB.out]
      exact heap_alloc_new _ _
    have hd6:W6.heap.size = db + 1:=by rw [HW6.out,HDBN.out];simp
    have hq:Quo W W6 W.heap.size (fun k => k = yb ∨ k = zb ∨ k = db) mb rb bb br F (2 * j + 1) ws (List.replicate nb false) none none:=Quo.first HB6'.out (HMW.out.below hw6) (hbs0.below hw6) ⟨by omega,by omega,by omega,by omega,Nat.le_refl _⟩ ⟨⟨HF.out.inn.1,by rw [HWL.out,← HNN.out];exact HF.out.inn.2⟩,by rw [HWL.out];have:=HN.out;omega,HF.out.low⟩ HW32.out (by rw [List.length_replicate];have:=HNB.out;omega) (fun k hk => by
      have:k = yb ∨ k = zb ∨ k = db:=hk
      constructor
      · rintro (e | e | e | e) <;> omega
      · omega)
    have h23:=HQY3.out;have h34:=HQY4.out;have h45:=HQY5.out;have h56:=HQY6.out
    have s3:=h23.size;have s4:=h34.size;have s5:=h45.size;have s6:=h56.size
    have t5:Below Y5.heap.size Y5 Y6:=h56
    have t4:Below Y4.heap.size Y4 Y6:=h45.trans (t5.mono s5)
    have t3:Below Y3.heap.size Y3 Y6:=h34.trans (t4.mono s4)
    have t2:Below Y2.heap.size Y2 Y6:=h23.trans (t3.mono s3)
    have t1:Below Y1.heap.size Y1 Y6:=HQY2.out.trans (t2.mono HQY2.out.size)
    have t0:Below w10.heap.size w10 Y6:=HBY1.out.trans (t1.mono HBY1.out.size)
    have hv5:v5 = w10.heap.size + 1:=by omega
    have hv6:v6 = w10.heap.size + 2:=by omega
    have hv7:v7 = w10.heap.size + 3:=by omega
    have hv8:v8 = w10.heap.size + 4:=by omega
    have hvq:qb = w10.heap.size + 5:=by omega
    have hv9:Y6.heap.size = w10.heap.size + 6:=by omega
    have q:=RSx.begin (v5:=v5) (v6:=v6) (v7:=v7) (v8:=v8) (dof:=0) (dc:=3) (data:=ds) (lb:=lb) (qb:=qb) hq hsat hS1 HBQw7.out hgat hS2 hbw8 hcat hS3 hbw9 hdat hS4 hbw10 t0 (by omega) (by omega) HXW.out HWX.out HLX.out HF.out HY6.out (by rw [HDS.out.1];exact HDS.out.2.2.2.1) HDS.out.2.1 (HWY.out.of (h46.block yb n4)) (hbel5.of (HB56.out.block zb hbel5.lt)) (by rw [HDS.out.1];exact (t2.block v5 (by omega)).trans HWY2.out) ((t3.block v6 (by omega)).trans HWY3.out) ((t4.block v7 (by omega)).trans HWY4.out) ((t5.block v8 (by omega)).trans HWY5.out) ⟨_,_,HDB.out,fun q hq => HDS.out.2.2.2.2 q (by rw [← HDS.out.1];exact hq)⟩ ⟨by omega,by omega,by omega,by omega,by omega,by omega,by omega⟩ ⟨by omega,by omega⟩
    rw [HWL.out,List.length_replicate] at q
    exact q)
  have HLB0:Hid (Y6.heap[lb]? = some (.cells #[.pointer (some ⟨sq,0,none⟩),.pointer (some ⟨rq,0,none⟩),.pointer (some ⟨q1,0,none⟩),.pointer (some ⟨q2,0,none⟩)] 66 (0,0))):=Lib.hid (by
    obtain ⟨g1,g2,g3,g4,g5,g6⟩:=HSZS.out
    have t1:Below Y1.heap.size Y1 Y6:=HQY2.out.trans ((HQY3.out.trans ((HQY4.out.trans ((HQY5.out.trans (HQY6.out.mono HQY5.out.size)).mono HQY4.out.size)).mono HQY3.out.size)).mono HQY2.out.size)
    exact (t1.block lb (by omega)).trans HLB.out)
  have HGET:Hid (Below w.heap.size w W):=HB
  have HI:Hid (i ≤ 65536):=Lib.hid hn6
  have HNB16:Hid (nb ≤ 16):=Lib.hid hnb16

  clear hsat hS1 hbw7 hgat hS2 hbw8 hcat hS3 hbw9 hdat hS4 hbw10 c10 c11 c12 c13 c14 c15 c20 c21 c22 c23 c24 c25 c30 c31 c32 c33 c34 c35 c40 c41 c42 c43 c44 c45
  go_loopw [159] (fun ix wv => ∃ a:Nat,a ≤ al.length ∧ ix = .int .i64 a ∧ RSx W wv (fun q => q = lb ∨ q = qb) mb rb bb br sq rq q1 q2 v5 v6 v7 v8 yb zb i nb j c x F y6 ∧ wv.heap[lb]? = some (.cells #[.pointer (some ⟨sq,0,none⟩),.pointer (some ⟨rq,0,none⟩),.pointer (some ⟨q1,0,none⟩),.pointer (some ⟨q2,0,none⟩)] 66 (0,0)) ∧ wv.heap[qb]? = some (.cells #[.pointer (some ⟨v5,0,none⟩),.pointer (some ⟨v6,0,none⟩),.pointer (some ⟨v7,0,none⟩),.pointer (some ⟨v8,0,none⟩)] 71 (0,0))) (fun ix _ => al.length - (intOf ix).toNat)
  case atStart => exact ⟨0,Nat.zero_le _,rfl,HRX0.out,HLB0.out,HQB.out⟩
  obtain ⟨a,hal,rfl,hrx,hlb,hqb⟩:=hrel
  by_cases hall:a < al.length
  case neg =>
    have sa:¬ ((a:Int) < (al.length:Int)):=by omega
    have HBF:=Lib.hid hrx.below
    clear hrx hlb hqb
    go_wp2
    go_roundw
    case rel => exact ⟨j + 1,by omega,by go_num,HBF.out⟩
    case measure => simp [intOf];omega
  have sa:(a:Int) < (al.length:Int):=by omega
  have HRX:=Lib.hid hrx;have HLBB:=Lib.hid hlb;have HQBB:=Lib.hid hqb
  have hbw:=HB.out.trans (hrx.below.mono HB.out.size)
  have hall2:=HLM.out.1
  obtain ⟨bA,oA,hAA,hbA,hcA⟩:=HRA.out (by omega)
  have hca:=(hbw.cell (p:=⟨bA,oA + a,none⟩) hbA).trans (hcA a hall)
  have hv8:=HA8.out a
  obtain ⟨v,hv⟩:∃ v,al.getD a 0 = v:=⟨_,rfl⟩
  rw [hv] at hca hv8
  obtain ⟨ii,hii⟩:=Int.eq_ofNat_of_zero_le (show 0 ≤ v % 4 by omega)
  have hi4:ii < 4:=by omega
  have hvm:v.tmod 4 = (ii:Int):=by rw [Int.tmod_eq_emod_of_nonneg hv8.1];exact hii
  have hvw:IntKind.i64.wrap v = v:=IntWalk.i64_in _ (by omega)
  have hiw:IntKind.i64.wrap (ii:Int) = (ii:Int):=IntWalk.i64_in _ (by omega)
  subst hAA
  clear hcA hv hii hbA hrx hlb hqb hbw
  go_wp2
  clear hca hv8 hvm hvw hiw sa
  obtain ⟨P,hP⟩:∃ P,P = po sq rq q1 q2 ii:=⟨_,rfl⟩
  obtain ⟨Q,hQ⟩:∃ Q,Q = po v5 v6 v7 v8 ii:=⟨_,rfl⟩
  have hi4':(ii:Int) < 4:=by omega
  have HLC:=Lib.hid (fun (W':World) (h:W'.heap[lb]? = some (.cells #[.pointer (some ⟨sq,0,none⟩),.pointer (some ⟨rq,0,none⟩),.pointer (some ⟨q1,0,none⟩),.pointer (some ⟨q2,0,none⟩)] 66 (0,0))) => show W'.cell? ⟨lb,ii,none⟩ = some (.pointer (some ⟨P,0,none⟩)) from by rw [hP];exact lcell h hi4)
  have HQC:=Lib.hid (fun (W':World) (h:W'.heap[qb]? = some (.cells #[.pointer (some ⟨v5,0,none⟩),.pointer (some ⟨v6,0,none⟩),.pointer (some ⟨v7,0,none⟩),.pointer (some ⟨v8,0,none⟩)] 71 (0,0))) => show W'.cell? ⟨qb,ii,none⟩ = some (.pointer (some ⟨Q,0,none⟩)) from by rw [hQ];exact lcell h hi4)
  have HRXD:=Lib.hid (HRX.out.later (w':=wr.drew) (Below.refl wr.heap.size wr).drew)
  have hst:=HRXD.out.step ii hi4
  unfold SX at hst
  rw [← hP,← hQ] at hst
  have HST:=Lib.hid hst
  have HNUM:=Lib.hid (fun (W':World) (h:RSx W W' (fun q => q = lb ∨ q = qb) mb rb bb br sq rq q1 q2 v5 v6 v7 v8 yb zb i nb j c x F y6) => show ∃ o,W'.cell? ⟨P,0,none⟩ = some (.int .u32 o) ∧ W'.cell? ⟨Q,8,none⟩ = some (.int .u32 o) from by rw [hP,hQ];exact h.num ii hi4)
  clear hst hP hQ
  refine wp_region_held_drew (S:=(fun W' => W'.heap[lb]? = some (.cells #[.pointer (some ⟨sq,0,none⟩),.pointer (some ⟨rq,0,none⟩),.pointer (some ⟨q1,0,none⟩),.pointer (some ⟨q2,0,none⟩)] 66 (0,0)) ∧ W'.heap[qb]? = some (.cells #[.pointer (some ⟨v5,0,none⟩),.pointer (some ⟨v6,0,none⟩),.pointer (some ⟨v7,0,none⟩),.pointer (some ⟨v8,0,none⟩)] 71 (0,0)))) (by kernel_rfl) (⟨HLBB.out,HQBB.out⟩) (fun hHeld => ?_)
  refine wpAnyH_take (i:=0) rfl (by kernel_rfl) (by kernel_rfl) (by kernel_rfl) (fun _ _ _ h => h) (Or.inl ⟨by rfl,by intro w hSw;(have z0:=HLC.out _ hSw.1;have z1:=HQC.out _ hSw.2;clear hSw);(go_simp <;> with_reducible rfl)⟩) (by assumption) ?_
  (try simp only [Act.put,List.setIfInBounds_toArray,List.set_cons_zero,List.set_cons_succ,List.getElem_toArray,List.getElem_cons_zero,List.getElem_cons_succ])
  refine wpAnyH_take (i:=1) rfl (by kernel_rfl) (by kernel_rfl) (by kernel_rfl) (fun _ _ _ h => h) (Or.inl ⟨by rfl,by intro w hSw;(have z0:=HLC.out _ hSw.1;have z1:=HQC.out _ hSw.2;clear hSw);(go_simp <;> with_reducible rfl)⟩) (by assumption) ?_
  (try simp only [Act.put,List.setIfInBounds_toArray,List.set_cons_zero,List.set_cons_succ,List.getElem_toArray,List.getElem_cons_zero,List.getElem_cons_succ])
  refine wpAnyH_take (i:=2) rfl (by kernel_rfl) (by kernel_rfl) (by kernel_rfl) (fun _ _ _ h => h) (Or.inl ⟨by rfl,by intro w hSw;(have z0:=HLC.out _ hSw.1;have z1:=HQC.out _ hSw.2;clear hSw);(go_simp <;> with_reducible rfl)⟩) (by assumption) ?_
  (try simp only [Act.put,List.setIfInBounds_toArray,List.set_cons_zero,List.set_cons_succ,List.getElem_toArray,List.getElem_cons_zero,List.getElem_cons_succ])
  refine wpAnyH_take (i:=3) rfl (by kernel_rfl) (by kernel_rfl) (by kernel_rfl) (fun _ _ _ h => h) (Or.inl ⟨by rfl,by intro w hSw;(have z0:=HLC.out _ hSw.1;have z1:=HQC.out _ hSw.2;clear hSw);(go_simp <;> with_reducible rfl)⟩) (by assumption) ?_
  (try simp only [Act.put,List.setIfInBounds_toArray,List.set_cons_zero,List.set_cons_succ,List.getElem_toArray,List.getElem_cons_zero,List.getElem_cons_succ])
  refine wpAnyH_take (i:=4) rfl (by kernel_rfl) (by kernel_rfl) (by kernel_rfl) (fun _ _ _ h => h) (Or.inl ⟨by rfl,by intro w hSw;(have z0:=HLC.out _ hSw.1;have z1:=HQC.out _ hSw.2;clear hSw);(go_simp <;> with_reducible rfl)⟩) (by assumption) ?_
  (try simp only [Act.put,List.setIfInBounds_toArray,List.set_cons_zero,List.set_cons_succ,List.getElem_toArray,List.getElem_cons_zero,List.getElem_cons_succ])
  refine wpAnyH_take (i:=5) rfl (by kernel_rfl) (by kernel_rfl) (by kernel_rfl) (fun _ _ _ h => h) (Or.inl ⟨by rfl,by intro w hSw;(have z0:=HLC.out _ hSw.1;have z1:=HQC.out _ hSw.2;clear hSw);(go_simp <;> with_reducible rfl)⟩) (by assumption) ?_
  (try simp only [Act.put,List.setIfInBounds_toArray,List.set_cons_zero,List.set_cons_succ,List.getElem_toArray,List.getElem_cons_zero,List.getElem_cons_succ])
  refine wpAnyH_take (i:=6) rfl (by kernel_rfl) (by kernel_rfl) (by kernel_rfl) (fun _ _ _ h => h) (Or.inl ⟨by rfl,by intro w hSw;(have z0:=HLC.out _ hSw.1;have z1:=HQC.out _ hSw.2;clear hSw);(go_simp <;> with_reducible rfl)⟩) (by assumption) ?_
  (try simp only [Act.put,List.setIfInBounds_toArray,List.set_cons_zero,List.set_cons_succ,List.getElem_toArray,List.getElem_cons_zero,List.getElem_cons_succ])
  refine wpAnyH_take (i:=7) rfl (by kernel_rfl) (by kernel_rfl) (by kernel_rfl) (fun _ _ _ h => h) (Or.inl ⟨by rfl,by intro w hSw;(have z0:=HLC.out _ hSw.1;have z1:=HQC.out _ hSw.2;clear hSw);(go_simp <;> with_reducible rfl)⟩) (by assumption) ?_
  (try simp only [Act.put,List.setIfInBounds_toArray,List.set_cons_zero,List.set_cons_succ,List.getElem_toArray,List.getElem_cons_zero,List.getElem_cons_succ])
  refine wpAnyH_take (i:=8) rfl (by kernel_rfl) (by kernel_rfl) (by kernel_rfl) (fun _ _ _ h => h) (Or.inl ⟨by rfl,by intro w hSw;(have z0:=HLC.out _ hSw.1;have z1:=HQC.out _ hSw.2;clear hSw);(go_simp <;> with_reducible rfl)⟩) (by assumption) ?_
  (try simp only [Act.put,List.setIfInBounds_toArray,List.set_cons_zero,List.set_cons_succ,List.getElem_toArray,List.getElem_cons_zero,List.getElem_cons_succ])
  refine wpAnyH_take (i:=9) rfl (by kernel_rfl) (by kernel_rfl) (by kernel_rfl) (fun _ _ _ h => h) (Or.inl ⟨by rfl,by intro w hSw;(have z0:=HLC.out _ hSw.1;have z1:=HQC.out _ hSw.2;clear hSw);(go_simp <;> with_reducible rfl)⟩) (by assumption) ?_
  (try simp only [Act.put,List.setIfInBounds_toArray,List.set_cons_zero,List.set_cons_succ,List.getElem_toArray,List.getElem_cons_zero,List.getElem_cons_succ])
  refine wpAnyH_take (i:=10) rfl (by kernel_rfl) (by kernel_rfl) (by kernel_rfl) (fun _ _ _ h => h) (Or.inl ⟨by rfl,by intro w hSw;(have z0:=HLC.out _ hSw.1;have z1:=HQC.out _ hSw.2;clear hSw);(go_simp <;> with_reducible rfl)⟩) (by assumption) ?_
  (try simp only [Act.put,List.setIfInBounds_toArray,List.set_cons_zero,List.set_cons_succ,List.getElem_toArray,List.getElem_cons_zero,List.getElem_cons_succ])
  refine wpAnyH_take (i:=11) rfl (by kernel_rfl) (by kernel_rfl) (by kernel_rfl) (fun _ _ _ h => h) (Or.inl ⟨by rfl,by intro w hSw;(have z0:=HLC.out _ hSw.1;have z1:=HQC.out _ hSw.2;clear hSw);(go_simp <;> with_reducible rfl)⟩) (by assumption) ?_
  (try simp only [Act.put,List.setIfInBounds_toArray,List.set_cons_zero,List.set_cons_succ,List.getElem_toArray,List.getElem_cons_zero,List.getElem_cons_succ])
  refine wpAnyH_take (i:=13) rfl (by kernel_rfl) (by kernel_rfl) (by kernel_rfl) (fun _ _ _ h => h) (Or.inl ⟨by rfl,by intro w hSw;(have z0:=HLC.out _ hSw.1;have z1:=HQC.out _ hSw.2;clear hSw);(go_simp <;> with_reducible rfl)⟩) (by assumption) ?_
  (try simp only [Act.put,List.setIfInBounds_toArray,List.set_cons_zero,List.set_cons_succ,List.getElem_toArray,List.getElem_cons_zero,List.getElem_cons_succ])
  refine wpAnyH_take (i:=14) rfl (by kernel_rfl) (by kernel_rfl) (by kernel_rfl) (fun _ _ _ h => h) (Or.inl ⟨by rfl,by intro w hSw;(have z0:=HLC.out _ hSw.1;have z1:=HQC.out _ hSw.2;clear hSw);(go_simp <;> with_reducible rfl)⟩) (by assumption) ?_
  (try simp only [Act.put,List.setIfInBounds_toArray,List.set_cons_zero,List.set_cons_succ,List.getElem_toArray,List.getElem_cons_zero,List.getElem_cons_succ])
  refine wpAnyH_take (i:=15) rfl (by kernel_rfl) (by kernel_rfl) (by kernel_rfl) (fun _ _ _ h => h) (Or.inl ⟨by rfl,by intro w hSw;(have z0:=HLC.out _ hSw.1;have z1:=HQC.out _ hSw.2;clear hSw);(go_simp <;> with_reducible rfl)⟩) (by assumption) ?_
  (try simp only [Act.put,List.setIfInBounds_toArray,List.set_cons_zero,List.set_cons_succ,List.getElem_toArray,List.getElem_cons_zero,List.getElem_cons_succ])
  refine wpAnyH_take (i:=16) rfl (by kernel_rfl) (by kernel_rfl) (by kernel_rfl) (fun _ _ _ h => h) (Or.inl ⟨by rfl,by intro w hSw;(have z0:=HLC.out _ hSw.1;have z1:=HQC.out _ hSw.2;clear hSw);(go_simp <;> with_reducible rfl)⟩) (by assumption) ?_
  (try simp only [Act.put,List.setIfInBounds_toArray,List.set_cons_zero,List.set_cons_succ,List.getElem_toArray,List.getElem_cons_zero,List.getElem_cons_succ])
  refine wpAnyH_take (i:=17) rfl (by kernel_rfl) (by kernel_rfl) (by kernel_rfl) (fun _ _ _ h => h) (Or.inl ⟨by rfl,by intro w hSw;(have z0:=HLC.out _ hSw.1;have z1:=HQC.out _ hSw.2;clear hSw);(go_simp <;> with_reducible rfl)⟩) (by assumption) ?_
  (try simp only [Act.put,List.setIfInBounds_toArray,List.set_cons_zero,List.set_cons_succ,List.getElem_toArray,List.getElem_cons_zero,List.getElem_cons_succ])
  refine wpAnyH_take (i:=18) rfl (by kernel_rfl) (by kernel_rfl) (by kernel_rfl) (fun _ _ _ h => h) (Or.inl ⟨by rfl,by intro w hSw;(have z0:=HLC.out _ hSw.1;have z1:=HQC.out _ hSw.2;clear hSw);(go_simp <;> with_reducible rfl)⟩) (by assumption) ?_
  (try simp only [Act.put,List.setIfInBounds_toArray,List.set_cons_zero,List.set_cons_succ,List.getElem_toArray,List.getElem_cons_zero,List.getElem_cons_succ])
  refine wpAnyH_ready (rs:=[12]) (by kernel_rfl) (by simp) (AllReadyH.cons rfl (fun K hK => ?_) AllReadyH.nil)
  go_simp
  refine HST.out.mono ?_
  rintro e w15 ⟨dn,cd,cnt,mk,rg,dd,Ad,nd,cpd,rfl,rfl,ho5,hC5⟩
  have HO5:=Lib.hid ho5;have HC5:=Lib.hid hC5
  clear ho5 hC5
  refine hK.out _ _ ((by exact ⟨HO5.out.at_ (show wr.drew.heap[lb]? = _ from And.left hHeld) (fun h => h.1 (.inl rfl)),HO5.out.at_ (show wr.drew.heap[qb]? = _ from And.right hHeld) (fun h => h.1 (.inr rfl))⟩)) (fun hHeld => ?_)
  clear hK K
  (try simp only [Act.put,List.setIfInBounds_toArray,List.set_cons_zero,List.set_cons_succ,List.getElem_toArray,List.getElem_cons_zero,List.getElem_cons_succ])
  refine wpAnyH_ready (rs:=[19]) (by kernel_rfl) (by simp) (AllReadyH.cons rfl (fun K hK => ?_) AllReadyH.nil)
  go_simp
  refine HC5.out.mono ?_
  rintro e w16 ⟨Ae,cpe,rfl,hrA,hrE,hdl6,hrx6,ho6⟩
  have HO6:=Lib.hid ho6;have HRX6:=Lib.hid hrx6;have HRA6:=Lib.hid hrA;have HRE6:=Lib.hid hrE;have HDL6:=Lib.hid hdl6
  clear ho6 hrx6 hrA hrE hdl6
  refine hK.out _ _ ((by exact ⟨HO6.out.at_ (show wr.drew.heap[lb]? = _ from HLBB.out) (fun h => h.1 (.inl rfl)),HO6.out.at_ (show wr.drew.heap[qb]? = _ from HQBB.out) (fun h => h.1 (.inr rfl))⟩)) (fun hHeld => ?_)
  clear hK K
  (try simp only [Act.put,List.setIfInBounds_toArray,List.set_cons_zero,List.set_cons_succ,List.getElem_toArray,List.getElem_cons_zero,List.getElem_cons_succ])
  refine wpAnyH_ready (rs:=[20]) (by kernel_rfl) (by simp) (AllReadyH.cons rfl (fun K hK => ?_) AllReadyH.nil)
  go_simp
  refine (sameDid_eq dn cd false cnt mk rg false 0 dd Ad Ae cpd cpe w16 HRA6.out HRE6.out HDL6.out).mono ?_
  rintro e w17 ⟨rfl,hb17⟩
  have HB17:=Lib.hid hb17
  have HRX7:=Lib.hid (HRX6.out.later hb17)
  clear hb17
  refine hK.out _ _ ((by exact ⟨(HB17.out.block lb (Array.getElem?_eq_some_iff.1 (And.left hHeld)).1).trans (And.left hHeld),(HB17.out.block qb (Array.getElem?_eq_some_iff.1 (And.right hHeld)).1).trans (And.right hHeld)⟩)) (fun hHeld => ?_)
  clear hK K
  (try simp only [Act.put,List.setIfInBounds_toArray,List.set_cons_zero,List.set_cons_succ,List.getElem_toArray,List.getElem_cons_zero,List.getElem_cons_succ])
  obtain ⟨ow,ho0,ho8⟩:=HNUM.out _ HRX7.out
  refine wpAnyH_more (S':=(fun W' => (W'.heap[lb]? = some (.cells #[.pointer (some ⟨sq,0,none⟩),.pointer (some ⟨rq,0,none⟩),.pointer (some ⟨q1,0,none⟩),.pointer (some ⟨q2,0,none⟩)] 66 (0,0)) ∧ W'.heap[qb]? = some (.cells #[.pointer (some ⟨v5,0,none⟩),.pointer (some ⟨v6,0,none⟩),.pointer (some ⟨v7,0,none⟩),.pointer (some ⟨v8,0,none⟩)] 71 (0,0))) ∧ W'.cell? ⟨P,0,none⟩ = some (.int .u32 ow) ∧ W'.cell? ⟨Q,8,none⟩ = some (.int .u32 ow))) (fun _ h => h.1) _ ?_
  have hHeld:(fun W' => (W'.heap[lb]? = some (.cells #[.pointer (some ⟨sq,0,none⟩),.pointer (some ⟨rq,0,none⟩),.pointer (some ⟨q1,0,none⟩),.pointer (some ⟨q2,0,none⟩)] 66 (0,0)) ∧ W'.heap[qb]? = some (.cells #[.pointer (some ⟨v5,0,none⟩),.pointer (some ⟨v6,0,none⟩),.pointer (some ⟨v7,0,none⟩),.pointer (some ⟨v8,0,none⟩)] 71 (0,0))) ∧ W'.cell? ⟨P,0,none⟩ = some (.int .u32 ow) ∧ W'.cell? ⟨Q,8,none⟩ = some (.int .u32 ow)) w17:=⟨hHeld,ho0,ho8⟩
  have HO0:=Lib.hid ho0
  clear ho0 ho8
  refine wpAnyH_take (i:=21) rfl (by kernel_rfl) (by kernel_rfl) (by kernel_rfl) (fun _ _ _ h => h) (Or.inl ⟨by rfl,by intro w hSw;(have z0:=HLC.out _ hSw.1.1;have z1:=HQC.out _ hSw.1.2;have z2:=hSw.2.1;have z3:=hSw.2.2;clear hSw);(go_simp <;> with_reducible rfl)⟩) (by assumption) ?_
  (try simp only [Act.put,List.setIfInBounds_toArray,List.set_cons_zero,List.set_cons_succ,List.getElem_toArray,List.getElem_cons_zero,List.getElem_cons_succ])
  refine wpAnyH_take (i:=22) rfl (by kernel_rfl) (by kernel_rfl) (by kernel_rfl) (fun _ _ _ h => h) (Or.inl ⟨by rfl,by intro w hSw;(have z0:=HLC.out _ hSw.1.1;have z1:=HQC.out _ hSw.1.2;have z2:=hSw.2.1;have z3:=hSw.2.2;clear hSw);(go_simp <;> with_reducible rfl)⟩) (by assumption) ?_
  (try simp only [Act.put,List.setIfInBounds_toArray,List.set_cons_zero,List.set_cons_succ,List.getElem_toArray,List.getElem_cons_zero,List.getElem_cons_succ])
  refine wpAnyH_take (i:=23) rfl (by kernel_rfl) (by kernel_rfl) (by kernel_rfl) (fun _ _ _ h => h) (Or.inl ⟨by rfl,by intro w hSw;(have z0:=HLC.out _ hSw.1.1;have z1:=HQC.out _ hSw.1.2;have z2:=hSw.2.1;have z3:=hSw.2.2;clear hSw);(go_simp <;> with_reducible rfl)⟩) (by assumption) ?_
  (try simp only [Act.put,List.setIfInBounds_toArray,List.set_cons_zero,List.set_cons_succ,List.getElem_toArray,List.getElem_cons_zero,List.getElem_cons_succ])
  refine wpAnyH_take (i:=24) rfl (by kernel_rfl) (by kernel_rfl) (by kernel_rfl) (fun _ _ _ h => h) (Or.inl ⟨by rfl,by intro w hSw;(have z0:=HLC.out _ hSw.1.1;have z1:=HQC.out _ hSw.1.2;have z2:=hSw.2.1;have z3:=hSw.2.2;clear hSw);(go_simp <;> with_reducible rfl)⟩) (by assumption) ?_
  (try simp only [Act.put,List.setIfInBounds_toArray,List.set_cons_zero,List.set_cons_succ,List.getElem_toArray,List.getElem_cons_zero,List.getElem_cons_succ])
  refine wpAnyH_take (i:=25) rfl (by kernel_rfl) (by kernel_rfl) (by kernel_rfl) (fun _ _ _ h => h) (Or.inl ⟨by rfl,by intro w hSw;(have z0:=HLC.out _ hSw.1.1;have z1:=HQC.out _ hSw.1.2;have z2:=hSw.2.1;have z3:=hSw.2.2;clear hSw);(go_simp <;> with_reducible rfl)⟩) (by assumption) ?_
  (try simp only [Act.put,List.setIfInBounds_toArray,List.set_cons_zero,List.set_cons_succ,List.getElem_toArray,List.getElem_cons_zero,List.getElem_cons_succ])
  refine wpAnyH_take (i:=26) rfl (by kernel_rfl) (by kernel_rfl) (by kernel_rfl) (fun _ _ _ h => h) (Or.inl ⟨by rfl,by intro w hSw;(have z0:=HLC.out _ hSw.1.1;have z1:=HQC.out _ hSw.1.2;have z2:=hSw.2.1;have z3:=hSw.2.2;clear hSw);(go_simp <;> with_reducible rfl)⟩) (by assumption) ?_
  (try simp only [Act.put,List.setIfInBounds_toArray,List.set_cons_zero,List.set_cons_succ,List.getElem_toArray,List.getElem_cons_zero,List.getElem_cons_succ])
  refine wpAnyH_take (i:=27) rfl (by kernel_rfl) (by kernel_rfl) (by kernel_rfl) (fun _ _ _ h => h) (Or.inl ⟨by rfl,by intro w hSw;(have z0:=HLC.out _ hSw.1.1;have z1:=HQC.out _ hSw.1.2;have z2:=hSw.2.1;have z3:=hSw.2.2;clear hSw);(go_simp <;> with_reducible rfl)⟩) (by assumption) ?_
  (try simp only [Act.put,List.setIfInBounds_toArray,List.set_cons_zero,List.set_cons_succ,List.getElem_toArray,List.getElem_cons_zero,List.getElem_cons_succ])
  refine wpAnyH_take (i:=29) rfl (by kernel_rfl) (by kernel_rfl) (by kernel_rfl) (fun _ _ _ h => h) (Or.inl ⟨by rfl,by intro w hSw;(have z0:=HLC.out _ hSw.1.1;have z1:=HQC.out _ hSw.1.2;have z2:=hSw.2.1;have z3:=hSw.2.2;clear hSw);(go_simp <;> with_reducible rfl)⟩) (by assumption) ?_
  (try simp only [Act.put,List.setIfInBounds_toArray,List.set_cons_zero,List.set_cons_succ,List.getElem_toArray,List.getElem_cons_zero,List.getElem_cons_succ])
  refine wpAnyH_take (i:=30) rfl (by kernel_rfl) (by kernel_rfl) (by kernel_rfl) (fun _ _ _ h => h) (Or.inl ⟨by rfl,by intro w hSw;(have z0:=HLC.out _ hSw.1.1;have z1:=HQC.out _ hSw.1.2;have z2:=hSw.2.1;have z3:=hSw.2.2;clear hSw);(go_simp <;> with_reducible rfl)⟩) (by assumption) ?_
  (try simp only [Act.put,List.setIfInBounds_toArray,List.set_cons_zero,List.set_cons_succ,List.getElem_toArray,List.getElem_cons_zero,List.getElem_cons_succ])
  refine wpAnyH_take (i:=31) rfl (by kernel_rfl) (by kernel_rfl) (by kernel_rfl) (fun _ _ _ h => h) (Or.inl ⟨by rfl,by intro w hSw;(have z0:=HLC.out _ hSw.1.1;have z1:=HQC.out _ hSw.1.2;have z2:=hSw.2.1;have z3:=hSw.2.2;clear hSw);(go_simp <;> with_reducible rfl)⟩) (by assumption) ?_
  (try simp only [Act.put,List.setIfInBounds_toArray,List.set_cons_zero,List.set_cons_succ,List.getElem_toArray,List.getElem_cons_zero,List.getElem_cons_succ])
  refine wpAnyH_take (i:=32) rfl (by kernel_rfl) (by kernel_rfl) (by kernel_rfl) (fun _ _ _ h => h) (Or.inl ⟨by rfl,by intro w hSw;(have z0:=HLC.out _ hSw.1.1;have z1:=HQC.out _ hSw.1.2;have z2:=hSw.2.1;have z3:=hSw.2.2;clear hSw);(go_simp <;> with_reducible rfl)⟩) (by assumption) ?_
  (try simp only [Act.put,List.setIfInBounds_toArray,List.set_cons_zero,List.set_cons_succ,List.getElem_toArray,List.getElem_cons_zero,List.getElem_cons_succ])
  refine wpAnyH_take (i:=33) rfl (by kernel_rfl) (by kernel_rfl) (by kernel_rfl) (fun _ _ _ h => h) (Or.inl ⟨by rfl,by intro w hSw;(have z0:=HLC.out _ hSw.1.1;have z1:=HQC.out _ hSw.1.2;have z2:=hSw.2.1;have z3:=hSw.2.2;clear hSw);(go_simp <;> with_reducible rfl)⟩) (by assumption) ?_
  (try simp only [Act.put,List.setIfInBounds_toArray,List.set_cons_zero,List.set_cons_succ,List.getElem_toArray,List.getElem_cons_zero,List.getElem_cons_succ])
  refine wpAnyH_take (i:=34) rfl (by kernel_rfl) (by kernel_rfl) (by kernel_rfl) (fun _ _ _ h => h) (Or.inl ⟨by rfl,by intro w hSw;(have z0:=HLC.out _ hSw.1.1;have z1:=HQC.out _ hSw.1.2;have z2:=hSw.2.1;have z3:=hSw.2.2;clear hSw);(go_simp <;> with_reducible rfl)⟩) (by assumption) ?_
  (try simp only [Act.put,List.setIfInBounds_toArray,List.set_cons_zero,List.set_cons_succ,List.getElem_toArray,List.getElem_cons_zero,List.getElem_cons_succ])
  refine wpAnyH_take (i:=35) rfl (by kernel_rfl) (by kernel_rfl) (by kernel_rfl) (fun _ _ _ h => h) (Or.inl ⟨by rfl,by intro w hSw;(have z0:=HLC.out _ hSw.1.1;have z1:=HQC.out _ hSw.1.2;have z2:=hSw.2.1;have z3:=hSw.2.2;clear hSw);(go_simp <;> with_reducible rfl)⟩) (by assumption) ?_
  (try simp only [Act.put,List.setIfInBounds_toArray,List.set_cons_zero,List.set_cons_succ,List.getElem_toArray,List.getElem_cons_zero,List.getElem_cons_succ])
  refine wpAnyH_ready (rs:=[28]) (by kernel_rfl) (by simp) (AllReadyH.cons rfl (fun K hK => ?_) AllReadyH.nil)
  go_simp
  refine (opown_b P ow _ HO0.out).mono ?_
  rintro e w18 ⟨rfl,rfl⟩
  refine hK.out _ _ ((by exact hHeld)) (fun hHeld => ?_)
  clear hK K
  (try simp only [Act.put,List.setIfInBounds_toArray,List.set_cons_zero,List.set_cons_succ,List.getElem_toArray,List.getElem_cons_zero,List.getElem_cons_succ])
  refine wpAnyH_take (i:=36) rfl (by kernel_rfl) (by kernel_rfl) (by kernel_rfl) (fun _ _ _ h => h) (Or.inl ⟨by rfl,by intro w hSw;(have z0:=HLC.out _ hSw.1.1;have z1:=HQC.out _ hSw.1.2;have z2:=hSw.2.1;have z3:=hSw.2.2;clear hSw);(go_simp <;> with_reducible rfl)⟩) (by assumption) ?_
  (try simp only [Act.put,List.setIfInBounds_toArray,List.set_cons_zero,List.set_cons_succ,List.getElem_toArray,List.getElem_cons_zero,List.getElem_cons_succ])
  refine wpAnyH_take (i:=37) rfl (by kernel_rfl) (by kernel_rfl) (by kernel_rfl) (fun _ _ _ h => h) (Or.inl ⟨by rfl,by intro w hSw;(have z0:=HLC.out _ hSw.1.1;have z1:=HQC.out _ hSw.1.2;have z2:=hSw.2.1;have z3:=hSw.2.2;clear hSw);(go_simp <;> with_reducible rfl)⟩) (by assumption) ?_
  (try simp only [Act.put,List.setIfInBounds_toArray,List.set_cons_zero,List.set_cons_succ,List.getElem_toArray,List.getElem_cons_zero,List.getElem_cons_succ])
  refine wpAnyH_take (i:=38) rfl (by kernel_rfl) (by kernel_rfl) (by kernel_rfl) (fun _ _ _ h => h) (Or.inl ⟨by rfl,by intro w hSw;(have z0:=HLC.out _ hSw.1.1;have z1:=HQC.out _ hSw.1.2;have z2:=hSw.2.1;have z3:=hSw.2.2;clear hSw);(go_simp <;> with_reducible rfl)⟩) (by assumption) ?_
  (try simp only [Act.put,List.setIfInBounds_toArray,List.set_cons_zero,List.set_cons_succ,List.getElem_toArray,List.getElem_cons_zero,List.getElem_cons_succ])
  refine wpAnyH_take (i:=39) rfl (by kernel_rfl) (by kernel_rfl) (by kernel_rfl) (fun _ _ _ h => h) (Or.inl ⟨by rfl,by intro w hSw;(have z0:=HLC.out _ hSw.1.1;have z1:=HQC.out _ hSw.1.2;have z2:=hSw.2.1;have z3:=hSw.2.2;clear hSw);(go_simp <;> with_reducible rfl)⟩) (by assumption) ?_
  (try simp only [Act.put,List.setIfInBounds_toArray,List.set_cons_zero,List.set_cons_succ,List.getElem_toArray,List.getElem_cons_zero,List.getElem_cons_succ])
  refine wpAnyH_take (i:=41) rfl (by kernel_rfl) (by kernel_rfl) (by kernel_rfl) (fun _ _ _ h => h) (Or.inl ⟨by rfl,by intro w hSw;(have z0:=HLC.out _ hSw.1.1;have z1:=HQC.out _ hSw.1.2;have z2:=hSw.2.1;have z3:=hSw.2.2;clear hSw);(go_simp <;> with_reducible rfl)⟩) (by assumption) ?_
  (try simp only [Act.put,List.setIfInBounds_toArray,List.set_cons_zero,List.set_cons_succ,List.getElem_toArray,List.getElem_cons_zero,List.getElem_cons_succ])
  obtain ⟨ws7,bs7,hm7,hl7,hy7,hz7,e7,e8,h327,hmx7⟩:=HRX7.out.open
  have HM7:=Lib.hid hm7;have HY7:=Lib.hid hy7;have HE7:=Lib.hid e7
  clear hm7 hl7 hy7 hz7 e7 e8 h327
  refine wpAnyH_ready (rs:=[40]) (by kernel_rfl) (by simp) (AllReadyH.cons rfl (fun K hK => ?_) AllReadyH.nil)
  go_simp
  refine (memWords_b mb rb ws7 w17 HM7.out (by rw [HE7.out];exact hmx7)).mono ?_
  rintro e w19 ⟨gq,rfl,hgq,hwg,hb19⟩
  rw [HE7.out]
  have HB19:=Lib.hid hb19;have HWG:=Lib.hid hwg
  clear hgq hwg hb19
  refine hK.out _ _ ((by exact ⟨⟨(HB19.out.block lb (Array.getElem?_eq_some_iff.1 (hHeld.1.1)).1).trans (hHeld.1.1),(HB19.out.block qb (Array.getElem?_eq_some_iff.1 (hHeld.1.2)).1).trans (hHeld.1.2)⟩,cell_of_blk hHeld.2.1 (HB19.out.block P (World.block_lt_of_cell? _ _ hHeld.2.1)),cell_of_blk hHeld.2.2 (HB19.out.block Q (World.block_lt_of_cell? _ _ hHeld.2.2))⟩)) (fun hHeld => ?_)
  clear hK K
  (try simp only [Act.put,List.setIfInBounds_toArray,List.set_cons_zero,List.set_cons_succ,List.getElem_toArray,List.getElem_cons_zero,List.getElem_cons_succ])
  refine wpAnyH_ready (rs:=[42]) (by kernel_rfl) (by simp) (AllReadyH.cons rfl (fun K hK => ?_) AllReadyH.nil)
  go_simp
  have hsm:=same32_b ws7 (some ⟨gq,0,none⟩) (some ⟨yb,0,none⟩) i i w19 (words_row HWG.out) (words_row (HY7.out.below HB19.out)) (by rw [HE7.out];exact hmx7)
  rw [HE7.out] at hsm
  refine hsm.mono ?_
  rintro e w20 ⟨rfl,hb20⟩
  have HB20:=Lib.hid hb20
  have HRX8:=Lib.hid ((HRX7.out.later HB19.out).later hb20)
  clear hb20 hsm
  refine hK.out _ _ ((by exact ⟨⟨(HB20.out.block lb (Array.getElem?_eq_some_iff.1 (hHeld.1.1)).1).trans (hHeld.1.1),(HB20.out.block qb (Array.getElem?_eq_some_iff.1 (hHeld.1.2)).1).trans (hHeld.1.2)⟩,cell_of_blk hHeld.2.1 (HB20.out.block P (World.block_lt_of_cell? _ _ hHeld.2.1)),cell_of_blk hHeld.2.2 (HB20.out.block Q (World.block_lt_of_cell? _ _ hHeld.2.2))⟩)) (fun hHeld => ?_)
  clear hK K
  (try simp only [Act.put,List.setIfInBounds_toArray,List.set_cons_zero,List.set_cons_succ,List.getElem_toArray,List.getElem_cons_zero,List.getElem_cons_succ])
  refine wpAnyH_take (i:=43) rfl (by kernel_rfl) (by kernel_rfl) (by kernel_rfl) (fun _ _ _ h => h) (Or.inl ⟨by rfl,by intro w hSw;(have z0:=HLC.out _ hSw.1.1;have z1:=HQC.out _ hSw.1.2;have z2:=hSw.2.1;have z3:=hSw.2.2;clear hSw);(go_simp <;> with_reducible rfl)⟩) (by assumption) ?_
  (try simp only [Act.put,List.setIfInBounds_toArray,List.set_cons_zero,List.set_cons_succ,List.getElem_toArray,List.getElem_cons_zero,List.getElem_cons_succ])
  refine wpAnyH_take (i:=44) rfl (by kernel_rfl) (by kernel_rfl) (by kernel_rfl) (fun _ _ _ h => h) (Or.inl ⟨by rfl,by intro w hSw;(have z0:=HLC.out _ hSw.1.1;have z1:=HQC.out _ hSw.1.2;have z2:=hSw.2.1;have z3:=hSw.2.2;clear hSw);(go_simp <;> with_reducible rfl)⟩) (by assumption) ?_
  (try simp only [Act.put,List.setIfInBounds_toArray,List.set_cons_zero,List.set_cons_succ,List.getElem_toArray,List.getElem_cons_zero,List.getElem_cons_succ])
  refine wpAnyH_done (by kernel_rfl) ?_ _
  have HLB8:=Lib.hid hHeld.1.1;have HQB8:=Lib.hid hHeld.1.2
  clear hHeld
  have hnb16:=HNB16.out
  go_wp2
  go_loopw [213] (fun ix wv => ∃ q:Nat,q ≤ nb ∧ ix = .int .i64 q ∧ Below w20.heap.size w20 wv) (fun ix _ => nb - (intOf ix).toNat)
  case atStart => exact ⟨0,Nat.zero_le _,rfl,Below.refl _ _⟩
  obtain ⟨q,hq,rfl,hbq⟩:=hrel
  have HBQ:=Lib.hid hbq
  clear hbq
  by_cases hql:q < nb
  case neg =>
    have sq1:¬ ((q:Int) < (nb:Int)):=by omega
    clear hql hq
    go_wp2
    go_roundw
    case rel => exact ⟨a + 1,by omega,by go_num,HRX8.out.later HBQ.out,(HBQ.out.block lb (Array.getElem?_eq_some_iff.1 HLB8.out).1).trans HLB8.out,(HBQ.out.block qb (Array.getElem?_eq_some_iff.1 HQB8.out).1).trans HQB8.out⟩
    case measure => simp [intOf];omega
  have sq1:(q:Int) < (nb:Int):=by omega
  obtain ⟨ws9,bs9,hm9,hs9,hy9,hz9,e9,e9b,h329,hmx9⟩:=(HRX8.out.later HBQ.out).open
  have hk9:q < bs9.length:=by rw [e9b];exact hql
  have hHas:=Bel.has_in bb br bs9 q wr hs9 hk9
  have hzc:=hz9.cell hk9
  obtain ⟨bv,hbv⟩:∃ bv,bs9.getD q false = bv:=⟨_,rfl⟩
  rw [hbv] at hHas hzc
  have hbb:(bv != bv) = false:=by simp
  have HHAS:=Lib.hid hHas
  clear hm9 hs9 hy9 hz9 e9 e9b h329 hmx9 hk9 hHas hbv
  go_wp2_with fail
  refine HHAS.out.mono ?_
  rintro e w21 ⟨rfl,rfl⟩
  go_wp2
  go_roundw
  case rel => exact ⟨q + 1,by omega,by go_num,HBQ.out⟩
  case measure => simp [intOf];omega
end Go.Proofs.YtmhpcgcloojfbaaGreat
