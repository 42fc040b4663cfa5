/- Texts of the ring, joined, what is used of them. No condition but those in the statements. -/
import Derived.BigQuiet
import Derived.BigRegion
import Derived.Deep.RegionHeld3
import Derived.Deep.RegionLaw
import Derived.Deep.RegionLawGrows
import Derived.IntWalk
import Derived.Test.YtjfolhkblbakiaaGreatDoorQFew
import Derived.Test.YtjfolhkblbakiaaGreatDoorQRHolds
import Derived.Test.YtjfolhkblbakiaaGreatDoorQgB
namespace Go.Proofs.YtjfolhkblbakiaaGreatDoor
open Go.RowKit Go.Sort Go.ChangeShapes Go.WideShapes
set_option linter.unusedVariables false
set_option linter.unusedSimpArgs false
theorem holds_is (c:Cfg) (x:CfgAt) (k:Int) (b:Bool) (w:World) (hx:CfgIn w w.heap.size c x) (wx:CfgWf c) (lx:CfgFew c) (h:holdsB c k = b):Calls Tryz.prog 92 #[.agg (cfgCells c x),.int .i64 k] w fun e w' => e = .returned (.bool b) ∧ Below w.heap.size w w':=by subst h;exact rholds_b c x k w hx wx lx
theorem allB_len (c:Cfg) (n:Nat):(allB c n).length ≤ n:=by
  unfold allB
  refine Nat.le_trans (List.length_filter_le _ _) ?_
  simp
set_option maxRecDepth 100000 in
set_option maxHeartbeats 4000000 in
theorem rall_b (c:Cfg) (x:CfgAt) (w:World) (hx:CfgIn w w.heap.size c x) (wx:CfgWf c) (lx:CfgFew c):Calls Tryz.prog 68 #[.agg (cfgCells c x)] w (GivesNums w (allB c 17)):=by
  obtain ⟨W,HW,hB,-,bx⟩:=one_cbox w c x 29
  have hx:=hx.later hB
  have HB:=Lib.hid hB
  obtain ⟨i0,hi,hz0,hz1,hz2⟩:=info_parts Tryz.infoI
  simp only [cfgCells]
  clear hB
  go_enter Tryz.func68,Tryz.ntmps68
  go_wp2
  go_loopw [3,4] (fun v ix wr => ∃ (i:Nat) (k:Int),k = (i:Int) + 1 ∧ i ≤ 17 ∧ ix = .int .i64 k ∧ OwnsOff wr W.heap.size 3 1 v (allB c i).length (icells (allB c i)) ∧ Below W.heap.size W wr) (fun _ ix _ => (18 - intOf ix).toNat)
  case atStart => exact ⟨0,1,rfl,by omega,rfl,OwnsOff.nil _ _ _ _,(by rw [← HW.out];exact Below.refl _ _)⟩
  case round =>
    obtain ⟨i,k,hk,hi17,rfl,hown,hbc⟩:=hrel
    obtain ⟨c0,c1,c2,c3,c4,c5⟩:=bx _ hbc
    have hk1:1 ≤ k:=by omega
    have hk2:k ≤ 18:=by omega
    have hll:=allB_len c i
    have HN:=allB_next c i
    rw [← hk] at HN
    obtain ⟨ys,hys⟩:∃ ys,allB c i = ys:=⟨_,rfl⟩
    have HYS:=Lib.hid hys
    rw [hys] at hown hll HN
    have HK:=Lib.hid hk
    clear hys
    by_cases hlt:k ≤ 17
    · have hx1:=hx.later hbc
      clear hk
      cases hh:holdsB c k with
      | true =>
        have HH:=Lib.hid hh
        have HN:=Lib.hid (show allB c (i + 1) = ys ++ [k] by rw [HN,if_pos hh])
        clear hh
        go_wp2_with fail
        refine (holds_is c x k true _ hx1 wx lx HH.out).mono ?_
        rintro e w5 ⟨rfl,hb5⟩
        have hwc:=hbc.trans (hb5.mono hbc.size)
        have hown5:=hown.keptB hb5
        clear hown hb5 hbc hx1 c0 c1 c2 c3 c4 c5
        go_wp2_with (at_builtin;refine wpList_append_off _ rfl _ _ 30 rfl W.heap.size 3 i0 (.int .i64 0) 1 8 Tryz.underlying30 hi hz0 hz1 hz2 rfl (by decide) _ _ _ rfl (hown5.keptB ((Below.refl _ _).alloc (Nat.le_refl _) _)) ⟨w5.heap.size,0,none⟩ 1 1 [.int .i64 k] rfl rfl (news_new _ _ _) (by simp [Value.oneCell']) (by unfold maxLen;omega) (by omega) (by have:=hwc.size;simp;omega) ?_)
        intro v' w6 hown' hgrow _
        have hb6:=Lib.hid ((hwc.alloc hwc.size _).grown hgrow (by have:=hwc.size;simp;omega) (fun i e => (hown5.lt i e).1))
        have hown3:OwnsOff w6 W.heap.size 3 1 v' (ys ++ [k]).length (icells (ys ++ [k])):=by rw [List.length_append,icells_app];exact hown'
        have H3:=Lib.hid hown3
        clear hown' hgrow hown3 hown5
        go_wp2
        go_roundw
        case rel => exact ⟨i + 1,k + 1,by have:=HK.out;omega,by have:=HK.out;omega,rfl,by rw [HN.out];exact H3.out,hb6.out⟩
        case measure => simp [intOf];omega
      | false =>
        have HH:=Lib.hid hh
        have HN:=Lib.hid (show allB c (i + 1) = ys by rw [HN,hh];simp)
        clear hh
        go_wp2_with fail
        refine (holds_is c x k false _ hx1 wx lx HH.out).mono ?_
        rintro e w5 ⟨rfl,hb5⟩
        have hwc:=Lib.hid (hbc.trans (hb5.mono hbc.size))
        have H3:=Lib.hid (hown.keptB hb5)
        clear hown hb5 hbc hx1 c0 c1 c2 c3 c4 c5
        go_wp2
        go_roundw
        case rel => exact ⟨i + 1,k + 1,by have:=HK.out;omega,by have:=HK.out;omega,rfl,by rw [HN.out];exact H3.out,hwc.out⟩
        case measure => simp [intOf];omega
    · have HE:=Lib.hid (show allB c 17 = ys by rw [← HYS.out,show i = 17 by omega])
      have H3:=Lib.hid hown
      clear hk hown
      go_wp2
      go_ret
      exact ⟨_,rfl,by rw [HE.out];exact H3.out.mono HB.out.size,HB.out.trans (hbc.mono HB.out.size)⟩
/-- At most so many rows of each kind. -/
def cfgLe (n:Nat) (c:Cfg):Bool:=decide (c.parts.length ≤ n ∧ c.chans.length ≤ n ∧ c.win0.length ≤ n ∧ c.win1.length ≤ n)
theorem cfgLe_few {n:Nat} {c:Cfg} (h:cfgLe n c = true) (hn:n ≤ 1000000):CfgFew c:=by
  obtain ⟨a,b,d,e⟩:=of_decide_eq_true h
  exact ⟨by omega,by omega,by omega,by omega⟩
theorem great_plain (parts chans:List (List Int)) (len0:Int) (win0:List (List Int)) (len1:Int) (win1:List (List Int)) (pa:Option Addr) (pc:Nat) (ca:Option Addr) (cc:Nat) (aa:Option Addr) (ac:Nat) (ba:Option Addr) (bc:Nat) (w:World):Calls Tryz.prog 41 #[.agg #[.slice pa parts.length pc,.slice ca chans.length cc,.int .i64 len0,.slice aa win0.length ac,.int .i64 len1,.slice ba win1.length bc]] w fun e w' => e = .returned (.bool (!cfgLe 100 (⟨parts,chans,len0,win0,len1,win1⟩:Cfg))) ∧ Below w.heap.size w w':=by
  by_cases g0:parts.length ≤ 100
  · have f0:¬ ((100:Int) < (parts.length:Int)):=by omega
    have e0:(parts.length:Int) ≤ 100:=by omega
    by_cases g1:chans.length ≤ 100
    · have f1:¬ ((100:Int) < (chans.length:Int)):=by omega
      have e1:(chans.length:Int) ≤ 100:=by omega
      by_cases g2:win0.length ≤ 100
      · have f2:¬ ((100:Int) < (win0.length:Int)):=by omega
        have e2:(win0.length:Int) ≤ 100:=by omega
        by_cases g3:win1.length ≤ 100
        · have f3:¬ ((100:Int) < (win1.length:Int)):=by omega
          have e3:(win1.length:Int) ≤ 100:=by omega
          have HR:=Lib.hid (show cfgLe 100 (⟨parts,chans,len0,win0,len1,win1⟩:Cfg) = true from decide_eq_true ⟨g0,g1,g2,g3⟩)
          go_enter Tryz.func41,Tryz.ntmps41
          go_wp2
          go_ret
          exact ⟨by rw [HR.out];rfl,(Below.refl _ _).alloc (Nat.le_refl _) _⟩
        · have f3:((100:Int) < (win1.length:Int)):=by omega
          have e3:¬ ((win1.length:Int) ≤ 100):=by omega
          have HR:=Lib.hid (show cfgLe 100 (⟨parts,chans,len0,win0,len1,win1⟩:Cfg) = false from decide_eq_false (fun h => g3 h.2.2.2))
          go_enter Tryz.func41,Tryz.ntmps41
          go_wp2
          go_ret
          exact ⟨by rw [HR.out];rfl,(Below.refl _ _).alloc (Nat.le_refl _) _⟩
      · have f2:((100:Int) < (win0.length:Int)):=by omega
        have e2:¬ ((win0.length:Int) ≤ 100):=by omega
        have HR:=Lib.hid (show cfgLe 100 (⟨parts,chans,len0,win0,len1,win1⟩:Cfg) = false from decide_eq_false (fun h => g2 h.2.2.1))
        go_enter Tryz.func41,Tryz.ntmps41
        go_wp2
        go_ret
        exact ⟨by rw [HR.out];rfl,(Below.refl _ _).alloc (Nat.le_refl _) _⟩
    · have f1:((100:Int) < (chans.length:Int)):=by omega
      have e1:¬ ((chans.length:Int) ≤ 100):=by omega
      have HR:=Lib.hid (show cfgLe 100 (⟨parts,chans,len0,win0,len1,win1⟩:Cfg) = false from decide_eq_false (fun h => g1 h.2.1))
      go_enter Tryz.func41,Tryz.ntmps41
      go_wp2
      go_ret
      exact ⟨by rw [HR.out];rfl,(Below.refl _ _).alloc (Nat.le_refl _) _⟩
  · have f0:((100:Int) < (parts.length:Int)):=by omega
    have e0:¬ ((parts.length:Int) ≤ 100):=by omega
    have HR:=Lib.hid (show cfgLe 100 (⟨parts,chans,len0,win0,len1,win1⟩:Cfg) = false from decide_eq_false (fun h => g0 h.1))
    go_enter Tryz.func41,Tryz.ntmps41
    go_wp2
    go_ret
    exact ⟨by rw [HR.out];rfl,(Below.refl _ _).alloc (Nat.le_refl _) _⟩
theorem great_is (c:Cfg) (x:CfgAt) (b:Bool) (w:World) (h:(!cfgLe 100 c) = b):Calls Tryz.prog 41 #[.agg (cfgCells c x)] w fun e w' => e = .returned (.bool b) ∧ Below w.heap.size w w':=by
  subst h
  obtain ⟨parts,chans,len0,win0,len1,win1⟩:=c
  obtain ⟨pa,pc,ca,cc,aa,ac,ba,bc⟩:=x
  exact great_plain parts chans len0 win0 len1 win1 pa pc ca cc aa ac ba bc w
end Go.Proofs.YtjfolhkblbakiaaGreatDoor
namespace Go.Proofs.YtjfolhkblbakiaaGreatDoor
open Go.RowKit Go.Sort Go.ChangeShapes Go.WideShapes
set_option linter.unusedVariables false
set_option linter.unusedSimpArgs false
theorem racc_b (c:Cfg) (x:CfgAt) (q:Bool) (w:World) (hx:CfgIn w w.heap.size c x) (wx:CfgWf c) (lx:CfgFew c) (hq:acceptsB c = q):Calls Tryz.prog 42 #[.agg (cfgCells c x)] w fun e w' => e = .returned (.bool q) ∧ Below w.heap.size w w':=by
  obtain ⟨W,HW,hB,-,bx⟩:=one_cbox w c x 29
  have hx:=hx.later hB
  obtain ⟨c0,c1,c2,c3,c4,c5⟩:=bx _ (Below.refl _ _)
  have HB:=Lib.hid hB
  have hF:=rall_b c x W hx wx lx
  have hl:=allB_len c 17
  obtain ⟨ds,hds⟩:∃ ds,allB c 17 = ds:=⟨_,rfl⟩
  have hdq:((ds.length:Int) == 0) = q:=by
    rw [← hq,← hds]
    unfold acceptsB
    rw [Bool.eq_iff_iff]
    simp
  rw [hds] at hF hl
  simp only [cfgCells]
  clear hB hds hq
  go_enter Tryz.func42,Tryz.ntmps42
  go_wp2_with (rw [← HW.out])
  refine hF.mono ?_
  rintro e w5 ⟨v,rfl,hown,hb5⟩
  obtain ⟨A',c',rfl,_⟩:=hown.slice
  have HF:=Lib.hid (HB.out.trans (hb5.mono HB.out.size))
  clear hF hb5 hown
  go_wp2
  go_ret
  exact ⟨rfl,HF.out⟩
theorem rsrc_b (x0 x1 x2 x3 x4 x5 x6:Int) (w:World) (h0:x0 = 1 ∨ x0 = 2) (h1:1 ≤ x3) (h2:x3 ≤ 16) (h3:0 ≤ x4) (h4:x4 ≤ 8):Calls Tryz.prog 83 #[.agg #[.int .i64 x0,.int .i64 x1,.int .i64 x2,.int .i64 x3,.int .i64 x4,.int .i64 x5,.int .u32 x6]] w fun e w' => e = .returned (.int .i64 (srcN [x0,x1,x2,x3,x4,x5,x6])) ∧ Below w.heap.size w w':=by
  have h5:0 ≤ x4 * x3:=Int.mul_nonneg h3 (by omega)
  have h6:x4 * x3 ≤ 8 * 16:=Int.mul_le_mul h4 h2 (by omega) (by omega)
  have v0:=IntWalk.i64_in (x4 * x3) (by omega)
  have v1:=IntWalk.i64_in (1 + x4 + x4 * x3) (by omega)
  by_cases hk:x0 = 1
  · have HX:=Lib.hid (show srcN [x0,x1,x2,x3,x4,x5,x6] = 11 + 4 * x3 from if_pos hk)
    have hka:(x0 == 1) = true:=by simp [hk]
    clear hk h0
    go_enter Tryz.func83,Tryz.ntmps83
    go_wp2
    go_ret
    exact ⟨by rw [HX.out];rfl,(Below.refl _ _).alloc (Nat.le_refl _) _⟩
  · have HX:=Lib.hid (show srcN [x0,x1,x2,x3,x4,x5,x6] = 1 + x4 + x4 * x3 from if_neg hk)
    have hka:(x0 == 1) = false:=by simp [hk]
    clear hk h0
    go_enter Tryz.func83,Tryz.ntmps83
    go_wp2
    go_ret
    exact ⟨by rw [HX.out];rfl,(Below.refl _ _).alloc (Nat.le_refl _) _⟩
set_option maxRecDepth 100000 in
set_option maxHeartbeats 4000000 in
theorem rbefore_b (parts chans:List (List Int)) (len0:Int) (win0:List (List Int)) (len1:Int) (win1:List (List Int)) (pa:Option Addr) (pc:Nat) (ca:Option Addr) (cc:Nat) (aa:Option Addr) (ac:Nat) (ba:Option Addr) (bc:Nat) (k:Nat) (w:World) (hp:RowN [.i64,.i64] w w.heap.size pa parts) (hpw:wfR [.i64,.i64] parts) (hpl:parts.length ≤ 1000000) (hc:RowN [.i64,.i64,.i64,.i64,.i64,.i64,.u32] w w.heap.size ca chans) (hcw:wfR [.i64,.i64,.i64,.i64,.i64,.i64,.u32] chans) (hcl:chans.length ≤ 1000000) (h0:RowN [.i64,.i64,.i64] w w.heap.size aa win0) (h0w:wfR [.i64,.i64,.i64] win0) (h0l:win0.length ≤ 1000000) (h1:RowN [.i64,.i64,.i64] w w.heap.size ba win1) (h1w:wfR [.i64,.i64,.i64] win1) (h1l:win1.length ≤ 1000000) (ha:Accd (⟨parts,chans,len0,win0,len1,win1⟩:Cfg)) (hk:k ≤ chans.length):Calls Tryz.prog 54 #[.agg #[.slice pa parts.length pc,.slice ca chans.length cc,.int .i64 len0,.slice aa win0.length ac,.int .i64 len1,.slice ba win1.length bc],.int .i64 (k:Int)] w fun e w' => e = .returned (.int .i64 (beforeN (⟨parts,chans,len0,win0,len1,win1⟩:Cfg) k)) ∧ Below w.heap.size w w':=by
  obtain ⟨W,HW,hB,-,bx⟩:=one_cbox w ⟨parts,chans,len0,win0,len1,win1⟩ ⟨pa,pc,ca,cc,aa,ac,ba,bc⟩ 29
  have HB:=Lib.hid hB
  have hp:=hp.later hB;have hc:=hc.later hB;have h0:=h0.later hB;have h1:=h1.later hB
  clear hB
  have hP:=fun n (hn:n ≤ parts.length) => privUp_in ha n hn
  have hC:=fun n (hn:n ≤ chans.length) => chanUp_in ha n hn
  have hp6:parts.length ≤ 6:=ha.parts.2
  have hc8:chans.length ≤ 8:=ha.chans
  have HP:=Lib.hid hP;have HC:=Lib.hid hC;have HA:=Lib.hid ha
  clear hP hC ha
  go_enter Tryz.func54,Tryz.ntmps54
  go_wp2
  go_loopw [5,6] (fun nn ix wr => ∃ i:Nat,i ≤ parts.length ∧ ix = .int .i64 i ∧ nn = .int .i64 (privUp parts i) ∧ Below W.heap.size W wr) (fun _ ix _ => parts.length - (intOf ix).toNat)
  case atStart => exact ⟨0,Nat.zero_le _,rfl,rfl,(by rw [← HW.out];exact Below.refl _ _)⟩
  case round =>
    obtain ⟨i,hi,rfl,rfl,hbc⟩:=hrel
    obtain ⟨c0,c1,c2,c3,c4,c5⟩:=bx _ hbc
    by_cases hlt:i < parts.length
    · obtain ⟨b,o,y0,y1,e0,_,e1,⟨hw0,hw1⟩,k0⟩:=hp.at2 hpw hlt
      subst e0
      obtain ⟨p0,p1⟩:=k0 _ hbc
      have hs:=HP.out i (by omega)
      have hs1:=HP.out (i + 1) (by omega)
      have hnx:privUp parts (i + 1) = privUp parts i + y1:=by show privUp parts i + fld (row parts i) 1 = _;rw [row_at e1];rfl
      rw [hnx] at hs1
      have HN:=Lib.hid hnx
      obtain ⟨p,hpp⟩:∃ p,privUp parts i = p:=⟨_,rfl⟩
      rw [hpp] at hs
      rw [hpp] at hs1 HN
      simp only [hpp]
      have v0:=IntWalk.i64_in (p + y1) (by omega)
      clear hnx hpp e1 k0 hs hs1
      go_wp2
      go_roundw
      case rel => exact ⟨i + 1,by omega,by go_num,by rw [HN.out],hbc⟩
      case measure => simp [intOf];omega
    · have hii:i = parts.length:=by omega
      subst hii
      obtain ⟨z,hz⟩:∃ z,privUp parts parts.length = z:=⟨_,rfl⟩
      have hz1:=HP.out parts.length (Nat.le_refl _)
      rw [hz] at hz1
      have HZ:=Lib.hid hz
      simp only [hz]
      have hbd:=hbc
      clear hz
      go_wp2
      clear c0 c1 c2 c3 c4 c5 hbc
      go_loopw [5,7] (fun nn ix wv => ∃ j:Nat,j ≤ k ∧ ix = .int .i64 j ∧ nn = .int .i64 (z + chanUp chans j) ∧ Below W.heap.size W wv) (fun _ ix _ => k - (intOf ix).toNat)
      case atStart => exact ⟨0,Nat.zero_le _,rfl,by simp [chanUp],hbd⟩
      case round =>
        clear hbd
        obtain ⟨j,hj,rfl,rfl,hbc⟩:=hrel
        obtain ⟨c0,c1,c2,c3,c4,c5⟩:=bx _ hbc
        by_cases hlt:j < k
        · have hjl:j < chans.length:=by omega
          obtain ⟨b,o,x0,x1,x2,x3,x4,x5,x6,e0,_,e1,-,k0⟩:=hc.at7 hcw hjl
          subst e0
          have k0:=k0 _ hbc
          obtain ⟨p0,k0⟩:=k0
          obtain ⟨p1,k0⟩:=k0
          obtain ⟨p2,k0⟩:=k0
          obtain ⟨p3,k0⟩:=k0
          obtain ⟨p4,k0⟩:=k0
          obtain ⟨p5,p6⟩:=k0
          obtain ⟨a1,a2,a3,a4,a5,_⟩:=HA.out.chan j hjl
          rw [show ((⟨parts,chans,len0,win0,len1,win1⟩:Cfg):Cfg).chans = chans from rfl,row_at e1] at a1 a2 a3 a4 a5
          have hs:=HC.out j (by omega)
          have hs1:=HC.out (j + 1) (by omega)
          have hnx:chanUp chans (j + 1) = chanUp chans j + srcN [x0,x1,x2,x3,x4,x5,x6] + 1:=by show chanUp chans j + srcN (row chans j) + 1 = _;rw [row_at e1]
          have hsr:=srcN_in a1 a2 a3 a4 a5
          rw [hnx] at hs1
          have hcall:=rsrc_b x0 x1 x2 x3 x4 x5 x6 wr a1 a2 a3 a4 a5
          obtain ⟨s,hsq⟩:∃ s,srcN [x0,x1,x2,x3,x4,x5,x6] = s:=⟨_,rfl⟩
          rw [hsq] at hs1 hnx hsr hcall
          have HN:=Lib.hid hnx
          obtain ⟨p,hpp⟩:∃ p,chanUp chans j = p:=⟨_,rfl⟩
          rw [hpp] at hs hs1 HN
          simp only [hpp]
          have v0:=IntWalk.i64_in (z + p) (by omega)
          have v1:=IntWalk.i64_in (z + p + s) (by omega)
          have v2:=IntWalk.i64_in (z + p + s + 1) (by omega)
          have HCL:=Lib.hid hcall
          have HE:=Lib.hid (show z + p + s + 1 = z + chanUp chans (j + 1) by rw [HN.out];omega)
          clear hnx hpp e1 hs hs1 hsr hsq hcall a1 a2 a3 a4 a5
          go_wp2_with fail
          refine HCL.out.mono ?_
          rintro e w5 ⟨rfl,hb5⟩
          have HB5:=Lib.hid (hbc.trans (hb5.mono hbc.size))
          clear hbc hb5
          go_wp2
          go_roundw
          case rel => exact ⟨j + 1,by omega,by go_num,by rw [← HE.out],HB5.out⟩
          case measure => simp [intOf];omega
        · have hjj:j = k:=by omega
          subst hjj
          have HX:=Lib.hid (show beforeN (⟨parts,chans,len0,win0,len1,win1⟩:Cfg) j = z + chanUp chans j by rw [← HZ.out];rfl)
          obtain ⟨zz,hzz⟩:∃ zz,z + chanUp chans j = zz:=⟨_,rfl⟩
          rw [hzz] at HX
          simp only [hzz]
          clear hzz
          go_wp2
          go_ret
          exact ⟨by rw [HX.out];rfl,HB.out.trans (hbc.mono HB.out.size)⟩
/-- Is there such a channel of an accepted configuration? -/
def chanB (c:Cfg) (k:Int):Bool:=decide (0 ≤ k ∧ k < (c.chans.length:Int)) && acceptsB c
def sizeN (c:Cfg):Int:=if acceptsB c = true then beforeN c c.chans.length else 0
end Go.Proofs.YtjfolhkblbakiaaGreatDoor
namespace Go.Proofs.YtjfolhkblbakiaaGreatDoor
open Go.RowKit Go.Sort Go.ChangeShapes Go.WideShapes
set_option linter.unusedVariables false
set_option linter.unusedSimpArgs false
theorem rbefore_is (c:Cfg) (x:CfgAt) (k:Nat) (w:World) (hx:CfgIn w w.heap.size c x) (wx:CfgWf c) (lx:CfgFew c) (ha:Accd c) (hk:k ≤ c.chans.length):Calls Tryz.prog 54 #[.agg (cfgCells c x),.int .i64 (k:Int)] w fun e w' => e = .returned (.int .i64 (beforeN c k)) ∧ Below w.heap.size w w':=by
  obtain ⟨parts,chans,len0,win0,len1,win1⟩:=c
  obtain ⟨pa,pc,ca,cc,aa,ac,ba,bc⟩:=x
  exact rbefore_b parts chans len0 win0 len1 win1 pa pc ca cc aa ac ba bc k w hx.rp wx.wp lx.1 hx.rc wx.wc lx.2.1 hx.ra wx.wa lx.2.2.1 hx.rb wx.wb lx.2.2.2 ha hk
set_option maxRecDepth 100000 in
set_option maxHeartbeats 2000000 in
theorem rsize_b (c:Cfg) (x:CfgAt) (w:World) (hx:CfgIn w w.heap.size c x) (wx:CfgWf c) (lx:CfgFew c):Calls Tryz.prog 20 #[.agg (cfgCells c x)] w fun e w' => e = .returned (.int .i64 (sizeN c)) ∧ Below w.heap.size w w':=by
  obtain ⟨W,HW,hB,-,bx⟩:=one_cbox w c x 29
  have hx:=hx.later hB
  obtain ⟨c0,c1,c2,c3,c4,c5⟩:=bx _ (Below.refl _ _)
  have HB:=Lib.hid hB
  simp only [cfgCells]
  clear hB
  cases hq:acceptsB c with
  | true =>
    have HX:=Lib.hid (show sizeN c = beforeN c c.chans.length from if_pos hq)
    have HA:=Lib.hid (racc_b c x true W hx wx lx hq)
    have HAC:=Lib.hid (accd_of hq)
    clear hq
    go_enter Tryz.func20,Tryz.ntmps20
    go_wp2_with (rw [← HW.out])
    refine HA.out.mono ?_
    rintro e w5 ⟨rfl,hb5⟩
    have HC:=Lib.hid (rbefore_is c x c.chans.length w5 (hx.later hb5) wx lx HAC.out (Nat.le_refl _))
    have HF:=Lib.hid (HB.out.trans (hb5.mono HB.out.size))
    obtain ⟨d0,d1,d2,d3,d4,d5⟩:=bx _ hb5
    clear hb5 c0 c1 c2 c3 c4 c5
    go_wp2_with fail
    refine HC.out.mono ?_
    rintro e w6 ⟨rfl,hb6⟩
    have HF2:=Lib.hid (HF.out.trans (hb6.mono HF.out.size))
    clear hb6
    go_wp2
    go_ret
    exact ⟨by rw [HX.out];rfl,HF2.out⟩
  | false =>
    have HX:=Lib.hid (show sizeN c = 0 from if_neg (by rw [hq];decide))
    have HA:=Lib.hid (racc_b c x false W hx wx lx hq)
    clear hq
    go_enter Tryz.func20,Tryz.ntmps20
    go_wp2_with (rw [← HW.out])
    refine HA.out.mono ?_
    rintro e w5 ⟨rfl,hb5⟩
    have HF:=Lib.hid (HB.out.trans (hb5.mono HB.out.size))
    clear hb5
    go_wp2
    go_ret
    exact ⟨by rw [HX.out];rfl,HF.out⟩
end Go.Proofs.YtjfolhkblbakiaaGreatDoor
namespace Go.Proofs.YtjfolhkblbakiaaGreatDoor
open Go.RowKit Go.Sort Go.ChangeShapes Go.WideShapes
set_option linter.unusedVariables false
set_option linter.unusedSimpArgs false
theorem Tryz.infoS:(Tryz.prog.info? 135).map (fun i => (i.size)) = some 2:=by kernel_rfl
theorem results_cell_span {fn:Func} {p:Tmp} (h:fn.results = #[.cell p 135]) (tmps:Array Value) (w:World) (g:Nat) (a b:Int)
    (hp:tmps.getD p undef = .pointer (some ⟨g,0,none⟩)) (h0:w.cell? ⟨g,0,none⟩ = some (.int .i64 a)) (h1:w.cell? ⟨g,1,none⟩ = some (.int .i64 b)):(results fn tmps).run Tryz.prog w = .ok (.agg #[.int .i64 a,.int .i64 b]) w:=by
  have hp':tmps[p]?.getD undef = .pointer (some ⟨g,0,none⟩):=by simpa using hp
  obtain ⟨i,hi,hs⟩:∃ i,Tryz.prog.info? 135 = some i ∧ i.size = 2:=by
    have h:=Tryz.infoS
    cases hh:Tryz.prog.info? 135 with
    | none => rw [hh] at h;cases h
    | some i => rw [hh] at h;exact ⟨i,rfl,by simpa using h⟩
  simp [results,h,hp',asAddr,loadVar,isAgg,run_underlying Tryz.underlying135,sizeOf,typeInfo,hi,hs]
  go_simp
/-- A channel's source span and destination span,From and Size;noughts,if there is none. -/
def srcSpan (c:Cfg) (k:Int):Int × Int:=if chanB c k = true then (beforeN c k.toNat,srcN (row c.chans k.toNat)) else (0,0)
def dstSpan (c:Cfg) (k:Int):Int × Int:=if chanB c k = true then (beforeN c k.toNat + srcN (row c.chans k.toNat),1) else (0,0)
end Go.Proofs.YtjfolhkblbakiaaGreatDoor
namespace Go.Proofs.YtjfolhkblbakiaaGreatDoor
open Go.RowKit Go.Sort Go.ChangeShapes Go.WideShapes
set_option linter.unusedVariables false
set_option linter.unusedSimpArgs false
/-- A cell,From and Size;noughts,if there is none. -/
def cellSpan (c:Cfg) (k i:Int):Int × Int:=if chanB c k = true ∧ (fld (row c.chans k.toNat) 0 = 2 ∧ 0 ≤ i ∧ i < fld (row c.chans k.toNat) 4) then (beforeN c k.toNat + 1 + i * (fld (row c.chans k.toNat) 3 + 1),fld (row c.chans k.toNat) 3 + 1) else (0,0)
end Go.Proofs.YtjfolhkblbakiaaGreatDoor
namespace Go.Proofs.YtjfolhkblbakiaaGreatDoor
open Go.RowKit Go.Sort Go.ChangeShapes Go.WideShapes
set_option linter.unusedVariables false
set_option linter.unusedSimpArgs false
/-- A buffer,From and Size;noughts,if there is none. -/
def bufSpan (c:Cfg) (k pr ix:Int):Int × Int:=if chanB c k = true ∧ (fld (row c.chans k.toNat) 0 = 1 ∧ 0 ≤ pr ∧ pr ≤ 1 ∧ 0 ≤ ix ∧ ix ≤ 1) then (beforeN c k.toNat + 3 + pr * 2 * (fld (row c.chans k.toNat) 3 + 2) + ix * (fld (row c.chans k.toNat) 3 + 2),fld (row c.chans k.toNat) 3 + 2) else (0,0)
end Go.Proofs.YtjfolhkblbakiaaGreatDoor
namespace Go.Proofs.YtjfolhkblbakiaaGreatDoor
open Go.RowKit Go.Sort Go.ChangeShapes Go.WideShapes
set_option linter.unusedVariables false
set_option linter.unusedSimpArgs false
/-- A partition's private span,From and Size;noughts,if there is none. -/
def privSpan (c:Cfg) (p:Int):Int × Int:=if acceptsB c = true ∧ 0 ≤ p ∧ p < (c.parts.length:Int) then (privUp c.parts p.toNat,fld (row c.parts p.toNat) 1) else (0,0)
set_option maxRecDepth 100000 in
set_option maxHeartbeats 4000000 in
theorem rprivate_b (c:Cfg) (x:CfgAt) (p:Int) (w:World) (hx:CfgIn w w.heap.size c x) (wx:CfgWf c) (lx:CfgFew c):Calls Tryz.prog 113 #[.agg (cfgCells c x),.int .i64 p] w fun e w' => e = .returned (.agg #[.int .i64 (privSpan c p).1,.int .i64 (privSpan c p).2]) ∧ Below w.heap.size w w':=by
  obtain ⟨Wc,HWc,hBc,hWs,bx⟩:=one_cbox w c x 29
  obtain ⟨pa,pc,ca,cc,aa,ac,ba,bc⟩:=x
  obtain ⟨W,HW⟩:∃ u,Hid (u = Wc.alloc (.cells #[.int .i64 0,.int .i64 0] 135)):=⟨_,rfl⟩
  obtain ⟨r,hr⟩:∃ r,r = Wc.heap.size:=⟨_,rfl⟩
  have hrr:Wc.heap.size ≤ r:=by omega
  have hR:W.heap[r]? = some (.cells #[.int .i64 0,.int .i64 0] 135 (0,0)):=by rw [HW.out,hr];exact heap_alloc_new _ _
  have hBW:Below Wc.heap.size Wc W:=by rw [HW.out];exact (Below.refl _ _).alloc (Nat.le_refl _) _
  have hxW:=hx.later (hBc.trans (hBW.mono hBc.size))
  obtain ⟨c0,c1,c2,c3,c4,c5⟩:=bx _ hBW
  have HB:=Lib.hid hBc;have HR0:=Lib.hid hR;have HBW:=Lib.hid hBW;have HXW:=Lib.hid hxW;have HXC:=Lib.hid (hx.later hBc);have HRR:=Lib.hid hr
  simp only [cfgCells] at HWc ⊢
  clear hBc hR hBW hxW hx hr hWs
  cases hq:acceptsB c with
  | false =>
    have HX:=Lib.hid (show privSpan c p = (0,0) from if_neg (fun h => by rw [hq] at h;cases h.1))
    have HC:=Lib.hid (racc_b c ⟨pa,pc,ca,cc,aa,ac,ba,bc⟩ false W HXW.out wx lx hq)
    clear hq
    go_enter Tryz.func113,Tryz.ntmps113
    go_wp2_with (first | (rw [← HWc.out]) | (rw [← HW.out]))
    refine HC.out.mono ?_
    rintro e w5 ⟨rfl,hb5⟩
    have hR5:=(hb5.block r (Array.getElem?_eq_some_iff.1 HR0.out).1).trans HR0.out
    have z0:=cell_blk hR5 (i:=0) rfl
    have z1:=cell_blk hR5 (i:=1) rfl
    have f0:w5.frozen? ⟨r,0,none⟩ = false:=by simp [World.frozen?,hR5]
    have f1:w5.frozen? ⟨r,1,none⟩ = false:=by simp [World.frozen?,hR5]
    have HR5:=Lib.hid hR5
    have HF:=Lib.hid (HB.out.trans ((HBW.out.trans (hb5.mono HBW.out.size)).mono HB.out.size))
    obtain ⟨g0,g1,g2,g3,g4,g5⟩:=bx _ (HBW.out.trans (hb5.mono HBW.out.size))
    clear hb5 hR5 c0 c1 c2 c3 c4 c5
    simp only [← HRR.out]
    go_wp2
    have hRz:((w5.setCell ⟨r,0,none⟩ (.int .i64 0)).setCell ⟨r,1,none⟩ (.int .i64 0)).heap[r]? = some (.cells #[.int .i64 0,.int .i64 0] 135 (0,0)):=by simp [World.setCell,Array.getElem?_modify,HR5.out]
    refine bodyPost_ret (results_cell_span rfl _ _ r 0 0 rfl (cell_blk hRz (i:=0) rfl) (cell_blk hRz (i:=1) rfl)) rfl ⟨by rw [HX.out],(HF.out.setCell (p:=⟨r,0,none⟩) ?_ _).setCell (p:=⟨r,1,none⟩) ?_ _⟩ <;> (have:=HB.out.size;show w.heap.size ≤ r;omega)
  | true =>
    have HC:=Lib.hid (racc_b c ⟨pa,pc,ca,cc,aa,ac,ba,bc⟩ true W HXW.out wx lx hq)
    have HA:=Lib.hid (accd_of hq)
    by_cases h1:p < 0
    · have HX:=Lib.hid (show privSpan c p = (0,0) from if_neg (fun h => by omega))
      clear hq
      go_enter Tryz.func113,Tryz.ntmps113
      go_wp2_with (first | (rw [← HWc.out]) | (rw [← HW.out]))
      refine HC.out.mono ?_
      rintro e w5 ⟨rfl,hb5⟩
      have hR5:=(hb5.block r (Array.getElem?_eq_some_iff.1 HR0.out).1).trans HR0.out
      have z0:=cell_blk hR5 (i:=0) rfl
      have z1:=cell_blk hR5 (i:=1) rfl
      have f0:w5.frozen? ⟨r,0,none⟩ = false:=by simp [World.frozen?,hR5]
      have f1:w5.frozen? ⟨r,1,none⟩ = false:=by simp [World.frozen?,hR5]
      have HR5:=Lib.hid hR5
      have HF:=Lib.hid (HB.out.trans ((HBW.out.trans (hb5.mono HBW.out.size)).mono HB.out.size))
      obtain ⟨g0,g1,g2,g3,g4,g5⟩:=bx _ (HBW.out.trans (hb5.mono HBW.out.size))
      clear hb5 hR5 c0 c1 c2 c3 c4 c5
      simp only [← HRR.out]
      go_wp2
      have hRz:((w5.setCell ⟨r,0,none⟩ (.int .i64 0)).setCell ⟨r,1,none⟩ (.int .i64 0)).heap[r]? = some (.cells #[.int .i64 0,.int .i64 0] 135 (0,0)):=by simp [World.setCell,Array.getElem?_modify,HR5.out]
      refine bodyPost_ret (results_cell_span rfl _ _ r 0 0 rfl (cell_blk hRz (i:=0) rfl) (cell_blk hRz (i:=1) rfl)) rfl ⟨by rw [HX.out],(HF.out.setCell (p:=⟨r,0,none⟩) ?_ _).setCell (p:=⟨r,1,none⟩) ?_ _⟩ <;> (have:=HB.out.size;show w.heap.size ≤ r;omega)
    have h1d:decide (p < 0) = false:=decide_eq_false h1
    by_cases h2:(c.parts.length:Int) ≤ p
    · have HX:=Lib.hid (show privSpan c p = (0,0) from if_neg (fun h => by omega))
      clear hq
      go_enter Tryz.func113,Tryz.ntmps113
      go_wp2_with (first | (rw [← HWc.out]) | (rw [← HW.out]))
      refine HC.out.mono ?_
      rintro e w5 ⟨rfl,hb5⟩
      have hR5:=(hb5.block r (Array.getElem?_eq_some_iff.1 HR0.out).1).trans HR0.out
      have z0:=cell_blk hR5 (i:=0) rfl
      have z1:=cell_blk hR5 (i:=1) rfl
      have f0:w5.frozen? ⟨r,0,none⟩ = false:=by simp [World.frozen?,hR5]
      have f1:w5.frozen? ⟨r,1,none⟩ = false:=by simp [World.frozen?,hR5]
      have HR5:=Lib.hid hR5
      have HF:=Lib.hid (HB.out.trans ((HBW.out.trans (hb5.mono HBW.out.size)).mono HB.out.size))
      obtain ⟨g0,g1,g2,g3,g4,g5⟩:=bx _ (HBW.out.trans (hb5.mono HBW.out.size))
      clear hb5 hR5 c0 c1 c2 c3 c4 c5
      simp only [← HRR.out]
      go_wp2
      have hRz:((w5.setCell ⟨r,0,none⟩ (.int .i64 0)).setCell ⟨r,1,none⟩ (.int .i64 0)).heap[r]? = some (.cells #[.int .i64 0,.int .i64 0] 135 (0,0)):=by simp [World.setCell,Array.getElem?_modify,HR5.out]
      refine bodyPost_ret (results_cell_span rfl _ _ r 0 0 rfl (cell_blk hRz (i:=0) rfl) (cell_blk hRz (i:=1) rfl)) rfl ⟨by rw [HX.out],(HF.out.setCell (p:=⟨r,0,none⟩) ?_ _).setCell (p:=⟨r,1,none⟩) ?_ _⟩ <;> (have:=HB.out.size;show w.heap.size ≤ r;omega)
    · have h2d:decide ((c.parts.length:Int) ≤ p) = false:=decide_eq_false h2
      have HX:=Lib.hid (show privSpan c p = (privUp c.parts p.toNat,fld (row c.parts p.toNat) 1) from if_pos ⟨hq,by omega,by omega⟩)
      obtain ⟨n,rfl⟩:=Int.eq_ofNat_of_zero_le (show 0 ≤ p by omega)
      have hn:n < c.parts.length:=by omega
      have hnn:¬ c.parts.length ≤ n:=by omega
      have hnd:decide (c.parts.length ≤ n) = false:=decide_eq_false hnn
      have HU:=Lib.hid (fun i (hi:i ≤ c.parts.length) => privUp_in HA.out i hi)
      have hp6:c.parts.length ≤ 6:=HA.out.parts.2
      have HP:=Lib.hid HXC.out.rp
      have HPW:=Lib.hid wx.wp
      clear hq
      go_enter Tryz.func113,Tryz.ntmps113
      go_wp2_with (first | (rw [← HWc.out]) | (rw [← HW.out]))
      refine HC.out.mono ?_
      rintro e w5 ⟨rfl,hb5⟩
      have hR5:=(hb5.block r (Array.getElem?_eq_some_iff.1 HR0.out).1).trans HR0.out
      have hB5:=HBW.out.trans (hb5.mono HBW.out.size)
      obtain ⟨g0,g1,g2,g3,g4,g5⟩:=bx _ hB5
      have HR5:=Lib.hid hR5;have HB5:=Lib.hid hB5
      clear hb5 hR5 hB5 c0 c1 c2 c3 c4 c5
      simp only [← HRR.out]
      go_wp2
      clear g0 g1 g2 g3 g4 g5
      go_loopw [5,6] (fun nn ix wr => ∃ i:Nat,i ≤ n ∧ ix = .int .i64 i ∧ nn = .int .i64 (privUp c.parts i) ∧ wr.heap[r]? = some (.cells #[.int .i64 0,.int .i64 0] 135 (0,0)) ∧ Below Wc.heap.size Wc wr) (fun _ ix _ => n - (intOf ix).toNat)
      case atStart => exact ⟨0,Nat.zero_le _,rfl,rfl,HR5.out,HB5.out⟩
      case round =>
        obtain ⟨i,hi,rfl,rfl,hR,hB⟩:=hrel
        obtain ⟨g0,g1,g2,g3,g4,g5⟩:=bx _ hB
        have hil:i < c.parts.length:=by omega
        obtain ⟨b,o,y0,y1,e0,_,e1,_,k0⟩:=HP.out.at2 HPW.out hil
        obtain ⟨p0,p1⟩:=k0 _ hB
        rw [e0] at g0
        have hs:=HU.out i (by omega)
        have hs1:=HU.out (i + 1) (by omega)
        have hnx:privUp c.parts (i + 1) = privUp c.parts i + y1:=by show privUp c.parts i + fld (row c.parts i) 1 = _;rw [row_at e1];rfl
        rw [hnx] at hs1
        have HN:=Lib.hid hnx
        have i0:(0:Int) ≤ (i:Int):=by omega
        have i1:(i:Int) < (c.parts.length:Int):=by omega
        obtain ⟨z,hz⟩:∃ z,privUp c.parts i = z:=⟨_,rfl⟩
        have HZ:=Lib.hid hz
        rw [hz] at hs hs1 HN
        simp only [hz]
        have v0:=IntWalk.i64_in (z + y1) (by omega)
        have HE1:=Lib.hid e1
        clear hnx hz e0 e1 k0 hs hs1
        by_cases hlt:i < n
        · have hR':=Lib.hid hR
          clear hR
          go_wp2
          go_roundw
          case rel => exact ⟨i + 1,by omega,by go_num,by rw [HN.out],hR'.out,hB⟩
          case measure => simp [intOf];omega
        · have hin:i = n:=by omega
          subst hin
          have HX2:=Lib.hid (show privSpan c (i:Int) = (z,y1) by rw [HX.out];simp only [Int.toNat_natCast,HZ.out,row_at HE1.out];rfl)
          have z0:=cell_blk hR (i:=0) rfl
          have z1:=cell_blk hR (i:=1) rfl
          have f0:wr.frozen? ⟨r,0,none⟩ = false:=by simp [World.frozen?,hR]
          have f1:wr.frozen? ⟨r,1,none⟩ = false:=by simp [World.frozen?,hR]
          have HRR2:=Lib.hid hR;have HBB:=Lib.hid hB
          clear hR hB
          go_wp2
          have hRz:((wr.setCell ⟨r,0,none⟩ (.int .i64 z)).setCell ⟨r,1,none⟩ (.int .i64 y1)).heap[r]? = some (.cells #[.int .i64 z,.int .i64 y1] 135 (0,0)):=by simp [World.setCell,Array.getElem?_modify,HRR2.out]
          exact bodyPost_ret (results_cell_span rfl _ _ r z y1 rfl (cell_blk hRz (i:=0) rfl) (cell_blk hRz (i:=1) rfl)) rfl ⟨by rw [HX2.out],HB.out.trans ((((HBB.out.setCell (p:=⟨r,0,none⟩) hrr _).setCell (p:=⟨r,1,none⟩) hrr _)).mono HB.out.size)⟩
end Go.Proofs.YtjfolhkblbakiaaGreatDoor
namespace Go.Proofs.YtjfolhkblbakiaaGreatDoor
open Go.RowKit Go.Sort Go.ChangeShapes Go.WideShapes
set_option linter.unusedVariables false
set_option linter.unusedSimpArgs false
theorem step_append_off {P:Program} {ops:Array Oper} {o:Oper} {a:Act} {w:World} {K:Act → World → Prop} {Q:Exit → Act → World → Prop} {E:Prop} (hgd:o.guard = none) (s x:Operand) (t:TypeId)
    (ho:o.op = .call { callee:=.builtin .append,args:=#[s,x],argTypes:=#[t,t] })
    (base:Nat) (e:TypeId) (i:TypeInfo) (z:Value) (size bytes:Nat) (ht:P.underlying t = some (.slice e)) (hi:P.info? e = some i) (hz:i.zero = some z)
    (hsize:i.size = size) (hby:i.bytes = bytes) (hzs:z.cells.size = size) (hsz:0 < size)
    (v:Value) (n:Nat) (xs:List Value) (hs:a.eval s = v) (hown:OwnsOff w base e size v n xs)
    (ad:Addr) (m c:Nat) (news:List Value) (hx:a.eval x = .slice (some ad) m c) (hl:news.length = m * size) (hnews:∀ j u,news[j]? = some u → w.cell? (ad.add j) = some u) (h1:∀ u ∈ news,u.oneCell' = true)
    (h63:n + m ≤ maxLen) (hbytes:(n + m) * bytes ≤ 140737488355328) (hbase:base ≤ w.heap.size)
    (h:∀ v' w',OwnsOff w' base e size v' (n + m) (xs ++ news) → w.grownBy w' v.ownBlock → (∀ g,v'.ownBlock = some g → v.ownBlock = some g ∨ w.heap.size ≤ g) → K (a.put o.dst v') w') :
    if Region.wanted o (yielded ops a.tmps) = true then Oper.wp P o a w K Q else E:=by
  have hw:Region.wanted o (yielded ops a.tmps) = true:=by simp [Region.wanted,hgd]
  rw [if_pos hw]
  obtain ⟨v',w',hrun,r1,r2,r3⟩:=run_append_off (P:=P) w base t o.type e i z size bytes ht hi hz hsize hby hzs hsz v n xs hown ad m c news hl hnews h1 h63 hbytes hbase
  unfold Oper.wp
  simp [execOp,ho,resolve,invoke,builtin,hs,hx,hrun,Result.andThen]
  exact h v' w' r1 r2 r3
/-- The cells to be appended,out of a block that is known whole. -/
theorem news_block {w:World} {B:Nat} {cs:Array Value} {t:TypeId} {fr:Nat × Nat} (hb:w.heap[B]? = some (.cells cs t fr)):∀ j u,cs.toList[j]? = some u → w.cell? ((⟨B,0,none⟩:Addr).add j) = some u:=fun j u hu => by
  rw [Addr.add_lit,Nat.zero_add]
  simp [World.cell?,hb]
  simpa using hu
theorem Tryz.infoSp:(Tryz.prog.info? 135).map (fun i => (i.zero,i.size,i.bytes)) = some (some (.agg #[.int .i64 0,.int .i64 0]),2,16):=by kernel_rfl
def pair (x:Int × Int):List Int:=[x.1,x.2]
end Go.Proofs.YtjfolhkblbakiaaGreatDoor
