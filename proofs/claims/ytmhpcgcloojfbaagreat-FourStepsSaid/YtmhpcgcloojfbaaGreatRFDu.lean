/- Texts of the ring, joined, what is used of them. No condition but those in the statements. -/
import Derived.BigQuiet
import Derived.BigRegion
import Derived.Deep.MidRow
import Derived.Deep.RegionHeld3
import Derived.Deep.Upon
import Derived.IntWalk
import Derived.Shelf.Abstract
import Derived.Test.YtmhpcgcloojfbaaGreatRFDr
import Derived.Test.YtmhpcgcloojfbaaGreatRFDs
import Derived.Test.YtmhpcgcloojfbaaGreatRFDt
import Derived.Test.YtmhpcgcloojfbaaGreatRFDw
import Derived.Test.YtmhpcgcloojfbaaGreatRgO
namespace Go.Proofs.YtmhpcgcloojfbaaGreat
open Go.RowKit Go.Sort
set_option linter.unusedVariables false
set_option linter.unusedSimpArgs false
set_option linter.unusedVariables false
set_option linter.unusedSimpArgs false
open Go.Proofs.YtmhpcgcloojfbaaGreat.Simp
set_option maxRecDepth 100000
set_option maxHeartbeats 6400000
section
variable {W w:World} {vb yb:Nat} {c:Cfg} {x:CfgAt} {k:Nat} {F:Fr} {ws:List Int} {db dof cap:Nat} {A:Option Addr} {len st:Int} {mk:Bool}
theorem cell_blk_m {W0:World} {b i:Nat} {cs:Array Value} {t:TypeId} {m:Nat × Nat} {v:Value} (h:W0.heap[b]? = some (.cells cs t m)) (hv:cs[i]? = some v):W0.cell? ⟨b,i,none⟩ = some v:=by
  simp [World.cell?,h,hv]
theorem VAt.at_no {wr:Bool} {dv:Value} {a b:Int} {p i:Nat} (h:VAt W w vb yb c x k F ws wr dv a p i len st mk) (e:a = b):VAt W w vb yb c x k F ws wr dv b p i len st mk:=e ▸ h
theorem dwrite_b (s:FS) (now:Int) (h:VAt W w vb yb c x k F ws true (.slice (some ⟨db,dof,none⟩) s.data.length cap) (s.no + 1) s.pair s.index len st s.marked) (hpi:s.pair ≤ 1 ∧ s.index ≤ 1) (hds:s.data.length ≤ F.n) (hno:0 ≤ s.no ∧ s.no ≤ 5 + (s.data.length:Int)) (hnow:0 ≤ now ∧ now ≤ 1000000) (hd32:W32 s.data) (hdat:∃ cs mm,w.heap[db]? = some (.cells cs 34 mm) ∧ ∀ j,j < s.data.length → cs[dof + j]? = some (.int .u32 (s.data.getD j 0))) (hdb:db ≠ yb):Calls Tryz.prog 38 #[.pointer (some ⟨vb,0,none⟩),.slice (some ⟨yb,0,none⟩) ws.length ws.length,.int .i64 now] w (VGives W w vb yb c x k F (wstep F s ws now).2.1 true (.slice (some ⟨db,dof,none⟩) s.data.length cap) (wstep F s ws now).1.no (wstep F s ws now).1.pair (wstep F s ws now).1.index len st (wstep F s ws now).1.marked (didOf (wstep F s ws now).2.2 (.slice none 0 0))):=by
  have hn2:=h.len.n2
  by_cases z0:s.no = 0
  · rw [ws0 z0]
    exact dwrite1_b W w vb yb c x k F ws (some ⟨db,dof,none⟩) s.data cap s.pair s.index len st s.marked now (h.at_no (by omega)) hpi hds
  by_cases z1:s.no = 1
  · rw [ws1 z1]
    exact dwrite2_b W w vb yb c x k F ws (some ⟨db,dof,none⟩) s.data cap s.pair s.index len st s.marked now (h.at_no (by omega)) hpi hds
  by_cases z2:s.no = 2
  · rw [ws2 z2]
    exact dwrite3_b W w vb yb c x k F ws (some ⟨db,dof,none⟩) s.data cap s.pair s.index len st s.marked now (h.at_no (by omega)) hpi (by omega)
  by_cases z3:s.no = 3
  · rw [ws3 z3,show now % 4294967296 = now by omega]
    exact dwrite4_b W w vb yb c x k F ws (some ⟨db,dof,none⟩) s.data cap s.pair s.index len st s.marked now (h.at_no (by omega)) hpi hnow (by omega)
  by_cases z4:s.no < 4 + (s.data.length:Int)
  · obtain ⟨q,hq⟩:∃ q:Nat,s.no = 4 + (q:Int):=⟨(s.no - 4).toNat,by omega⟩
    have hql:q < s.data.length:=by omega
    rw [ws4 hq hql]
    obtain ⟨cs,mm,hc,hcs⟩:=hdat
    have hdv:db ≠ vb:=fun e => by rw [e] at hc;have q:=h.blk;rw [hc] at q;injection q with q3;injection q3 with q4 q5;exact absurd q5 (by decide)
    exact dwrite5_b W w vb yb c x k F ws db dof q s.data cap s.pair s.index len st s.marked now (h.at_no (by omega)) hpi hds hql hd32 (cell_blk_m hc (hcs q hql)) ⟨hdv,hdb,(Array.getElem?_eq_some_iff.1 hc).1⟩
  by_cases z5:s.no = 4 + (s.data.length:Int)
  · rw [ws5 z5]
    exact dwrite6_b W w vb yb c x k F ws (some ⟨db,dof,none⟩) s.data cap s.pair s.index len st s.marked now (h.at_no (by omega)) hpi hds
  · rw [ws6 (by omega)]
    exact dwrite7_b W w vb yb c x k F ws (some ⟨db,dof,none⟩) s.data cap s.pair s.index len st s.marked now (h.at_no (by omega)) hpi hds
/-- What a step of the document's read leaves. -/
def FGives (W w:World) (vb yb:Nat) (c:Cfg) (x:CfgAt) (k:Nat) (F:Fr) (mk:Bool) (dv0:Value) (R:FS × List Int × Did) (e:Ending) (w':World):Prop:=
  ∃ A' cp' sa sn sc,e = .returned (.agg (didOf R.2.2 (.slice sa sn sc))) ∧ (sn = R.2.2.data.length ∧ ((.slice sa sn sc:Value) = .slice none 0 0 ∧ R.2.2.data = [] ∨ (.slice sa sn sc:Value) = .slice A' R.1.data.length cp' ∧ R.2.2.data = R.1.data)) ∧ VAt W w' vb yb c x k F R.2.1 false (.slice A' R.1.data.length cp') R.1.no R.1.pair R.1.index R.1.len R.1.stamp mk ∧ OwnsOff w' 0 34 1 (.slice A' R.1.data.length cp') R.1.data.length (wcells R.1.data) ∧ (∀ g,Value.ownBlock (.slice A' R.1.data.length cp') = some g → Value.ownBlock dv0 = some g ∨ w.heap.size ≤ g) ∧ Only (fun j => j = vb ∨ j = yb ∨ Value.ownBlock dv0 = some j) w w'
theorem dread_b (s:FS) (now:Int) (h:VAt W w vb yb c x k F ws false (.slice A s.data.length cap) (s.no + 1) s.pair s.index s.len s.stamp mk) (hpi:s.pair ≤ 1 ∧ s.index ≤ 1) (hds:s.data.length ≤ F.n) (hno:0 ≤ s.no ∧ s.no ≤ 30) (hph:5 ≤ s.no → s.no = 5 + (s.data.length:Int) ∧ (s.data.length:Int) < s.len ∧ s.len ≤ F.n) (hst:0 ≤ s.stamp ∧ s.stamp ≤ 4294967295) (hnow:0 ≤ now ∧ now ≤ 1000000) (hrow:OwnsOff w 0 34 1 (.slice A s.data.length cap) s.data.length (wcells s.data)) (hby:Value.ownBlock (.slice A s.data.length cap) ≠ some yb) (hgb:∀ g,Value.ownBlock (.slice A s.data.length cap) = some g → W.heap.size ≤ g):Calls Tryz.prog 39 #[.pointer (some ⟨vb,0,none⟩),.slice (some ⟨yb,0,none⟩) ws.length ws.length,.int .i64 now] w (FGives W w vb yb c x k F mk (.slice A s.data.length cap) (rstep F s ws now)):=by
  have hn2:=h.len.n2
  have hn1:=h.len.n1
  have hbin:=h.len.buf hpi.1 hpi.2
  have keep:∀ {w':World},Only (fun j => j = vb ∨ j = yb) w w' → OwnsOff w' 0 34 1 (.slice A s.data.length cap) s.data.length (wcells s.data):=fun ho => hrow.kept ho (fun g hg e => by
    obtain ⟨cs,hc⟩:=hrow.typed g hg
    rcases e with rfl | rfl
    · have q:=h.blk;rw [hc] at q;injection q with q3;injection q3 with q4 q5;exact absurd q5 (by decide)
    · exact hby hg)
  have o4:∀ {w':World},Only (fun j => j = vb ∨ j = yb) w w' → Only (fun j => j = vb ∨ j = yb ∨ Value.ownBlock (.slice A s.data.length cap) = some j) w w':=fun ho => ho.mono fun j _ e => e.elim .inl (fun e => .inr (.inl e))
  have plain:∀ {R:FS × List Int × Did} {e:Ending} {w':World} {D:Array Value} {ws':List Int} {a:Int} {p i:Nat} {l t:Int},R.1.data = s.data → R.2.2.data = [] → D = didOf R.2.2 (.slice none 0 0) → ws' = R.2.1 → a = R.1.no → p = R.1.pair → i = R.1.index → l = R.1.len → t = R.1.stamp → VGives W w vb yb c x k F ws' false (.slice A s.data.length cap) a p i l t mk D e w' → FGives W w vb yb c x k F mk (.slice A s.data.length cap) R e w':=by
    rintro R e w' D ws' a p i l t e1 e2 rfl rfl rfl rfl rfl rfl rfl ⟨rfl,hv,ho⟩
    refine ⟨A,cap,none,0,0,rfl,⟨by rw [e2];rfl,.inl ⟨rfl,e2⟩⟩,?_,?_,fun g hg => .inl (by rw [e1] at hg;exact hg),o4 ho⟩
    · rw [e1];exact hv
    · rw [e1];exact keep ho
  by_cases z0:s.no = 0
  · rw [rs0 z0]
    exact (dread1_b W w vb yb c x k F ws A s.data cap s.pair s.index s.len s.stamp mk now (h.at_no (by omega)) hpi hds).mono fun e w' q => plain (R:=({ s with no:=1,pair:=oddN (rd ws F.src) },ws,did0)) rfl rfl rfl rfl rfl rfl rfl rfl rfl q
  by_cases z1:s.no = 1
  · rw [rs1 z1]
    exact (dread2_b W w vb yb c x k F ws A s.data cap s.pair s.index s.len s.stamp mk now (h.at_no (by omega)) hpi).mono fun e w' q => plain (R:=({ s with no:=2 },ws.set F.dst s.pair,did0)) rfl rfl rfl rfl rfl rfl rfl rfl rfl q
  by_cases z2:s.no = 2
  · rw [rs2 z2]
    exact (dread3_b W w vb yb c x k F ws A s.data cap s.pair s.index s.len s.stamp mk now (h.at_no (by omega)) hpi hds).mono fun e w' q => plain (R:=({ s with no:=3,index:=oddN (rd ws (F.src + 1 + s.pair)) },ws,did0)) rfl rfl rfl rfl rfl rfl rfl rfl rfl q
  by_cases z3:s.no = 3
  · by_cases hz:rd ws (bufOf F s) = 0
    · rw [rs3z z3 (by unfold lenOf;rw [hz,if_pos (by omega)])]
      exact (dread4b_b W w vb yb c x k F ws A s.data cap s.pair s.index s.len s.stamp mk now (h.at_no (by omega)) hpi hz).mono fun e w' q => plain (R:=({ s with no:=-1,len:=0 },ws,{ did0 with done:=true,code:=1,buffer:=1 + 2 * s.pair + s.index })) rfl rfl rfl rfl rfl rfl rfl rfl rfl q
    by_cases hr:rd ws (bufOf F s) ≤ (F.n:Int)
    · have hl:lenOf F (rd ws (bufOf F s)) = rd ws (bufOf F s):=by unfold lenOf;rw [if_pos hr]
      rw [rs3 z3 (by rw [hl];exact hz),hl]
      exact (dread4a_b W w vb yb c x k F ws A s.data cap s.pair s.index s.len s.stamp mk now (h.at_no (by omega)) hpi hr hz).mono fun e w' q => plain (R:=({ s with no:=4,len:=rd ws (bufOf F s) },ws,{ did0 with buffer:=1 + 2 * s.pair + s.index })) rfl rfl rfl rfl rfl rfl rfl rfl rfl q
    · have hl:lenOf F (rd ws (bufOf F s)) = (F.n:Int):=by unfold lenOf;rw [if_neg hr]
      rw [rs3 z3 (by rw [hl];omega),hl]
      exact (dread4c_b W w vb yb c x k F ws A s.data cap s.pair s.index s.len s.stamp mk now (h.at_no (by omega)) hpi hr).mono fun e w' q => plain (R:=({ s with no:=4,len:=(F.n:Int) },ws,{ did0 with buffer:=1 + 2 * s.pair + s.index })) rfl rfl rfl rfl rfl rfl rfl rfl rfl q
  by_cases z4:s.no = 4
  · rw [rs4 z4]
    exact (dread5_b W w vb yb c x k F ws A s.data cap s.pair s.index s.len s.stamp mk now (h.at_no (by omega)) hpi hds).mono fun e w' q => plain (R:=({ s with no:=5,stamp:=rd ws (bufOf F s + 1) },ws,did0)) rfl rfl rfl rfl rfl rfl rfl rfl rfl q
  obtain ⟨p1,p2,p3⟩:=hph (by omega)
  have hlen:∀ y:Int,(s.data ++ [y]).length = s.data.length + 1:=fun y => by simp
  by_cases hl:(s.data.length:Int) + 1 = s.len
  · rw [rs6 p1 hl]
    refine (dread7_b W w vb yb c x k F ws A s.data cap s.pair s.index s.len s.stamp mk now (h.at_no (by omega)) hpi hnow hst (by omega) hl hrow hby hgb).mono ?_
    rintro e w' ⟨dv',rfl,hv,hr',hg,ho⟩
    obtain ⟨A',cp',rfl,-,-⟩:=hr'.slice
    refine ⟨A',cp',A',s.data.length + 1,cp',rfl,⟨(hlen _).symm,.inr ⟨?_,rfl⟩⟩,?_,?_,?_,ho.mono fun j _ e => e.elim .inl (fun e => .inr (.inr e))⟩
    · show Value.slice A' (s.data.length + 1) cp' = .slice A' (s.data ++ [rd ws (bufOf F s + 2 + s.data.length)]).length cp'
      rw [hlen]
    · show VAt W w' vb yb c x k F ws false (.slice A' (s.data ++ [rd ws (bufOf F s + 2 + s.data.length)]).length cp') (-1) s.pair s.index s.len s.stamp mk
      rw [hlen];exact hv
    · show OwnsOff w' 0 34 1 (.slice A' (s.data ++ [rd ws (bufOf F s + 2 + s.data.length)]).length cp') (s.data ++ [rd ws (bufOf F s + 2 + s.data.length)]).length (wcells (s.data ++ [rd ws (bufOf F s + 2 + s.data.length)]))
      rw [hlen];exact hr'
    · intro g hg2
      exact hg g (by simpa [Value.ownBlock] using hg2)
  · rw [rs5 p1 hl]
    refine (dread6_b W w vb yb c x k F ws A s.data cap s.pair s.index s.len s.stamp mk now (h.at_no (by omega)) hpi (by omega) hl hrow hby hgb).mono ?_
    rintro e w' ⟨dv',rfl,hv,hr',hg,ho⟩
    obtain ⟨A',cp',rfl,-,-⟩:=hr'.slice
    refine ⟨A',cp',none,0,0,rfl,⟨rfl,.inl ⟨rfl,rfl⟩⟩,?_,?_,?_,ho.mono fun j _ e => e.elim .inl (fun e => .inr (.inr e))⟩
    · show VAt W w' vb yb c x k F ws false (.slice A' (s.data ++ [rd ws (bufOf F s + 2 + s.data.length)]).length cp') (6 + (s.data.length:Int)) s.pair s.index s.len s.stamp mk
      rw [hlen];exact hv
    · show OwnsOff w' 0 34 1 (.slice A' (s.data ++ [rd ws (bufOf F s + 2 + s.data.length)]).length cp') (s.data ++ [rd ws (bufOf F s + 2 + s.data.length)]).length (wcells (s.data ++ [rd ws (bufOf F s + 2 + s.data.length)]))
      rw [hlen];exact hr'
    · intro g hg2
      exact hg g (by simpa [Value.ownBlock] using hg2)
end
end Go.Proofs.YtmhpcgcloojfbaaGreat
