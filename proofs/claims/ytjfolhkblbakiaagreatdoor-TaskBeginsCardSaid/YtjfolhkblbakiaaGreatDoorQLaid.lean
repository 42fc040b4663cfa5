/- Texts of the ring, joined, what is used of them. No condition but those in the statements. -/
import Derived.Test.YtjfolhkblbakiaaGreatDoorRows
import Derived.LaidMore
import Derived.OpenShut
import Derived.ProofKit
import Derived.Stop.Joined
import Derived.Test.YtjfolhkblbakiaaGreatDoorQTabs
namespace Go.Proofs.YtjfolhkblbakiaaGreatDoor
open Go.ChangeShapes Go.WideShapes Go.ChangeAt Go.RowKit
set_option linter.unusedVariables false
theorem gTab:Tryz.prog.globalNamed "porthole/sign.words" = some 0:=by kernel_rfl
theorem tTab:(Tryz.prog.globals[0]?).map (·.type) = some 234:=by kernel_rfl
def laidL:List (String × DataW Unit):=[("porthole/sign.words",Rows.laid_porthole_sign_words)]
theorem door_met (os:Os) (args:Array Value):laidMetH Tryz.prog laidL ((World.doorLaid Tryz.prog 400 os).forCall (fun _ _ => 0) ⟨#[],args,[]⟩).memory:=
  laidMetH_of_parts3 (fuel:=8) (laidMet_of_run' 8 (by kernel_rfl) (by kernel_rfl)) (by kernel_rfl) (by kernel_rfl)
theorem bytes_eq {s t:ByteArray} (h:s.data.toList = t.data.toList):s = t:=by
  cases s;cases t
  simp at h
  exact congrArg _ h
theorem of_laid {W:World} (h:laidMetH Tryz.prog laidL W):TabsAt W:=by
  rw [MakeChecks.laidMetH_plain _ _ _ (by kernel_rfl)] at h
  obtain ⟨ps,⟨g0,t0,cs0,f0,p0,q0,hg0,ht0,hv0,hd0,_,_⟩,_,_⟩:=h
  obtain rfl:=Option.some.inj (gTab.symm.trans hg0)
  obtain rfl:=Option.some.inj (tTab.symm.trans ht0)
  obtain ⟨xs,m1,_,hx1,hlen,hn3,hel⟩:=DataW.trod_array Tryz.underlying234 hd0
  have c9:Tryz.prog.cellsOf 9 = 1:=by kernel_rfl
  simp only [Prod.mk.injEq] at hx1
  have hx2:=hx1.1
  have cellAt:∀ i (hi:i < 9),W.cell? ⟨0,i,none⟩ = some (.string (tabL.getD i ⟨#[]⟩)):=by
    intro i hi
    have he:=hel i hi
    have hix:i < xs.length:=by omega
    rw [c9,List.getElem?_eq_getElem hix] at he
    obtain ⟨s,e1,e2,_⟩:=DataW.trod_string Tryz.underlying9 he
    have hv:=World.var?_cell hg0 hv0 i
    have hc:cs0[i]? = some (.string s):=by
      have h0:=congrArg (fun l => l[0]?) e1
      simpa using h0
    have hd:=congrArg (fun d => match d with | DataW.agg l => l[i]? | _ => none) hx2
    have hd2:(tabL.map (fun b => (DataW.lit (.string b.data.toList):DataW Unit)))[i]? = (xs.map (·.1))[i]?:=hd
    have hit:i < tabL.length:=hi
    rw [List.getElem?_map,List.getElem?_map,List.getElem?_eq_getElem hix,List.getElem?_eq_getElem hit,e2] at hd2
    simp only [Option.map_some,Option.some.injEq,DataW.lit.injEq,Lit.string.injEq] at hd2
    rw [hv,hc,bytes_eq hd2.symm,List.getD_eq_getElem?_getD,List.getElem?_eq_getElem hit]
    rfl
  exact ⟨World.block_lt_of_cell? W _ (cellAt 0 (by decide)),cellAt⟩
end Go.Proofs.YtjfolhkblbakiaaGreatDoor
