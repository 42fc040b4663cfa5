/- Texts of the ring, joined, what is used of them. No condition but those in the statements. -/
import Derived.Test.YtjfolhkblbakiaaGreatDoorProg
import Derived.Test.YtjfolhkblbakiaaGreatDoorQgB
namespace Go.Proofs.YtjfolhkblbakiaaGreatDoor
open Go.RowKit Go.Sort Go.ChangeShapes Go.WideShapes
set_option linter.unusedVariables false
set_option linter.unusedSimpArgs false
theorem fields2:∃ fs,Tryz.prog.underlying 124 = some (.struct fs) ∧ fieldsN Tryz.prog fs [.i64,.i64]:=by
  refine ⟨_,Tryz.underlying124,rfl,fun i f h => ?_⟩
  match i,h with
  | 0,h => cases h;exact ⟨rfl,by kernel_rfl,fun k hk => by cases hk;exact Tryz.underlying3⟩
  | 1,h => cases h;exact ⟨rfl,by kernel_rfl,fun k hk => by cases hk;exact Tryz.underlying3⟩
  | i + 2,h => simp at h
theorem fields3:∃ fs,Tryz.prog.underlying 126 = some (.struct fs) ∧ fieldsN Tryz.prog fs [.i64,.i64,.i64]:=by
  refine ⟨_,Tryz.underlying126,rfl,fun i f h => ?_⟩
  match i,h with
  | 0,h => cases h;exact ⟨rfl,by kernel_rfl,fun k hk => by cases hk;exact Tryz.underlying3⟩
  | 1,h => cases h;exact ⟨rfl,by kernel_rfl,fun k hk => by cases hk;exact Tryz.underlying3⟩
  | 2,h => cases h;exact ⟨rfl,by kernel_rfl,fun k hk => by cases hk;exact Tryz.underlying3⟩
  | i + 3,h => simp at h
theorem fields7:∃ fs,Tryz.prog.underlying 58 = some (.struct fs) ∧ fieldsN Tryz.prog fs [.i64,.i64,.i64,.i64,.i64,.i64,.u32]:=by
  refine ⟨_,Tryz.underlying58,rfl,fun i f h => ?_⟩
  match i,h with
  | 0,h => cases h;exact ⟨rfl,by kernel_rfl,fun k hk => by cases hk;exact Tryz.underlying3⟩
  | 1,h => cases h;exact ⟨rfl,by kernel_rfl,fun k hk => by cases hk;exact Tryz.underlying3⟩
  | 2,h => cases h;exact ⟨rfl,by kernel_rfl,fun k hk => by cases hk;exact Tryz.underlying3⟩
  | 3,h => cases h;exact ⟨rfl,by kernel_rfl,fun k hk => by cases hk;exact Tryz.underlying3⟩
  | 4,h => cases h;exact ⟨rfl,by kernel_rfl,fun k hk => by cases hk;exact Tryz.underlying3⟩
  | 5,h => cases h;exact ⟨rfl,by kernel_rfl,fun k hk => by cases hk;exact Tryz.underlying3⟩
  | 6,h => cases h;exact ⟨rfl,by kernel_rfl,fun k hk => by cases hk;exact Tryz.underlying45⟩
  | i + 7,h => simp at h
set_option maxRecDepth 100000 in
theorem cfg_open {H:Type} {enc:TypeId × Value → H} {w:World} {r:Reach} {b0:Nat} {v:Value} {d:DataW H} {p:List MemPlace} (hv:Value.okWide Tryz.prog w r b0 29 v) (h:DataW.Trod enc Tryz.prog w 0 (fun _ => true) true 29 v d p) :
    ∃ (c:Cfg) (x:CfgAt),v = .agg (cfgCells c x) ∧ CfgIn w w.heap.size c x ∧ CfgWf c:=by
  obtain ⟨f2,u2,k2⟩:=fields2
  obtain ⟨f3,u3,k3⟩:=fields3
  obtain ⟨f7,u7,k7⟩:=fields7
  exact cfg_arg Tryz.underlying29 (by kernel_rfl) ⟨rfl,by kernel_rfl⟩ ⟨rfl,by kernel_rfl⟩ ⟨rfl,by kernel_rfl⟩ Tryz.underlying22 u2 k2 (by kernel_rfl) Tryz.underlying23 u7 k7 (by kernel_rfl) Tryz.underlying27 (by kernel_rfl) Tryz.underlying26 ⟨rfl,by kernel_rfl⟩ ⟨rfl,by kernel_rfl⟩ Tryz.underlying3 Tryz.underlying24 u3 k3 (by kernel_rfl) hv h
end Go.Proofs.YtjfolhkblbakiaaGreatDoor
