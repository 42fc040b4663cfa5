/- Texts of the ring, joined, what is used of them. No condition but those in the statements. -/
import Derived.BigQuiet
import Derived.BigRegion
import Derived.Deep.MidRow
import Derived.Deep.RegionHeld3
import Derived.Deep.Upon
import Derived.IntWalk
import Derived.Test.YtjfolhkblbakiaaGreatDoorQLOpen
import Derived.Test.YtjfolhkblbakiaaGreatDoorQPSg
namespace Go.Proofs.YtjfolhkblbakiaaGreatDoor
open Go.RowKit Go.Sort
set_option linter.unusedVariables false
set_option linter.unusedSimpArgs false
set_option linter.unusedVariables false
set_option linter.unusedSimpArgs false
theorem req_talk {c:Cfg} {sp:Int} {sn:Bool} {made:List Int} {op port ad:Int} {n:Nat} (h:refusedN c sp sn made op port ad n = 0) (h1:3 ≤ op) (h2:op ≤ 7) :
    acceptsB c = true ∧ portB c port = true ∧ talkT (fld (row c.chans (portK c port).toNat) 0) (portS c port) (fld (row c.chans (portK c port).toNat) 3) op n = 0:=by
  unfold refusedN at h
  split at h
  · cases h
  · rename_i h0
    rw [if_neg (by omega),if_neg (by omega),if_pos ⟨h1,h2⟩] at h
    unfold talkN at h
    split at h
    · cases h
    · rename_i h3
      split at h
      · cases h
      · refine ⟨?_,?_,h⟩
        · cases hb:acceptsB c with
          | true => rfl
          | false => exact absurd (.inl hb) h0
        · unfold hasB at h3
          cases hb:portB c port with
          | true => rfl
          | false => rw [hb] at h3;exact absurd rfl h3
theorem results_mid_tmp {fn:Func} {p u:Tmp} {ty:TypeId} (h:fn.results = #[.cell p ty,.tmp u]) (tmps:Array Value) (w:World) (b:Nat) (cs:List Value) (d:TypeDesc)
    (hp:tmps.getD p undef = .pointer (some ⟨b,0,none⟩)) (hc:w.rangeAt b 0 cs) (hu:Tryz.prog.underlying ty = some d) (hd:d.isRow = true) (hi:(Tryz.prog.info? ty).map (·.size) = some cs.length) {v:Value} (hv:tmps.getD u undef = v) :
    (results fn tmps).run Tryz.prog w = .ok (.tuple #[.agg cs.toArray,v]) w:=by
  have hp':tmps[p]?.getD undef = .pointer (some ⟨b,0,none⟩):=by simpa using hp
  have hv':tmps[u]?.getD undef = v:=by simpa using hv
  rw [results_cell_tmp h]
  simp [hp',hv',asAddr,Result.andThen,run_loadVar_mid w b 0 ty cs d hc hu hd hi]
theorem ans_size:(Tryz.prog.info? 42).map (·.size) = some 4:=by kernel_rfl
end Go.Proofs.YtjfolhkblbakiaaGreatDoor
