/- Texts of the ring, joined, what is used of them. No condition but those in the statements. -/
import Derived.Test.YtmhpcgcloojfbaaGreatProg
import Derived.BigQuiet
import Derived.IntWalk
import Derived.Laws.EntriesVeiled
import Derived.Laws.StructEq
import Derived.Lib.Hide
import Derived.LoopIn
import Derived.LoopNIn
import Derived.OpenShut
import Derived.OwnWalkIn
import Derived.RangeFuncBound
import Derived.RangeFuncBox
import Derived.RangeFuncCalls
import Derived.RangeFuncLeaves
import Derived.RangeFuncNested
import Derived.Shelf.Abstract
import Derived.Shelf.RegionOpen
import Derived.TacticsInMore
import Derived.Test.YtmhpcgcloojfbaaGreatRAllF
import Derived.Test.YtmhpcgcloojfbaaGreatRLK
import Derived.Test.YtmhpcgcloojfbaaGreatRRK
import Derived.Test.YtmhpcgcloojfbaaGreatRgB
import Derived.Test.YtmhpcgcloojfbaaGreatRgT
namespace Go.Proofs.YtmhpcgcloojfbaaGreat
open Go.RowKit Go.Sort
set_option linter.unusedVariables false
set_option linter.unusedSimpArgs false
theorem eqS_d (d:Nat) (x0 x1 y0 y1:Int) (w:World):(Op.equalIn (d + 1 + 1) 117 (.agg #[.int .i64 x0,.int .i64 x1]) (.agg #[.int .i64 y0,.int .i64 y1])).run Tryz.prog w = .ok ((x0 == y0) && (x1 == y1)) w:=by
  have hf:Tryz.prog.underlying 117 = some (.struct (Tryz.prog.fieldsOf 117)):=by kernel_rfl
  have hi:Tryz.prog.underlying 3 = some (.int .i64):=Tryz.underlying3
  rw [run_equalIn_agg w (d + 1) _ _ _ hf (by kernel_rfl)]
  clear hf
  have hu:=Tryz.underlying117
  simp only [Program.fieldsOf,hu]
  simp [Op.eqFields,go_sem,hi]
  repeat' split
  all_goals simp_all
theorem eqS (x0 x1 y0 y1:Int) (b:Bool) (h:decide ([x0,x1] = [y0,y1]) = b):∀ w:World,(Op.equalIn 10000 117 (.agg #[.int .i64 x0,.int .i64 x1]) (.agg #[.int .i64 y0,.int .i64 y1])).run Tryz.prog w = .ok b w:=by
  intro w
  rw [show (10000:Nat) = 9998 + 1 + 1 from rfl,eqS_d,← h]
  congr 1
  rw [Bool.eq_iff_iff]
  simp
end Go.Proofs.YtmhpcgcloojfbaaGreat
namespace Go.Proofs.YtmhpcgcloojfbaaGreat
open Go.RowKit Go.Sort
set_option linter.unusedVariables false
set_option linter.unusedSimpArgs false
section
variable {P:Program} {o:Oper} {a:Act} {C:World → Prop} {K:Act → Prop}
theorem quiet_eqlN (T ty:TypeId) (x y:Operand) (h:o.op = .binOp .eql T x y ty) (xs ys:Array Value) (hx:a.eval x = .agg xs) (hy:a.eval y = .agg ys) (b:Bool) (hE:∀ w,(Op.equalIn 10000 T (.agg xs) (.agg ys)).run P w = .ok b w)
    (hG:P.eqGuardType P.depth T = false) (hk:K (a.put o.dst (.bool b))):o.quiet P a C K:=by
  refine ⟨_,fun w _ => ?_,hk⟩
  unfold Oper.quietAt
  simp [execOp,h,hx,hy,run_eqGuard_agg w .eql T x y xs ys hG,run_eql_struct w T xs ys,hE,Oper.quietUpon,Result.andThen]
theorem quiet_eqlT (T ty:TypeId) (x y:Operand) (h:o.op = .binOp .eql T x y ty) (xs ys:Array Value) (hx:a.eval x = .agg xs) (hy:a.eval y = .agg ys) (hE:∀ w,(Op.equalIn 10000 T (.agg xs) (.agg ys)).run P w = .ok true w)
    (hG:P.eqGuardType P.depth T = false) (hk:K (a.put o.dst (.bool true))):o.quiet P a C K:=quiet_eqlN T ty x y h xs ys hx hy true hE hG hk
end
/-- A configuration's box,in every world that a quiet walk may meet. -/
theorem CBox.quiet {W:World} {b:Nat} {c:Cfg} {x:CfgAt} (h:CBox W b c x):(∀ p:Regrown,(grow (redrawn W p.d) p.os).cell? ⟨b,0,none⟩ = some (.slice x.pa c.parts.length x.pc)) ∧ (∀ p:Regrown,(grow (redrawn W p.d) p.os).cell? ⟨b,1,none⟩ = some (.slice x.ca c.chans.length x.cc)) ∧
    (∀ p:Regrown,(grow (redrawn W p.d) p.os).cell? ⟨b,2,none⟩ = some (.int .i64 c.len0)) ∧ (∀ p:Regrown,(grow (redrawn W p.d) p.os).cell? ⟨b,3,none⟩ = some (.slice x.aa c.win0.length x.ac)) ∧
    (∀ p:Regrown,(grow (redrawn W p.d) p.os).cell? ⟨b,4,none⟩ = some (.int .i64 c.len1)) ∧ (∀ p:Regrown,(grow (redrawn W p.d) p.os).cell? ⟨b,5,none⟩ = some (.slice x.ba c.win1.length x.bc)):=
  ⟨fun p => (h _ (below_regrown W p.d p.os)).1,fun p => (h _ (below_regrown W p.d p.os)).2.1,fun p => (h _ (below_regrown W p.d p.os)).2.2.1,fun p => (h _ (below_regrown W p.d p.os)).2.2.2.1,fun p => (h _ (below_regrown W p.d p.os)).2.2.2.2.1,fun p => (h _ (below_regrown W p.d p.os)).2.2.2.2.2⟩
end Go.Proofs.YtmhpcgcloojfbaaGreat
namespace Go.Proofs.YtmhpcgcloojfbaaGreat
open Go.RowKit Go.Sort Go.ChangeShapes Go.WideShapes
set_option linter.unusedVariables false
set_option linter.unusedSimpArgs false
/-- A span's two numbers,and back. -/
def pr (x:List Int):Int × Int:=(fld x 0,fld x 1)
def two (x:Int × Int):List Int:=[x.1,x.2]
end Go.Proofs.YtmhpcgcloojfbaaGreat
namespace Go.Proofs.YtmhpcgcloojfbaaGreat
open Go.RowKit Go.Sort Go.Shelf
set_option linter.unusedVariables false
set_option linter.unusedSimpArgs false
set_option linter.unusedVariables false
attribute [local go_sem] Oper.semAt_some
end Go.Proofs.YtmhpcgcloojfbaaGreat
namespace Go.Proofs.YtmhpcgcloojfbaaGreat
open Go.RowKit Go.Sort Go.Shelf
set_option linter.unusedVariables false
set_option linter.unusedSimpArgs false
set_option linter.unusedVariables false
attribute [local go_sem] Oper.semAt_some
end Go.Proofs.YtmhpcgcloojfbaaGreat
namespace Go.Proofs.YtmhpcgcloojfbaaGreat
open Go.RowKit Go.Sort Go.Shelf
set_option linter.unusedVariables false
set_option linter.unusedSimpArgs false
set_option linter.unusedVariables false
attribute [local go_sem] Oper.semAt_some
end Go.Proofs.YtmhpcgcloojfbaaGreat
