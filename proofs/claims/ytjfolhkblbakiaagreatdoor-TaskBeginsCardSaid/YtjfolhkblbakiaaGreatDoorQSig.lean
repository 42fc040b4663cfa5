/- Texts of the ring, joined, what is used of them. No condition but those in the statements. -/
import Derived.Test.YtjfolhkblbakiaaGreatDoorQgB
namespace Go.Proofs.YtjfolhkblbakiaaGreatDoor
open Go.RowKit Go.Sort
set_option linter.unusedVariables false
set_option linter.unusedSimpArgs false
/-- A request's word. -/
def nameS (op:Int):ByteArray:=
  if op = 1 then ⟨#[99,114,101,97,116,101]⟩ else
  if op = 2 then ⟨#[110,111,114,109,97,108]⟩ else
  if op = 3 then ⟨#[119,114,105,116,101]⟩ else
  if op = 4 then ⟨#[114,101,97,100]⟩ else
  if op = 5 then ⟨#[115,101,110,100]⟩ else
  if op = 6 then ⟨#[114,101,99,101,105,118,101]⟩ else
  if op = 7 then ⟨#[115,116,97,116,117,115]⟩ else
  if op = 8 then ⟨#[112,101,101,107]⟩ else
  if op = 9 then ⟨#[112,111,107,101]⟩ else ⟨#[]⟩
theorem nameS_out {op:Int} (h:op < 1 ∨ 9 < op):nameS op = ⟨#[]⟩:=by
  unfold nameS
  rw [if_neg (by omega)];rw [if_neg (by omega)];rw [if_neg (by omega)];rw [if_neg (by omega)];rw [if_neg (by omega)];rw [if_neg (by omega)];rw [if_neg (by omega)];rw [if_neg (by omega)];rw [if_neg (by omega)]
/-- Is there such a port? -/
def portB (c:Cfg) (port:Int):Bool:=acceptsB c && decide (0 ≤ port ∧ port < 2 * (c.chans.length:Int))
/-- A port's channel,whose it is,is it at the source. -/
def portK (c:Cfg) (port:Int):Int:=if portB c port = true then port / 2 else 0
def portS (c:Cfg) (port:Int):Bool:=portB c port && decide (port % 2 = 0)
def portP (c:Cfg) (port:Int):Int:=if portB c port = true then fld (row c.chans (port / 2).toNat) (if port % 2 = 0 then 1 else 2) else 0
theorem port_none {c:Cfg} {port:Int} (h:portB c port = false):portK c port = 0 ∧ portS c port = false ∧ portP c port = 0:=by
  unfold portK portS portP
  rw [h]
  exact ⟨rfl,rfl,rfl⟩
theorem port_even {c:Cfg} {port x0 x1 x2 x3 x4 x5 x6:Int} {k:Nat} (h:portB c port = true) (hk:port = 2 * (k:Int)) (hx:c.chans[k]? = some [x0,x1,x2,x3,x4,x5,x6]):portK c port = (k:Int) ∧ portS c port = true ∧ portP c port = x1:=by
  have h2:port % 2 = 0:=by omega
  have h3:port / 2 = (k:Int):=by omega
  unfold portK portS portP
  rw [h,if_pos rfl,if_pos rfl,h3,if_pos h2,Int.toNat_natCast,row_at hx,decide_eq_true h2]
  exact ⟨rfl,rfl,rfl⟩
theorem port_odd {c:Cfg} {port x0 x1 x2 x3 x4 x5 x6:Int} {k:Nat} (h:portB c port = true) (hk:port = 2 * (k:Int) + 1) (hx:c.chans[k]? = some [x0,x1,x2,x3,x4,x5,x6]):portK c port = (k:Int) ∧ portS c port = false ∧ portP c port = x2:=by
  have h2:¬ port % 2 = 0:=by omega
  have h3:port / 2 = (k:Int):=by omega
  unfold portK portS portP
  rw [h,if_pos rfl,if_pos rfl,h3,if_neg h2,Int.toNat_natCast,row_at hx,decide_eq_false h2]
  exact ⟨rfl,rfl,rfl⟩
/-- A port of an accepted configuration. -/
theorem port_of {c:Cfg} {port:Int} (h:portB c port = true):acceptsB c = true ∧ ∃ k:Nat,k < c.chans.length ∧ (port = 2 * (k:Int) ∨ port = 2 * (k:Int) + 1):=by
  unfold portB at h
  rw [Bool.and_eq_true,decide_eq_true_eq] at h
  obtain ⟨h1,h2,h3⟩:=h
  exact ⟨h1,(port / 2).toNat,by omega,by omega⟩
end Go.Proofs.YtjfolhkblbakiaaGreatDoor
