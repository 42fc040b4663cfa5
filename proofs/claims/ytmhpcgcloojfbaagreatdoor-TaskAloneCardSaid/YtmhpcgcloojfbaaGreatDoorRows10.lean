/- What is refused, by the rows, in plain numbers. No condition. -/
import Derived.Test.YtmhpcgcloojfbaaGreatDoorRPriv10
namespace Go.Proofs.YtmhpcgcloojfbaaGreatDoor
open Go.RowKit Go.Sort
set_option linter.unusedVariables false
set_option linter.unusedSimpArgs false

/-- Is the op one that this kind of channel, or this side of it, doesn't know? -/
def modeB (kind : Int) (src : Bool) (op : Int) : Bool := (decide (op = 3) && (decide (kind ≠ 1) || !src)) || (decide (op = 4) && (decide (kind ≠ 1) || src)) || (decide (op = 5) && (decide (kind ≠ 2) || !src)) || (decide (op = 6) && (decide (kind ≠ 2) || src))
/-- Behind the rows that ask for the port and for normal work. -/
def talkT (kind : Int) (src : Bool) (words op : Int) (n : Nat) : Int :=
  if modeB kind src op = true then 5 else if (op = 3 ∨ op = 5) ∧ n = 0 then 3 else if (op = 3 ∨ op = 5) ∧ words < (n : Int) then 4 else 0
def hasB (c : Cfg) (sp : Int) (made : List Int) (port : Int) : Bool := portB c port && (decide (portP c port = sp) && madeB made port)
def talkN (c : Cfg) (sp : Int) (sn : Bool) (made : List Int) (op port : Int) (n : Nat) : Int :=
  if hasB c sp made port = false then 3 else if sn = false then 5 else talkT (fld (row c.chans (portK c port).toNat) 0) (portS c port) (fld (row c.chans (portK c port).toNat) 3) op n
/-- The code of the first row that holds; 0: none does. -/
def refusedN (c : Cfg) (sp : Int) (sn : Bool) (made : List Int) (op port ad : Int) (n : Nat) : Int :=
  if acceptsB c = false ∨ sp < 0 ∨ (c.parts.length : Int) ≤ sp then 4
  else if op = 1 then (if portB c port = false ∨ portP c port ≠ sp then 4 else if madeB made port = true then 1 else if sn = true then 5 else 0)
  else if op = 2 then (if sn = true then 5 else 0)
  else if 3 ≤ op ∧ op ≤ 7 then talkN c sp sn made op port n
  else if op = 8 ∨ op = 9 then (if op = 9 ∧ n ≠ 1 then 3 else if privB c sp ad = false then 6 else 0)
  else 3
def refT (c : Cfg) (sp : Int) (sn : Bool) (made : List Int) (op port ad : Int) (n : Nat) : Int :=
  if op = 1 then (if portB c port = false ∨ portP c port ≠ sp then 4 else if madeB made port = true then 1 else if sn = true then 5 else 0)
  else if op = 2 then (if sn = true then 5 else 0)
  else if 3 ≤ op ∧ op ≤ 7 then talkN c sp sn made op port n
  else if op = 8 ∨ op = 9 then (if op = 9 ∧ n ≠ 1 then 3 else if privB c sp ad = false then 6 else 0)
  else 3
theorem refused_out {c : Cfg} {sp : Int} {sn : Bool} {made : List Int} {op port ad : Int} {n : Nat} (h : acceptsB c = false ∨ sp < 0 ∨ (c.parts.length : Int) ≤ sp) : refusedN c sp sn made op port ad n = 4 := by unfold refusedN; rw [if_pos h]
theorem refused_on {c : Cfg} {sp : Int} {sn : Bool} {made : List Int} {op port ad : Int} {n : Nat} (h1 : acceptsB c = true) (h2 : ¬ sp < 0) (h3 : ¬ (c.parts.length : Int) ≤ sp) : refusedN c sp sn made op port ad n = refT c sp sn made op port ad n := by
  unfold refusedN
  rw [if_neg (by rw [h1]; exact fun h => h.elim (fun e => by cases e) (fun h => h.elim h2 h3))]
  rfl
theorem talk_no {c : Cfg} {sp : Int} {sn : Bool} {made : List Int} {op port : Int} {n : Nat} (h : hasB c sp made port = false) : talkN c sp sn made op port n = 3 := by unfold talkN; rw [if_pos h]
theorem talk_mode {c : Cfg} {sp : Int} {made : List Int} {op port : Int} {n : Nat} (h : hasB c sp made port = true) : talkN c sp false made op port n = 5 := by unfold talkN; rw [if_neg (by rw [h]; decide), if_pos rfl]
theorem talk_on {c : Cfg} {sp : Int} {made : List Int} {op port : Int} {n k : Nat} {x0 x1 x2 x3 x4 x5 x6 : Int} (h : hasB c sp made port = true) (hk : portK c port = (k : Int)) (hx : c.chans[k]? = some [x0, x1, x2, x3, x4, x5, x6]) :
    talkN c sp true made op port n = talkT x0 (portS c port) x3 op n := by
  unfold talkN
  rw [if_neg (by rw [h]; decide), if_neg (by decide), hk, Int.toNat_natCast, row_at hx]
  rfl
theorem portK_of {c : Cfg} {port : Int} (h : portB c port = true) : ∃ k : Nat, k < c.chans.length ∧ portK c port = (k : Int) := by
  obtain ⟨_, k, hk, h1⟩ := port_of h
  refine ⟨k, hk, ?_⟩
  unfold portK
  rw [if_pos h]
  omega
end Go.Proofs.YtmhpcgcloojfbaaGreatDoor
