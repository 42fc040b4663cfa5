/- Texts of the ring, joined, what is used of them. No condition but those in the statements. -/
import Derived.BigQuiet
import Derived.BigRegion
import Derived.Deep.MidRow
import Derived.Deep.RegionHeld3
import Derived.Deep.Upon
import Derived.IntWalk
import Derived.Test.YtjfolhkblbakiaaGreatDoorQRCt
import Derived.Test.YtjfolhkblbakiaaGreatDoorQRSn
import Derived.Test.YtjfolhkblbakiaaGreatDoorQTA
import Derived.Test.YtjfolhkblbakiaaGreatDoorQTPu
import Derived.Test.YtjfolhkblbakiaaGreatDoorQgF
import Derived.Test.YtjfolhkblbakiaaGreatDoorQgO
import Derived.Test.YtjfolhkblbakiaaGreatDoorQgU
section
namespace Go.Proofs.YtjfolhkblbakiaaGreatDoor
open Go.RowKit Go.Sort
set_option linter.unusedVariables false
set_option linter.unusedSimpArgs false
set_option linter.unusedVariables false
set_option linter.unusedSimpArgs false
open Go.Proofs.YtjfolhkblbakiaaGreatDoor.Simp
/-- A call's work that is under way: a write,a read,a send,a receive,a count,a peek,a poke. -/
inductive Wk where
  | w (F:Fr) (s:FS) (own:Int)
  | r (F:Fr) (s:FS) (own:Int)
  | s (F:Qr) (be:Nat) (q:QS)
  | g (F:Qr) (be:Nat) (q:QS)
  | c (F:Qr) (be:Nat) (own:Int) (src:Bool) (no:Int)
  | p (own a:Int)
  | o (own a v:Int)
def Wk.own:Wk → Int
  | .w _ _ n => n
  | .r _ _ n => n
  | .s _ _ q => q.own
  | .g _ _ q => q.own
  | .c _ _ n _ _ => n
  | .p n _ => n
  | .o n _ _ => n
/-- Such work lies so: the value v of type T,and what it points to,in the blocks S. -/
def WkAt (w:World) (S:Nat → Prop) (T:TypeId) (v:Value):Wk → Prop
  | .w F s own => ∃ b,T = 156 ∧ v = .agg #[.int .u32 own,.iface 151 (.pointer (some ⟨b,0,none⟩))] ∧ WAt w S b F s
  | .r F s own => ∃ b,T = 156 ∧ v = .agg #[.int .u32 own,.iface 157 (.pointer (some ⟨b,0,none⟩))] ∧ RAt w S b F s
  | .s F be q => ∃ b,T = 162 ∧ v = .agg #[.pointer (some ⟨b,0,none⟩)] ∧ SAt w S b F be q
  | .g F be q => ∃ b,T = 162 ∧ v = .agg #[.pointer (some ⟨b,0,none⟩)] ∧ GAt w S b F be q
  | .c F be own src no => ∃ b,T = 162 ∧ v = .agg #[.pointer (some ⟨b,0,none⟩)] ∧ CAt w S b F be own src no
  | .p own a => T = 166 ∧ v = .agg #[.int .u32 own,.int .u64 a] ∧ ∀ k,¬ S k
  | .o own a z => T = 168 ∧ v = .agg #[.int .u32 own,.int .u64 a,.int .u32 z] ∧ ∀ k,¬ S k
theorem WkAt.only {w w':World} {S U:Nat → Prop} {T:TypeId} {v:Value} {K:Wk} (h:WkAt w S T v K) (ho:Only U w w') (hT:∀ k,S k → ¬ U k):WkAt w' S T v K:=by
  cases K with
  | w F s own => obtain ⟨b,h1,h2,h3⟩:=h;exact ⟨b,h1,h2,h3.only ho hT⟩
  | r F s own => obtain ⟨b,h1,h2,h3⟩:=h;exact ⟨b,h1,h2,h3.only ho hT⟩
  | s F be q => obtain ⟨b,h1,h2,h3⟩:=h;exact ⟨b,h1,h2,h3.only ho hT⟩
  | g F be q => obtain ⟨b,h1,h2,h3⟩:=h;exact ⟨b,h1,h2,h3.only ho hT⟩
  | c F be own src no => obtain ⟨b,h1,h2,h3⟩:=h;exact ⟨b,h1,h2,h3.only ho hT⟩
  | p own a => exact h
  | o own a z => exact h
def frN (c:Cfg) (k:Nat):Fr:=⟨(beforeN c k).toNat,(beforeN c k + srcN (row c.chans k)).toNat,(fld (row c.chans k) 3).toNat,fld (row c.chans k) 5⟩
/-- The work that a request that goes on begins with;k: its port's channel. -/
def wk0 (c:Cfg) (op port ad own:Int) (ds:List Int):Wk:=
  if op = 3 then .w (frN c (portK c port).toNat) (Simp.start ds) own
  else if op = 4 then .r (frN c (portK c port).toNat) (Simp.start []) own
  else if op = 5 then .s (qrOfN c (portK c port).toNat) (2 * (portK c port).toNat + 1) (startQ ds own)
  else if op = 6 then .g (qrOfN c (portK c port).toNat) (2 * (portK c port).toNat + 1) (startQ [] own)
  else if op = 7 then .c (qrOfN c (portK c port).toNat) (2 * (portK c port).toNat + 1) own (portS c port) 0
  else if op = 8 then .p own ad
  else .o own ad (ds.getD 0 0)
/-- What further answers. -/
def GivesWk (w:World) (K:Wk) (e:Ending) (w':World):Prop:=∃ S T v,e = .returned (.iface T v) ∧ WkAt w' S T v K ∧ (∀ k,S k → w.heap.size ≤ k) ∧ Below w.heap.size w w'
end Go.Proofs.YtjfolhkblbakiaaGreatDoor
end
section
namespace Go.Proofs.YtjfolhkblbakiaaGreatDoor
open Go.RowKit Go.Sort
set_option linter.unusedVariables false
set_option linter.unusedSimpArgs false
set_option linter.unusedVariables false
set_option linter.unusedSimpArgs false
open Go.Proofs.YtjfolhkblbakiaaGreatDoor.Simp
theorem per13_of {c:Cfg} (h:acceptsB c = true) (k:Nat) (hk:k < c.chans.length) (h1:fld (row c.chans k) 0 = 1):0 ≤ fld (row c.chans k) 5 ∧ fld (row c.chans k) 5 ≤ 1048576:=by
  have hn:allB c 17 = []:=of_decide_eq_true h
  have b:=allB_nil hn (k:=10) (by omega) (by omega)
  have c10:chanBad c.parts.length 10 (row c.chans k) = false:=by
    unfold holdsB at b
    rw [if_neg (by omega),if_neg (by omega),if_neg (by omega),if_pos ⟨by omega,by omega⟩] at b
    exact scan_false.1 b k hk
  have q:=of_decide_eq_false (show decide ((fld (row c.chans k) 0 = 1 ∧ (fld (row c.chans k) 5 < 0 ∨ 1048576 < fld (row c.chans k) 5)) ∨ (fld (row c.chans k) 0 = 2 ∧ fld (row c.chans k) 5 ≠ 0)) = false from c10)
  omega
theorem req_range {c:Cfg} {sp:Int} {sn:Bool} {made:List Int} {op port ad:Int} {n:Nat} (h:refusedN c sp sn made op port ad n = 0):1 ≤ op ∧ op ≤ 9:=by
  by_cases hr:1 ≤ op ∧ op ≤ 9
  · exact hr
  · exfalso
    unfold refusedN at h
    split at h
    · cases h
    · rw [if_neg (by omega),if_neg (by omega),if_neg (by omega),if_neg (by omega)] at h
      cases h
theorem req_chan {c:Cfg} {sp:Int} {sn:Bool} {made:List Int} {op port ad:Int} {n:Nat} (h:refusedN c sp sn made op port ad n = 0) (h1:3 ≤ op) (h2:op ≤ 7) :
    acceptsB c = true ∧ ∃ k:Nat,k < c.chans.length ∧ portK c port = (k:Int) ∧ talkT (fld (row c.chans k) 0) (portS c port) (fld (row c.chans k) 3) op n = 0:=by
  obtain ⟨ha,hb,ht⟩:=req_talk h h1 h2
  obtain ⟨k,hk,hkK⟩:=portK_of hb
  exact ⟨ha,k,hk,hkK,by rw [hkK,Int.toNat_natCast] at ht;exact ht⟩
theorem talk_facts {kind words op:Int} {src:Bool} {n:Nat} (h:talkT kind src words op n = 0) :
    (op = 3 → kind = 1 ∧ src = true ∧ 1 ≤ n ∧ (n:Int) ≤ words) ∧ (op = 4 → kind = 1 ∧ src = false) ∧ (op = 5 → kind = 2 ∧ src = true ∧ 1 ≤ n ∧ (n:Int) ≤ words) ∧ (op = 6 → kind = 2 ∧ src = false):=by
  unfold talkT at h
  split at h
  · cases h
  · rename_i h1
    have hw:(op = 3 ∨ op = 5) → 1 ≤ n ∧ (n:Int) ≤ words:=fun ho => by
      split at h
      · cases h
      · rename_i h2
        split at h
        · cases h
        · rename_i h3
          exact ⟨Nat.pos_of_ne_zero (fun e => h2 ⟨ho,e⟩),by
            by_cases hw:words < (n:Int)
            · exact absurd ⟨ho,hw⟩ h3
            · omega⟩
    refine ⟨fun e => ?_,fun e => ?_,fun e => ?_,fun e => ?_⟩ <;> subst e <;> cases src <;> simp [modeB] at h1 <;> simp [h1] <;> omega
theorem req_poke {c:Cfg} {sp:Int} {sn:Bool} {made:List Int} {op port ad:Int} {n:Nat} (h:refusedN c sp sn made 9 port ad n = 0):n = 1:=by
  unfold refusedN at h
  split at h
  · cases h
  · rw [if_neg (by decide),if_neg (by decide),if_neg (by decide),if_pos (.inr rfl)] at h
    split at h
    · cases h
    · rename_i h1
      by_cases hn:n = 1
      · exact hn
      · exact absurd ⟨rfl,hn⟩ h1
/-- What a request is answered with as it begins: the code,and whether it is valid;or none. -/
def onceN (c:Cfg) (sp:Int) (sn:Bool) (made valid:List Int) (op port ad:Int) (n:Nat):Option (Int × Bool):=
  if refusedN c sp sn made op port ad n ≠ 0 then some (refusedN c sp sn made op port ad n,false)
  else if op = 1 ∨ op = 2 then some (0,false)
  else if op = 7 ∧ fld (row c.chans (portK c port).toNat) 0 = 1 then some (0,madeB valid port) else none
theorem once_some {c:Cfg} {sp:Int} {sn:Bool} {made:List Int} {op port ad:Int} {n:Nat} {valid:List Int} {z:Int} {mv:Bool} (h:onceN c sp sn made valid op port ad n = some (z,mv)) :
    (z ≠ 0 ∧ mv = false ∧ refusedN c sp sn made op port ad n = z) ∨ (z = 0 ∧ refusedN c sp sn made op port ad n = 0 ∧ ((mv = false ∧ (op = 1 ∨ op = 2)) ∨ (op = 7 ∧ fld (row c.chans (portK c port).toNat) 0 = 1 ∧ madeB valid port = mv))):=by
  unfold onceN at h
  split at h
  · rename_i h0
    injection h with h
    injection h with h1 h2
    exact .inl ⟨by rw [← h1];exact h0,h2.symm,h1⟩
  · rename_i h0
    have h0:refusedN c sp sn made op port ad n = 0:=Decidable.not_not.1 h0
    split at h
    · rename_i h3
      injection h with h
      injection h with h1 h2
      exact .inr ⟨h1.symm,h0,.inl ⟨h2.symm,h3⟩⟩
    · split at h
      · rename_i h4
        injection h with h
        injection h with h1 h2
        exact .inr ⟨h1.symm,h0,.inr ⟨h4.1,h4.2,h2⟩⟩
      · cases h
theorem once_none {c:Cfg} {sp:Int} {sn:Bool} {made:List Int} {op port ad:Int} {n:Nat} {valid:List Int} (h:onceN c sp sn made valid op port ad n = none) :
    refusedN c sp sn made op port ad n = 0 ∧ 3 ≤ op ∧ op ≤ 9 ∧ (op = 7 → fld (row c.chans (portK c port).toNat) 0 ≠ 1):=by
  unfold onceN at h
  split at h
  · cases h
  · rename_i h0
    have h0:refusedN c sp sn made op port ad n = 0:=Decidable.not_not.1 h0
    split at h
    · cases h
    · rename_i h3
      split at h
      · cases h
      · rename_i h4
        have hr:=req_range h0
        exact ⟨h0,by omega,hr.2,fun e hk => h4 ⟨e,hk⟩⟩
/-- What a call that goes on has: of a channel's port its channel's kind,and where its words stand. -/
theorem req_goes {c:Cfg} {sp:Int} {sn:Bool} {made:List Int} {op port ad:Int} {n:Nat} {valid:List Int} (h:onceN c sp sn made valid op port ad n = none) (h7:op ≤ 7) :
    acceptsB c = true ∧ ∃ k:Nat,k < c.chans.length ∧ portK c port = (k:Int) ∧ ((op = 3 ∨ op = 4) → fld (row c.chans k) 0 = 1 ∧ FrOf c k (frN c k)) ∧ ((op = 5 ∨ op = 6 ∨ op = 7) → fld (row c.chans k) 0 = 2 ∧ QrOf c k (qrOfN c k)) ∧
      (op = 3 → 1 ≤ n ∧ n ≤ (frN c k).n) ∧ (op = 5 → 1 ≤ n ∧ n ≤ (qrOfN c k).n):=by
  obtain ⟨h0,h3,h9,hs⟩:=once_none h
  obtain ⟨ha,k,hk,hkK,ht⟩:=req_chan h0 h3 h7
  obtain ⟨t3,t4,t5,t6⟩:=talk_facts ht
  have hkind:=((accd_of ha).chan k hk).1
  rw [hkK,Int.toNat_natCast] at hs
  have hf:(op = 3 ∨ op = 4) → fld (row c.chans k) 0 = 1:=fun e => e.elim (fun e => (t3 e).1) (fun e => (t4 e).1)
  have hq:(op = 5 ∨ op = 6 ∨ op = 7) → fld (row c.chans k) 0 = 2:=fun e => by
    rcases e with e | e | e
    · exact (t5 e).1
    · exact (t6 e).1
    · exact hkind.resolve_left (hs e)
  refine ⟨ha,k,hk,hkK,fun e => ⟨hf e,frOf ha k hk (hf e) (per13_of ha k hk (hf e))⟩,fun e => ⟨hq e,qrOf ha k hk (hq e)⟩,fun e => ?_,fun e => ?_⟩
  · have hw:=(frOf ha k hk (hf (.inl e)) (per13_of ha k hk (hf (.inl e)))).words
    have:=(t3 e).2.2
    exact ⟨this.1,by show n ≤ (frN c k).n;have hw:fld (row c.chans k) 3 = ((frN c k).n:Int):=hw;omega⟩
  · have hw:=(qrOf ha k hk (hq (.inl e))).words
    have:=(t5 e).2.2
    exact ⟨this.1,by omega⟩
theorem WkAt.low {w:World} {S:Nat → Prop} {T:TypeId} {v:Value} {K:Wk} (h:WkAt w S T v K):∀ k,S k → k < w.heap.size:=by
  cases K with
  | w F s own => obtain ⟨b,_,_,_,_,_,_,h⟩:=h;exact h.low
  | r F s own => obtain ⟨b,_,_,_,_,h⟩:=h;exact h.low
  | s F be q => obtain ⟨b,_,_,_,_,_,_,h⟩:=h;exact h.low
  | g F be q => obtain ⟨b,_,_,_,_,_,_,h⟩:=h;exact h.low
  | c F be own src no => obtain ⟨b,_,_,_,_,_,_,h1,h2,h3,h4,h5,h6⟩:=h;exact h5
  | p own a => exact fun k hk => absurd hk (h.2.2 k)
  | o own a z => exact fun k hk => absurd hk (h.2.2 k)
end Go.Proofs.YtjfolhkblbakiaaGreatDoor
end
