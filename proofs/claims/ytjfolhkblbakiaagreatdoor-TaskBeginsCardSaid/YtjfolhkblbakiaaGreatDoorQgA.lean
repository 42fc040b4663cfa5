/- Texts of the ring, joined, what is used of them. No condition but those in the statements. -/
import Init
section
namespace Go.Proofs.YtjfolhkblbakiaaGreatDoor.Simp
set_option linter.unusedVariables false
/-- The words of a sampling channel: where its source's begin,where its destination's one lies,how many words a message has at most,its period. -/
structure Fr where
  src:Nat
  dst:Nat
  n:Nat
  per:Int
def bufA (F:Fr) (p i:Nat):Nat:=F.src + 3 + (2 * p + i) * (F.n + 2)
def oddN (x:Int):Nat:=(x % 2).toNat
def rd (m:List Int) (a:Nat):Int:=m.getD a 0
/-- Where a write,or a read,stands: how many steps were done (below 0: it is answered). -/
structure FS where
  data:List Int
  no:Int
  pair:Nat
  index:Nat
  len:Int
  stamp:Int
  marked:Bool
def start (data:List Int):FS:=⟨data,0,0,0,0,0,false⟩
def lenOf (F:Fr) (x:Int):Int:=if x ≤ F.n then x else F.n
theorem buf_in (F:Fr) {p i:Nat} (hp:p ≤ 1) (hi:i ≤ 1):F.src + 3 ≤ bufA F p i ∧ bufA F p i + (F.n + 2) ≤ F.src + 3 + 4 * (F.n + 2):=by
  unfold bufA
  have h:=Nat.mul_le_mul_right (F.n + 2) (show 2 * p + i ≤ 3 by omega)
  omega
/-- Two partitions,one sampling channel of n words: where its words lie. -/
def fr2 (n:Nat) (per:Int):Fr:=⟨1,12 + 4 * n,n,per⟩
def SS (m:List Int) (p:Nat):Nat:=oddN (rd m (2 + p))
def bf (N p i:Nat):Nat:=bufA (fr2 N 0) p i
end Go.Proofs.YtjfolhkblbakiaaGreatDoor.Simp
namespace Go.Proofs.YtjfolhkblbakiaaGreatDoor.Simp
set_option linter.unusedVariables false
set_option linter.unusedSimpArgs false
/-- A writer that writes message n as words n,over and over,and a reader. -/
structure Pl where
  m:List Int
  w:Option FS
  r:Option FS
  n:Int
  written:Int
  marked:Int
  begun:Int
  first:Int
  last:Int
  steps:Int
  own:Int
end Go.Proofs.YtjfolhkblbakiaaGreatDoor.Simp
end
section
namespace Go.Proofs.YtjfolhkblbakiaaGreatDoor.Simp
set_option linter.unusedVariables false
set_option linter.unusedSimpArgs false
/-- A queue's words: where its tail lies (the cells behind it),where its head,words of a message,cells. -/
structure Qr where
  src:Nat
  dst:Nat
  n:Nat
  d:Nat
def cellQ (F:Qr) (x:Int):Nat:=F.src + 1 + (x % (F.d:Int)).toNat * (F.n + 1)
structure QS where
  data:List Int
  no:Int
  own:Int
  len:Int
/-- Number k's,from boot on,modulo 2^32. -/
def num (boot k:Int):Int:=(boot + k) % 4294967296
end Go.Proofs.YtjfolhkblbakiaaGreatDoor.Simp
end
section
namespace Go.Proofs.YtjfolhkblbakiaaGreatDoor.Simp
set_option linter.unusedVariables false
set_option linter.unusedSimpArgs false
def startQ (data:List Int) (own:Int):QS:=⟨data,0,own,0⟩
end Go.Proofs.YtjfolhkblbakiaaGreatDoor.Simp
end
