/- Texts of the ring, joined, what is used of them. No condition but those in the statements. -/
import Init
section
namespace Go.Proofs.YtmhpcgcloojfbaaGreat.Simp
set_option linter.unusedVariables false
/-- The words of a sampling channel: where its source's begin,where its destination's one lies,how many words a message has at most,its period. -/
structure Fr where
  src:Nat
  dst:Nat
  n:Nat
  per:Int
def bufA (F:Fr) (p i:Nat):Nat:=F.src + 3 + (2 * p + i) * (F.n + 2)
def oddN (x:Int):Nat:=(x % 2).toNat
def rd (m:List Int) (a:Nat):Int:=m.getD a 0
structure Did where
  done:Bool
  mark:Bool
  stamped:Bool
  code:Int
  data:List Int
  valid:Bool
  buffer:Int
def did0:Did:=⟨false,false,false,0,[],false,0⟩
/-- Where a write,or a read,stands: how many steps were done (below 0: it is answered). -/
structure FS where
  data:List Int
  no:Int
  pair:Nat
  index:Nat
  len:Int
  stamp:Int
  marked:Bool
def start (data:List Int):FS:=⟨data,0,0,0,0,0,false⟩
def bufOf (F:Fr) (s:FS):Nat:=bufA F s.pair s.index
def wstep (F:Fr) (s:FS) (m:List Int) (now:Int):FS × List Int × Did:=
  if s.no < 0 then (s,m,did0)
  else if s.no = 0 then ({ s with no:=1,pair:=1 - oddN (rd m F.dst) },m,did0)
  else if s.no = 1 then ({ s with no:=2,index:=1 - oddN (rd m (F.src + 1 + s.pair)) },m,did0)
  else if s.no = 2 then ({ s with no:=3 },m.set (bufOf F s) s.data.length,{ did0 with buffer:=1 + 2 * s.pair + s.index })
  else if s.no = 3 then ({ s with no:=4 },m.set (bufOf F s + 1) (now % 4294967296),{ did0 with stamped:=true })
  else if s.no < 4 + s.data.length then ({ s with no:=s.no + 1 },m.set (bufOf F s + (s.no - 2).toNat) (s.data.getD (s.no - 4).toNat 0),did0)
  else if s.no = 4 + s.data.length then
    ({ s with no:=s.no + 1,marked:=decide (oddN (rd m F.src) = s.pair) },m.set (F.src + 1 + s.pair) s.index,{ did0 with mark:=decide (oddN (rd m F.src) = s.pair) })
  else ({ s with no:=-1 },m.set F.src s.pair,{ did0 with done:=true,mark:=!s.marked })
def lenOf (F:Fr) (x:Int):Int:=if x ≤ F.n then x else F.n
theorem rd_set (m:List Int) (a b:Nat) (v:Int):rd (m.set a v) b = if a = b ∧ a < m.length then v else rd m b:=by
  unfold rd
  rw [List.getD_eq_getElem?_getD,List.getD_eq_getElem?_getD,List.getElem?_set]
  by_cases h:a = b
  · subst h
    by_cases h2:a < m.length
    · simp [h2]
    · simp [h2]
  · simp [h]
/-- Two partitions,one sampling channel of n words: where its words lie. -/
def fr2 (n:Nat) (per:Int):Fr:=⟨1,12 + 4 * n,n,per⟩
def bf (N p i:Nat):Nat:=bufA (fr2 N 0) p i
end Go.Proofs.YtmhpcgcloojfbaaGreat.Simp
namespace Go.Proofs.YtmhpcgcloojfbaaGreat.Simp
set_option linter.unusedVariables false
set_option linter.unusedSimpArgs false
/-- A writer that writes message n as words n,over and over,and a reader. -/
structure Pl where
  m:List Int
  w:Option FS
  r:Option FS
  n:Int
  written:Int
  marked:Int
  begun:Int
  first:Int
  last:Int
  steps:Int
  own:Int
section
variable {F:Fr} {s:FS} {m:List Int} {now:Int}
theorem ws2 (h:s.no = 2):wstep F s m now = ({ s with no:=3 },m.set (bufOf F s) s.data.length,{ did0 with buffer:=1 + 2 * s.pair + s.index }):=by
  unfold wstep;rw [if_neg (by omega),if_neg (by omega),if_neg (by omega),if_pos h]
theorem ws3 (h:s.no = 3):wstep F s m now = ({ s with no:=4 },m.set (bufOf F s + 1) (now % 4294967296),{ did0 with stamped:=true }):=by
  unfold wstep;rw [if_neg (by omega),if_neg (by omega),if_neg (by omega),if_neg (by omega),if_pos h]
theorem ws4 {k:Nat} (h:s.no = 4 + (k:Int)) (hk:k < s.data.length):wstep F s m now = ({ s with no:=5 + (k:Int) },m.set (bufOf F s + 2 + k) (s.data.getD k 0),did0):=by
  unfold wstep;rw [if_neg (by omega),if_neg (by omega),if_neg (by omega),if_neg (by omega),if_neg (by omega),if_pos (by omega)]
  rw [show bufOf F s + (s.no - 2).toNat = bufOf F s + 2 + k by omega,show (s.no - 4).toNat = k by omega,show s.no + 1 = 5 + (k:Int) by omega]
end
end Go.Proofs.YtmhpcgcloojfbaaGreat.Simp
namespace Go.Proofs.YtmhpcgcloojfbaaGreat.Simp
set_option linter.unusedVariables false
set_option linter.unusedSimpArgs false
/-- Every word is one of 32 bits. -/
def W32 (m:List Int):Prop:=∀ a,0 ≤ rd m a ∧ rd m a ≤ 4294967295
theorem W32.set {m:List Int} (h:W32 m) {a:Nat} {v:Int} (hv:0 ≤ v ∧ v ≤ 4294967295):W32 (m.set a v):=fun b => by
  rw [rd_set]
  split
  · exact hv
  · exact h b
theorem w32_zero (n:Nat):W32 (List.replicate n 0):=fun a => by
  unfold rd
  rw [List.getD_eq_getElem?_getD,List.getElem?_replicate]
  split <;> exact ⟨by decide,by decide⟩
theorem w32_mem {m:List Int} (h:W32 m) {x:Int} (hx:x ∈ m):0 ≤ x ∧ x ≤ 4294967295:=by
  obtain ⟨i,hi⟩:=List.mem_iff_getElem?.1 hx
  have:=h i
  unfold rd at this
  rwa [List.getD_eq_getElem?_getD,hi] at this
theorem w32_of {m:List Int} (h:∀ x ∈ m,0 ≤ x ∧ x ≤ 4294967295):W32 m:=fun a => by
  unfold rd
  rw [List.getD_eq_getElem?_getD]
  cases e:m[a]? with
  | none => exact ⟨by decide,by decide⟩
  | some x => exact h x (List.mem_of_getElem? e)
theorem W32.app {l:List Int} (h:W32 l) {x:Int} (hx:0 ≤ x ∧ x ≤ 4294967295):W32 (l ++ [x]):=w32_of fun y hy => by
  rcases List.mem_append.1 hy with z | z
  · exact w32_mem h z
  · simp at z;subst z;exact hx
end Go.Proofs.YtmhpcgcloojfbaaGreat.Simp
end
section
namespace Go.Proofs.YtmhpcgcloojfbaaGreat.Simp
set_option linter.unusedVariables false
set_option linter.unusedSimpArgs false
/-- A queue's words: where its tail lies (the cells behind it),where its head,words of a message,cells. -/
structure Qr where
  src:Nat
  dst:Nat
  n:Nat
  d:Nat
def cellQ (F:Qr) (x:Int):Nat:=F.src + 1 + (x % (F.d:Int)).toNat * (F.n + 1)
structure QD where
  done:Bool
  mark:Bool
  ring:Bool
  code:Int
  data:List Int
def qd0:QD:=⟨false,false,false,0,[]⟩
structure QS where
  data:List Int
  no:Int
  own:Int
  len:Int
def inc32 (x:Int):Int:=(x + 1) % 4294967296
def qsend (F:Qr) (s:QS) (m:List Int):QS × List Int × QD:=
  if s.no < 0 then (s,m,qd0)
  else if s.no = 0 then
    if (F.d:Int) ≤ (s.own - rd m F.dst) % 4294967296 then ({ s with no:=-1 },m,{ qd0 with done:=true,mark:=true,code:=2 }) else ({ s with no:=1 },m,qd0)
  else if s.no = 1 then ({ s with no:=2 },m.set (cellQ F s.own) s.data.length,qd0)
  else if s.no < 2 + s.data.length then ({ s with no:=s.no + 1 },m.set (cellQ F s.own + (s.no - 1).toNat) (s.data.getD (s.no - 2).toNat 0),qd0)
  else if s.no = 2 + s.data.length then ({ s with no:=s.no + 1,own:=inc32 s.own },m.set F.src (inc32 s.own),{ qd0 with mark:=true })
  else ({ s with no:=-1 },m,{ qd0 with done:=true,ring:=true })
def lenQ (F:Qr) (x:Int):Int:=if x ≤ F.n then x else F.n
def qrecv (F:Qr) (s:QS) (m:List Int):QS × List Int × QD:=
  if s.no < 0 then (s,m,qd0)
  else if s.no = 0 then
    if rd m F.src = s.own then ({ s with no:=-1 },m,{ qd0 with done:=true,mark:=true,code:=2 }) else ({ s with no:=1 },m,qd0)
  else if s.no = 1 then ({ s with no:=2,len:=lenQ F (rd m (cellQ F s.own)) },m,qd0)
  else if (s.data.length:Int) < s.len then ({ s with no:=s.no + 1,data:=s.data ++ [rd m (cellQ F s.own + 1 + s.data.length)] },m,qd0)
  else ({ s with no:=-1,own:=inc32 s.own },m.set F.dst (inc32 s.own),{ qd0 with done:=true,mark:=true,data:=s.data })
/-- Two partitions,one queue: where its words lie. -/
def qr2 (N D:Nat):Qr:=⟨1,2 + D * (N + 1),N,D⟩
/-- Number k's,from boot on,modulo 2^32. -/
def num (boot k:Int):Int:=(boot + k) % 4294967296
end Go.Proofs.YtmhpcgcloojfbaaGreat.Simp
end
section
namespace Go.Proofs.YtmhpcgcloojfbaaGreat.Simp
set_option linter.unusedVariables false
set_option linter.unusedSimpArgs false
/-- A sender that sends message n as words n,over and over,and a receiver. -/
structure Ql where
  m:List Int
  bell:Bool
  s:Option QS
  r:Option QS
  tail:Int
  head:Int
  sent:Int
  got:Int
  n:Int
  steps:Int
  own:Int
def startQ (data:List Int) (own:Int):QS:=⟨data,0,own,0⟩
section
variable {F:Qr} {s:QS} {m:List Int}
theorem qs0 (h:s.no = 0) (hf:¬ (F.d:Int) ≤ (s.own - rd m F.dst) % 4294967296):qsend F s m = ({ s with no:=1 },m,qd0):=by unfold qsend;rw [if_neg (by omega),if_pos h,if_neg hf]
theorem qs0f (h:s.no = 0) (hf:(F.d:Int) ≤ (s.own - rd m F.dst) % 4294967296):qsend F s m = ({ s with no:=-1 },m,{ qd0 with done:=true,mark:=true,code:=2 }):=by unfold qsend;rw [if_neg (by omega),if_pos h,if_pos hf]
theorem qs1 (h:s.no = 1):qsend F s m = ({ s with no:=2 },m.set (cellQ F s.own) s.data.length,qd0):=by unfold qsend;rw [if_neg (by omega),if_neg (by omega),if_pos h]
theorem qs2 {k:Nat} (h:s.no = 2 + (k:Int)) (hk:k < s.data.length):qsend F s m = ({ s with no:=3 + (k:Int) },m.set (cellQ F s.own + 1 + k) (s.data.getD k 0),qd0):=by
  unfold qsend;rw [if_neg (by omega),if_neg (by omega),if_neg (by omega),if_pos (by omega),show cellQ F s.own + (s.no - 1).toNat = cellQ F s.own + 1 + k by omega,show (s.no - 2).toNat = k by omega,show s.no + 1 = 3 + (k:Int) by omega]
theorem qs3 (h:s.no = 2 + (s.data.length:Int)):qsend F s m = ({ s with no:=3 + (s.data.length:Int),own:=inc32 s.own },m.set F.src (inc32 s.own),{ qd0 with mark:=true }):=by
  unfold qsend;rw [if_neg (by omega),if_neg (by omega),if_neg (by omega),if_neg (by omega),if_pos h,show s.no + 1 = 3 + (s.data.length:Int) by omega]
theorem qs4 (h:s.no = 3 + (s.data.length:Int)):qsend F s m = ({ s with no:=-1 },m,{ qd0 with done:=true,ring:=true }):=by
  unfold qsend;rw [if_neg (by omega),if_neg (by omega),if_neg (by omega),if_neg (by omega),if_neg (by omega)]
theorem qr0 (h:s.no = 0) (hf:rd m F.src ≠ s.own):qrecv F s m = ({ s with no:=1 },m,qd0):=by unfold qrecv;rw [if_neg (by omega),if_pos h,if_neg hf]
theorem qr0f (h:s.no = 0) (hf:rd m F.src = s.own):qrecv F s m = ({ s with no:=-1 },m,{ qd0 with done:=true,mark:=true,code:=2 }):=by unfold qrecv;rw [if_neg (by omega),if_pos h,if_pos hf]
theorem qr1 (h:s.no = 1):qrecv F s m = ({ s with no:=2,len:=lenQ F (rd m (cellQ F s.own)) },m,qd0):=by unfold qrecv;rw [if_neg (by omega),if_neg (by omega),if_pos h]
theorem qr2s (h:2 ≤ s.no) (hl:(s.data.length:Int) < s.len):qrecv F s m = ({ s with no:=s.no + 1,data:=s.data ++ [rd m (cellQ F s.own + 1 + s.data.length)] },m,qd0):=by
  unfold qrecv;rw [if_neg (by omega),if_neg (by omega),if_neg (by omega),if_pos hl]
theorem qr3 (h:2 ≤ s.no) (hl:¬ (s.data.length:Int) < s.len):qrecv F s m = ({ s with no:=-1,own:=inc32 s.own },m.set F.dst (inc32 s.own),{ qd0 with done:=true,mark:=true,data:=s.data }):=by
  unfold qrecv;rw [if_neg (by omega),if_neg (by omega),if_neg (by omega),if_neg hl]
end
end Go.Proofs.YtmhpcgcloojfbaaGreat.Simp
end
