/- Texts of the ring, joined, what is used of them. No condition but those in the statements. -/
import Init
namespace Go.Proofs.YtmhpcgcloojfbaaGreat.Simp
set_option linter.unusedVariables false
/-- The words of a sampling channel: where its source's begin,where its destination's one lies,how many words a message has at most,its period. -/
structure Fr where
  src:Nat
  dst:Nat
  n:Nat
  per:Int
def bufA (F:Fr) (p i:Nat):Nat:=F.src + 3 + (2 * p + i) * (F.n + 2)
def oddN (x:Int):Nat:=(x % 2).toNat
def rd (m:List Int) (a:Nat):Int:=m.getD a 0
structure Did where
  done:Bool
  mark:Bool
  stamped:Bool
  code:Int
  data:List Int
  valid:Bool
  buffer:Int
def did0:Did:=⟨false,false,false,0,[],false,0⟩
/-- Where a write,or a read,stands: how many steps were done (below 0: it is answered). -/
structure FS where
  data:List Int
  no:Int
  pair:Nat
  index:Nat
  len:Int
  stamp:Int
  marked:Bool
def start (data:List Int):FS:=⟨data,0,0,0,0,0,false⟩
def bufOf (F:Fr) (s:FS):Nat:=bufA F s.pair s.index
def wstep (F:Fr) (s:FS) (m:List Int) (now:Int):FS × List Int × Did:=
  if s.no < 0 then (s,m,did0)
  else if s.no = 0 then ({ s with no:=1,pair:=1 - oddN (rd m F.dst) },m,did0)
  else if s.no = 1 then ({ s with no:=2,index:=1 - oddN (rd m (F.src + 1 + s.pair)) },m,did0)
  else if s.no = 2 then ({ s with no:=3 },m.set (bufOf F s) s.data.length,{ did0 with buffer:=1 + 2 * s.pair + s.index })
  else if s.no = 3 then ({ s with no:=4 },m.set (bufOf F s + 1) (now % 4294967296),{ did0 with stamped:=true })
  else if s.no < 4 + s.data.length then ({ s with no:=s.no + 1 },m.set (bufOf F s + (s.no - 2).toNat) (s.data.getD (s.no - 4).toNat 0),did0)
  else if s.no = 4 + s.data.length then
    ({ s with no:=s.no + 1,marked:=decide (oddN (rd m F.src) = s.pair) },m.set (F.src + 1 + s.pair) s.index,{ did0 with mark:=decide (oddN (rd m F.src) = s.pair) })
  else ({ s with no:=-1 },m.set F.src s.pair,{ did0 with done:=true,mark:=!s.marked })
def lenOf (F:Fr) (x:Int):Int:=if x ≤ F.n then x else F.n
def rstep (F:Fr) (s:FS) (m:List Int) (now:Int):FS × List Int × Did:=
  if s.no < 0 then (s,m,did0)
  else if s.no = 0 then ({ s with no:=1,pair:=oddN (rd m F.src) },m,did0)
  else if s.no = 1 then ({ s with no:=2 },m.set F.dst s.pair,did0)
  else if s.no = 2 then ({ s with no:=3,index:=oddN (rd m (F.src + 1 + s.pair)) },m,did0)
  else if s.no = 3 then
    if lenOf F (rd m (bufOf F s)) = 0 then ({ s with no:=-1,len:=0 },m,{ did0 with done:=true,code:=1,buffer:=1 + 2 * s.pair + s.index })
    else ({ s with no:=4,len:=lenOf F (rd m (bufOf F s)) },m,{ did0 with buffer:=1 + 2 * s.pair + s.index })
  else if s.no = 4 then ({ s with no:=5,stamp:=rd m (bufOf F s + 1) },m,did0)
  else if ((s.data.length:Int) + 1 = s.len) then
    ({ s with no:=-1,data:=s.data ++ [rd m (bufOf F s + (s.no - 3).toNat)] },m,{ did0 with done:=true,data:=s.data ++ [rd m (bufOf F s + (s.no - 3).toNat)],valid:=decide (now - s.stamp ≤ F.per) })
  else ({ s with no:=s.no + 1,data:=s.data ++ [rd m (bufOf F s + (s.no - 3).toNat)] },m,did0)
theorem oddN_le (x:Int):oddN x ≤ 1:=by unfold oddN;omega
theorem oddN_of {p:Nat} (h:p ≤ 1):oddN (p:Int) = p:=by unfold oddN;omega
theorem rd_set (m:List Int) (a b:Nat) (v:Int):rd (m.set a v) b = if a = b ∧ a < m.length then v else rd m b:=by
  unfold rd
  rw [List.getD_eq_getElem?_getD,List.getD_eq_getElem?_getD,List.getElem?_set]
  by_cases h:a = b
  · subst h
    by_cases h2:a < m.length
    · simp [h2]
    · simp [h2]
  · simp [h]
theorem rd_eq {m:List Int} {a:Nat} {v:Int} (h:a < m.length):rd (m.set a v) a = v:=by rw [rd_set,if_pos ⟨rfl,h⟩]
theorem rd_ne {m:List Int} {a b:Nat} {v:Int} (h:a ≠ b):rd (m.set a v) b = rd m b:=by rw [rd_set,if_neg (fun x => h x.1)]
theorem buf_in (F:Fr) {p i:Nat} (hp:p ≤ 1) (hi:i ≤ 1):F.src + 3 ≤ bufA F p i ∧ bufA F p i + (F.n + 2) ≤ F.src + 3 + 4 * (F.n + 2):=by
  unfold bufA
  have h:=Nat.mul_le_mul_right (F.n + 2) (show 2 * p + i ≤ 3 by omega)
  omega
/-- Two partitions,one sampling channel of n words: where its words lie. -/
def fr2 (n:Nat) (per:Int):Fr:=⟨1,12 + 4 * n,n,per⟩
def LL (m:List Int):Nat:=oddN (rd m 1)
def SS (m:List Int) (p:Nat):Nat:=oddN (rd m (2 + p))
def bf (N p i:Nat):Nat:=bufA (fr2 N 0) p i
theorem LL_le (m:List Int):LL m ≤ 1:=oddN_le _
theorem SS_le (m:List Int) (p:Nat):SS m p ≤ 1:=oddN_le _
theorem bf_in {N p i:Nat} (hp:p ≤ 1) (hi:i ≤ 1):4 ≤ bf N p i ∧ bf N p i + (N + 2) ≤ 12 + 4 * N:=by
  have:=buf_in (fr2 N 0) hp hi
  unfold bf
  simp only [fr2] at *
  omega
theorem SS_ne {m:List Int} {a p:Nat} {v:Int} (h:a ≠ 2 + p):SS (m.set a v) p = SS m p:=by unfold SS;rw [rd_ne h]
theorem LL_eq {m:List Int} {p:Nat} (hp:p ≤ 1) (h:1 < m.length):LL (m.set 1 (p:Int)) = p:=by unfold LL;rw [rd_eq h,oddN_of hp]
theorem SS_eq {m:List Int} {p i:Nat} (hi:i ≤ 1) (h:2 + p < m.length):SS (m.set (2 + p) (i:Int)) p = i:=by unfold SS;rw [rd_eq h,oddN_of hi]
end Go.Proofs.YtmhpcgcloojfbaaGreat.Simp
namespace Go.Proofs.YtmhpcgcloojfbaaGreat.Simp
set_option linter.unusedVariables false
set_option linter.unusedSimpArgs false
/-- A writer that writes message n as words n,over and over,and a reader. -/
structure Pl where
  m:List Int
  w:Option FS
  r:Option FS
  n:Int
  written:Int
  marked:Int
  begun:Int
  first:Int
  last:Int
  steps:Int
  own:Int
section
variable {F:Fr} {s:FS} {m:List Int} {now:Int}
theorem ws0 (h:s.no = 0):wstep F s m now = ({ s with no:=1,pair:=1 - oddN (rd m F.dst) },m,did0):=by unfold wstep;rw [if_neg (by omega),if_pos h]
theorem ws1 (h:s.no = 1):wstep F s m now = ({ s with no:=2,index:=1 - oddN (rd m (F.src + 1 + s.pair)) },m,did0):=by unfold wstep;rw [if_neg (by omega),if_neg (by omega),if_pos h]
theorem ws2 (h:s.no = 2):wstep F s m now = ({ s with no:=3 },m.set (bufOf F s) s.data.length,{ did0 with buffer:=1 + 2 * s.pair + s.index }):=by
  unfold wstep;rw [if_neg (by omega),if_neg (by omega),if_neg (by omega),if_pos h]
theorem ws3 (h:s.no = 3):wstep F s m now = ({ s with no:=4 },m.set (bufOf F s + 1) (now % 4294967296),{ did0 with stamped:=true }):=by
  unfold wstep;rw [if_neg (by omega),if_neg (by omega),if_neg (by omega),if_neg (by omega),if_pos h]
theorem ws4 {k:Nat} (h:s.no = 4 + (k:Int)) (hk:k < s.data.length):wstep F s m now = ({ s with no:=5 + (k:Int) },m.set (bufOf F s + 2 + k) (s.data.getD k 0),did0):=by
  unfold wstep;rw [if_neg (by omega),if_neg (by omega),if_neg (by omega),if_neg (by omega),if_neg (by omega),if_pos (by omega)]
  rw [show bufOf F s + (s.no - 2).toNat = bufOf F s + 2 + k by omega,show (s.no - 4).toNat = k by omega,show s.no + 1 = 5 + (k:Int) by omega]
theorem ws5 (h:s.no = 4 + (s.data.length:Int)):wstep F s m now = ({ s with no:=5 + (s.data.length:Int),marked:=decide (oddN (rd m F.src) = s.pair) },m.set (F.src + 1 + s.pair) s.index,{ did0 with mark:=decide (oddN (rd m F.src) = s.pair) }):=by
  unfold wstep;rw [if_neg (by omega),if_neg (by omega),if_neg (by omega),if_neg (by omega),if_neg (by omega),if_neg (by omega),if_pos h,show s.no + 1 = 5 + (s.data.length:Int) by omega]
theorem ws6 (h:s.no = 5 + (s.data.length:Int)):wstep F s m now = ({ s with no:=-1 },m.set F.src s.pair,{ did0 with done:=true,mark:=!s.marked }):=by
  unfold wstep;rw [if_neg (by omega),if_neg (by omega),if_neg (by omega),if_neg (by omega),if_neg (by omega),if_neg (by omega),if_neg (by omega)]
theorem rs0 (h:s.no = 0):rstep F s m now = ({ s with no:=1,pair:=oddN (rd m F.src) },m,did0):=by unfold rstep;rw [if_neg (by omega),if_pos h]
theorem rs1 (h:s.no = 1):rstep F s m now = ({ s with no:=2 },m.set F.dst s.pair,did0):=by unfold rstep;rw [if_neg (by omega),if_neg (by omega),if_pos h]
theorem rs2 (h:s.no = 2):rstep F s m now = ({ s with no:=3,index:=oddN (rd m (F.src + 1 + s.pair)) },m,did0):=by unfold rstep;rw [if_neg (by omega),if_neg (by omega),if_neg (by omega),if_pos h]
theorem rs3z (h:s.no = 3) (hz:lenOf F (rd m (bufOf F s)) = 0):rstep F s m now = ({ s with no:=-1,len:=0 },m,{ did0 with done:=true,code:=1,buffer:=1 + 2 * s.pair + s.index }):=by
  unfold rstep;rw [if_neg (by omega),if_neg (by omega),if_neg (by omega),if_neg (by omega),if_pos h,if_pos hz]
theorem rs3 (h:s.no = 3) (hz:lenOf F (rd m (bufOf F s)) ≠ 0):rstep F s m now = ({ s with no:=4,len:=lenOf F (rd m (bufOf F s)) },m,{ did0 with buffer:=1 + 2 * s.pair + s.index }):=by
  unfold rstep;rw [if_neg (by omega),if_neg (by omega),if_neg (by omega),if_neg (by omega),if_pos h,if_neg hz]
theorem rs4 (h:s.no = 4):rstep F s m now = ({ s with no:=5,stamp:=rd m (bufOf F s + 1) },m,did0):=by
  unfold rstep;rw [if_neg (by omega),if_neg (by omega),if_neg (by omega),if_neg (by omega),if_neg (by omega),if_pos h]
theorem rs5 {k:Nat} (h:s.no = 5 + (k:Int)) (hl:(s.data.length:Int) + 1 ≠ s.len):rstep F s m now = ({ s with no:=6 + (k:Int),data:=s.data ++ [rd m (bufOf F s + 2 + k)] },m,did0):=by
  unfold rstep;rw [if_neg (by omega),if_neg (by omega),if_neg (by omega),if_neg (by omega),if_neg (by omega),if_neg (by omega),if_neg hl,show bufOf F s + (s.no - 3).toNat = bufOf F s + 2 + k by omega,show s.no + 1 = 6 + (k:Int) by omega]
theorem rs6 {k:Nat} (h:s.no = 5 + (k:Int)) (hl:(s.data.length:Int) + 1 = s.len):rstep F s m now = ({ s with no:=-1,data:=s.data ++ [rd m (bufOf F s + 2 + k)] },m,{ did0 with done:=true,data:=s.data ++ [rd m (bufOf F s + 2 + k)],valid:=decide (now - s.stamp ≤ F.per) }):=by
  unfold rstep;rw [if_neg (by omega),if_neg (by omega),if_neg (by omega),if_neg (by omega),if_neg (by omega),if_neg (by omega),if_pos hl,show bufOf F s + (s.no - 3).toNat = bufOf F s + 2 + k by omega]
end
end Go.Proofs.YtmhpcgcloojfbaaGreat.Simp
namespace Go.Proofs.YtmhpcgcloojfbaaGreat.Simp
set_option linter.unusedVariables false
set_option linter.unusedSimpArgs false
/-- What a read alone finds: its pair,its index,the length,the words,the stamp. -/
def fP (m:List Int):Nat:=LL m
def fI (m:List Int):Nat:=SS m (LL m)
def fB (N:Nat) (m:List Int):Nat:=bf N (fP m) (fI m)
def fL (N:Nat) (m:List Int):Int:=lenOf (fr2 N 0) (rd m (fB N m))
def fD (N:Nat) (m:List Int) (k:Nat):List Int:=(List.range k).map (fun j => rd m (fB N m + 2 + j))
def fS (N:Nat) (m:List Int):Int:=rd m (fB N m + 1)
/-- The memory behind a read's second step. -/
def fM (N:Nat) (m:List Int):List Int:=m.set (12 + 4 * N) (fP m:Int)
/-- What a read alone is answered with. -/
def fAns (N:Nat) (per:Int) (m:List Int) (now:Int):Did:=
  if fL N m = 0 then { did0 with done:=true,code:=1,buffer:=1 + 2 * (fP m:Int) + fI m }
  else { did0 with done:=true,data:=fD N m (fL N m).toNat,valid:=decide (now - fS N m ≤ per) }
/-- A read alone that has done j steps from a memory m on;mm: the memory now. -/
structure RS (N:Nat) (m:List Int) (t:FS) (mm:List Int) (j:Nat):Prop where
  hno:t.no = j
  hp:1 ≤ j → t.pair = fP m
  hi:3 ≤ j → t.index = fI m
  hm:mm = if j ≤ 1 then m else fM N m
  d0:j ≤ 5 → t.data = []
  h4:4 ≤ j → t.len = fL N m ∧ 1 ≤ fL N m
  h5:5 ≤ j → t.stamp = fS N m ∧ t.data = fD N m (j - 5) ∧ (j:Int) - 5 < fL N m
theorem rs_start (N:Nat) (m:List Int):RS N m (start []) m 0:=⟨rfl,fun x => by omega,fun x => by omega,rfl,fun _ => rfl,fun x => by omega,fun x => by omega⟩
theorem fM_rd {N:Nat} {m:List Int} {a:Nat} (h:a < 12 + 4 * N):rd (fM N m) a = rd m a:=rd_ne (by omega)
theorem fB_in (N:Nat) (m:List Int):4 ≤ fB N m ∧ fB N m + (N + 2) ≤ 12 + 4 * N:=bf_in (LL_le m) (SS_le m _)
theorem fL_in {N:Nat} {m:List Int} (h:0 ≤ rd m (fB N m)):0 ≤ fL N m ∧ fL N m ≤ N:=by
  unfold fL lenOf
  have hn:(fr2 N 0).n = N:=rfl
  rw [hn]
  split <;> omega
/-- A step of it. -/
theorem RS.step {N j:Nat} {per now:Int} {m mm:List Int} {t:FS} (h:RS N m t mm j) (hw:∀ a,0 ≤ rd m a) :
    ((rstep (fr2 N per) t mm now).2.2.done = false ∧ RS N m (rstep (fr2 N per) t mm now).1 (rstep (fr2 N per) t mm now).2.1 (j + 1) ∧ (j:Int) < 4 + fL N m ∧ (j = 3 → fL N m ≠ 0))
      ∨ ((rstep (fr2 N per) t mm now).2.2 = fAns N per m now ∧ (rstep (fr2 N per) t mm now).2.1 = fM N m ∧ (rstep (fr2 N per) t mm now).1.no = -1 ∧ (fL N m = 0 ∧ j = 3 ∨ 1 ≤ fL N m ∧ (j:Int) = 4 + fL N m)):=by
  obtain ⟨e2,e3,e4,hm,d0,h4,h5⟩:=h
  have hfl:=fL_in (N:=N) (hw (fB N m))
  by_cases z0:j = 0
  · subst z0
    rw [rs0 e2]
    refine .inl ⟨rfl,⟨rfl,fun _ => ?_,fun x => by omega,by rw [hm];rfl,fun _ => d0 (by omega),fun x => by omega,fun x => by omega⟩,by omega,fun x => by omega⟩
    rw [hm];rfl
  have ep:=e3 (by omega)
  by_cases z1:j = 1
  · subst z1
    rw [rs1 e2]
    refine .inl ⟨rfl,⟨rfl,fun _ => ep,fun x => by omega,?_,fun _ => d0 (by omega),fun x => by omega,fun x => by omega⟩,by omega,fun x => by omega⟩
    rw [hm,ep];rfl
  have hm2:mm = fM N m:=by rw [hm,if_neg (by omega)]
  have hmj:fM N m = if j + 1 ≤ 1 then m else fM N m:=by rw [if_neg (by omega)]
  by_cases z2:j = 2
  · subst z2
    rw [rs2 e2]
    have hle:=LL_le m
    refine .inl ⟨rfl,⟨rfl,fun _ => ep,fun _ => ?_,hm2.trans hmj,fun _ => d0 (by omega),fun x => by omega,fun x => by omega⟩,by omega,fun x => by omega⟩
    show oddN (rd mm (1 + 1 + t.pair)) = SS m (LL m)
    rw [hm2,ep,fM_rd (by show 1 + 1 + LL m < _;omega)]
    rfl
  have ei:=e4 (by omega)
  have hb:=fB_in N m
  have hbuf:bufOf (fr2 N per) t = fB N m:=by unfold bufOf;rw [ep,ei];rfl
  by_cases z3:j = 3
  · subst z3
    have hlo:lenOf (fr2 N per) (rd mm (bufOf (fr2 N per) t)) = fL N m:=by rw [hbuf,hm2,fM_rd (by omega)];rfl
    by_cases hz:fL N m = 0
    · rw [rs3z e2 (hlo.trans hz)]
      exact .inr ⟨by unfold fAns;rw [if_pos hz,ep,ei],hm2,rfl,.inl ⟨hz,rfl⟩⟩
    · rw [rs3 e2 (by rw [hlo];exact hz),hlo]
      exact .inl ⟨rfl,⟨rfl,fun _ => ep,fun _ => ei,hm2.trans hmj,fun _ => d0 (by omega),fun _ => ⟨rfl,by omega⟩,fun x => by omega⟩,by omega,fun _ => hz⟩
  obtain ⟨hl,hl1⟩:=h4 (by omega)
  by_cases z4:j = 4
  · subst z4
    rw [rs4 e2]
    refine .inl ⟨rfl,⟨rfl,fun _ => ep,fun _ => ei,hm2.trans hmj,fun _ => d0 (by omega),fun _ => ⟨hl,hl1⟩,fun _ => ⟨?_,d0 (by omega),by omega⟩⟩,by omega,fun x => by omega⟩
    show rd mm (bufOf (fr2 N per) t + 1) = fS N m
    rw [hbuf,hm2,fM_rd (by omega)];rfl
  obtain ⟨k,rfl⟩:∃ k:Nat,j = 5 + k:=⟨j - 5,by omega⟩
  obtain ⟨hs,hd,hdl⟩:=h5 (by omega)
  rw [show 5 + k - 5 = k by omega] at hd
  have hdlen:(t.data.length:Int) = k:=by rw [hd];unfold fD;simp
  have happ:t.data ++ [rd mm (bufOf (fr2 N per) t + 2 + k)] = fD N m (k + 1):=by
    rw [hbuf,hm2,fM_rd (by omega),hd];unfold fD;rw [List.range_succ,List.map_append];rfl
  have hno:t.no = 5 + (k:Int):=by rw [e2];omega
  by_cases z5:(k:Int) + 1 = fL N m
  · rw [rs6 hno (by omega),happ]
    exact .inr ⟨by unfold fAns;rw [if_neg (by omega),hs,show (fL N m).toNat = k + 1 by omega];rfl,hm2,rfl,.inr ⟨hl1,by omega⟩⟩
  · rw [rs5 hno (by omega),happ]
    exact .inl ⟨rfl,⟨by show 6 + (k:Int) = _;omega,fun _ => ep,fun _ => ei,hm2.trans hmj,fun x => by omega,fun _ => ⟨hl,hl1⟩,fun _ => ⟨hs,by rw [show 5 + k + 1 - 5 = k + 1 by omega],by omega⟩⟩,by omega,fun x => by omega⟩
/-- A write alone that has done j steps,from a memory m on;wp,wi: what it chose. -/
structure WS (N:Nat) (m:List Int) (data:List Int) (tick:Int) (t:FS) (mm:List Int) (j:Nat) (wp wi:Nat):Prop where
  hl:mm.length = 13 + 4 * N
  hd:t.data = data
  hno:t.no = j
  hp:1 ≤ j → t.pair = wp ∧ wp ≤ 1
  hi:2 ≤ j → t.index = wi ∧ wi ≤ 1
  h3:3 ≤ j → rd mm (bf N wp wi) = (data.length:Int)
  h4:4 ≤ j → rd mm (bf N wp wi + 1) = tick % 4294967296
  h5:∀ k,4 + k < j → k < data.length → rd mm (bf N wp wi + 2 + k) = data.getD k 0
  h6:4 + data.length < j → SS mm wp = wi
theorem ws_start {N:Nat} {m data:List Int} {tick:Int} (hl:m.length = 13 + 4 * N):WS N m data tick (start data) m 0 0 0:=
  ⟨hl,rfl,rfl,fun x => by omega,fun x => by omega,fun x => by omega,fun x => by omega,fun k x => by omega,fun x => by omega⟩
theorem WS.step {N j wp wi:Nat} {per now:Int} {m mm data:List Int} {t:FS} (h:WS N m data now t mm j wp wi) (hN:data.length ≤ N) :
    ∃ wp' wi',(j < 5 + data.length → (wstep (fr2 N per) t mm now).2.2.done = false ∧ (wstep (fr2 N per) t mm now).2.2.stamped = decide (j = 3) ∧ WS N m data now (wstep (fr2 N per) t mm now).1 (wstep (fr2 N per) t mm now).2.1 (j + 1) wp' wi')
      ∧ (j = 5 + data.length → (wstep (fr2 N per) t mm now).2.2.done = true ∧ (wstep (fr2 N per) t mm now).2.2.stamped = false ∧ (wstep (fr2 N per) t mm now).1.no = -1 ∧ (wstep (fr2 N per) t mm now).2.2.code = 0
        ∧ fP (wstep (fr2 N per) t mm now).2.1 = wp ∧ fI (wstep (fr2 N per) t mm now).2.1 = wi ∧ rd (wstep (fr2 N per) t mm now).2.1 (bf N wp wi) = (data.length:Int) ∧ rd (wstep (fr2 N per) t mm now).2.1 (bf N wp wi + 1) = now % 4294967296 ∧ (∀ k,k < data.length → rd (wstep (fr2 N per) t mm now).2.1 (bf N wp wi + 2 + k) = data.getD k 0)):=by
  obtain ⟨hl,hd,e2,e3,e4,h3,h4,h5,h6⟩:=h
  by_cases z0:j = 0
  · subst z0
    rw [ws0 e2]
    have a2:=oddN_le (rd mm (fr2 N per).dst)
    exact ⟨1 - oddN (rd mm (fr2 N per).dst),wi,fun _ => ⟨rfl,rfl,⟨hl,hd,rfl,fun _ => ⟨rfl,by omega⟩,fun x => by omega,fun x => by omega,fun x => by omega,fun k x => by omega,fun x => by omega⟩⟩,fun x => by omega⟩
  obtain ⟨ep,hwp⟩:=e3 (by omega)
  by_cases z1:j = 1
  · subst z1
    rw [ws1 e2]
    exact ⟨wp,1 - oddN (rd mm ((fr2 N per).src + 1 + t.pair)),fun _ => ⟨rfl,rfl,⟨hl,hd,rfl,fun _ => ⟨ep,hwp⟩,fun _ => ⟨rfl,by omega⟩,fun x => by omega,fun x => by omega,fun k x => by omega,fun x => by omega⟩⟩,fun x => by omega⟩
  obtain ⟨ei,hwi⟩:=e4 (by omega)
  have hb:=bf_in (N:=N) hwp hwi
  have hbuf:bufOf (fr2 N per) t = bf N wp wi:=by unfold bufOf;rw [ep,ei];rfl
  by_cases z2:j = 2
  · subst z2
    rw [ws2 e2,hbuf,hd]
    exact ⟨wp,wi,fun _ => ⟨rfl,rfl,⟨(List.length_set ..).trans hl,by first | exact hd | rfl,rfl,fun _ => ⟨ep,hwp⟩,fun _ => ⟨ei,hwi⟩,fun _ => rd_eq (by omega),fun x => by omega,fun k x => by omega,fun x => by omega⟩⟩,fun x => by omega⟩
  by_cases z3:j = 3
  · subst z3
    rw [ws3 e2,hbuf]
    exact ⟨wp,wi,fun _ => ⟨rfl,rfl,⟨(List.length_set ..).trans hl,hd,rfl,fun _ => ⟨ep,hwp⟩,fun _ => ⟨ei,hwi⟩,fun _ => (rd_ne (by omega)).trans (h3 (by omega)),fun _ => rd_eq (by omega),fun k x => by omega,fun x => by omega⟩⟩,fun x => by omega⟩
  by_cases z4:j < 4 + data.length
  · obtain ⟨k,rfl⟩:∃ k:Nat,j = 4 + k:=⟨j - 4,by omega⟩
    rw [ws4 (k:=k) (by rw [e2];omega) (by rw [hd];omega),hbuf,hd]
    refine ⟨wp,wi,fun _ => ⟨rfl,(decide_eq_false (by omega)).symm,⟨(List.length_set ..).trans hl,by first | exact hd | rfl,(by show 5 + (k:Int) = _;omega),fun _ => ⟨ep,hwp⟩,fun _ => ⟨ei,hwi⟩,fun _ => (rd_ne (by omega)).trans (h3 (by omega)),fun _ => (rd_ne (by omega)).trans (h4 (by omega)),fun i x y => ?_,fun x => by omega⟩⟩,fun x => by omega⟩
    by_cases e:i = k
    · subst e;exact rd_eq (by omega)
    · exact (rd_ne (by omega)).trans (h5 i (by omega) y)
  by_cases z5:j = 4 + data.length
  · subst z5
    rw [ws5 (by rw [e2,hd];omega),show (fr2 N per).src + 1 + t.pair = 2 + wp by rw [ep];rfl,ei]
    exact ⟨wp,wi,fun _ => ⟨rfl,(decide_eq_false (by omega)).symm,⟨(List.length_set ..).trans hl,hd,(by show 5 + (t.data.length:Int) = _;rw [hd];omega),fun _ => ⟨ep,hwp⟩,fun _ => ⟨by first | exact ei | rfl,hwi⟩,fun _ => (rd_ne (by omega)).trans (h3 (by omega)),fun _ => (rd_ne (by omega)).trans (h4 (by omega)),fun i x y => (rd_ne (by omega)).trans (h5 i (by omega) y),fun _ => SS_eq hwi (by omega)⟩⟩,fun x => by omega⟩
  · refine ⟨wp,wi,fun x => by omega,fun z6 => ?_⟩
    subst z6
    rw [ws6 (by rw [e2,hd];omega),show (fr2 N per).src = 1 from rfl,ep]
    have hL:LL (mm.set 1 (wp:Int)) = wp:=LL_eq hwp (by omega)
    exact ⟨rfl,rfl,rfl,rfl,hL,(by show SS (mm.set 1 (wp:Int)) (LL (mm.set 1 (wp:Int))) = wi;rw [hL,SS_ne (by omega)];exact h6 (by omega)),(rd_ne (by omega)).trans (h3 (by omega)),(rd_ne (by omega)).trans (h4 (by omega)),fun k hk => (rd_ne (by omega)).trans (h5 k (by omega) hk)⟩
end Go.Proofs.YtmhpcgcloojfbaaGreat.Simp
namespace Go.Proofs.YtmhpcgcloojfbaaGreat.Simp
set_option linter.unusedVariables false
set_option linter.unusedSimpArgs false
/-- Every word is one of 32 bits. -/
def W32 (m:List Int):Prop:=∀ a,0 ≤ rd m a ∧ rd m a ≤ 4294967295
theorem W32.set {m:List Int} (h:W32 m) {a:Nat} {v:Int} (hv:0 ≤ v ∧ v ≤ 4294967295):W32 (m.set a v):=fun b => by
  rw [rd_set]
  split
  · exact hv
  · exact h b
theorem w32_zero (n:Nat):W32 (List.replicate n 0):=fun a => by
  unfold rd
  rw [List.getD_eq_getElem?_getD,List.getElem?_replicate]
  split <;> exact ⟨by decide,by decide⟩
theorem w32_mem {m:List Int} (h:W32 m) {x:Int} (hx:x ∈ m):0 ≤ x ∧ x ≤ 4294967295:=by
  obtain ⟨i,hi⟩:=List.mem_iff_getElem?.1 hx
  have:=h i
  unfold rd at this
  rwa [List.getD_eq_getElem?_getD,hi] at this
theorem w32_of {m:List Int} (h:∀ x ∈ m,0 ≤ x ∧ x ≤ 4294967295):W32 m:=fun a => by
  unfold rd
  rw [List.getD_eq_getElem?_getD]
  cases e:m[a]? with
  | none => exact ⟨by decide,by decide⟩
  | some x => exact h x (List.mem_of_getElem? e)
theorem wstep_w32 {F:Fr} {s:FS} {m:List Int} {now:Int} (h:W32 m) (hd:W32 s.data) (hl:s.data.length ≤ 4294967295) (hp:s.pair ≤ 1) (hi:s.index ≤ 1) :
    W32 (wstep F s m now).2.1 ∧ (wstep F s m now).2.1.length = m.length ∧ W32 (wstep F s m now).1.data ∧ (wstep F s m now).1.data = s.data ∧ (wstep F s m now).1.pair ≤ 1 ∧ (wstep F s m now).1.index ≤ 1:=by
  unfold wstep
  split
  · exact ⟨h,rfl,hd,rfl,hp,hi⟩
  split
  · exact ⟨h,rfl,hd,rfl,(show 1 - oddN _ ≤ 1 by omega),hi⟩
  split
  · exact ⟨h,rfl,hd,rfl,hp,(show 1 - oddN _ ≤ 1 by omega)⟩
  split
  · exact ⟨h.set (by omega),List.length_set ..,hd,rfl,hp,hi⟩
  split
  · exact ⟨h.set (by omega),List.length_set ..,hd,rfl,hp,hi⟩
  split
  · exact ⟨h.set (hd _),List.length_set ..,hd,rfl,hp,hi⟩
  split
  · exact ⟨h.set (by omega),List.length_set ..,hd,rfl,hp,hi⟩
  · exact ⟨h.set (by omega),List.length_set ..,hd,rfl,hp,hi⟩
theorem W32.app {l:List Int} (h:W32 l) {x:Int} (hx:0 ≤ x ∧ x ≤ 4294967295):W32 (l ++ [x]):=w32_of fun y hy => by
  rcases List.mem_append.1 hy with z | z
  · exact w32_mem h z
  · simp at z;subst z;exact hx
theorem rstep_w32 {F:Fr} {s:FS} {m:List Int} {now:Int} (h:W32 m) (hd:W32 s.data) (hp:s.pair ≤ 1) (hi:s.index ≤ 1) :
    W32 (rstep F s m now).2.1 ∧ (rstep F s m now).2.1.length = m.length ∧ W32 (rstep F s m now).1.data ∧ (rstep F s m now).1.pair ≤ 1 ∧ (rstep F s m now).1.index ≤ 1:=by
  unfold rstep
  split
  · exact ⟨h,rfl,hd,hp,hi⟩
  split
  · exact ⟨h,rfl,hd,oddN_le _,hi⟩
  split
  · exact ⟨h.set (by omega),List.length_set ..,hd,hp,hi⟩
  split
  · exact ⟨h,rfl,hd,hp,oddN_le _⟩
  split
  · split
    · exact ⟨h,rfl,hd,hp,hi⟩
    · exact ⟨h,rfl,hd,hp,hi⟩
  split
  · exact ⟨h,rfl,hd,hp,hi⟩
  split
  · exact ⟨h,rfl,hd.app (h _),hp,hi⟩
  · exact ⟨h,rfl,hd.app (h _),hp,hi⟩
/-- A write that was answered,a read that was answered: nothing is done. -/
theorem wstep_over {F:Fr} {s:FS} {m:List Int} {now:Int} (h:s.no < 0):wstep F s m now = (s,m,did0):=by unfold wstep;rw [if_pos h]
theorem rstep_over {F:Fr} {s:FS} {m:List Int} {now:Int} (h:s.no < 0):rstep F s m now = (s,m,did0):=by unfold rstep;rw [if_pos h]
end Go.Proofs.YtmhpcgcloojfbaaGreat.Simp
