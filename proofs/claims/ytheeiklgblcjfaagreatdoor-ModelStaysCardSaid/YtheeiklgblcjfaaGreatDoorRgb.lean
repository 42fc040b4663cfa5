/- Texts of the ring, joined, what is used of them. No condition but those in the statements. -/
import Derived.Test.YtheeiklgblcjfaaGreatDoorProg
import Derived.Deep.Slices
import Derived.Lib.SmallJoins
import Derived.OpenShut
import Derived.Test.YtheeiklgblcjfaaGreatDoorRga
section
namespace Go.Proofs.YtheeiklgblcjfaaGreatDoor
open Go.RowKit Go.Sort Go.Deep Go.ChangeShapes Go.WideShapes Go.Joins
set_option linter.unusedVariables false
set_option linter.unusedSimpArgs false
/-- One struct's cells: integers of these kinds. -/
def ncells (ks:List IntKind) (x:List Int):List Value:=List.zipWith Value.int ks x
/-- A row's cells. -/
def rcells (ks:List IntKind) (l:List (List Int)):List Value:=(l.map (ncells ks)).flatten
theorem ncells_len {ks:List IntKind} {x:List Int} (h:x.length = ks.length):(ncells ks x).length = ks.length:=by simp [ncells,h]
theorem ncells_one (ks:List IntKind) (x:List Int):∀ u ∈ ncells ks x,u.oneCell' = true:=by
  induction ks generalizing x with
  | nil => intro u hu;simp [ncells] at hu
  | cons k ks ih =>
    cases x with
    | nil => intro u hu;simp [ncells] at hu
    | cons n x =>
      intro u hu
      simp only [ncells,List.zipWith_cons_cons,List.mem_cons] at hu
      rcases hu with rfl | hu
      · rfl
      · exact ih x u hu
theorem rcells_app (ks:List IntKind) (l m:List (List Int)):rcells ks (l ++ m) = rcells ks l ++ rcells ks m:=by simp [rcells]
/-- Its integers are of these kinds. -/
def wfN (ks:List IntKind) (x:List Int):Prop:=x.length = ks.length ∧ ∀ (j:Nat) (k:IntKind) (v:Int),ks[j]? = some k → x[j]? = some v → (Lit.int k v).wf = true
def wfR (ks:List IntKind) (l:List (List Int)):Prop:=∀ x ∈ l,wfN ks x
theorem rcells_at {ks:List IntKind}:∀ {l:List (List Int)} {i:Nat} {x:List Int},wfR ks l → l[i]? = some x → ∀ j,j < ks.length → (rcells ks l)[i * ks.length + j]? = (ncells ks x)[j]?
  | [],i,x,_,h,_,_ => by simp at h
  | y :: l,0,x,hf,h,j,hj => by
    simp at h;subst h
    rw [rcells,List.map_cons,List.flatten_cons,Nat.zero_mul,Nat.zero_add,List.getElem?_append_left (by rw [ncells_len (hf y (by simp)).1];exact hj)]
  | y :: l,i + 1,x,hf,h,j,hj => by
    have hy:=ncells_len (ks:=ks) (hf y (by simp)).1
    have ih:=rcells_at (l:=l) (i:=i) (x:=x) (fun z hz => hf z (by simp [hz])) (by simpa using h) j hj
    rw [rcells,List.map_cons,List.flatten_cons,List.getElem?_append_right (by rw [hy,Nat.add_mul];omega),hy,show (i + 1) * ks.length + j - ks.length = i * ks.length + j by rw [Nat.add_mul];omega]
    exact ih
theorem rcells_len {ks:List IntKind}:∀ {l:List (List Int)},wfR ks l → (rcells ks l).length = l.length * ks.length
  | [],_ => by simp [rcells]
  | y :: l,hf => by
    have ih:=rcells_len (l:=l) (fun z hz => hf z (by simp [hz]))
    have hy:=ncells_len (ks:=ks) (hf y (by simp)).1
    rw [rcells,List.map_cons,List.flatten_cons,List.length_append,hy,show (l.map (ncells ks)).flatten = rcells ks l from rfl,ih,List.length_cons,Nat.add_mul];omega
/-- A slice's row of structs of integers of kinds ks,at a block below number B. -/
def RowN (ks:List IntKind) (w:World) (B:Nat) (A:Option Addr) (l:List (List Int)):Prop:=
  0 < l.length → ∃ b o,A = some ⟨b,o,none⟩ ∧ b < B ∧ ∀ (i:Nat) (x:List Int),l[i]? = some x → ∀ (j:Nat) (v:Value),(ncells ks x)[j]? = some v → w.cell? ⟨b,o + i * ks.length + j,none⟩ = some v
theorem RowN.below {ks:List IntKind} {w w':World} {B:Nat} {A:Option Addr} {l:List (List Int)} (h:RowN ks w B A l) (hb:Below B w w'):RowN ks w' B A l:=fun hn => by
  obtain ⟨b,o,hA,hlt,hc⟩:=h hn
  exact ⟨b,o,hA,hlt,fun i x hx j v hv => (hb.cell (p:=⟨b,o + i * ks.length + j,none⟩) hlt).trans (hc i x hx j v hv)⟩
theorem RowN.more {ks:List IntKind} {w:World} {B B':Nat} {A:Option Addr} {l:List (List Int)} (h:RowN ks w B A l) (hb:B ≤ B'):RowN ks w B' A l:=fun hn => by
  obtain ⟨b,o,hA,hlt,hc⟩:=h hn
  exact ⟨b,o,hA,by omega,hc⟩
theorem RowN.later {ks:List IntKind} {w w':World} {A:Option Addr} {l:List (List Int)} (h:RowN ks w w.heap.size A l) (hb:Below w.heap.size w w'):RowN ks w' w'.heap.size A l:=(h.below hb).more hb.size
theorem RowN.nil (ks:List IntKind) (w:World) (B:Nat) (A:Option Addr):RowN ks w B A []:=fun h => by simp at h
/-- A row of the call's own. -/
theorem OwnsOff.rowN {ks:List IntKind} {w:World} {base:Nat} {e:TypeId} {v:Value} {l:List (List Int)} (h:OwnsOff w base e ks.length v l.length (rcells ks l)) (hw:wfR ks l) :
    ∃ A c,v = .slice A l.length c ∧ l.length ≤ c ∧ c ≤ maxLen ∧ RowN ks w w.heap.size A l ∧ (A = none → l = []) ∧ ∀ a,A = some a → base ≤ a.block:=by
  obtain ⟨_,⟨rfl,hn⟩ | ⟨g,off,cap,cur,rfl,hb,hcur,hle,hmax,_,htk⟩⟩:=h
  · exact ⟨none,0,by rw [hn],by omega,by unfold maxLen;omega,fun hp => by omega,fun _ => List.eq_nil_of_length_eq_zero hn,fun _ h => by cases h⟩
  · refine ⟨_,cap,rfl,hle,hmax,fun hp => ⟨g,off,rfl,(Array.getElem?_eq_some_iff.1 hcur).1,fun i x hx j v hv => ?_⟩,(fun h => by cases h),fun a ha => by cases ha;exact hb⟩
    have hil:i < l.length:=(List.getElem?_eq_some_iff.1 hx).1
    have hxl:=(hw x (List.mem_of_getElem? hx)).1
    have hj:j < ks.length:=by have:=(List.getElem?_eq_some_iff.1 hv).1;rw [ncells_len hxl] at this;exact this
    have h1:=rcells_at hw hx j hj
    rw [hv,← htk,List.getElem?_take] at h1
    split at h1
    · rw [List.getElem?_drop] at h1
      rw [Nat.add_assoc]
      simp [World.cell?,hcur]
      simpa using h1
    · cases h1
section
variable {H:Type} {enc:TypeId × Value → H} {P:Program} {w:World} {base:Nat}
/-- A struct's fields are integers of these kinds,one cell each,in order. -/
def fieldsN (P:Program) (fs:Array Field) (ks:List IntKind):Prop:=
  fs.size = ks.length ∧ ∀ (i:Nat) (f:Field),fs[i]? = some f → f.offset = i ∧ P.cellsOf f.type = 1 ∧ ∀ k,ks[i]? = some k → P.underlying f.type = some (.int k)
theorem open_intsN {t:TypeId} {fs:Array Field} {ks:List IntKind} (hs:P.underlying t = some (.struct fs)) (hk:fieldsN P fs ks) (hC:P.cellsOf t = ks.length) {n:Nat} {cs:List Value} {x:DataW H × List MemPlace}
    (h:DataW.trod enc P w base (fun _ => true) true n t cs = some x):∃ l:List Int,cs = ncells ks l ∧ wfN ks l:=by
  obtain ⟨xs,m,_,_,hlen,hxl,hf⟩:=DataW.trod_struct hs h
  have each:∀ i,i < ks.length → ∃ v:Int,∃ k,ks[i]? = some k ∧ cs[i]? = some (.int k v) ∧ (Lit.int k v).wf = true:=by
    intro i hi
    have hif:i < fs.size:=by rw [hk.1];exact hi
    obtain ⟨h0,h1,h2⟩:=hk.2 i fs[i] (Array.getElem?_eq_getElem hif)
    have hfi:=hf i fs[i] (Array.getElem?_eq_getElem hif)
    rw [h0,h1,List.getElem?_eq_getElem (by omega)] at hfi
    obtain ⟨v,hv,_,hw⟩:=DataW.trod_int (h2 _ (List.getElem?_eq_getElem hi)) hfi
    refine ⟨v,ks[i],List.getElem?_eq_getElem hi,?_,hw⟩
    have:=congrArg (fun l => l[0]?) hv
    simpa using this
  obtain ⟨V,hV⟩:=choose_lt each
  refine ⟨(List.range ks.length).map V,?_,by simp,fun j k v hj hv => ?_⟩
  · apply List.ext_getElem?
    intro i
    by_cases hi:i < ks.length
    · obtain ⟨k,hk1,hc,_⟩:=hV i hi
      rw [hc,ncells,List.getElem?_zipWith,hk1]
      simp [hi]
    · rw [List.getElem?_eq_none (by omega),List.getElem?_eq_none (by simp [ncells];omega)]
  · have hjl:j < ks.length:=(List.getElem?_eq_some_iff.1 hj).1
    obtain ⟨k',hk1,_,hw⟩:=hV j hjl
    rw [hj] at hk1
    cases hk1
    simp [hjl] at hv
    rw [← hv];exact hw
theorem rows_argN {t e:TypeId} {fs:Array Field} {ks:List IntKind} (ht:P.underlying t = some (.slice e)) (hs:P.underlying e = some (.struct fs)) (hk:fieldsN P fs ks) (hC:P.cellsOf e = ks.length) (hp:0 < ks.length)
    {a:Option Addr} {len cap n:Nat} {x:DataW H × List MemPlace} (h:DataW.trod enc P w 0 (fun _ => true) true n t [.slice a len cap] = some x) :
    ∃ l:List (List Int),len = l.length ∧ len ≤ cap ∧ cap ≤ maxLen ∧ (a = none → l = []) ∧ RowN ks w w.heap.size a l ∧ wfR ks l:=by
  rcases open_slice ht h with ⟨hcs,_⟩ | ⟨a',len',cap',m,n',D,Pl,hcs,_,hl,hm,hmm,_,hx⟩
  · simp at hcs
    obtain ⟨rfl,rfl,rfl⟩:=hcs
    exact ⟨[],rfl,Nat.le_refl _,by unfold maxLen;omega,fun _ => rfl,RowN.nil _ _ _ _,fun q hq => by cases hq⟩
  · simp at hcs
    obtain ⟨rfl,rfl,rfl⟩:=hcs
    have hlm:len ≤ m:=by rw [hmm];split <;> omega
    obtain ⟨F,hF⟩:=choose_lt (n:=len) (α:=List Int) (p:=fun i l => w.cells? 0 (a'.add (i * ks.length)) ks.length = some (ncells ks l) ∧ wfN ks l) (fun i hi => by
      obtain ⟨cs',h1,h2⟩:=hx i (by omega)
      rw [hC] at h1
      obtain ⟨l,rfl,hw⟩:=open_intsN hs hk hC h2
      exact ⟨l,h1,hw⟩)
    refine ⟨(List.range len).map F,by simp,hl,hm,(fun h => by cases h),fun hq => ?_,fun q hq => ?_⟩
    · simp at hq
      obtain ⟨b,off,spot⟩:=a'
      obtain ⟨_,hlen0,hc0⟩:=World.cells?_some (hF 0 hq).1
      have hc:=hc0 0 hp
      have hn0:0 < (ncells ks (F 0)).length:=by omega
      rw [List.getElem?_eq_getElem hn0] at hc
      have hspot:spot = none:=by simpa [Addr.add] using World.cell?_spot hc
      subst hspot
      have hblk:b < w.heap.size:=by
        have:=World.block_lt_of_cell? w _ hc
        simpa [Addr.add] using this
      refine ⟨b,off,rfl,hblk,fun i x hx j v hv => ?_⟩
      have hi:i < len:=by have:=(List.getElem?_eq_some_iff.1 hx).1;simpa using this
      simp [hi] at hx
      subst hx
      obtain ⟨_,hlen1,hc1⟩:=World.cells?_some (hF i hi).1
      have hj:j < ks.length:=by have:=(List.getElem?_eq_some_iff.1 hv).1;omega
      have:=hc1 j hj
      rw [hv,add_add,Addr.add_lit,← Nat.add_assoc] at this
      exact this
    · obtain ⟨i,hi,rfl⟩:=List.mem_map.1 hq
      exact (hF i (List.mem_range.1 hi)).2
end
/-- A configuration: its rows as lists of integers,in the order of the fields. -/
structure Cfg where
  parts:List (List Int)
  chans:List (List Int)
  len0:Int
  win0:List (List Int)
  len1:Int
  win1:List (List Int)
  deriving DecidableEq
/-- Where its rows lie,and their capacities. -/
structure CfgAt where
  pa:Option Addr
  pc:Nat
  ca:Option Addr
  cc:Nat
  aa:Option Addr
  ac:Nat
  ba:Option Addr
  bc:Nat
/-- It lies in the world so,below block number B. -/
structure CfgIn (w:World) (B:Nat) (c:Cfg) (x:CfgAt):Prop where
  rp:RowN [.i64,.i64] w B x.pa c.parts
  rc:RowN [.i64,.i64,.i64,.i64,.i64,.i64,.u32] w B x.ca c.chans
  ra:RowN [.i64,.i64,.i64] w B x.aa c.win0
  rb:RowN [.i64,.i64,.i64] w B x.ba c.win1
  lp:c.parts.length ≤ x.pc ∧ x.pc ≤ maxLen ∧ (x.pa = none → c.parts = [])
  lc:c.chans.length ≤ x.cc ∧ x.cc ≤ maxLen ∧ (x.ca = none → c.chans = [])
  la:c.win0.length ≤ x.ac ∧ x.ac ≤ maxLen ∧ (x.aa = none → c.win0 = [])
  lb:c.win1.length ≤ x.bc ∧ x.bc ≤ maxLen ∧ (x.ba = none → c.win1 = [])
structure CfgWf (c:Cfg):Prop where
  wp:wfR [.i64,.i64] c.parts
  wc:wfR [.i64,.i64,.i64,.i64,.i64,.i64,.u32] c.chans
  wa:wfR [.i64,.i64,.i64] c.win0
  wb:wfR [.i64,.i64,.i64] c.win1
  w0:(Lit.int .i64 c.len0).wf = true
  w1:(Lit.int .i64 c.len1).wf = true
theorem CfgIn.below {w w':World} {B:Nat} {c:Cfg} {x:CfgAt} (h:CfgIn w B c x) (hb:Below B w w'):CfgIn w' B c x:=⟨h.rp.below hb,h.rc.below hb,h.ra.below hb,h.rb.below hb,h.lp,h.lc,h.la,h.lb⟩
theorem CfgIn.more {w:World} {B B':Nat} {c:Cfg} {x:CfgAt} (h:CfgIn w B c x) (hb:B ≤ B'):CfgIn w B' c x:=⟨h.rp.more hb,h.rc.more hb,h.ra.more hb,h.rb.more hb,h.lp,h.lc,h.la,h.lb⟩
theorem CfgIn.later {w w':World} {c:Cfg} {x:CfgAt} (h:CfgIn w w.heap.size c x) (hb:Below w.heap.size w w'):CfgIn w' w'.heap.size c x:=(h.below hb).more hb.size
/-- Its six cells. -/
@[reducible] def cfgCells (c:Cfg) (x:CfgAt):Array Value:=#[.slice x.pa c.parts.length x.pc,.slice x.ca c.chans.length x.cc,.int .i64 c.len0,.slice x.aa c.win0.length x.ac,.int .i64 c.len1,.slice x.ba c.win1.length x.bc]
section
variable {H:Type} {enc:TypeId × Value → H} {P:Program} {w:World} {r:Reach} {b0:Nat}
/-- A frame's two cells,opened. -/
theorem open_frame {t e:TypeId} {f0 f1:Field} {fs:Array Field} (ht:P.underlying t = some (.struct #[f0,f1])) (o0:f0.offset = 0 ∧ P.cellsOf f0.type = 1) (o1:f1.offset = 1 ∧ P.cellsOf f1.type = 1)
    (u0:P.underlying f0.type = some (.int .i64)) (u1:P.underlying f1.type = some (.slice e)) (hs:P.underlying e = some (.struct fs)) (hk:fieldsN P fs [.i64,.i64,.i64]) (hC:P.cellsOf e = 3) {n:Nat} {v0 v1:Value} {x:DataW H × List MemPlace}
    (h:DataW.trod enc P w 0 (fun _ => true) true n t [v0,v1] = some x) :
    ∃ (k:Int) (A:Option Addr) (l:List (List Int)) (c:Nat),v0 = .int .i64 k ∧ v1 = .slice A l.length c ∧ (Lit.int .i64 k).wf = true ∧ RowN [.i64,.i64,.i64] w w.heap.size A l ∧ wfR [.i64,.i64,.i64] l ∧ l.length ≤ c ∧ c ≤ maxLen ∧ (A = none → l = []):=by
  obtain ⟨xs,m,_,_,_,hxl,hf⟩:=DataW.trod_struct ht h
  have h0:=hf 0 f0 rfl
  have h1:=hf 1 f1 rfl
  simp only [List.size_toArray,List.length_cons,List.length_nil] at hxl
  rw [o0.1,o0.2,List.getElem?_eq_getElem (by omega)] at h0
  rw [o1.1,o1.2,List.getElem?_eq_getElem (by omega)] at h1
  simp at h0 h1
  obtain ⟨k,e0,_,w0⟩:=DataW.trod_int u0 h0
  obtain ⟨A,len,c,e1⟩:=slice_form u1 h1
  rw [e1] at h1
  obtain ⟨l,rfl,hc,hm,hn,hr,hw⟩:=rows_argN u1 hs hk hC (by simp) h1
  simp at e0 e1
  exact ⟨k,A,l,c,e0,e1,w0,hr,hw,hc,hm,hn⟩
theorem array6 {α:Type} {cs:Array α} (h:cs.size = 6):∃ c0 c1 c2 c3 c4 c5,cs = #[c0,c1,c2,c3,c4,c5]:=by
  obtain ⟨l⟩:=cs
  match l,h with
  | [c0,c1,c2,c3,c4,c5],_ => exact ⟨c0,c1,c2,c3,c4,c5,rfl⟩
theorem cfg_arg {t tf ep ec ew:TypeId} {f0 f1 f2 g0 g1:Field} {fp fc fw:Array Field} (ht:P.underlying t = some (.struct #[f0,f1,f2])) (hC:P.cellsOf t = 6) (o0:f0.offset = 0 ∧ P.cellsOf f0.type = 1) (o1:f1.offset = 1 ∧ P.cellsOf f1.type = 1) (o2:f2.offset = 2 ∧ P.cellsOf f2.type = 4)
    (u0:P.underlying f0.type = some (.slice ep)) (up:P.underlying ep = some (.struct fp)) (hp:fieldsN P fp [.i64,.i64]) (kp:P.cellsOf ep = 2)
    (u1:P.underlying f1.type = some (.slice ec)) (uc:P.underlying ec = some (.struct fc)) (hc:fieldsN P fc [.i64,.i64,.i64,.i64,.i64,.i64,.u32]) (kc:P.cellsOf ec = 7)
    (u2:P.underlying f2.type = some (.array 2 tf)) (kf:P.cellsOf tf = 2) (uf:P.underlying tf = some (.struct #[g0,g1])) (q0:g0.offset = 0 ∧ P.cellsOf g0.type = 1) (q1:g1.offset = 1 ∧ P.cellsOf g1.type = 1)
    (v0:P.underlying g0.type = some (.int .i64)) (v1:P.underlying g1.type = some (.slice ew)) (uw:P.underlying ew = some (.struct fw)) (hw:fieldsN P fw [.i64,.i64,.i64]) (kw:P.cellsOf ew = 3)
    {v:Value} {d:DataW H} {p:List MemPlace} (hv:Value.okWide P w r b0 t v) (h:DataW.Trod enc P w 0 (fun _ => true) true t v d p) :
    ∃ (c:Cfg) (x:CfgAt),v = .agg (cfgCells c x) ∧ CfgIn w w.heap.size c x ∧ CfgWf c:=by
  obtain ⟨cs,rfl,hsz⟩:=okWide_struct ht hv
  obtain ⟨c0,c1,c2,c3,c4,c5,rfl⟩:=array6 (hsz.trans hC)
  obtain ⟨fuel,hf⟩:=h
  obtain ⟨xs,m,_,_,_,hxl,hff⟩:=DataW.trod_struct ht (show DataW.trod enc P w 0 (fun _ => true) true fuel t [c0,c1,c2,c3,c4,c5] = some (d,p) by simpa [Value.cells] using hf)
  simp only [List.size_toArray,List.length_cons,List.length_nil] at hxl
  have h0:=hff 0 f0 rfl
  have h1:=hff 1 f1 rfl
  have h2:=hff 2 f2 rfl
  rw [o0.1,o0.2,List.getElem?_eq_getElem (by omega)] at h0
  rw [o1.1,o1.2,List.getElem?_eq_getElem (by omega)] at h1
  rw [o2.1,o2.2,List.getElem?_eq_getElem (by omega)] at h2
  simp at h0 h1 h2
  obtain ⟨A0,n0,k0,e0⟩:=slice_form u0 h0
  rw [e0] at h0
  obtain ⟨l0,rfl,hc0,hm0,hn0,hr0,hw0⟩:=rows_argN u0 up hp kp (by simp) h0
  obtain ⟨A1,n1,k1,e1⟩:=slice_form u1 h1
  rw [e1] at h1
  obtain ⟨l1,rfl,hc1,hm1,hn1,hr1,hw1⟩:=rows_argN u1 uc hc kc (by simp) h1
  obtain ⟨ys,m',_,_,_,hyl,hyf⟩:=DataW.trod_array u2 h2
  have hA:=hyf 0 (by omega)
  have hB:=hyf 1 (by omega)
  rw [kf,List.getElem?_eq_getElem (by omega)] at hA hB
  simp at hA hB
  obtain ⟨i0,B0,b0',p0,rfl,rfl,wi0,rr0,ww0,le0,ma0,nn0⟩:=open_frame uf q0 q1 v0 v1 uw hw kw hA
  obtain ⟨i1,B1,b1',p1,rfl,rfl,wi1,rr1,ww1,le1,ma1,nn1⟩:=open_frame uf q0 q1 v0 v1 uw hw kw hB
  simp at e0 e1
  subst e0 e1
  exact ⟨⟨l0,l1,i0,b0',i1,b1'⟩,⟨A0,k0,A1,k1,B0,p0,B1,p1⟩,rfl,⟨hr0,hr1,rr0,rr1,⟨hc0,hm0,hn0⟩,⟨hc1,hm1,hn1⟩,⟨le0,ma0,nn0⟩,⟨le1,ma1,nn1⟩⟩,⟨hw0,hw1,ww0,ww1,wi0,wi1⟩⟩
end
/-- A configuration in a box of its own,in every world that is as W below W's blocks. -/
def CBox (W:World) (b:Nat) (c:Cfg) (x:CfgAt):Prop:=∀ w',Below W.heap.size W w' →
  w'.cell? ⟨b,0,none⟩ = some (.slice x.pa c.parts.length x.pc) ∧ w'.cell? ⟨b,1,none⟩ = some (.slice x.ca c.chans.length x.cc) ∧ w'.cell? ⟨b,2,none⟩ = some (.int .i64 c.len0) ∧
  w'.cell? ⟨b,3,none⟩ = some (.slice x.aa c.win0.length x.ac) ∧ w'.cell? ⟨b,4,none⟩ = some (.int .i64 c.len1) ∧ w'.cell? ⟨b,5,none⟩ = some (.slice x.ba c.win1.length x.bc)
theorem CBox.on {W W':World} {b:Nat} {c:Cfg} {x:CfgAt} (h:CBox W b c x) (hb:Below W.heap.size W W'):CBox W' b c x:=fun w' hb' => h w' (hb.trans (hb'.mono hb.size))
theorem cell_blk {W:World} {b:Nat} {cs:Array Value} {t:TypeId} {m:Nat × Nat} {i:Nat} {v:Value} (h:W.heap[b]? = some (.cells cs t m)) (hv:cs[i]? = some v):W.cell? ⟨b,i,none⟩ = some v:=by
  simp [World.cell?,h,hv]
theorem cbox_new (w:World) (c:Cfg) (x:CfgAt) (t:TypeId):CBox (w.alloc (.cells (cfgCells c x) t)) w.heap.size c x:=by
  intro w' hb
  have h:∀ o v,(w.alloc (.cells (cfgCells c x) t)).cell? ⟨w.heap.size,o,none⟩ = some v → w'.cell? ⟨w.heap.size,o,none⟩ = some v:=fun o v h => (hb.cell (p:=⟨w.heap.size,o,none⟩) (by simp)).trans h
  exact ⟨h 0 _ (cell_blk (heap_alloc_new w _) rfl),h 1 _ (cell_blk (heap_alloc_new w _) rfl),h 2 _ (cell_blk (heap_alloc_new w _) rfl),h 3 _ (cell_blk (heap_alloc_new w _) rfl),h 4 _ (cell_blk (heap_alloc_new w _) rfl),h 5 _ (cell_blk (heap_alloc_new w _) rfl)⟩
theorem one_cbox (w:World) (c:Cfg) (x:CfgAt) (t:TypeId):∃ W,Hid (W = w.alloc (.cells (cfgCells c x) t)) ∧ Below w.heap.size w W ∧ W.heap.size = w.heap.size + 1 ∧ CBox W w.heap.size c x:=
  ⟨_,rfl,(Below.refl _ _).alloc (Nat.le_refl _) _,by simp,cbox_new w c x t⟩
theorem wfN2 {x:List Int} (h:wfN [.i64,.i64] x):∃ x0 x1:Int,x = [x0,x1] ∧ (Lit.int .i64 x0).wf = true ∧ (Lit.int .i64 x1).wf = true:=by
  obtain ⟨hl,hw⟩:=h
  match x,hl,hw with
  | [x0,x1],_,hw => exact ⟨x0,x1,rfl,hw 0 _ _ rfl rfl,hw 1 _ _ rfl rfl⟩
theorem wfN2_mk {x0 x1:Int} (h0:(Lit.int .i64 x0).wf = true) (h1:(Lit.int .i64 x1).wf = true):wfN [.i64,.i64] [x0,x1]:=by
  refine ⟨rfl,fun j k v hk hv => ?_⟩
  match j,hk,hv with
  | 0,hk,hv => simp at hk hv;subst hk hv;exact h0
  | 1,hk,hv => simp at hk hv;subst hk hv;exact h1
/-- The struct at place i,in every world that is as w below B. -/
theorem RowN.at2 {w:World} {B:Nat} {A:Option Addr} {l:List (List Int)} (h:RowN [.i64,.i64] w B A l) (hw:wfR [.i64,.i64] l) {i:Nat} (hi:i < l.length) :
    ∃ (b o:Nat) (x0 x1:Int),A = some ⟨b,o,none⟩ ∧ b < B ∧ l[i]? = some [x0,x1] ∧ ((Lit.int .i64 x0).wf = true ∧ (Lit.int .i64 x1).wf = true) ∧ ∀ w',Below B w w' → w'.cell? ⟨b,o + i * 2,none⟩ = some (.int .i64 x0) ∧ w'.cell? ⟨b,o + i * 2 + 1,none⟩ = some (.int .i64 x1):=by
  obtain ⟨b,o,hA,hlt,hcc⟩:=h (by omega)
  have hx:l[i]? = some l[i]:=List.getElem?_eq_getElem hi
  obtain ⟨x0,x1,he,hwf⟩:=wfN2 (hw l[i] (List.getElem_mem hi))
  rw [he] at hx
  have hc:∀ w',Below B w w' → ∀ (j:Nat) (v:Value),(ncells [.i64,.i64] [x0,x1])[j]? = some v → w'.cell? ⟨b,o + i * 2 + j,none⟩ = some v:=fun w' hb j v hv => (hb.cell (p:=⟨b,o + i * 2 + j,none⟩) hlt).trans (hcc i _ hx j v hv)
  exact ⟨b,o,x0,x1,hA,hlt,hx,hwf,fun w' hb => ⟨by have:=hc w' hb 0 _ rfl;simpa [List.length] using this,by have:=hc w' hb 1 _ rfl;simpa [List.length] using this⟩⟩
theorem wfN3 {x:List Int} (h:wfN [.i64,.i64,.i64] x):∃ x0 x1 x2:Int,x = [x0,x1,x2] ∧ (Lit.int .i64 x0).wf = true ∧ (Lit.int .i64 x1).wf = true ∧ (Lit.int .i64 x2).wf = true:=by
  obtain ⟨hl,hw⟩:=h
  match x,hl,hw with
  | [x0,x1,x2],_,hw => exact ⟨x0,x1,x2,rfl,hw 0 _ _ rfl rfl,hw 1 _ _ rfl rfl,hw 2 _ _ rfl rfl⟩
theorem wfN3_mk {x0 x1 x2:Int} (h0:(Lit.int .i64 x0).wf = true) (h1:(Lit.int .i64 x1).wf = true) (h2:(Lit.int .i64 x2).wf = true):wfN [.i64,.i64,.i64] [x0,x1,x2]:=by
  refine ⟨rfl,fun j k v hk hv => ?_⟩
  match j,hk,hv with
  | 0,hk,hv => simp at hk hv;subst hk hv;exact h0
  | 1,hk,hv => simp at hk hv;subst hk hv;exact h1
  | 2,hk,hv => simp at hk hv;subst hk hv;exact h2
/-- The struct at place i,in every world that is as w below B. -/
theorem RowN.at3 {w:World} {B:Nat} {A:Option Addr} {l:List (List Int)} (h:RowN [.i64,.i64,.i64] w B A l) (hw:wfR [.i64,.i64,.i64] l) {i:Nat} (hi:i < l.length) :
    ∃ (b o:Nat) (x0 x1 x2:Int),A = some ⟨b,o,none⟩ ∧ b < B ∧ l[i]? = some [x0,x1,x2] ∧ ((Lit.int .i64 x0).wf = true ∧ (Lit.int .i64 x1).wf = true ∧ (Lit.int .i64 x2).wf = true) ∧ ∀ w',Below B w w' → w'.cell? ⟨b,o + i * 3,none⟩ = some (.int .i64 x0) ∧ w'.cell? ⟨b,o + i * 3 + 1,none⟩ = some (.int .i64 x1) ∧ w'.cell? ⟨b,o + i * 3 + 2,none⟩ = some (.int .i64 x2):=by
  obtain ⟨b,o,hA,hlt,hcc⟩:=h (by omega)
  have hx:l[i]? = some l[i]:=List.getElem?_eq_getElem hi
  obtain ⟨x0,x1,x2,he,hwf⟩:=wfN3 (hw l[i] (List.getElem_mem hi))
  rw [he] at hx
  have hc:∀ w',Below B w w' → ∀ (j:Nat) (v:Value),(ncells [.i64,.i64,.i64] [x0,x1,x2])[j]? = some v → w'.cell? ⟨b,o + i * 3 + j,none⟩ = some v:=fun w' hb j v hv => (hb.cell (p:=⟨b,o + i * 3 + j,none⟩) hlt).trans (hcc i _ hx j v hv)
  exact ⟨b,o,x0,x1,x2,hA,hlt,hx,hwf,fun w' hb => ⟨by have:=hc w' hb 0 _ rfl;simpa [List.length] using this,by have:=hc w' hb 1 _ rfl;simpa [List.length] using this,by have:=hc w' hb 2 _ rfl;simpa [List.length] using this⟩⟩
theorem wfN7 {x:List Int} (h:wfN [.i64,.i64,.i64,.i64,.i64,.i64,.u32] x):∃ x0 x1 x2 x3 x4 x5 x6:Int,x = [x0,x1,x2,x3,x4,x5,x6] ∧ (Lit.int .i64 x0).wf = true ∧ (Lit.int .i64 x1).wf = true ∧ (Lit.int .i64 x2).wf = true ∧ (Lit.int .i64 x3).wf = true ∧ (Lit.int .i64 x4).wf = true ∧ (Lit.int .i64 x5).wf = true ∧ (Lit.int .u32 x6).wf = true:=by
  obtain ⟨hl,hw⟩:=h
  match x,hl,hw with
  | [x0,x1,x2,x3,x4,x5,x6],_,hw => exact ⟨x0,x1,x2,x3,x4,x5,x6,rfl,hw 0 _ _ rfl rfl,hw 1 _ _ rfl rfl,hw 2 _ _ rfl rfl,hw 3 _ _ rfl rfl,hw 4 _ _ rfl rfl,hw 5 _ _ rfl rfl,hw 6 _ _ rfl rfl⟩
theorem wfN7_mk {x0 x1 x2 x3 x4 x5 x6:Int} (h0:(Lit.int .i64 x0).wf = true) (h1:(Lit.int .i64 x1).wf = true) (h2:(Lit.int .i64 x2).wf = true) (h3:(Lit.int .i64 x3).wf = true) (h4:(Lit.int .i64 x4).wf = true) (h5:(Lit.int .i64 x5).wf = true) (h6:(Lit.int .u32 x6).wf = true):wfN [.i64,.i64,.i64,.i64,.i64,.i64,.u32] [x0,x1,x2,x3,x4,x5,x6]:=by
  refine ⟨rfl,fun j k v hk hv => ?_⟩
  match j,hk,hv with
  | 0,hk,hv => simp at hk hv;subst hk hv;exact h0
  | 1,hk,hv => simp at hk hv;subst hk hv;exact h1
  | 2,hk,hv => simp at hk hv;subst hk hv;exact h2
  | 3,hk,hv => simp at hk hv;subst hk hv;exact h3
  | 4,hk,hv => simp at hk hv;subst hk hv;exact h4
  | 5,hk,hv => simp at hk hv;subst hk hv;exact h5
  | 6,hk,hv => simp at hk hv;subst hk hv;exact h6
/-- The struct at place i,in every world that is as w below B. -/
theorem RowN.at7 {w:World} {B:Nat} {A:Option Addr} {l:List (List Int)} (h:RowN [.i64,.i64,.i64,.i64,.i64,.i64,.u32] w B A l) (hw:wfR [.i64,.i64,.i64,.i64,.i64,.i64,.u32] l) {i:Nat} (hi:i < l.length) :
    ∃ (b o:Nat) (x0 x1 x2 x3 x4 x5 x6:Int),A = some ⟨b,o,none⟩ ∧ b < B ∧ l[i]? = some [x0,x1,x2,x3,x4,x5,x6] ∧ ((Lit.int .i64 x0).wf = true ∧ (Lit.int .i64 x1).wf = true ∧ (Lit.int .i64 x2).wf = true ∧ (Lit.int .i64 x3).wf = true ∧ (Lit.int .i64 x4).wf = true ∧ (Lit.int .i64 x5).wf = true ∧ (Lit.int .u32 x6).wf = true) ∧ ∀ w',Below B w w' → w'.cell? ⟨b,o + i * 7,none⟩ = some (.int .i64 x0) ∧ w'.cell? ⟨b,o + i * 7 + 1,none⟩ = some (.int .i64 x1) ∧ w'.cell? ⟨b,o + i * 7 + 2,none⟩ = some (.int .i64 x2) ∧ w'.cell? ⟨b,o + i * 7 + 3,none⟩ = some (.int .i64 x3) ∧ w'.cell? ⟨b,o + i * 7 + 4,none⟩ = some (.int .i64 x4) ∧ w'.cell? ⟨b,o + i * 7 + 5,none⟩ = some (.int .i64 x5) ∧ w'.cell? ⟨b,o + i * 7 + 6,none⟩ = some (.int .u32 x6):=by
  obtain ⟨b,o,hA,hlt,hcc⟩:=h (by omega)
  have hx:l[i]? = some l[i]:=List.getElem?_eq_getElem hi
  obtain ⟨x0,x1,x2,x3,x4,x5,x6,he,hwf⟩:=wfN7 (hw l[i] (List.getElem_mem hi))
  rw [he] at hx
  have hc:∀ w',Below B w w' → ∀ (j:Nat) (v:Value),(ncells [.i64,.i64,.i64,.i64,.i64,.i64,.u32] [x0,x1,x2,x3,x4,x5,x6])[j]? = some v → w'.cell? ⟨b,o + i * 7 + j,none⟩ = some v:=fun w' hb j v hv => (hb.cell (p:=⟨b,o + i * 7 + j,none⟩) hlt).trans (hcc i _ hx j v hv)
  exact ⟨b,o,x0,x1,x2,x3,x4,x5,x6,hA,hlt,hx,hwf,fun w' hb => ⟨by have:=hc w' hb 0 _ rfl;simpa [List.length] using this,by have:=hc w' hb 1 _ rfl;simpa [List.length] using this,by have:=hc w' hb 2 _ rfl;simpa [List.length] using this,by have:=hc w' hb 3 _ rfl;simpa [List.length] using this,by have:=hc w' hb 4 _ rfl;simpa [List.length] using this,by have:=hc w' hb 5 _ rfl;simpa [List.length] using this,by have:=hc w' hb 6 _ rfl;simpa [List.length] using this⟩⟩
end Go.Proofs.YtheeiklgblcjfaaGreatDoor
end
section
namespace Go.Proofs.YtheeiklgblcjfaaGreatDoor
open Go.RowKit Go.Sort Go.ChangeShapes Go.WideShapes
set_option linter.unusedVariables false
set_option linter.unusedSimpArgs false
theorem fields2:∃ fs,Tryz.prog.underlying 131 = some (.struct fs) ∧ fieldsN Tryz.prog fs [.i64,.i64]:=by
  refine ⟨_,Tryz.underlying131,rfl,fun i f h => ?_⟩
  match i,h with
  | 0,h => cases h;exact ⟨rfl,by kernel_rfl,fun k hk => by cases hk;exact Tryz.underlying3⟩
  | 1,h => cases h;exact ⟨rfl,by kernel_rfl,fun k hk => by cases hk;exact Tryz.underlying3⟩
  | i + 2,h => simp at h
theorem fields3:∃ fs,Tryz.prog.underlying 133 = some (.struct fs) ∧ fieldsN Tryz.prog fs [.i64,.i64,.i64]:=by
  refine ⟨_,Tryz.underlying133,rfl,fun i f h => ?_⟩
  match i,h with
  | 0,h => cases h;exact ⟨rfl,by kernel_rfl,fun k hk => by cases hk;exact Tryz.underlying3⟩
  | 1,h => cases h;exact ⟨rfl,by kernel_rfl,fun k hk => by cases hk;exact Tryz.underlying3⟩
  | 2,h => cases h;exact ⟨rfl,by kernel_rfl,fun k hk => by cases hk;exact Tryz.underlying3⟩
  | i + 3,h => simp at h
theorem fields7:∃ fs,Tryz.prog.underlying 91 = some (.struct fs) ∧ fieldsN Tryz.prog fs [.i64,.i64,.i64,.i64,.i64,.i64,.u32]:=by
  refine ⟨_,Tryz.underlying91,rfl,fun i f h => ?_⟩
  match i,h with
  | 0,h => cases h;exact ⟨rfl,by kernel_rfl,fun k hk => by cases hk;exact Tryz.underlying3⟩
  | 1,h => cases h;exact ⟨rfl,by kernel_rfl,fun k hk => by cases hk;exact Tryz.underlying3⟩
  | 2,h => cases h;exact ⟨rfl,by kernel_rfl,fun k hk => by cases hk;exact Tryz.underlying3⟩
  | 3,h => cases h;exact ⟨rfl,by kernel_rfl,fun k hk => by cases hk;exact Tryz.underlying3⟩
  | 4,h => cases h;exact ⟨rfl,by kernel_rfl,fun k hk => by cases hk;exact Tryz.underlying3⟩
  | 5,h => cases h;exact ⟨rfl,by kernel_rfl,fun k hk => by cases hk;exact Tryz.underlying3⟩
  | 6,h => cases h;exact ⟨rfl,by kernel_rfl,fun k hk => by cases hk;exact Tryz.underlying89⟩
  | i + 7,h => simp at h
set_option maxRecDepth 100000 in
theorem cfg_open {H:Type} {enc:TypeId × Value → H} {w:World} {r:Reach} {b0:Nat} {v:Value} {d:DataW H} {p:List MemPlace} (hv:Value.okWide Tryz.prog w r b0 29 v) (h:DataW.Trod enc Tryz.prog w 0 (fun _ => true) true 29 v d p) :
    ∃ (c:Cfg) (x:CfgAt),v = .agg (cfgCells c x) ∧ CfgIn w w.heap.size c x ∧ CfgWf c:=by
  obtain ⟨f2,u2,k2⟩:=fields2
  obtain ⟨f3,u3,k3⟩:=fields3
  obtain ⟨f7,u7,k7⟩:=fields7
  exact cfg_arg Tryz.underlying29 (by kernel_rfl) ⟨rfl,by kernel_rfl⟩ ⟨rfl,by kernel_rfl⟩ ⟨rfl,by kernel_rfl⟩ Tryz.underlying22 u2 k2 (by kernel_rfl) Tryz.underlying23 u7 k7 (by kernel_rfl) Tryz.underlying27 (by kernel_rfl) Tryz.underlying26 ⟨rfl,by kernel_rfl⟩ ⟨rfl,by kernel_rfl⟩ Tryz.underlying3 Tryz.underlying24 u3 k3 (by kernel_rfl) hv h
end Go.Proofs.YtheeiklgblcjfaaGreatDoor
end
section
namespace Go.Proofs.YtheeiklgblcjfaaGreatDoor
open Go.RowKit Go.Sort Go.ChangeShapes Go.WideShapes
set_option linter.unusedVariables false
set_option linter.unusedSimpArgs false
def icells (xs:List Int):List Value:=xs.map (Value.int .i64)
theorem icells_app (a b:List Int):icells (a ++ b) = icells a ++ icells b:=by simp [icells]
/-- A call that hands back a new list of integers,and turns nothing that was there. -/
def GivesNums (w:World) (xs:List Int) (e:Ending) (w':World):Prop:=∃ v,e = .returned v ∧ OwnsOff w' w.heap.size 3 1 v xs.length (icells xs) ∧ Below w.heap.size w w'
theorem news_new (w:World) (cs:Array Value) (t:TypeId):∀ j u,cs.toList[j]? = some u → (w.alloc (.cells cs t)).cell? ((⟨w.heap.size,0,none⟩:Addr).add j) = some u:=fun j u hu => by
  rw [Addr.add_lit,Nat.zero_add]
  exact cell_blk (heap_alloc_new w _) (by simpa using hu)
theorem Tryz.infoI:(Tryz.prog.info? 3).map (fun i => (i.zero,i.size,i.bytes)) = some (some (.int .i64 0),1,8):=by kernel_rfl
/-- Few rows. -/
def CfgFew (c:Cfg):Prop:=c.parts.length ≤ 1000000 ∧ c.chans.length ≤ 1000000 ∧ c.win0.length ≤ 1000000 ∧ c.win1.length ≤ 1000000
end Go.Proofs.YtheeiklgblcjfaaGreatDoor
end
section
namespace Go.Proofs.YtheeiklgblcjfaaGreatDoor
open Go.RowKit Go.Sort
set_option linter.unusedVariables false
set_option linter.unusedSimpArgs false
/-- Has one of the first n places it? -/
def scan (n:Nat) (f:Nat → Bool):Bool:=(List.range n).any f
theorem scan_next {n:Nat} {f:Nat → Bool} (h:scan n f = false) (hf:f n = false):scan (n + 1) f = false:=by
  unfold scan at *
  rw [List.range_succ,List.any_append,h]
  simp [hf]
theorem scan_hit {n i:Nat} {f:Nat → Bool} (hi:i < n) (hf:f i = true):scan n f = true:=List.any_eq_true.2 ⟨i,List.mem_range.2 hi,hf⟩
theorem scan_false {n:Nat} {f:Nat → Bool}:scan n f = false ↔ ∀ i,i < n → f i = false:=by
  unfold scan
  rw [List.any_eq_false]
  constructor
  · intro h i hi;simpa using h i (List.mem_range.2 hi)
  · intro h i hi;simpa using h i (List.mem_range.1 hi)
theorem scan_congr {n:Nat} {f g:Nat → Bool} (h:∀ i,i < n → f i = g i):scan n f = scan n g:=by
  unfold scan
  rw [Bool.eq_iff_iff,List.any_eq_true,List.any_eq_true]
  constructor
  · rintro ⟨i,hi,hf⟩;exact ⟨i,hi,by rw [← h i (List.mem_range.1 hi)];exact hf⟩
  · rintro ⟨i,hi,hf⟩;exact ⟨i,hi,by rw [h i (List.mem_range.1 hi)];exact hf⟩
/-- The number at a place of a row. -/
def fld (x:List Int) (j:Nat):Int:=x.getD j 0
def row (l:List (List Int)) (i:Nat):List Int:=l.getD i []
theorem row_at {l:List (List Int)} {i:Nat} {x:List Int} (h:l[i]? = some x):row l i = x:=by simp [row,List.getD_eq_getElem?_getD,h]
def wordB (n:Int):Bool:=decide (0 ≤ n ∧ n ≤ 4294967295)
/-- Is it a partition's number? -/
def partB (c:Cfg) (p:Int):Bool:=decide (0 ≤ p ∧ p < (c.parts.length:Int))
/-- A channel's defects,5 to 11. -/
def chanBad (n:Nat) (k:Int) (x:List Int):Bool:=
  if k = 5 then decide (fld x 0 ≠ 1 ∧ fld x 0 ≠ 2)
  else if k = 6 then decide (¬ (0 ≤ fld x 1 ∧ fld x 1 < (n:Int)) ∨ ¬ (0 ≤ fld x 2 ∧ fld x 2 < (n:Int)))
  else if k = 7 then decide (fld x 1 = fld x 2)
  else if k = 8 then decide (fld x 3 < 1 ∨ 16 < fld x 3)
  else if k = 9 then decide ((fld x 0 = 1 ∧ fld x 4 ≠ 0) ∨ (fld x 0 = 2 ∧ fld x 4 ≠ 1 ∧ fld x 4 ≠ 2 ∧ fld x 4 ≠ 4 ∧ fld x 4 ≠ 8))
  else if k = 10 then decide ((fld x 0 = 1 ∧ (fld x 5 < 0 ∨ 1048576 < fld x 5)) ∨ (fld x 0 = 2 ∧ fld x 5 ≠ 0))
  else if k = 11 then decide (fld x 0 = 1 ∧ fld x 6 ≠ 0) else false
def chansB (c:Cfg) (k:Int):Bool:=scan c.chans.length (fun i => chanBad c.parts.length k (row c.chans i))
/-- A window's defects,14 to 16. -/
def win14 (c:Cfg) (f:Int) (x:List Int):Bool:=!partB c (fld x 0) || decide (fld (row c.parts (fld x 0).toNat) 0 ≠ f)
def win15 (len:Int) (x:List Int):Bool:=decide (fld x 1 < 0 ∨ fld x 2 < 1 ∨ len < fld x 1 ∨ len - fld x 1 < fld x 2)
def win16 (p x:List Int):Bool:=wordB (fld x 1) && wordB (fld p 1) && wordB (fld p 2) && decide (fld x 1 < fld p 1 + fld p 2)
def winsB (c:Cfg) (f:Int) (len:Int) (l:List (List Int)) (k:Int):Bool:=
  if k = 12 then decide (len < 1 ∨ 64 < len)
  else if k = 13 then decide (16 < l.length)
  else if k = 14 then scan l.length (fun i => win14 c f (row l i))
  else if k = 15 then scan l.length (fun i => win15 len (row l i))
  else if k = 16 then scan l.length (fun i => decide (0 < i) && win16 (row l (i - 1)) (row l i)) else false
/-- Has a partition a window in the frame of its core? -/
def windowB (c:Cfg) (p:Nat):Bool:=
  if fld (row c.parts p) 0 = 0 then scan c.win0.length (fun i => decide (fld (row c.win0 i) 0 = (p:Int)))
  else if fld (row c.parts p) 0 = 1 then scan c.win1.length (fun i => decide (fld (row c.win1 i) 0 = (p:Int))) else false
def partBad (c:Cfg) (k:Int) (i:Nat):Bool:=
  if k = 2 then decide (fld (row c.parts i) 0 ≠ 0 ∧ fld (row c.parts i) 0 ≠ 1)
  else if k = 3 then decide (fld (row c.parts i) 1 < 0 ∨ 64 < fld (row c.parts i) 1)
  else if k = 17 then !windowB c i else false
/-- Has a configuration the defect k? -/
def holdsB (c:Cfg) (k:Int):Bool:=
  if k = 1 then decide (c.parts.length < 1 ∨ 6 < c.parts.length)
  else if k = 2 ∨ k = 3 ∨ k = 17 then scan c.parts.length (fun i => partBad c k i)
  else if k = 4 then decide (8 < c.chans.length)
  else if 5 ≤ k ∧ k ≤ 11 then chansB c k
  else if 12 ≤ k ∧ k ≤ 16 then winsB c 0 c.len0 c.win0 k || winsB c 1 c.len1 c.win1 k else false
/-- All defects,rising. -/
def allB (c:Cfg) (n:Nat):List Int:=((List.range n).map (fun i:Nat => (i:Int) + 1)).filter (holdsB c)
theorem allB_next (c:Cfg) (n:Nat):allB c (n + 1) = allB c n ++ (if holdsB c ((n:Int) + 1) = true then [(n:Int) + 1] else []):=by
  simp only [allB,List.range_succ,List.map_append,List.map_cons,List.map_nil,List.filter_append]
  congr 1
  by_cases h:holdsB c ((n:Int) + 1) = true <;> simp [h]
theorem chansB_any (c:Cfg) (k:Int):chansB c k = c.chans.any (chanBad c.parts.length k):=by
  unfold chansB scan
  rw [Bool.eq_iff_iff,List.any_eq_true,List.any_eq_true]
  constructor
  · rintro ⟨i,hi,h⟩
    have hi:=List.mem_range.1 hi
    exact ⟨c.chans[i],List.getElem_mem hi,by rw [← row_at (List.getElem?_eq_getElem hi)];exact h⟩
  · rintro ⟨x,hx,h⟩
    obtain ⟨i,hi,rfl⟩:=List.getElem_of_mem hx
    exact ⟨i,List.mem_range.2 hi,by rw [row_at (List.getElem?_eq_getElem hi)];exact h⟩
end Go.Proofs.YtheeiklgblcjfaaGreatDoor
end
section
namespace Go.Proofs.YtheeiklgblcjfaaGreatDoor
open Go.RowKit Go.Sort
set_option linter.unusedVariables false
set_option linter.unusedSimpArgs false
/-- How many words a channel's source span has. -/
def srcN (x:List Int):Int:=if fld x 0 = 1 then 11 + 4 * fld x 3 else 1 + fld x 4 + fld x 4 * fld x 3
/-- How many words the first partitions',channels' spans have together. -/
def privUp (l:List (List Int)):Nat → Int
  | 0 => 0
  | n + 1 => privUp l n + fld (row l n) 1
def chanUp (l:List (List Int)):Nat → Int
  | 0 => 0
  | n + 1 => chanUp l n + srcN (row l n) + 1
def beforeN (c:Cfg) (k:Nat):Int:=privUp c.parts c.parts.length + chanUp c.chans k
def acceptsB (c:Cfg):Bool:=decide (allB c 17 = [])
/-- What an accepted configuration has. -/
structure Accd (c:Cfg):Prop where
  parts:1 ≤ c.parts.length ∧ c.parts.length ≤ 6
  priv:∀ i,i < c.parts.length → 0 ≤ fld (row c.parts i) 1 ∧ fld (row c.parts i) 1 ≤ 64
  chans:c.chans.length ≤ 8
  chan:∀ i,i < c.chans.length → (fld (row c.chans i) 0 = 1 ∨ fld (row c.chans i) 0 = 2) ∧ 1 ≤ fld (row c.chans i) 3 ∧ fld (row c.chans i) 3 ≤ 16 ∧ 0 ≤ fld (row c.chans i) 4 ∧ fld (row c.chans i) 4 ≤ 8 ∧
    (fld (row c.chans i) 0 = 1 → fld (row c.chans i) 4 = 0) ∧ (fld (row c.chans i) 0 = 2 → 1 ≤ fld (row c.chans i) 4) ∧
    0 ≤ fld (row c.chans i) 1 ∧ fld (row c.chans i) 1 < (c.parts.length:Int) ∧ 0 ≤ fld (row c.chans i) 2 ∧ fld (row c.chans i) 2 < (c.parts.length:Int) ∧ fld (row c.chans i) 1 ≠ fld (row c.chans i) 2
theorem allB_nil {c:Cfg} (h:allB c 17 = []) {k:Int} (h1:1 ≤ k) (h2:k ≤ 17):holdsB c k = false:=by
  cases hh:holdsB c k with
  | false => rfl
  | true =>
    exfalso
    have:k ∈ allB c 17:=by
      unfold allB
      rw [List.mem_filter]
      exact ⟨List.mem_map.2 ⟨(k - 1).toNat,List.mem_range.2 (by omega),by omega⟩,hh⟩
    rw [h] at this
    cases this
theorem accd_of {c:Cfg} (h:acceptsB c = true):Accd c:=by
  have hn:allB c 17 = []:=of_decide_eq_true h
  have b:∀ k:Int,1 ≤ k → k ≤ 17 → holdsB c k = false:=fun k => allB_nil hn
  have b1:¬ (c.parts.length < 1 ∨ 6 < c.parts.length):=of_decide_eq_false (b 1 (by omega) (by omega))
  have b3:∀ i,i < c.parts.length → partBad c 3 i = false:=scan_false.1 (b 3 (by omega) (by omega))
  have b4:¬ (8 < c.chans.length):=of_decide_eq_false (b 4 (by omega) (by omega))
  have bc:∀ k:Int,5 ≤ k → k ≤ 11 → ∀ i,i < c.chans.length → chanBad c.parts.length k (row c.chans i) = false:=fun k h1 h2 => by
    have:=b k (by omega) (by omega)
    unfold holdsB at this
    rw [if_neg (by omega),if_neg (by omega),if_neg (by omega),if_pos ⟨h1,h2⟩] at this
    exact scan_false.1 this
  refine ⟨by omega,fun i hi => ?_,by omega,fun i hi => ?_⟩
  · have:=of_decide_eq_false (show decide (fld (row c.parts i) 1 < 0 ∨ 64 < fld (row c.parts i) 1) = false from b3 i hi)
    omega
  · have c5:=of_decide_eq_false (show decide (fld (row c.chans i) 0 ≠ 1 ∧ fld (row c.chans i) 0 ≠ 2) = false from bc 5 (by omega) (by omega) i hi)
    have c6:=of_decide_eq_false (show decide (¬ (0 ≤ fld (row c.chans i) 1 ∧ fld (row c.chans i) 1 < (c.parts.length:Int)) ∨ ¬ (0 ≤ fld (row c.chans i) 2 ∧ fld (row c.chans i) 2 < (c.parts.length:Int))) = false from bc 6 (by omega) (by omega) i hi)
    have c7:=of_decide_eq_false (show decide (fld (row c.chans i) 1 = fld (row c.chans i) 2) = false from bc 7 (by omega) (by omega) i hi)
    have c8:=of_decide_eq_false (show decide (fld (row c.chans i) 3 < 1 ∨ 16 < fld (row c.chans i) 3) = false from bc 8 (by omega) (by omega) i hi)
    have c9:=of_decide_eq_false (show decide ((fld (row c.chans i) 0 = 1 ∧ fld (row c.chans i) 4 ≠ 0) ∨ (fld (row c.chans i) 0 = 2 ∧ fld (row c.chans i) 4 ≠ 1 ∧ fld (row c.chans i) 4 ≠ 2 ∧ fld (row c.chans i) 4 ≠ 4 ∧ fld (row c.chans i) 4 ≠ 8)) = false from bc 9 (by omega) (by omega) i hi)
    omega
theorem srcN_in {x:List Int} (h0:fld x 0 = 1 ∨ fld x 0 = 2) (h1:1 ≤ fld x 3) (h2:fld x 3 ≤ 16) (h3:0 ≤ fld x 4) (h4:fld x 4 ≤ 8):1 ≤ srcN x ∧ srcN x ≤ 137:=by
  have h5:0 ≤ fld x 4 * fld x 3:=Int.mul_nonneg h3 (by omega)
  have h6:fld x 4 * fld x 3 ≤ 8 * 16:=Int.mul_le_mul h4 h2 (by omega) (by omega)
  unfold srcN
  split <;> omega
theorem privUp_in {c:Cfg} (h:Accd c):∀ n,n ≤ c.parts.length → 0 ≤ privUp c.parts n ∧ privUp c.parts n ≤ 64 * (n:Int)
  | 0,_ => ⟨Int.le_refl _,Int.le_refl _⟩
  | n + 1,hn => by
    have ih:=privUp_in h n (by omega)
    have hp:=h.priv n (by omega)
    show 0 ≤ privUp c.parts n + fld (row c.parts n) 1 ∧ privUp c.parts n + fld (row c.parts n) 1 ≤ 64 * ((n + 1:Nat):Int)
    omega
theorem chanUp_in {c:Cfg} (h:Accd c):∀ n,n ≤ c.chans.length → 0 ≤ chanUp c.chans n ∧ chanUp c.chans n ≤ 138 * (n:Int)
  | 0,_ => ⟨Int.le_refl _,Int.le_refl _⟩
  | n + 1,hn => by
    have ih:=chanUp_in h n (by omega)
    obtain ⟨a,b,c',d,e,_⟩:=h.chan n (by omega)
    have hs:=srcN_in a b c' d e
    show 0 ≤ chanUp c.chans n + srcN (row c.chans n) + 1 ∧ chanUp c.chans n + srcN (row c.chans n) + 1 ≤ 138 * ((n + 1:Nat):Int)
    omega
theorem beforeN_in {c:Cfg} (h:Accd c) {k:Nat} (hk:k ≤ c.chans.length):0 ≤ beforeN c k ∧ beforeN c k ≤ 1488:=by
  have h1:=privUp_in h c.parts.length (Nat.le_refl _)
  have h2:=chanUp_in h k hk
  have h3:=h.parts
  have h4:=h.chans
  unfold beforeN
  omega
end Go.Proofs.YtheeiklgblcjfaaGreatDoor
end
