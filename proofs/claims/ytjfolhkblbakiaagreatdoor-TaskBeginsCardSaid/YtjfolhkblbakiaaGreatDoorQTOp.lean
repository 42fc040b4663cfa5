/- Texts of the ring, joined, what is used of them. No condition but those in the statements. -/
import Derived.Lib.SmallJoins
import Derived.Test.YtjfolhkblbakiaaGreatDoorQRMade
namespace Go.Proofs.YtjfolhkblbakiaaGreatDoor
open Go.RowKit Go.Sort Go.ChangeShapes Go.WideShapes Go.Joins
set_option linter.unusedVariables false
set_option linter.unusedSimpArgs false
set_option linter.unusedVariables false
set_option linter.unusedSimpArgs false
theorem size4b {α:Type} {cs:Array α} (h:cs.size = 4):∃ c0 c1 c2 c3,cs = #[c0,c1,c2,c3]:=by
  obtain ⟨l⟩:=cs
  match l,h with
  | [c0,c1,c2,c3],_ => exact ⟨c0,c1,c2,c3,rfl⟩
section
variable {H:Type} {enc:TypeId × Value → H} {w:World} {r:Reach} {b0:Nat} {v:Value} {d:DataW H} {p:List MemPlace}
set_option maxRecDepth 100000 in
theorem stand_open2 (hv:Value.okWide Tryz.prog w r b0 32 v) (h:DataW.Trod enc Tryz.prog w 0 (fun _ => true) true 32 v d p) :
    ∃ (sp:Int) (sn:Bool) (made valid:List Int) (ma va:Option Addr) (mc vc:Nat),v = .agg #[.int .i64 sp,.bool sn,.slice ma made.length mc,.slice va valid.length vc] ∧ (Lit.int .i64 sp).wf = true ∧ IntRowK .i64 w w.heap.size ma made ∧ IntRowK .i64 w w.heap.size va valid:=by
  obtain ⟨cs,rfl,hsz⟩:=okWide_struct Tryz.underlying32 hv
  obtain ⟨v0,v1,v2,v3,rfl⟩:=size4b (hsz.trans (by kernel_rfl))
  obtain ⟨fuel,hf⟩:=h
  obtain ⟨xs,m,_,_,_,hxl,hff⟩:=DataW.trod_struct Tryz.underlying32 (show DataW.trod enc Tryz.prog w 0 (fun _ => true) true fuel 32 [v0,v1,v2,v3] = some (d,p) by simpa [Value.cells] using hf)
  simp only [List.size_toArray,List.length_cons,List.length_nil] at hxl
  have h0:=hff 0 _ rfl
  have h1:=hff 1 _ rfl
  have h2:=hff 2 _ rfl
  have h3:=hff 3 _ rfl
  have k1:Tryz.prog.cellsOf 3 = 1:=by kernel_rfl
  have k2:Tryz.prog.cellsOf 4 = 1:=by kernel_rfl
  have k3:Tryz.prog.cellsOf 30 = 1:=by kernel_rfl
  rw [List.getElem?_eq_getElem (by omega)] at h0 h1 h2 h3
  simp [k1,k2,k3] at h0 h1 h2 h3
  obtain ⟨sp,e0,_,w0⟩:=DataW.trod_int Tryz.underlying3 h0
  obtain ⟨sn,e1,_⟩:=DataW.trod_bool Tryz.underlying4 h1
  obtain ⟨ma,mn,mc,e2⟩:=slice_form Tryz.underlying30 h2
  obtain ⟨va,vn,vc,e3⟩:=slice_form Tryz.underlying30 h3
  rw [e2] at h2
  rw [e3] at h3
  obtain ⟨l,rfl,_,_,_,hr,_⟩:=ints_argK .i64 Tryz.underlying30 Tryz.underlying3 k1 ⟨_,h2⟩
  obtain ⟨l2,rfl,_,_,_,hr2,_⟩:=ints_argK .i64 Tryz.underlying30 Tryz.underlying3 k1 ⟨_,h3⟩
  simp at e0 e1 e2 e3
  subst e0 e1 e2 e3
  exact ⟨sp,sn,l,l2,ma,va,mc,vc,rfl,w0,hr,hr2⟩
set_option maxRecDepth 100000 in
theorem req_open2 (hv:Value.okWide Tryz.prog w r b0 36 v) (h:DataW.Trod enc Tryz.prog w 0 (fun _ => true) true 36 v d p) :
    ∃ (op port ad:Int) (ds:List Int) (da:Option Addr) (dc:Nat),v = .agg #[.int .i64 op,.int .i64 port,.int .u64 ad,.slice da ds.length dc] ∧ (Lit.int .i64 op).wf = true ∧ (Lit.int .i64 port).wf = true ∧ (Lit.int .u64 ad).wf = true ∧ IntRowK .u32 w w.heap.size da ds ∧ ∀ q ∈ ds,(Lit.int .u32 q).wf = true:=by
  obtain ⟨cs,rfl,hsz⟩:=okWide_struct Tryz.underlying36 hv
  obtain ⟨v0,v1,v2,v3,rfl⟩:=size4b (hsz.trans (by kernel_rfl))
  obtain ⟨fuel,hf⟩:=h
  obtain ⟨xs,m,_,_,_,hxl,hff⟩:=DataW.trod_struct Tryz.underlying36 (show DataW.trod enc Tryz.prog w 0 (fun _ => true) true fuel 36 [v0,v1,v2,v3] = some (d,p) by simpa [Value.cells] using hf)
  simp only [List.size_toArray,List.length_cons,List.length_nil] at hxl
  have h0:=hff 0 _ rfl
  have h1:=hff 1 _ rfl
  have h2:=hff 2 _ rfl
  have h3:=hff 3 _ rfl
  have k1:Tryz.prog.cellsOf 3 = 1:=by kernel_rfl
  have k2:Tryz.prog.cellsOf 33 = 1:=by kernel_rfl
  have k3:Tryz.prog.cellsOf 34 = 1:=by kernel_rfl
  have k4:Tryz.prog.cellsOf 45 = 1:=by kernel_rfl
  rw [List.getElem?_eq_getElem (by omega)] at h0 h1 h2 h3
  simp [k1,k2,k3] at h0 h1 h2 h3
  obtain ⟨op,e0,_,w0⟩:=DataW.trod_int Tryz.underlying3 h0
  obtain ⟨port,e1,_,w1⟩:=DataW.trod_int Tryz.underlying3 h1
  obtain ⟨ad,e2,_,w2⟩:=DataW.trod_int Tryz.underlying33 h2
  obtain ⟨da,dn,dc,e3⟩:=slice_form Tryz.underlying34 h3
  rw [e3] at h3
  obtain ⟨l,rfl,_,_,_,hr,hw⟩:=ints_argK .u32 Tryz.underlying34 Tryz.underlying45 k4 ⟨_,h3⟩
  simp at e0 e1 e2 e3
  subst e0 e1 e2 e3
  exact ⟨op,port,ad,l,da,dc,rfl,w0,w1,w2,hr,hw⟩
end
end Go.Proofs.YtjfolhkblbakiaaGreatDoor
