/- Texts of the ring, joined, what is used of them. No condition but those in the statements. -/
import Derived.BigQuiet
import Derived.BigRegion
import Derived.Deep.MidRow
import Derived.Deep.RegionHeld3
import Derived.Deep.RegionLaw
import Derived.Deep.RegionLawGrows
import Derived.Deep.Upon
import Derived.IntWalk
import Derived.Lib.Hide
import Derived.OneCell
import Derived.OpenShut
import Derived.Test.YtheeiklgblcjfaaGreatDoorRga
import Derived.Test.YtheeiklgblcjfaaGreatDoorRgl
section
namespace Go.Proofs.YtheeiklgblcjfaaGreatDoor
open Go.RowKit Go.Sort
set_option linter.unusedVariables false
set_option linter.unusedSimpArgs false
set_option linter.unusedVariables false
set_option linter.unusedSimpArgs false
set_option maxRecDepth 100000
theorem gsC_snoc (l:List Gv8) (m:Gv8):gsC (l ++ [m]) = gsC l ++ [.slice m.A m.ds.length m.k,.int .i64 m.stamp]:=by rw [gsC_app];rfl
theorem gsC_cons2 (m:Gv8) (l:List Gv8):gsC (m :: l) = .slice m.A m.ds.length m.k :: .int .i64 m.stamp :: gsC l:=rfl
def z8:Gv8:=⟨[],none,0,0⟩
structure RowAt (TR TE:TypeId) (size:Nat) (w:World) (base rb:Nat) (most:Int) (v:Value) (n:Nat) (xs:List Value):Prop where
  le:base ≤ rb
  head:w.heap[rb]? = some (.cells #[.int .i64 most,v] TR (0,0))
  row:OwnsOff w base TE size v n xs
section
variable {TR TE:TypeId} {size:Nat} {w w':World} {base rb:Nat} {most:Int} {v v':Value} {n:Nat} {xs:List Value}
theorem RowAt.lt (h:RowAt TR TE size w base rb most v n xs):rb < w.heap.size:=(Array.getElem?_eq_some_iff.1 h.head).1
theorem RowAt.c0 (h:RowAt TR TE size w base rb most v n xs):w.cell? ⟨rb,0,none⟩ = some (.int .i64 most):=by simp [World.cell?,h.head]
theorem RowAt.c1 (h:RowAt TR TE size w base rb most v n xs):w.cell? ⟨rb,1,none⟩ = some v:=by simp [World.cell?,h.head]
theorem RowAt.free (h:RowAt TR TE size w base rb most v n xs) (o:Nat):w.frozen? ⟨rb,o,none⟩ = false:=by simp [World.frozen?,h.head]
theorem RowAt.apart (h:RowAt TR TE size w base rb most v n xs) (hne:TR ≠ TE):∀ k,v.ownBlock = some k → k ≠ rb:=by
  rintro k hk rfl
  obtain ⟨cs,hc⟩:=h.row.typed k hk
  rw [h.head] at hc
  injection hc with hc;injection hc with _ hc
  exact hne hc
theorem RowAt.kept (h:RowAt TR TE size w base rb most v n xs) {S:Nat → Prop} (ho:Only S w w') (h1:¬ S rb) (h2:∀ k,v.ownBlock = some k → ¬ S k):RowAt TR TE size w' base rb most v n xs:=
  ⟨h.le,(ho.block rb h.lt h1).trans h.head,h.row.kept ho h2⟩
theorem RowAt.keptB (h:RowAt TR TE size w base rb most v n xs) (hb:Below w.heap.size w w'):RowAt TR TE size w' base rb most v n xs:=h.kept (Only.of_below (S:=fun _ => False) hb) id (fun _ _ h => h)
/-- Another slice is stored into the struct. -/
theorem RowAt.store (h:RowAt TR TE size w base rb most v n xs) {m:Nat} {ys:List Value} (hv:OwnsOff w base TE size v' m ys) (hne:TR ≠ TE):RowAt TR TE size (w.setCell ⟨rb,1,none⟩ v') base rb most v' m ys:=by
  refine ⟨h.le,?_,hv.kept (Only.setCell w ⟨rb,1,none⟩ v') (fun k hk e => ?_)⟩
  · have:=h.head
    simp [World.setCell,Array.getElem?_modify,this]
  · obtain ⟨cs,hc⟩:=hv.typed k hk
    obtain rfl:k = rb:=e
    rw [h.head] at hc
    injection hc with hc;injection hc with _ hc
    exact hne hc
end
/-- A row's call has turned only the row's own blocks;the new slice's block is the elder one's,or new. -/
def Moved (rb:Nat) (v v':Value) (w w':World):Prop:=Only (fun k => k = rb ∨ v.ownBlock = some k) w w' ∧ ∀ g,v'.ownBlock = some g → v.ownBlock = some g ∨ w.heap.size ≤ g
theorem Moved.refl (rb:Nat) (v:Value) (w:World):Moved rb v v w w:=⟨Only.refl _ _,fun _ h => .inl h⟩
theorem Moved.ahead {rb:Nat} {v v':Value} {w w1 w2:World} (hb:Below w.heap.size w w1) (h:Moved rb v v' w1 w2):Moved rb v v' w w2:=⟨(Only.of_below hb).trans h.1,fun g hg => (h.2 g hg).imp id (Nat.le_trans hb.size)⟩
theorem Moved.below {TR TE:TypeId} {size:Nat} {w w':World} {base rb:Nat} {most:Int} {v v':Value} {n:Nat} {xs:List Value} (hm:Moved rb v v' w w') (h:RowAt TR TE size w base rb most v n xs):Below base w w':=
  hm.1.below (Nat.le_trans h.le (Nat.le_of_lt h.lt)) (fun k hk => by
    rcases hk with rfl | hk
    · exact h.le
    · exact (h.row.lt k hk).1)
/-- Behind an append of something that lies in a new block,and the store of what it gave. -/
theorem RowAt.appended {TR TE:TypeId} {size:Nat} {w w2:World} {base rb:Nat} {most:Int} {v v':Value} {n m:Nat} {xs ys:List Value} (h:RowAt TR TE size w base rb most v n xs) (hne:TR ≠ TE) {tmp:Obj}
    (hgrow:(w.alloc tmp).grownBy w2 v.ownBlock) (hown':OwnsOff w2 base TE size v' m ys) (hfr:∀ g,v'.ownBlock = some g → v.ownBlock = some g ∨ w.heap.size + 1 ≤ g) :
    w2.cell? ⟨rb,1,none⟩ = some v ∧ w2.frozen? ⟨rb,1,none⟩ = false ∧ RowAt TR TE size (w2.setCell ⟨rb,1,none⟩ v') base rb most v' m ys ∧ Moved rb v v' w (w2.setCell ⟨rb,1,none⟩ v'):=by
  have hb1:Below w.heap.size w (w.alloc tmp):=(Below.refl _ _).alloc (Nat.le_refl _) _
  have hhead:w2.heap[rb]? = some (.cells #[.int .i64 most,v] TR (0,0)):=
    (hgrow.block rb (by have:=h.lt;simp;omega) (fun e => h.apart hne rb e.symm rfl)).trans ((hb1.block rb h.lt).trans h.head)
  refine ⟨by simp [World.cell?,hhead],by simp [World.frozen?,hhead],⟨h.le,by simp [World.setCell,Array.getElem?_modify,hhead],hown'.kept (Only.setCell w2 ⟨rb,1,none⟩ v') (fun k hk e => ?_)⟩,?_,fun g hg => ?_⟩
  · obtain ⟨cs,hc⟩:=hown'.typed k hk
    obtain rfl:k = rb:=e
    rw [hhead] at hc
    injection hc with hc;injection hc with _ hc
    exact hne hc
  · refine ((Only.of_below (S:=fun k => k = rb ∨ v.ownBlock = some k) hb1).trans ((Only.of_grown hgrow).mono fun k _ hk => .inr hk.symm)).trans ((Only.setCell w2 ⟨rb,1,none⟩ v').mono fun k _ hk => .inl hk)
  · exact (hfr g hg).imp id (fun h => by omega)
/-- A row of messages. -/
def PRow (w:World) (base rb:Nat) (most:Int) (v:Value) (xs:List Gv8):Prop:=RowAt 139 96 2 w base rb most v xs.length (gsC xs)
theorem Tryz.infoM:(Tryz.prog.info? 96).map (fun i => (i.zero,i.size,i.bytes)) = some (some (.agg #[.slice none 0 0,.int .i64 0]),2,32):=by kernel_rfl
/-- A new row. -/
def GivesPRow (w:World) (most:Int) (e:Ending) (w':World):Prop:=
  ∃ rb,e = .returned (.tuple #[.pointer (some ⟨rb,0,none⟩),.int .i64 0]) ∧ w.heap.size ≤ rb ∧ w'.heap[rb]? = some (.cells #[.int .i64 most,.slice none 0 0] 139 (0,0)) ∧ Below w.heap.size w w'
theorem fnew_in (n:Int) (w:World) (h1:1 ≤ n) (h2:n ≤ 4096):Calls Tryz.prog 31 #[.int .i64 n] w (GivesPRow w n):=by
  have h3:¬ n < 1:=by omega
  have h4:¬ 4096 < n:=by omega
  go_enter Tryz.func31,Tryz.ntmps31
  go_wp2
  go_ret2
  exact ⟨w.heap.size,rfl,Nat.le_refl _,heap_alloc_new w _,(Below.refl _ _).alloc (Nat.le_refl _) _⟩
theorem flen_b (base rb:Nat) (most:Int) (v:Value) (xs:List Gv8) (w:World) (h:PRow w base rb most v xs) :
    Calls Tryz.prog 72 #[.pointer (some ⟨rb,0,none⟩)] w fun e w' => e = .returned (.int .i64 xs.length) ∧ w = w':=by
  obtain ⟨a,c,rfl,_⟩:=h.row.slice
  have c1:=h.c1
  clear h
  go_enter Tryz.func72,Tryz.ntmps72
  go_wp2
  go_ret
  exact ⟨rfl,rfl⟩
/-- Behind a call that turned a row. -/
def GoesPRow (w:World) (base rb:Nat) (most:Int) (v:Value) (r:Value) (ys:List Gv8) (e:Ending) (w':World):Prop:=
  ∃ v',e = .returned r ∧ PRow w' base rb most v' ys ∧ Moved rb v v' w w'
theorem grown_undrew {w w':World} {row:Option Nat} (h:w.drew.grownBy w' row):w.grownBy w' row:=⟨h.os,h.tape,h.output,h.size,h.block⟩
theorem fresh_undrew {w:World} {o:Obj} {p:Prop} {g:Nat} (h:p ∨ (w.alloc o).drew.heap.size ≤ g):p ∨ w.heap.size + 1 ≤ g:=h.imp id (fun h => by simpa using h)
set_option maxHeartbeats 1600000 in
theorem pput_in (base rb:Nat) (most:Int) (v:Value) (xs:List Gv8) (m:Gv8) (w:World) (h:PRow w base rb most v xs) (hl:(xs.length:Int) < most) (hm:most ≤ 1000000) :
    Calls Tryz.prog 70 #[.pointer (some ⟨rb,0,none⟩),.agg #[.slice m.A m.ds.length m.k,.int .i64 m.stamp]] w (GoesPRow w base rb most v (.int .i64 0) (xs ++ [m])):=by
  obtain ⟨i0,hi,hz0,hz1,hz2⟩:=info_parts Tryz.infoM
  obtain ⟨a,c,rfl,hc⟩:=h.row.slice
  obtain ⟨W,hW,hbW,hlW,x0,x1⟩:=one_box w (.slice m.A m.ds.length m.k) (.int .i64 m.stamp) 96
  have h0:=h.keptB hbW
  have c0:∀ p:Regrown,(grow (redrawn W p.d) p.os).cell? ⟨rb,0,none⟩ = some (.int .i64 most):=fun p => cell_regrown h0.c0 p.d p.os
  have c1:∀ p:Regrown,(grow (redrawn W p.d) p.os).cell? ⟨rb,1,none⟩ = some (.slice a xs.length c):=fun p => cell_regrown h0.c1 p.d p.os
  have hbc:=Below.refl W.heap.size W
  have hd:((xs.length:Int) == most) = false:=by simp;omega
  have hh:=Lib.hid h0
  have HBW:=Lib.hid hbW
  clear h h0 hbW
  go_enter Tryz.func70,Tryz.ntmps70
  go_wp2_with fail
  rw [← hW.out]
  go_wp2_with fail
  (with_reducible refine wp_on hbc (by kernel_rfl) (by kernel_rfl) ?_);(repeat (go_big_quiet_step (fail)));with_reducible refine wpQuiet_nil ?_;intro wc hbc
  have hx0:=cell_of (cell_on x0 hbc)
  have hx1:=cell_of (cell_on x1 hbc)
  have h1:=hh.out.keptB hbc
  have d1:=h1.c1
  have f1:=h1.free 1
  have hlt:=h1.lt
  have hle:=h1.le
  have HH:=Lib.hid h1
  have HBC:=Lib.hid (HBW.out.trans (hbc.mono HBW.out.size))
  clear c0 c1 h1 hh x0 x1 hbc
  go_wp2_with fail
  go_region_law (refine step_append_off rfl (.tmp 19) (.tmp 21) 137 rfl base 96 i0 _ 2 32 Tryz.underlying137 hi hz0 hz1 hz2 rfl (by decide) (.slice a xs.length c) xs.length (gsC xs) (by simp [Act.eval]) (HH.out.row.keptB ((Below.refl _ _).alloc (Nat.le_refl _) _).drew) ⟨wc.heap.size,0,none⟩ 1 1 [.slice m.A m.ds.length m.k,.int .i64 m.stamp] (by simp [Act.eval]) rfl (news_block (w:=wc.alloc (.cells #[.slice m.A m.ds.length m.k,.int .i64 m.stamp] 96)) (cs:=#[.slice m.A m.ds.length m.k,.int .i64 m.stamp]) (heap_alloc_new wc _)) (by simp [Value.oneCell']) (by unfold maxLen;omega) (by omega) (by simp;omega) ?_;intro v' w2 hown' hgrow hfr;obtain ⟨e1,e2,h3,h4⟩:=HH.out.appended (v':=v') (by decide) (grown_undrew hgrow) hown' (fun g hg => fresh_undrew (hfr g hg));obtain ⟨a',c',rfl,_⟩:=hown'.slice;have H3:=Lib.hid h3;have H4:=Lib.hid h4;clear h3 h4 hown' hgrow hfr)
  all_goals
    have h5:PRow (w2.setCell ⟨rb,1,none⟩ (.slice a' (xs.length + 1) c')) base rb most (.slice a' (xs.length + 1) c') (xs ++ [m]):=by unfold PRow;rw [gsC_snoc];simpa using H3.out
    have H5:=Lib.hid h5
    clear h5
    go_wp2
    go_ret
    exact ⟨_,rfl,H5.out,H4.out.ahead HBC.out⟩
theorem pput_full (base rb:Nat) (most:Int) (v:Value) (xs:List Gv8) (m:Gv8) (w:World) (h:PRow w base rb most v xs) (hl:most = (xs.length:Int)) :
    Calls Tryz.prog 70 #[.pointer (some ⟨rb,0,none⟩),.agg #[.slice m.A m.ds.length m.k,.int .i64 m.stamp]] w fun e w' => e = .returned (.int .i64 2) ∧ Below w.heap.size w w':=by
  obtain ⟨a,c,rfl,hc⟩:=h.row.slice
  subst hl
  obtain ⟨W,hW,hbW,hlW,x0,x1⟩:=one_box w (.slice m.A m.ds.length m.k) (.int .i64 m.stamp) 96
  have h0:=h.keptB hbW
  have c0:∀ p:Regrown,(grow (redrawn W p.d) p.os).cell? ⟨rb,0,none⟩ = some (.int .i64 xs.length):=fun p => cell_regrown h0.c0 p.d p.os
  have c1:∀ p:Regrown,(grow (redrawn W p.d) p.os).cell? ⟨rb,1,none⟩ = some (.slice a xs.length c):=fun p => cell_regrown h0.c1 p.d p.os
  have hbc:=Below.refl W.heap.size W
  have hd:((xs.length:Int) == (xs.length:Int)) = true:=by simp
  have HBW:=Lib.hid hbW
  clear h h0 hbW x0 x1
  go_enter Tryz.func70,Tryz.ntmps70
  go_wp2_with fail
  rw [← hW.out]
  go_wp2_with fail
  (with_reducible refine wp_on hbc (by kernel_rfl) (by kernel_rfl) ?_);(repeat (go_big_quiet_step (fail)));with_reducible refine wpQuiet_nil ?_;intro wc hbc
  go_wp2
  go_ret
  exact ⟨rfl,HBW.out.trans (hbc.mono HBW.out.size)⟩
/-- A store into one of the elements' cells. -/
theorem OwnsOff.set {w:World} {base:Nat} {e:TypeId} {size n g off cap:Nat} {xs:List Value} (h:OwnsOff w base e size (.slice (some ⟨g,off,none⟩) n cap) n xs) (j:Nat) (hj:j < n * size) (z:Value) :
    OwnsOff (w.setCell ⟨g,off + j,none⟩ z) base e size (.slice (some ⟨g,off,none⟩) n cap) n (xs.set j z):=by
  obtain ⟨h1,⟨h2,_⟩ | ⟨g',off',cap',cur,hv,hb,hg,hnc,hcm,hcs,htk⟩⟩:=h
  · cases h2
  · cases hv
    refine ⟨by simpa using h1,.inr ⟨g,off,cap,cur.setIfInBounds (off + j) z,rfl,hb,?_,hnc,hcm,by simpa using hcs,?_⟩⟩
    · simp [World.setCell,Array.getElem?_modify,hg]
    · rw [Array.toList_setIfInBounds,List.drop_set,if_neg (by omega),Nat.add_sub_cancel_left,List.take_set,htk]
set_option maxHeartbeats 1600000 in
theorem ptake_in (base rb:Nat) (most:Int) (v:Value) (m:Gv8) (xs:List Gv8) (w:World) (h:PRow w base rb most v (m :: xs)) (hl:xs.length ≤ 1000000) :
    Calls Tryz.prog 71 #[.pointer (some ⟨rb,0,none⟩)] w (GoesPRow w base rb most v (.tuple #[.agg #[.slice m.A m.ds.length m.k,.int .i64 m.stamp],.int .i64 0]) xs):=by
  obtain ⟨i0,hi,hz0,hz1,hz2⟩:=info_parts Tryz.infoM
  obtain ⟨g,off,cap,rfl,hbg,hgl,hnc,hcm,hfz,hcell⟩:=OwnsOff.lies h.row (by simp)
  have c1:=h.c1
  have c2:=hcell 0 _ rfl
  have c3:=hcell 1 _ rfl
  rw [Nat.add_zero] at c2
  have z2:=hfz off
  have z3:=hfz (off + 1)
  clear hfz hcell
  have hrl:=h.lt
  simp only [List.length_cons] at c1 hnc
  go_enter Tryz.func71,Tryz.ntmps71
  go_wp2_with fail
  obtain ⟨W3,hW3,h3,hb3,hz3,B0,B1,B2⟩:∃ W3,Hid (W3 = ((w.alloc (.cells #[.slice none 0 0,.int .i64 0] 96)).alloc (.cells #[.slice none 0 0,.int .i64 0] 96)).alloc (.cells #[.slice m.A m.ds.length m.k,.int .i64 m.stamp] 96)) ∧ PRow W3 base rb most (.slice (some ⟨g,off,none⟩) (m :: xs).length cap) (m :: xs) ∧
      Below w.heap.size w W3 ∧ W3.heap.size = w.heap.size + 3 ∧ W3.heap[w.heap.size]? = some (.cells #[.slice none 0 0,.int .i64 0] 96 (0,0)) ∧ W3.heap[w.heap.size + 1]? = some (.cells #[.slice none 0 0,.int .i64 0] 96 (0,0)) ∧ W3.heap[w.heap.size + 2]? = some (.cells #[.slice m.A m.ds.length m.k,.int .i64 m.stamp] 96 (0,0)):=by
    have hb:Below w.heap.size w (((w.alloc (.cells #[.slice none 0 0,.int .i64 0] 96)).alloc (.cells #[.slice none 0 0,.int .i64 0] 96)).alloc (.cells #[.slice m.A m.ds.length m.k,.int .i64 m.stamp] 96)):=(((Below.refl _ _).alloc (Nat.le_refl _) _).alloc (by simp) _).alloc (by simp;omega) _
    refine ⟨_,Lib.hid rfl,h.keptB hb,hb,by simp,?_,?_,?_⟩
    · rw [Below.heap_alloc _ _ _ (by simp;omega),Below.heap_alloc _ _ _ (by simp)];exact heap_alloc_new w _
    · rw [Below.heap_alloc _ _ _ (by simp)];have:=heap_alloc_new (w.alloc (.cells #[.slice none 0 0,.int .i64 0] 96)) (.cells #[.slice none 0 0,.int .i64 0] 96);simpa using this
    · have:=heap_alloc_new ((w.alloc (.cells #[.slice none 0 0,.int .i64 0] 96)).alloc (.cells #[.slice none 0 0,.int .i64 0] 96)) (.cells #[.slice m.A m.ds.length m.k,.int .i64 m.stamp] 96);simpa using this
  rw [← hW3.out]
  have e1:=h3.c1
  have z0:W3.cell? ⟨w.heap.size + 1,0,none⟩ = some (.slice none 0 0):=by simp [World.cell?,B1]
  have z1:W3.cell? ⟨w.heap.size + 1,1,none⟩ = some (.int .i64 0):=by simp [World.cell?,B1]
  have g0:W3.cell? ⟨g,off,none⟩ = some (.slice m.A m.ds.length m.k):=(hb3.cell hgl).trans c2
  have g1:W3.cell? ⟨g,off + 1,none⟩ = some (.int .i64 m.stamp):=(hb3.cell hgl).trans c3
  have f0:W3.frozen? ⟨g,off,none⟩ = false:=(hb3.frozen hgl).trans z2
  have f1:W3.frozen? ⟨g,off + 1,none⟩ = false:=(hb3.frozen hgl).trans z3
  simp only [List.length_cons] at e1
  have HH:=Lib.hid h3;have HB:=Lib.hid hb3;have HZ:=Lib.hid hz3;have H0:=Lib.hid B0;have H2:=Lib.hid B2
  clear h c1 c2 c3 z2 z3 h3 hb3 hz3 B0 B1 B2
  go_region
  obtain ⟨W4,hW4,h4,hO4,B0,B2⟩:∃ W4,Hid (W4 = ((W3.setCell ⟨g,off,none⟩ (.slice none 0 0)).setCell ⟨g,off + 1,none⟩ (.int .i64 0)).drew) ∧ PRow W4 base rb most (.slice (some ⟨g,off,none⟩) (z8 :: xs).length cap) (z8 :: xs) ∧
      Only (fun k => k = rb ∨ (Value.slice (some ⟨g,off,none⟩) (m :: xs).length cap).ownBlock = some k) w W4 ∧ W4.heap[w.heap.size]? = some (.cells #[.slice none 0 0,.int .i64 0] 96 (0,0)) ∧ W4.heap[w.heap.size + 2]? = some (.cells #[.slice m.A m.ds.length m.k,.int .i64 m.stamp] 96 (0,0)):=by
    have hrow:=HH.out.row
    have k1:=(hrow.set 0 (by simp) (.slice none 0 0)).set 1 (by simp;omega) (.int .i64 0)
    have ho:Only (fun k => k = rb ∨ (Value.slice (some ⟨g,off,none⟩) (m :: xs).length cap).ownBlock = some k) w ((W3.setCell ⟨g,off,none⟩ (.slice none 0 0)).setCell ⟨g,off + 1,none⟩ (.int .i64 0)):=
      ((Only.of_below HB.out).trans ((Only.setCell W3 ⟨g,off,none⟩ _).mono (fun k _ hk => .inr (by rw [hk];rfl)))).trans ((Only.setCell _ ⟨g,off + 1,none⟩ _).mono (fun k _ hk => .inr (by rw [hk];rfl)))
    have hne:rb ≠ g:=fun e => HH.out.apart (by decide) g rfl e.symm
    refine ⟨_,Lib.hid rfl,⟨HH.out.le,?_,?_⟩,⟨ho.os,ho.tape,ho.output,ho.size,ho.block⟩,?_,?_⟩
    · exact (Below.heap_setCell _ _ _ _ (by simpa using hne)).trans ((Below.heap_setCell _ _ _ _ (by simpa using hne)).trans HH.out.head)
    · have:OwnsOff ((W3.setCell ⟨g,off,none⟩ (.slice none 0 0)).setCell ⟨g,off + 1,none⟩ (.int .i64 0)) base 96 2 (.slice (some ⟨g,off,none⟩) (m :: xs).length cap) (m :: xs).length (((gsC (m :: xs)).set 0 (.slice none 0 0)).set 1 (.int .i64 0)):=by simpa using k1
      rw [gsC_cons2] at this
      rw [gsC_cons2]
      exact this
    · exact (Below.heap_setCell _ _ _ _ (by simp;omega)).trans ((Below.heap_setCell _ _ _ _ (by simp;omega)).trans H0.out)
    · exact (Below.heap_setCell _ _ _ _ (by simp;omega)).trans ((Below.heap_setCell _ _ _ _ (by simp;omega)).trans H2.out)
  rw [← hW4.out]
  have e1:=h4.c1
  have f1:=h4.free 1
  have hrow:=h4.row
  simp only [List.length_cons] at e1 hrow
  have HH4:=Lib.hid h4;have HO4:=Lib.hid hO4;have H04:=Lib.hid B0;have H24:=Lib.hid B2
  clear h4 hO4 B0 B2 f0 g0 g1 z0 z1
  go_wp2_with (refine wpList_tail_off _ rfl _ _ rfl base 96 i0 2 Tryz.underlying137 hi hz1 _ _ _ rfl hrow ?_)
  intro v' hown' hb'
  obtain ⟨a',c',rfl,_⟩:=hown'.slice
  have h5:=RowAt.store (v':=.slice a' xs.length c') HH4.out (m:=xs.length) (ys:=gsC xs) (by rw [gsC_cons2] at hown';simpa using hown') (by decide)
  have hO5:Only (fun k => k = rb ∨ (Value.slice (some ⟨g,off,none⟩) (m :: xs).length cap).ownBlock = some k) w (W4.setCell ⟨rb,1,none⟩ (.slice a' xs.length c')):=HO4.out.trans ((Only.setCell _ _ _).mono (fun k _ hk => .inl hk))
  have hfr:∀ g',(Value.slice a' xs.length c').ownBlock = some g' → (Value.slice (some ⟨g,off,none⟩) (m :: xs).length cap).ownBlock = some g' ∨ w.heap.size ≤ g':=fun g' hg' => .inl (by rw [hb'] at hg';exact hg')
  have hgg:∀ k,(Value.slice a' xs.length c').ownBlock = some k → k = g:=fun k hk => by rw [hb'] at hk;cases hk;rfl
  have HG:=Lib.hid hgg
  clear hgg
  obtain ⟨W5,hW5⟩:∃ W5,Hid (W5 = W4.setCell ⟨rb,1,none⟩ (.slice a' xs.length c')):=⟨_,Lib.hid rfl⟩
  rw [← hW5.out] at h5 hO5
  have B0:W5.heap[w.heap.size]? = some (.cells #[.slice none 0 0,.int .i64 0] 96 (0,0)):=by rw [hW5.out];exact (Below.heap_setCell _ _ _ _ (by simp;omega)).trans H04.out
  have B2:W5.heap[w.heap.size + 2]? = some (.cells #[.slice m.A m.ds.length m.k,.int .i64 m.stamp] 96 (0,0)):=by rw [hW5.out];exact (Below.heap_setCell _ _ _ _ (by simp;omega)).trans H24.out
  have k0:W5.cell? ⟨w.heap.size,0,none⟩ = some (.slice none 0 0):=by simp [World.cell?,B0]
  have k1:W5.cell? ⟨w.heap.size,1,none⟩ = some (.int .i64 0):=by simp [World.cell?,B0]
  have k2:W5.frozen? ⟨w.heap.size,0,none⟩ = false:=by simp [World.frozen?,B0]
  have k3:W5.frozen? ⟨w.heap.size,1,none⟩ = false:=by simp [World.frozen?,B0]
  have k4:W5.cell? ⟨w.heap.size + 1 + 1,0,none⟩ = some (.slice m.A m.ds.length m.k):=by simp [World.cell?,B2]
  have k5:W5.cell? ⟨w.heap.size + 1 + 1,1,none⟩ = some (.int .i64 m.stamp):=by simp [World.cell?,B2]
  have HF:=Lib.hid hfr;have H5:=Lib.hid h5;have HO5:=Lib.hid hO5;have HB0:=Lib.hid B0
  clear h5 hO5 hfr hown' hb' hrow B0 B2
  go_wp2_with (rw [← hW5.out])
  have hS6:Only (fun k => k = w.heap.size) W5 ((W5.setCell ⟨w.heap.size,0,none⟩ (.slice m.A m.ds.length m.k)).setCell ⟨w.heap.size,1,none⟩ (.int .i64 m.stamp)):=(Only.setCell W5 ⟨w.heap.size,0,none⟩ _).trans (Only.setCell _ ⟨w.heap.size,1,none⟩ _)
  refine bodyPost_ret (v:=.tuple #[.agg #[.slice m.A m.ds.length m.k,.int .i64 m.stamp],.int .i64 0]) (by simp [results,Tryz.results71,go_sem,k0,k1]) rfl ⟨_,rfl,H5.out.kept hS6 (by omega) (fun k hk e => by have:=HG.out k hk;omega),⟨?_,fun g' hg' => HF.out g' hg'⟩⟩
  have h6:=hS6
  exact ⟨h6.os.trans HO5.out.os,h6.tape.trans HO5.out.tape,h6.output.trans HO5.out.output,Nat.le_trans HO5.out.size h6.size,fun k hk hs => (h6.block k (Nat.lt_of_lt_of_le hk HO5.out.size) (by omega)).trans (HO5.out.block k hk hs)⟩
set_option maxHeartbeats 800000 in
theorem ptake_empty (base rb:Nat) (most:Int) (v:Value) (w:World) (h:PRow w base rb most v []) :
    Calls Tryz.prog 71 #[.pointer (some ⟨rb,0,none⟩)] w fun e w' => e = .returned (.tuple #[.agg #[.slice none 0 0,.int .i64 0],.int .i64 2]) ∧ Below w.heap.size w w':=by
  obtain ⟨a,c,rfl,hc⟩:=h.row.slice
  have c1:=h.c1
  have hrl:=h.lt
  clear h
  go_enter Tryz.func71,Tryz.ntmps71
  go_wp2
  refine bodyPost_ret (v:=.tuple #[.agg #[.slice none 0 0,.int .i64 0],.int .i64 2]) (by simp [results,Tryz.results71,go_sem]) rfl ⟨rfl,?_⟩
  exact ((Below.refl _ _).alloc (Nat.le_refl _) _).alloc (by simp) _
end Go.Proofs.YtheeiklgblcjfaaGreatDoor
end
section
namespace Go.Proofs.YtheeiklgblcjfaaGreatDoor
open Go.RowKit Go.Sort
set_option linter.unusedVariables false
set_option linter.unusedSimpArgs false
set_option linter.unusedVariables false
set_option linter.unusedSimpArgs false
set_option maxRecDepth 100000
/-- Nothing of the model's turns. -/
theorem MAt.tick {w w':World} {own own':Nat → Tg8} {n0:Nat} {c:Cfg} {M:Md8} {A:Mx8} {S:Nat → Prop} (h:MAt w own n0 c M A) (ho:Only S w w') (he:∀ k,k < w.heap.size → own' k = own k) (hf:∀ k,w'.heap.size ≤ k → own' k = .free) (hb:∀ k,own' k ≠ .free → n0 ≤ k) (hS:∀ k,k < w.heap.size → S k → own k = .free):MAt w' own' n0 c (tick8 M) A:=by
  have hB:MBut (fun t => False) w' own' n0 c M A:=MBut.only (MBut.weak h (fun _ x => x.elim)) ho he hf hb (fun t ht => by exact ht.elim) (fun j hj hs => .inl (hS j hj hs)) (by intro e;first | (simp at e;done) | exact e | simp_all)
  exact {
    free:=(hB.free)
    base:=(hB.base)
    n0le:=(hB.n0le)
    len:=(hB.len)
    gw:=(hB.gw)
    gq:=(hB.gq)
    gs:=(hB.gs)
    bl:=(hB.bl)
    sz:=(fun s hs => ⟨Nat.le_succ_of_le (hB.sz s hs).1,Nat.le_succ_of_le (hB.sz s hs).2⟩)
    wz:=(hB.wz)
    qz:=(hB.qz)
    head:=(hB.head)
    cfg:=(hB.cfg)
    sk:=(hB.sk)
    msgw:=(hB.msgw)
    mr:=(hB.mr)
    msgq:=(hB.msgq)
    stand:=(fun _ => hB.stand (fun x => x))
    made:=(fun p s hs _ => hB.made p s hs (fun x => x))
    valid:=(fun p s hs _ => hB.valid p s hs (fun x => x))
    mw:=(fun _ => ⟨(hB.mw (fun x => x)).1,(hB.mw (fun x => x)).2.more (Nat.le_succ _)⟩)
    row:=(fun k hk _ => hB.row k hk (fun x => x))
    items:=(fun k hk _ => hB.items k hk (fun x => x))
    mp:=(fun _ => ⟨(hB.mp (fun x => x)).1,(hB.mp (fun x => x)).2.more (Nat.le_succ _)⟩)
    bells:=(fun _ => hB.bells (fun x => x)) }
/-- The same,and nothing was done. -/
theorem MAt.later {w w':World} {own own':Nat → Tg8} {n0:Nat} {c:Cfg} {M:Md8} {A:Mx8} {S:Nat → Prop} (h:MAt w own n0 c M A) (ho:Only S w w') (he:∀ k,k < w.heap.size → own' k = own k) (hf:∀ k,w'.heap.size ≤ k → own' k = .free) (hb:∀ k,own' k ≠ .free → n0 ≤ k) (hS:∀ k,k < w.heap.size → S k → own k = .free):MAt w' own' n0 c M A:=
  MBut.only (MBut.weak h (fun _ x => x.elim)) ho he hf hb (fun t ht => ht.elim) (fun j hj hs => .inl (hS j hj hs)) (fun e => e)
/-- Where a partition stands turns. -/
theorem MAt.fillSt {w w':World} {own own':Nat → Tg8} {n0:Nat} {c:Cfg} {M:Md8} {A:Mx8} {S:Nat → Prop} (h:MAt w own n0 c M A) (ho:Only S w w') (he:∀ k,k < w.heap.size → own' k = own k) (hf:∀ k,w'.heap.size ≤ k → own' k = .free) (hb:∀ k,own' k ≠ .free → n0 ≤ k) (p:Nat) (s s':Sv8) (hp:A.sl[p]? = some s) (hS:∀ k,k < w.heap.size → S k → own k = .free ∨ (own k = .stand ∨ own k = .made p ∨ own k = .valid p))
    (hst:StAt w' A.sg A.so (A.sl.set p s')) (hm:OwnsOff w' n0 3 1 s'.mv s'.s.made.length (icells s'.s.made) ∧ Tagged own' s'.mv (.made p)) (hv:OwnsOff w' n0 3 1 s'.vv s'.s.valid.length (icells s'.s.valid) ∧ Tagged own' s'.vv (.valid p))
    (hz:s'.s.made.length ≤ M.t + 1 ∧ s'.s.valid.length ≤ M.t + 1):MAt w' own' n0 c (setSt8 M p s'.s) { A with sl:=A.sl.set p s' }:=by
  have hB:MBut (fun t => t = .stand ∨ t = .made p ∨ t = .valid p) w' own' n0 c M A:=MBut.only (MBut.weak h (fun _ x => x.elim)) ho he hf hb (fun t ht => by rcases ht with rfl | rfl | rfl <;> trivial) (fun k hk hs => hS k hk hs) (by intro e;first | (simp at e;done) | exact e | simp_all)
  have hpl:=(List.getElem?_eq_some_iff.1 hp).1
  have sel:∀ q z,(A.sl.set p s')[q]? = some z → (q = p ∧ z = s') ∨ (q ≠ p ∧ A.sl[q]? = some z):=fun q z hq => by
    rw [List.getElem?_set] at hq
    split at hq
    · rename_i e1
      subst e1
      simp only [hpl,if_true,Option.some.injEq] at hq
      exact .inl ⟨rfl,hq.symm⟩
    · rename_i e1
      exact .inr ⟨fun e => e1 e.symm,hq⟩
  exact {
    free:=(hB.free)
    base:=(hB.base)
    n0le:=(hB.n0le)
    len:=(⟨by show (A.sl.set p s').map (·.s) = M.st.set (p:Int).toNat s'.s;rw [List.map_set,hB.len.1];rfl,by show (M.st.set (p:Int).toNat s'.s).length = _;rw [List.length_set];exact hB.len.2⟩)
    gw:=(hB.gw)
    gq:=(hB.gq)
    gs:=(hB.gs)
    bl:=(hB.bl)
    sz:=(fun z hz2 => by
      rcases List.mem_or_eq_of_mem_set hz2 with h1 | rfl
      · exact ⟨Nat.le_succ_of_le (hB.sz z h1).1,Nat.le_succ_of_le (hB.sz z h1).2⟩
      · exact hz)
    wz:=(hB.wz)
    qz:=(hB.qz)
    head:=(hB.head)
    cfg:=(hB.cfg)
    sk:=(hB.sk)
    msgw:=(hB.msgw)
    mr:=(hB.mr)
    msgq:=(hB.msgq)
    stand:=(fun _ => ⟨by have:=(h.stand (fun x => x)).1;rw [he _ (Nat.lt_of_not_le fun hle => by have e:=h.free _ hle;rw [this] at e;cases e)];exact this,hst⟩)
    made:=(fun q z hq _ => by
      rcases sel q z hq with ⟨rfl,rfl⟩ | ⟨h1,h2⟩
      · exact hm
      · exact hB.made q z h2 (by simp;exact fun e => h1 e))
    valid:=(fun q z hq _ => by
      rcases sel q z hq with ⟨rfl,rfl⟩ | ⟨h1,h2⟩
      · exact hv
      · exact hB.valid q z h2 (by simp;exact fun e => h1 e))
    mw:=(fun _ => ⟨(hB.mw (by simp)).1,(hB.mw (by simp)).2.more (Nat.le_succ _)⟩)
    row:=(fun k hk _ => hB.row k hk (by simp))
    items:=(fun k hk _ => hB.items k hk (by simp))
    mp:=(fun _ => ⟨(hB.mp (by simp)).1,(hB.mp (by simp)).2.more (Nat.le_succ _)⟩)
    bells:=(fun _ => hB.bells (by simp)) }
/-- A message is written. -/
theorem MAt.fillWr {w w':World} {own own':Nat → Tg8} {n0:Nat} {c:Cfg} {M:Md8} {A:Mx8} {S:Nat → Prop} (h:MAt w own n0 c M A) (ho:Only S w w') (he:∀ k,k < w.heap.size → own' k = own k) (hf:∀ k,w'.heap.size ≤ k → own' k = .free) (hb:∀ k,own' k ≠ .free → n0 ≤ k) (k:Nat) (g:Gv8) (hS:∀ k,k < w.heap.size → S k → own k = .free ∨ own k = .mw) (hg:GAt w' own' g) (hz:g.ds.length ≤ 1000000 ∧ -1 ≤ g.stamp ∧ g.stamp ≤ 1099511627776)
    (hm:own' A.mw = .mw ∧ MapH w' 3 .i64 A.mw (fun j => if j = (k:Int) then some (.agg (gC g).toArray) else fw8 A.wv j) (M.t + 1)):MAt w' own' n0 c { M with wr:=up8 M.wr k (some g.ms),t:=M.t + 1 } { A with wv:=up8 A.wv k (some g) }:=by
  have hB:MBut (fun t => t = .mw) w' own' n0 c M A:=MBut.only (MBut.weak h (fun _ x => x.elim)) ho he hf hb (fun t ht => by rw [ht];trivial) (fun k hk hs => hS k hk hs) (by intro e;first | (simp at e;done) | exact e | simp_all)
  exact {
    free:=(hB.free)
    base:=(hB.base)
    n0le:=(hB.n0le)
    len:=(hB.len)
    gw:=(fun j => by
      show ((up8 A.wv k (some g)) j).map Gv8.ms = up8 M.wr k (some g.ms) j
      unfold up8
      split
      · rfl
      · exact hB.gw j)
    gq:=(hB.gq)
    gs:=(hB.gs)
    bl:=(hB.bl)
    sz:=(fun s hs => ⟨Nat.le_succ_of_le (hB.sz s hs).1,Nat.le_succ_of_le (hB.sz s hs).2⟩)
    wz:=(fun j m hj => by
      have hj:up8 M.wr k (some g.ms) j = some m:=hj
      unfold up8 at hj
      split at hj
      · injection hj with hj;subst hj;exact hz
      · exact hB.wz j m hj)
    qz:=(hB.qz)
    head:=(hB.head)
    cfg:=(hB.cfg)
    sk:=(hB.sk)
    msgw:=(fun j z hj => by
      have hj:up8 A.wv k (some g) j = some z:=hj
      unfold up8 at hj
      split at hj
      · injection hj with hj;subst hj;exact hg
      · exact hB.msgw j z hj)
    mr:=(hB.mr)
    msgq:=(hB.msgq)
    stand:=(fun _ => hB.stand (by simp))
    made:=(fun p s hs _ => hB.made p s hs (by simp))
    valid:=(fun p s hs _ => hB.valid p s hs (by simp))
    mw:=(fun _ => ⟨hm.1,hm.2.as fun j hj => by
      show (if j = (k:Int) then _ else fw8 A.wv j) = fw8 (up8 A.wv k (some g)) j
      unfold fw8 up8
      by_cases h0:0 ≤ j
      · by_cases h1:j = (k:Int)
        · subst h1;simp
        · rw [if_neg h1,if_pos h0,if_pos h0,if_neg (by omega)]
      · rw [if_neg h0,if_neg h0,if_neg (by omega)]⟩)
    row:=(fun k hk _ => hB.row k hk (by simp))
    items:=(fun k hk _ => hB.items k hk (by simp))
    mp:=(fun _ => ⟨(hB.mp (by simp)).1,(hB.mp (by simp)).2.more (Nat.le_succ _)⟩)
    bells:=(fun _ => hB.bells (by simp)) }
/-- What waits in a queue turns. -/
theorem MAt.fillQ {w w':World} {own own':Nat → Tg8} {n0:Nat} {c:Cfg} {M:Md8} {A:Mx8} {S:Nat → Prop} (h:MAt w own n0 c M A) (ho:Only S w w') (he:∀ k,k < w.heap.size → own' k = own k) (hf:∀ k,w'.heap.size ≤ k → own' k = .free) (hb:∀ k,own' k ≠ .free → n0 ≤ k) (k:Nat) (v:Value) (l:List Gv8) (hS:∀ j,j < w.heap.size → S j → own j = .free ∨ (own j = .row k ∨ own j = .items k)) (hl:(l.length:Int) ≤ dep8 c k) (hst:∀ g ∈ l,g.stamp = 0)
    (hr:own' (A.rb k) = .row k ∧ w'.heap[A.rb k]? = some (.cells #[.int .i64 (dep8 c k),v] 139 (0,0))) (hi:OwnsOff w' n0 96 2 v l.length (gsC l) ∧ Tagged own' v (.items k)) (hg:∀ g ∈ l,GAt w' own' g) :
    MAt w' own' n0 c { M with qs:=up8 M.qs k (l.map (·.ds)),t:=M.t + 1 } { A with iv:=up8 A.iv k v,qv:=up8 A.qv k l }:=by
  have hB:MBut (fun t => t = .row k ∨ t = .items k) w' own' n0 c M A:=MBut.only (MBut.weak h (fun _ x => x.elim)) ho he hf hb (fun t ht => by rcases ht with rfl | rfl <;> trivial) (fun k hk hs => hS k hk hs) (by intro e;first | (simp at e;done) | exact e | simp_all)
  exact {
    free:=(hB.free)
    base:=(hB.base)
    n0le:=(hB.n0le)
    len:=(hB.len)
    gw:=(hB.gw)
    gq:=(fun j => by
      show ((up8 A.qv k l) j).map (·.ds) = up8 M.qs k (l.map (·.ds)) j
      unfold up8
      split
      · rfl
      · exact hB.gq j)
    gs:=(fun j z hz => by
      have hz:z ∈ up8 A.qv k l j:=hz
      unfold up8 at hz
      split at hz
      · exact hst z hz
      · exact hB.gs j z hz)
    bl:=(hB.bl)
    sz:=(fun s hs => ⟨Nat.le_succ_of_le (hB.sz s hs).1,Nat.le_succ_of_le (hB.sz s hs).2⟩)
    wz:=(hB.wz)
    qz:=(fun j hj => by
      show ((up8 M.qs k (l.map (·.ds)) j).length:Int) ≤ _
      unfold up8
      split
      · rename_i e;subst e;rw [List.length_map];exact hl
      · exact hB.qz j hj)
    head:=(hB.head)
    cfg:=(hB.cfg)
    sk:=(hB.sk)
    msgw:=(hB.msgw)
    mr:=(hB.mr)
    msgq:=(fun j z hz => by
      have hz:z ∈ up8 A.qv k l j:=hz
      unfold up8 at hz
      split at hz
      · exact hg z hz
      · exact hB.msgq j z hz)
    stand:=(fun _ => hB.stand (by simp))
    made:=(fun p s hs _ => hB.made p s hs (by simp))
    valid:=(fun p s hs _ => hB.valid p s hs (by simp))
    mw:=(fun _ => ⟨(hB.mw (by simp)).1,(hB.mw (by simp)).2.more (Nat.le_succ _)⟩)
    row:=(fun j hj _ => by
      show own' (A.rb j) = _ ∧ w'.heap[A.rb j]? = some (.cells #[_,up8 A.iv k v j] _ _)
      by_cases e:j = k
      · subst e;rw [up8_same];exact hr
      · rw [up8_ne _ _ e];exact hB.row j hj (by simp;exact e))
    items:=(fun j hj _ => by
      show OwnsOff w' n0 _ 2 (up8 A.iv k v j) (up8 A.qv k l j).length (gsC (up8 A.qv k l j)) ∧ Tagged own' (up8 A.iv k v j) _
      by_cases e:j = k
      · subst e;rw [up8_same,up8_same];exact hi
      · rw [up8_ne _ _ e,up8_ne _ _ e];exact hB.items j hj (by simp;exact e))
    mp:=(fun _ => ⟨(hB.mp (by simp)).1,(hB.mp (by simp)).2.more (Nat.le_succ _)⟩)
    bells:=(fun _ => hB.bells (by simp)) }
/-- A word of a private span turns. -/
theorem MAt.fillWd {w w':World} {own own':Nat → Tg8} {n0:Nat} {c:Cfg} {M:Md8} {A:Mx8} {S:Nat → Prop} (h:MAt w own n0 c M A) (ho:Only S w w') (he:∀ k,k < w.heap.size → own' k = own k) (hf:∀ k,w'.heap.size ≤ k → own' k = .free) (hb:∀ k,own' k ≠ .free → n0 ≤ k) (a x:Int) (hS:∀ k,k < w.heap.size → S k → own k = .free ∨ own k = .mp) (hm:own' A.mp = .mp ∧ MapH w' 36 .u64 A.mp (fun j => if j = a then (if x = 0 then none else some (.int .u32 x)) else fp8 M.wd j) (M.t + 1)) :
    MAt w' own' n0 c { M with wd:=upI M.wd a x,t:=M.t + 1 } A:=by
  have hB:MBut (fun t => t = .mp) w' own' n0 c M A:=MBut.only (MBut.weak h (fun _ x => x.elim)) ho he hf hb (fun t ht => by rw [ht];trivial) (fun k hk hs => hS k hk hs) (by intro e;first | (simp at e;done) | exact e | simp_all)
  exact {
    free:=(hB.free)
    base:=(hB.base)
    n0le:=(hB.n0le)
    len:=(hB.len)
    gw:=(hB.gw)
    gq:=(hB.gq)
    gs:=(hB.gs)
    bl:=(hB.bl)
    sz:=(fun s hs => ⟨Nat.le_succ_of_le (hB.sz s hs).1,Nat.le_succ_of_le (hB.sz s hs).2⟩)
    wz:=(hB.wz)
    qz:=(hB.qz)
    head:=(hB.head)
    cfg:=(hB.cfg)
    sk:=(hB.sk)
    msgw:=(hB.msgw)
    mr:=(hB.mr)
    msgq:=(hB.msgq)
    stand:=(fun _ => hB.stand (by simp))
    made:=(fun p s hs _ => hB.made p s hs (by simp))
    valid:=(fun p s hs _ => hB.valid p s hs (by simp))
    mw:=(fun _ => ⟨(hB.mw (by simp)).1,(hB.mw (by simp)).2.more (Nat.le_succ _)⟩)
    row:=(fun k hk _ => hB.row k hk (by simp))
    items:=(fun k hk _ => hB.items k hk (by simp))
    mp:=(fun _ => ⟨hm.1,hm.2.as fun j hj => by
      show (if j = a then _ else fp8 M.wd j) = fp8 (upI M.wd a x) j
      unfold fp8 upI
      by_cases h1:j = a
      · rw [if_pos h1,if_pos h1]
      · rw [if_neg h1,if_neg h1]⟩)
    bells:=(fun _ => hB.bells (by simp)) }
end Go.Proofs.YtheeiklgblcjfaaGreatDoor
end
section
namespace Go.Proofs.YtheeiklgblcjfaaGreatDoor
open Go.RowKit Go.Sort
set_option linter.unusedVariables false
set_option linter.unusedSimpArgs false
set_option linter.unusedVariables false
set_option linter.unusedSimpArgs false
set_option maxRecDepth 100000
theorem mat_len {w:World} {own:Nat → Tg8} {n0:Nat} {c:Cfg} {M:Md8} {A:Mx8} (h:MAt w own n0 c M A):A.sl.length = c.parts.length:=by
  have:=h.1
  have e:=congrArg List.length h.len.1
  rw [List.length_map] at e
  exact e.trans h.len.2
theorem mat_lt {w:World} {own:Nat → Tg8} {n0:Nat} {c:Cfg} {M:Md8} {A:Mx8} (h:MAt w own n0 c M A) {k:Nat} {t:Tg8} (e:own k = t) (ht:t ≠ .free):k < w.heap.size:=Nat.lt_of_not_le fun hle => ht (e.symm.trans (h.free k hle))
theorem mat_at {w:World} {own:Nat → Tg8} {n0:Nat} {c:Cfg} {M:Md8} {A:Mx8} (h:MAt w own n0 c M A) {p:Nat} (hp:p < c.parts.length):∃ s,A.sl[p]? = some s ∧ st8 M (p:Int) = s.s ∧ M.st[p]? = some s.s:=by
  have hl:=h.len
  have hlt:p < A.sl.length:=by rw [mat_len h];exact hp
  refine ⟨A.sl[p],List.getElem?_eq_getElem hlt,?_⟩
  have e:M.st[p]? = some A.sl[p].s:=by rw [← hl.1,List.getElem?_map,List.getElem?_eq_getElem hlt];rfl
  refine ⟨?_,e⟩
  unfold st8
  rw [if_pos (by omega),Int.toNat_natCast,e];rfl
theorem is_in {w:World} {own:Nat → Tg8} {n0:Nat} {c:Cfg} {M:Md8} {A:Mx8} (h:MAt w own n0 c M A) (p:Nat) (hp:p < c.parts.length):Calls Tryz.prog 48 #[.pointer (some ⟨A.b,0,none⟩),.int .i64 (p:Int)] w fun e w' => e = .returned (.bool true) ∧ w = w':=by
  have c6:w.cell? ⟨A.b,6,none⟩ = some (.slice (some ⟨A.sg,A.so,none⟩) c.parts.length A.sk):=blk_at h.head.2 (i:=6) rfl
  have h1:(0:Int) ≤ (p:Int):=by omega
  have h2:(p:Int) < (c.parts.length:Int):=by omega
  clear h
  go_enter Tryz.func48,Tryz.ntmps48
  go_wp2
  go_ret
  exact ⟨by simp [h2],rfl⟩
theorem is_out {w:World} {own:Nat → Tg8} {n0:Nat} {c:Cfg} {M:Md8} {A:Mx8} (h:MAt w own n0 c M A) (p:Int) (hp:p < 0 ∨ (c.parts.length:Int) ≤ p):Calls Tryz.prog 48 #[.pointer (some ⟨A.b,0,none⟩),.int .i64 p] w fun e w' => e = .returned (.bool false) ∧ w = w':=by
  have c6:w.cell? ⟨A.b,6,none⟩ = some (.slice (some ⟨A.sg,A.so,none⟩) c.parts.length A.sk):=blk_at h.head.2 (i:=6) rfl
  clear h
  by_cases h1:p < 0
  · have h2:¬ (0:Int) ≤ p:=by omega
    clear hp
    go_enter Tryz.func48,Tryz.ntmps48
    go_wp2
    go_ret
    exact ⟨rfl,rfl⟩
  · have h2:(0:Int) ≤ p:=by omega
    have h3:¬ p < (c.parts.length:Int):=by omega
    clear hp h1
    go_enter Tryz.func48,Tryz.ntmps48
    go_wp2
    go_ret
    exact ⟨by simp [h3],rfl⟩
theorem stands_in {w:World} {own:Nat → Tg8} {n0:Nat} {c:Cfg} {M:Md8} {A:Mx8} (h:MAt w own n0 c M A) (p:Nat) (hp:p < c.parts.length):Calls Tryz.prog 39 #[.pointer (some ⟨A.b,0,none⟩),.int .i64 (p:Int)] w fun e w' => e = .returned (.pointer (some ⟨A.sg,A.so + p * 4,none⟩)) ∧ w = w':=by
  have c6:w.cell? ⟨A.b,6,none⟩ = some (.slice (some ⟨A.sg,A.so,none⟩) c.parts.length A.sk):=blk_at h.head.2 (i:=6) rfl
  have HI:=Lib.hid (is_in h p hp)
  clear h
  go_enter Tryz.func39,Tryz.ntmps39
  go_wp2_with fail
  refine HI.out.mono ?_
  rintro e w' ⟨rfl,rfl⟩
  clear HI
  go_wp2
  go_ret
  exact ⟨rfl,rfl⟩
theorem stands_out {w:World} {own:Nat → Tg8} {n0:Nat} {c:Cfg} {M:Md8} {A:Mx8} (h:MAt w own n0 c M A) (p:Int) (hp:p < 0 ∨ (c.parts.length:Int) ≤ p):Calls Tryz.prog 39 #[.pointer (some ⟨A.b,0,none⟩),.int .i64 p] w fun e w' => e = .returned (.pointer (some ⟨w.heap.size,0,none⟩)) ∧ w' = w.alloc (.cells #[.int .i64 p,.bool false,.slice none 0 0,.slice none 0 0] 59):=by
  have HI:=Lib.hid (is_out h p hp)
  clear h hp
  go_enter Tryz.func39,Tryz.ntmps39
  go_wp2_with fail
  refine HI.out.mono ?_
  rintro e w' ⟨rfl,rfl⟩
  clear HI
  go_wp2
  go_ret
  exact ⟨rfl,rfl⟩
end Go.Proofs.YtheeiklgblcjfaaGreatDoor
end
