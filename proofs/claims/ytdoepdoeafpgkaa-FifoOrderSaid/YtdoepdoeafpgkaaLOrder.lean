/- FifoOrder. No condition but those in the statements. -/
import Derived.Test.YtdoepdoeafpgkaaPair
import Derived.Test.YtdoepdoeafpgkaaLPlays
namespace Go.Proofs.Ytdoepdoeafpgkaa
open Go.RowKit Go.Sort
set_option linter.unusedVariables false

/-- A list of integers that a slice of the call's own holds. -/
def OwnInts (w : World) (base : Nat) (v : Value) (xs : List Int) : Prop := OwnsOff w base 3 1 v xs.length (xs.map (Value.int .i64))
/-- The row, and what has been put and taken. -/
structure OrdAt (w : World) (base rb : Nat) (most : Int) (v tin tout : Value) (ps : List (Int × Int)) (ins outs : List Int) : Prop where
  row : PRow w base rb most v ps
  ins : OwnInts w base tin ins
  outs : OwnInts w base tout outs
  apart : Apart2 tin tout
section
variable {w w' : World} {base rb : Nat} {most : Int} {v v' tin tout u : Value} {ps ps' : List (Int × Int)} {ins outs : List Int}
theorem OrdAt.keptB (h : OrdAt w base rb most v tin tout ps ins outs) (hb : Below w.heap.size w w') : OrdAt w' base rb most v tin tout ps ins outs := ⟨RowAt.keptB h.row hb, OwnsOff.keptB h.ins hb, OwnsOff.keptB h.outs hb, h.apart⟩
theorem ints_far (h : PRow w base rb most v ps) (hi : OwnInts w base u ins) : ∀ k, u.ownBlock = some k → ¬ (k = rb ∨ v.ownBlock = some k) := by
  intro k hk
  obtain ⟨cs, hc⟩ := hi.typed k hk
  rintro (rfl | hv)
  · rw [h.head] at hc; injection hc with hc; injection hc with _ hc; exact absurd hc (by decide)
  · obtain ⟨cs', hc'⟩ := h.row.typed k hv
    rw [hc'] at hc; injection hc with hc; injection hc with _ hc; exact absurd hc (by decide)
theorem OrdAt.moved (h : OrdAt w base rb most v tin tout ps ins outs) (hP : PRow w' base rb most v' ps') (hm : Moved rb v v' w w') : OrdAt w' base rb most v' tin tout ps' ins outs :=
  ⟨hP, OwnsOff.kept h.ins hm.1 (ints_far h.row h.ins), OwnsOff.kept h.outs hm.1 (ints_far h.row h.outs), h.apart⟩
theorem OrdAt.rowStays (h : PRow w base rb most v ps) (hi : OwnInts w base u ins) (ho : Only (fun k => u.ownBlock = some k) w w') : PRow w' base rb most v ps :=
  RowAt.kept h ho (fun e => ints_far h hi rb e (.inl rfl)) (fun k hk e => ints_far h hi k e (.inr hk))
theorem only_append {tmp : Obj} {u : Value} (hgrow : (w.alloc tmp).grownBy w' u.ownBlock) : Only (fun k => u.ownBlock = some k) w w' :=
  (Only.of_below (S := fun k => u.ownBlock = some k) ((Below.refl _ _).alloc (Nat.le_refl _) _)).trans ((Only.of_grown hgrow).mono fun k _ hk => hk.symm)
theorem OrdAt.putIn (h : OrdAt w base rb most v tin tout ps ins outs) {tmp : Obj} {x : Int} (hgrow : (w.alloc tmp).grownBy w' tin.ownBlock) (hown : OwnInts w' base u (ins ++ [x])) (hfr : ∀ g, u.ownBlock = some g → tin.ownBlock = some g ∨ w.heap.size + 1 ≤ g) :
    OrdAt w' base rb most v u tout ps (ins ++ [x]) outs :=
  ⟨OrdAt.rowStays h.row h.ins (only_append hgrow), hown, OwnsOff.kept h.outs (only_append hgrow) (fun k hk e => h.apart k e hk), fun g hg ho => by
    rcases hfr g hg with e | e
    · exact h.apart g e ho
    · have := (OwnsOff.lt h.outs g ho).2; omega⟩
theorem OrdAt.putOut (h : OrdAt w base rb most v tin tout ps ins outs) {tmp : Obj} {x : Int} (hgrow : (w.alloc tmp).grownBy w' tout.ownBlock) (hown : OwnInts w' base u (outs ++ [x])) (hfr : ∀ g, u.ownBlock = some g → tout.ownBlock = some g ∨ w.heap.size + 1 ≤ g) :
    OrdAt w' base rb most v tin u ps ins (outs ++ [x]) :=
  ⟨OrdAt.rowStays h.row h.outs (only_append hgrow), OwnsOff.kept h.ins (only_append hgrow) (fun k hk e => h.apart k hk e), hown, fun g hg ho => by
    rcases hfr g ho with e | e
    · exact h.apart g hg e
    · have := (OwnsOff.lt h.ins g hg).2; omega⟩
theorem below_append {tmp : Obj} {B : Nat} {w0 : World} (hb : Below B w0 w) (hi : OwnInts w base u ins) (hgrow : (w.alloc tmp).grownBy w' u.ownBlock) (hB : B ≤ base) (h0 : B ≤ w.heap.size) : Below B w0 w' :=
  hb.trans ((only_append hgrow).below h0 (fun k hk => Nat.le_trans hB (OwnsOff.lt hi k hk).1))
theorem pgrow_below {B : Nat} {w0 : World} (hb : Below B w0 w) (hR : PRow w base rb most v ps) (hM : Moved rb v v' w w') (hB : B ≤ base) : Below B w0 w' := hb.trans ((hM.below hR).mono hB)
end
theorem box2_cells (w : World) (v0 v1 : Value) (T : TypeId) : (w.alloc (.cells #[v0, v1] T)).cell? ⟨w.heap.size, 0, none⟩ = some v0 ∧ (w.alloc (.cells #[v0, v1] T)).cell? ⟨w.heap.size, 1, none⟩ = some v1 := by
  have h := heap_alloc_new w (.cells #[v0, v1] T)
  constructor <;> simp only [World.cell?, h] <;> rfl
/-- What holds at the head of a round. -/
def OrdHead (w0 wr : World) (base rb : Nat) (most : Int) (tin tout : Value) (k : Nat) : Prop :=
  ∃ v ps ins outs, OrdAt wr base rb most v tin tout ps ins outs ∧ ins = outs ++ ps.map (·.2) ∧ ins.length ≤ k ∧ (ps.length : Int) ≤ most ∧ Below w0.heap.size w0 wr

/-- What holds at the head of a round of the second loop: r rounds are to come. -/
def OrdEnd (w0 wr : World) (base rb : Nat) (most : Int) (tin tout : Value) (ins : List Int) (r : Nat) : Prop :=
  ∃ v ps outs, OrdAt wr base rb most v tin tout ps ins outs ∧ ins = outs ++ ps.map (·.2) ∧ ps.length ≤ r ∧ Below w0.heap.size w0 wr

set_option maxRecDepth 100000 in
set_option maxHeartbeats 6400000 in
theorem order_walk (n : Nat) (l : List Int) (A : Option Addr) (c : Nat) (w : World) (hn : n ≤ 255) (hl : l.length ≤ 9223372036854775807) (hrow : IntRowK .i64 w w.heap.size A l) :
    Calls Try.prog 5 #[.int .u8 (n : Int), .slice A l.length c] w fun e w' => e = .returned (.bool true) ∧ Below w.heap.size w w' := by
  by_cases hbig : 300 < l.length
  · go_enter Try.func5, Try.ntmps5
    go_wp2_with fail
    refine (wakes_b _).mono ?_
    rintro e w0 ⟨rfl, hb0⟩
    go_wp2
    go_ret
    exact ⟨rfl, hb0⟩
  have hl2 : l.length ≤ 300 := by omega
  obtain ⟨i0, hi, hz0, hz1, hz2⟩ := info_parts Try.infoI
  clear hbig hl
  go_enter Try.func5, Try.ntmps5
  go_wp2_with fail
  refine (wakes_b _).mono ?_
  rintro e w0 ⟨rfl, hb0⟩
  go_wp2_with fail
  refine (pnew_in (1 + n) _ (by omega) (by omega)).mono ?_
  rintro e w1 ⟨rb, rfl, hR, hB⟩
  have hb1 := hb0.trans (hB.mono hb0.size)
  have hbase : w.heap.size ≤ w0.heap.size := hb0.size
  have hH0 : OrdHead w w1 w0.heap.size rb (1 + n) (.slice none 0 0) (.slice none 0 0) 0 := ⟨_, _, [], [], ⟨hR, OwnsOff.nil _ _ _ _, OwnsOff.nil _ _ _ _, fun g hg => by cases hg⟩, rfl, Nat.le_refl _, by simp; omega, hb1⟩
  clear hB hb0 hb1 hR
  go_wp2_with fail
  go_loopw [7, 8, 35] (fun tin tout i wr => ∃ k : Nat, k ≤ l.length ∧ i = .int .i64 k ∧ OrdHead w wr w0.heap.size rb (1 + n) tin tout k) (fun _ _ i _ => l.length - (intOf i).toNat)
  case atStart => exact ⟨0, Nat.zero_le _, rfl, hH0⟩
  case round =>
    clear hH0
    obtain ⟨k, hk, rfl, v, ps, ins, outs, hO, hio, hik, hpl, hb⟩ := hrel
    have HIO := Lib.hid hio
    clear hio
    by_cases hlt : k < l.length
    · obtain ⟨b, o, rfl, hbo, hcs⟩ := hrow.at_ hlt
      have c0 := hcs wr hb
      obtain ⟨x, hx⟩ : ∃ x, l.getD k 0 = x := ⟨_, rfl⟩
      rw [hx] at c0
      clear hx hcs
      have hsz := hb.size
      by_cases h3 : x.tmod 3 = 0
      · have h3' : (x.tmod 3 != 0) = false := by simpa using h3
        clear h3
        cases ps with
        | nil =>
          go_wp2_with fail
          refine (ptake_empty _ rb _ v _ hO.row).mono ?_
          rintro e w2 ⟨rfl, hb2⟩
          have hO2 := hO.keptB hb2
          have hbb2 := hb.trans (hb2.mono hb.size)
          clear hO hb hb2 c0
          go_wp2
          go_roundw
          case rel => exact ⟨k + 1, by omega, by go_num, v, [], ins, outs, hO2.keptB ((Below.refl _ _).alloc (Nat.le_refl _) _), HIO.out, by omega, hpl, hbb2.alloc hbb2.size _⟩
          case measure => simp [intOf]; omega
        | cons p ps =>
          obtain ⟨y, z⟩ := p
          have hpl2 : ps.length + 1 ≤ 1 + n := by simp at hpl; omega
          have hol : outs.length ≤ ins.length := by rw [HIO.out]; simp
          go_wp2_with fail
          refine (ptake_in _ rb _ v y z ps _ hO.row (by omega)).mono ?_
          rintro e w2 ⟨v2, rfl, hR2, hM2⟩
          have hO2 := hO.moved hR2 hM2
          have hbb2 := pgrow_below hb hO.row hM2 hbase
          clear hO hb hR2 hM2 c0 hpl
          have hbx : Below w2.heap.size w2 (w2.alloc (.cells #[.int .i64 y, .int .i64 z] 45)) := (Below.refl _ _).alloc (Nat.le_refl _) _
          have hO3 := hO2.keptB hbx
          have hbb3 := hbb2.trans (hbx.mono hbb2.size)
          have x1 : (w2.alloc (.cells #[.int .i64 y, .int .i64 z] 45)).cell? ⟨w2.heap.size, 1, none⟩ = some (.int .i64 z) := (box2_cells w2 (.int .i64 y) (.int .i64 z) 45).2
          obtain ⟨w3, hw3⟩ : ∃ w3, Hid (w3 = w2.alloc (.cells #[.int .i64 y, .int .i64 z] 45)) := ⟨_, Lib.hid rfl⟩
          rw [← hw3.out] at hO3 hbb3 x1
          have hs3 := hbb3.size
          have hlb : w0.heap.size ≤ w3.heap.size := Nat.le_trans hO3.row.le (Nat.le_of_lt hO3.row.lt)
          have HO3 := Lib.hid hO3
          have hown3 := hO3.outs
          clear hO2 hbb2 hbx hO3
          go_wp2_with (first | (rw [← hw3.out]) | (at_builtin; refine wpList_append_off _ rfl _ _ 22 rfl w0.heap.size 3 i0 (.int .i64 0) 1 8 Try.underlying22 hi hz0 hz1 hz2 rfl (by decide) u8 outs.length _ rfl (OwnsOff.keptB hown3 ((Below.refl _ _).alloc (Nat.le_refl _) _)) ⟨w3.heap.size, 0, none⟩ 1 1 [.int .i64 z] rfl rfl (cell_one_new _ _ _) (by simp [Value.oneCell']) (by unfold maxLen; omega) (by omega) (by simp; omega) ?_))
          intro v' w4 hown' hgrow hfr
          have hown4 : OwnInts w4 w0.heap.size v' (outs ++ [z]) := by unfold OwnInts; simpa using hown'
          have hO4 := HO3.out.putOut hgrow hown4 hfr
          have hbb4 := below_append hbb3 HO3.out.outs hgrow hbase hs3
          have hio4 : ins = (outs ++ [z]) ++ ps.map (·.2) := by rw [HIO.out]; simp
          have HO4 := Lib.hid hO4; have HI4 := Lib.hid hio4; have HB4 := Lib.hid hbb4
          clear hown' hgrow hfr hown4 hO4 hio4 hbb4 hown3 hbb3
          go_wp2
          go_roundw
          case rel => exact ⟨k + 1, by omega, by go_num, v2, ps, ins, outs ++ [z], HO4.out, HI4.out, by omega, by omega, HB4.out⟩
          case measure => simp [intOf]; omega
      · have h3' : (x.tmod 3 != 0) = true := by simpa using h3
        clear h3
        by_cases hfull : (1 + n : Int) = ps.length
        · go_wp2_with fail
          refine (pput_full _ rb _ v ps x k _ hO.row hfull).mono ?_
          rintro e w2 ⟨rfl, hb2⟩
          have hO2 := hO.keptB hb2
          have hbb2 := hb.trans (hb2.mono hb.size)
          clear hO hb hb2 c0 hfull
          go_wp2
          go_roundw
          case rel => exact ⟨k + 1, by omega, by go_num, v, ps, ins, outs, hO2, HIO.out, by omega, hpl, hbb2⟩
          case measure => simp [intOf]; omega
        · have hlt3 : (ps.length : Int) < 1 + n := by omega
          clear hfull
          go_wp2_with fail
          refine (pput_in _ rb _ v ps x k _ hO.row hlt3 (by omega)).mono ?_
          rintro e w3 ⟨v2, rfl, hR2, hM2⟩
          have hO3 := hO.moved hR2 hM2
          have hbb3 := pgrow_below hb hO.row hM2 hbase
          have hs3 := hbb3.size
          have hlb : w0.heap.size ≤ w3.heap.size := Nat.le_trans hO3.row.le (Nat.le_of_lt hO3.row.lt)
          have HO3 := Lib.hid hO3
          have hown3 := hO3.ins
          clear hO hb hR2 hM2 c0 hO3
          go_wp2_with (at_builtin; refine wpList_append_off _ rfl _ _ 22 rfl w0.heap.size 3 i0 (.int .i64 0) 1 8 Try.underlying22 hi hz0 hz1 hz2 rfl (by decide) u7 ins.length _ rfl (OwnsOff.keptB hown3 ((Below.refl _ _).alloc (Nat.le_refl _) _)) ⟨w3.heap.size, 0, none⟩ 1 1 [.int .i64 k] rfl rfl (cell_one_new _ _ _) (by simp [Value.oneCell']) (by unfold maxLen; omega) (by omega) (by simp; omega) ?_)
          intro v' w4 hown' hgrow hfr
          have hown4 : OwnInts w4 w0.heap.size v' (ins ++ [(k : Int)]) := by unfold OwnInts; simpa using hown'
          have hO4 := HO3.out.putIn hgrow hown4 hfr
          have hbb4 := below_append hbb3 HO3.out.ins hgrow hbase hs3
          have hio4 : ins ++ [(k : Int)] = outs ++ (ps ++ [(x, (k : Int))]).map (·.2) := by rw [HIO.out]; simp
          have hil : (ins ++ [(k : Int)]).length ≤ k + 1 := by simp; omega
          have hpl2 : ((ps ++ [(x, (k : Int))]).length : Int) ≤ 1 + n := by simp; omega
          have HO4 := Lib.hid hO4; have HI4 := Lib.hid hio4; have HB4 := Lib.hid hbb4; have HL := Lib.hid hil; have HP := Lib.hid hpl2
          clear hown' hgrow hfr hown4 hO4 hio4 hbb4 hown3 hbb3 hil hpl2
          go_wp2
          go_roundw
          case rel => exact ⟨k + 1, by omega, by go_num, v2, _, _, outs, HO4.out, HI4.out, HL.out, HP.out, HB4.out⟩
          case measure => simp [intOf]; omega
    · have hpk : ps.length ≤ l.length := by
        have h1 : ins.length = outs.length + ps.length := by rw [HIO.out]; simp
        omega
      have hil : ins.length ≤ 300 := by omega
      have hE0 : OrdEnd w wr w0.heap.size rb (1 + n) u7 u8 ins l.length := ⟨v, ps, outs, hO, HIO.out, hpk, hb⟩
      clear hO hpl hb HIO hpk hik
      go_wp2_with fail
      go_loopw [8, 68] (fun tout i wr => ∃ j : Nat, j ≤ l.length ∧ i = .int .i64 j ∧ OrdEnd w wr w0.heap.size rb (1 + n) u7 tout ins (l.length - j)) (fun _ i _ => l.length - (intOf i).toNat)
      case atStart => exact ⟨0, Nat.zero_le _, rfl, hE0⟩
      case round =>
        clear hE0
        obtain ⟨j, hj, rfl, v, ps, outs, hO, hio, hpj, hb⟩ := hrel
        have HIO := Lib.hid hio
        have hol : outs.length ≤ ins.length := by rw [HIO.out]; simp
        have hsz := hb.size
        clear hio
        by_cases hjl : j < l.length
        · cases ps with
          | nil =>
            go_wp2_with fail
            refine (ptake_empty _ rb _ v _ hO.row).mono ?_
            rintro e w2 ⟨rfl, hb2⟩
            have hO2 := hO.keptB hb2
            have hbb2 := hb.trans (hb2.mono hb.size)
            clear hO hb hb2
            go_wp2
            go_roundw
            case rel => exact ⟨j + 1, by omega, by go_num, v, [], outs, hO2.keptB ((Below.refl _ _).alloc (Nat.le_refl _) _), HIO.out, by simp, hbb2.alloc hbb2.size _⟩
            case measure => simp [intOf]; omega
          | cons p ps =>
            obtain ⟨y, z⟩ := p
            have hpj2 : ps.length + 1 ≤ l.length - j := by simpa using hpj
            clear hpj
            go_wp2_with fail
            refine (ptake_in _ rb _ v y z ps _ hO.row (by omega)).mono ?_
            rintro e w2 ⟨v2, rfl, hR2, hM2⟩
            have hO2 := hO.moved hR2 hM2
            have hbb2 := pgrow_below hb hO.row hM2 hbase
            clear hO hb hR2 hM2
            have hbx : Below w2.heap.size w2 (w2.alloc (.cells #[.int .i64 y, .int .i64 z] 45)) := (Below.refl _ _).alloc (Nat.le_refl _) _
            have hO3 := hO2.keptB hbx
            have hbb3 := hbb2.trans (hbx.mono hbb2.size)
            have x1 : (w2.alloc (.cells #[.int .i64 y, .int .i64 z] 45)).cell? ⟨w2.heap.size, 1, none⟩ = some (.int .i64 z) := (box2_cells w2 (.int .i64 y) (.int .i64 z) 45).2
            obtain ⟨w3, hw3⟩ : ∃ w3, Hid (w3 = w2.alloc (.cells #[.int .i64 y, .int .i64 z] 45)) := ⟨_, Lib.hid rfl⟩
            rw [← hw3.out] at hO3 hbb3 x1
            have hs3 := hbb3.size
            have hlb : w0.heap.size ≤ w3.heap.size := Nat.le_trans hO3.row.le (Nat.le_of_lt hO3.row.lt)
            have HO3 := Lib.hid hO3
            have hown3 := hO3.outs
            clear hO2 hbb2 hbx hO3
            go_wp2_with (first | (rw [← hw3.out]) | (at_builtin; refine wpList_append_off _ rfl _ _ 22 rfl w0.heap.size 3 i0 (.int .i64 0) 1 8 Try.underlying22 hi hz0 hz1 hz2 rfl (by decide) u8 outs.length _ rfl (OwnsOff.keptB hown3 ((Below.refl _ _).alloc (Nat.le_refl _) _)) ⟨w3.heap.size, 0, none⟩ 1 1 [.int .i64 z] rfl rfl (cell_one_new _ _ _) (by simp [Value.oneCell']) (by unfold maxLen; omega) (by omega) (by simp; omega) ?_))
            intro v' w4 hown' hgrow hfr
            have hown4 : OwnInts w4 w0.heap.size v' (outs ++ [z]) := by unfold OwnInts; simpa using hown'
            have hO4 := HO3.out.putOut hgrow hown4 hfr
            have hbb4 := below_append hbb3 HO3.out.outs hgrow hbase hs3
            have hio4 : ins = (outs ++ [z]) ++ ps.map (·.2) := by rw [HIO.out]; simp
            have HO4 := Lib.hid hO4; have HI4 := Lib.hid hio4; have HB4 := Lib.hid hbb4
            clear hown' hgrow hfr hown4 hO4 hio4 hbb4 hown3 hbb3
            go_wp2
            go_roundw
            case rel => exact ⟨j + 1, by omega, by go_num, v2, ps, outs ++ [z], HO4.out, HI4.out, by omega, HB4.out⟩
            case measure => simp [intOf]; omega
        · have hnil : ps = [] := List.eq_nil_of_length_eq_zero (by omega)
          subst hnil
          have heq : ins = outs := by rw [HIO.out]; simp
          subst heq
          obtain ⟨A7, c7, e7, _, _, hi7⟩ := OwnsOff.intRow hO.ins
          obtain ⟨A8, c8, e8, _, _, hi8⟩ := OwnsOff.intRow hO.outs
          have hOr := hO.row
          have HB := Lib.hid hb
          clear hO hb hpj HIO hol
          subst e7 e8
          go_wp2_with fail
          refine (plen_b _ rb _ v [] _ hOr).mono ?_
          rintro e w' ⟨rfl, rfl⟩
          go_wp2_with fail
          refine (same_yes _ ins A7 A8 c7 c8 _ rfl hi7 hi8 (by omega)).mono ?_
          rintro e w6 ⟨rfl, hb6⟩
          have HF := Lib.hid (HB.out.trans (hb6.mono HB.out.size))
          clear hb6
          go_wp2
          go_ret
          exact ⟨by simp, HF.out⟩

theorem order_all (q : Int) (l : List Int) (A : Option Addr) (c : Nat) (w : World) (hq : (Lit.int .u8 q).wf = true) (hc : l.length ≤ c) (hm : c ≤ maxLen) (hrow : IntRowK .i64 w w.heap.size A l) :
    Calls Try.prog 5 #[.int .u8 q, .slice A l.length c] w fun e w' => e = .returned (.bool true) ∧ Below w.heap.size w w' := by
  obtain ⟨h0, h1⟩ := bounds_u8 hq
  obtain ⟨n, rfl⟩ := Int.eq_ofNat_of_zero_le h0
  exact order_walk n l A c w (by omega) (by unfold maxLen at hm; omega) hrow
end Go.Proofs.Ytdoepdoeafpgkaa
