/- A write under way, as the document's steps have it. No condition but those in the statements. Step of a write does the document's step. No condition but those in the statements. A read under way, as the document's steps have it. No condition but those in the statements. Step of a read does the document's step. No condition but those in the statements. -/
import Derived.Test.YtocdidkfnbkkhaaGreatGC
import Derived.Test.YtocdidkfnbkkhaaGreatGP
import Derived.BigQuiet
import Derived.IntWalk
import Derived.Deep.MidRow
import Derived.Deep.Upon
import Derived.BigRegion
import Derived.Deep.RegionHeld3
import Derived.Test.YtocdidkfnbkkhaaGreatGB
import Derived.Shelf.Abstract
namespace Go.Proofs.YtocdidkfnbkkhaaGreat
open Go.RowKit Go.Sort
set_option linter.unusedVariables false
set_option linter.unusedSimpArgs false
set_option linter.unusedVariables false
set_option linter.unusedSimpArgs false

open Go.Proofs.YtocdidkfnbkkhaaGreat.Simp
set_option maxRecDepth 100000
set_option maxHeartbeats 3200000
def P8 (F : Fr) : Pl8 := ⟨F.src, F.dst, F.src + 1, F.src + 2, bufA F 0 0, bufA F 0 1, bufA F 1 0, bufA F 1 1⟩
theorem P8_slot (F : Fr) {p : Nat} (hp : p ≤ 1) : (P8 F).slot p = F.src + 1 + p := by
  have hp2 : p = 0 ∨ p = 1 := by omega
  rcases hp2 with rfl | rfl <;> rfl
theorem P8_buf (F : Fr) {p i : Nat} (hp : p ≤ 1) (hi : i ≤ 1) : (P8 F).buf p i = bufA F p i := by
  have hp2 : p = 0 ∨ p = 1 := by omega
  have hi2 : i = 0 ∨ i = 1 := by omega
  rcases hp2 with rfl | rfl <;> rcases hi2 with rfl | rfl <;> rfl
/-- The channel's words lie within n words. -/
structure FIn (F : Fr) (n : Nat) : Prop where
  src : F.src + 3 + 4 * (F.n + 2) ≤ n
  dst : F.dst < n
  max : n ≤ 1000000
  n1 : 1 ≤ F.n
  n2 : F.n ≤ 1000
theorem FIn.buf {F : Fr} {n p i : Nat} (h : FIn F n) (hp : p ≤ 1) (hi : i ≤ 1) : bufA F p i + (F.n + 2) ≤ n := by
  have := buf_in F hp hi; have := h.src; omega
/-- What a step did, as it lies in memory. -/
@[reducible] def didOf (d : Did) (v : Value) : Array Value := didV d.done d.code v d.valid d.mark d.stamped d.buffer
/-- Which function does the next step. -/
structure NextOf (w : World) (S : Nat → Prop) (wb : Nat) (s : FS) (nx : Value) : Prop where
  z : s.no < 0 → nx = .nilFunc
  a0 : s.no = 0 → nx = .func (.func 31) #[.pointer (some ⟨wb, 0, none⟩)] #[]
  a1 : s.no = 1 → nx = .func (.func 48) #[.pointer (some ⟨wb, 0, none⟩)] #[]
  a2 : s.no = 2 → nx = .func (.func 63) #[.pointer (some ⟨wb, 0, none⟩)] #[]
  a3 : s.no = 3 → nx = .func (.func 73) #[.pointer (some ⟨wb, 0, none⟩)] #[]
  a4 : ∀ j : Nat, s.no = 4 + (j : Int) → j < s.data.length → ∃ bw bi, nx = .func (.func 83) #[] #[.pointer (some ⟨bw, 0, none⟩), .pointer (some ⟨bi, 0, none⟩)] ∧ S bw ∧ S bi ∧ w.heap[bw]? = some (.cells #[.pointer (some ⟨wb, 0, none⟩)] 46 (0, 0)) ∧ w.heap[bi]? = some (.cells #[.int .i64 (j : Int)] 3 (0, 0))
  a5 : s.no = 4 + (s.data.length : Int) → nx = .func (.func 82) #[.pointer (some ⟨wb, 0, none⟩)] #[]
  a6 : s.no = 5 + (s.data.length : Int) → nx = .func (.func 87) #[.pointer (some ⟨wb, 0, none⟩)] #[]
structure WAtX (w : World) (S : Nat → Prop) (wb : Nat) (F : Fr) (s : FS) (nx : Value) (db do_ dc : Nat) : Prop where
  blk : WBlk w wb nx (P8 F) (.slice (some ⟨db, do_, none⟩) s.data.length dc) s.pair s.index s.marked
  sb : S wb
  sd : S db
  ne : db ≠ wb
  low : ∀ k, S k → k < w.heap.size
  row : ∀ (k : Nat) (x : Int), s.data[k]? = some x → w.cell? ⟨db, do_ + k, none⟩ = some (.int .u32 x)
  nxt : NextOf w S wb s nx
  pi : s.pair ≤ 1 ∧ s.index ≤ 1
  len : 1 ≤ s.data.length ∧ s.data.length ≤ F.n
  no : s.no ≤ 5 + (s.data.length : Int)
/-- A write under way at block wb, of the blocks S; its state is s. -/
def WAt (w : World) (S : Nat → Prop) (wb : Nat) (F : Fr) (s : FS) : Prop := ∃ nx db do_ dc, WAtX w S wb F s nx db do_ dc
theorem cell_of_blk {w w' : World} {b o : Nat} {v : Value} (h : w.cell? ⟨b, o, none⟩ = some v) (e : w'.heap[b]? = w.heap[b]?) : w'.cell? ⟨b, o, none⟩ = some v := by
  unfold World.cell? at h ⊢; rw [e]; exact h
theorem WAt.only {w w' : World} {S T : Nat → Prop} {wb : Nat} {F : Fr} {s : FS} (h : WAt w S wb F s) (ho : Only T w w') (hT : ∀ k, S k → ¬ T k) : WAt w' S wb F s := by
  obtain ⟨nx, db, do_, dc, h⟩ := h
  refine ⟨nx, db, do_, dc, h.blk.only ho (hT _ h.sb), h.sb, h.sd, h.ne, fun k hk => Nat.lt_of_lt_of_le (h.low k hk) ho.size, fun k x hx => cell_of_blk (h.row k x hx) (ho.block db (h.low _ h.sd) (hT _ h.sd)), ⟨h.nxt.z, h.nxt.a0, h.nxt.a1, h.nxt.a2, h.nxt.a3, fun j e hj => ?_, h.nxt.a5, h.nxt.a6⟩, h.pi, h.len, h.no⟩
  obtain ⟨bw, bi, e1, s1, s2, h1, h2⟩ := h.nxt.a4 j e hj
  exact ⟨bw, bi, e1, s1, s2, ho.at_ h1 (hT _ s1), ho.at_ h2 (hT _ s2)⟩
/-- What Step of a write leaves. -/
def GivesW (w : World) (mb rb wb : Nat) (F : Fr) (S : Nat → Prop) (s' : FS) (ws' : List Int) (D : Array Value) (e : Ending) (w' : World) : Prop :=
  ∃ S', e = .returned (.agg D) ∧ WAt w' S' wb F s' ∧ MemAt w' mb rb ws' ∧ Only (fun k => S k ∨ k = rb) w w' ∧ ∀ k, S' k → S k ∨ w.heap.size ≤ k
theorem wcase {w : World} {mb rb wb : Nat} {F : Fr} {S : Nat → Prop} {s : FS} {nx0 : Value} {db do_ dc : Nat} {ws : List Int} (now : Int) (hat : WAtX w S wb F s nx0 db do_ dc) (hm : MemAt w mb rb ws) (hS : ¬ S mb ∧ ¬ S rb)
    (g : Nat) (fs cs : List Value) (s' : FS) (ws' : List Int) (D : Array Value) (eg : ∀ args w, (callFunc g args).run Tryz.prog w = .ok (.enter g args) w) (hnx : nx0 = .func (.func g) fs.toArray cs.toArray) (hD : D.size = 9 ∧ D.all (·.oneCell') = true)
    (hC : ∀ W, Only (fun _ => False) w W → WBlk W wb nx0 (P8 F) (.slice (some ⟨db, do_, none⟩) s.data.length dc) s.pair s.index s.marked → MemAt W mb rb ws → Calls Tryz.prog g (fs ++ (.pointer (some ⟨mb, 0, none⟩)) :: .int .i64 now :: cs).toArray W fun e w1 => ∃ nx, e = .returned (.tuple #[.agg D, nx]) ∧ IsFn nx
      ∧ (∀ w2 S2, (∀ k o, W.heap.size ≤ k → w1.heap[k]? = some o → w2.heap[k]? = some o) → (∀ k, W.heap.size ≤ k → k < w1.heap.size → S2 k) → NextOf w2 S2 wb s' nx) ∧ StepW W mb rb wb ws' nx0 (P8 F) (.slice (some ⟨db, do_, none⟩) s.data.length dc) s'.pair s'.index s'.marked w1)
    (hd : s'.data = s.data) (hp : s'.pair ≤ 1 ∧ s'.index ≤ 1) (hno : s'.no ≤ 5 + (s.data.length : Int)) : Calls Tryz.prog 16 #[.pointer (some ⟨wb, 0, none⟩), .pointer (some ⟨mb, 0, none⟩), .int .i64 now] w (GivesW w mb rb wb F S s' ws' D) := by
  have hwl := hat.blk.lt
  have hc : w.cell? ⟨wb, 0, none⟩ = some (.func (.func g) fs.toArray cs.toArray) := by rw [← hnx]; exact hat.blk.cell rfl
  have hN := hat.blk.ne_mem hm
  refine (stepW_b wb mb g fs cs now w (fun W d nx w1 => d = D ∧ IsFn nx ∧ (∀ w2 S2, (∀ k o, W.heap.size ≤ k → w1.heap[k]? = some o → w2.heap[k]? = some o) → (∀ k, W.heap.size ≤ k → k < w1.heap.size → S2 k) → NextOf w2 S2 wb s' nx) ∧ StepW W mb rb wb ws' nx0 (P8 F) (.slice (some ⟨db, do_, none⟩) s.data.length dc) s'.pair s'.index s'.marked w1) eg hc
    (fun W hO => (hC W hO (hat.blk.only hO (fun h => h)) (hm.only hO (fun h => h) (fun h => h))).mono fun e w1 ⟨nx, h1, h2, h3, h4⟩ => ⟨D, nx, h1, rfl, h2, h3, h4⟩)
    (fun W d nx w1 hO ⟨h1, h2, h3, h4⟩ => by
      subst h1
      exact ⟨hD.1, hD.2, h2, ⟨_, h4.blk.cell (j := 0) rfl⟩, h4.blk.frozen 0, fun k hk hge => h4.only.block k hk (fun h => h.elim (fun h => by omega) (fun h => by have := hm.lt.2; omega)), h4.only.size⟩)).mono ?_
  rintro e w' ⟨W, d, nx, w1, rfl, hO, ⟨rfl, hf, hn, hst⟩, hT, hb⟩
  have hs1 := hO.size
  have hs2 := hst.only.size
  have hs3 := hT.size
  have hmw := hm.lt
  have ho1 : Only (fun k => S k ∨ k = rb) w w' := (((hO.mono (T := New w.heap.size fun k => S k ∨ k = rb) fun _ _ h => h.elim).trans (hst.only.mono fun k _ h => .inr (h.elim (fun e => .inl (by rw [e]; exact hat.sb)) .inr))).trans (hT.mono fun k _ h => h.elim (fun e => .inr (.inl (by rw [e]; exact hat.sb))) (fun h => .inl h.1))).old
  have hblk : WBlk w' wb nx (P8 F) (.slice (some ⟨db, do_, none⟩) s.data.length dc) s'.pair s'.index s'.marked := hb.trans (hst.blk.setNext nx)
  have hdl := hat.low _ hat.sd
  have hdb : w'.heap[db]? = w.heap[db]? := ((hT.block db (by omega) (fun h => h.elim hat.ne (fun h => by omega))).trans (hst.only.block db (by omega) (fun h => h.elim hat.ne (fun h => hS.2 (h ▸ hat.sd))))).trans (hO.block db hdl (fun h => h))
  refine ⟨fun k => S k ∨ (w.heap.size ≤ k ∧ k < w'.heap.size), rfl, ⟨nx, db, do_, dc, by rw [hd]; exact hblk, Or.inl hat.sb, Or.inl hat.sd, hat.ne, fun k hk => hk.elim (fun h => by have := hat.low k h; omega) (fun h => h.2), ?_, ?_, hp, by rw [hd]; exact hat.len, by rw [hd]; exact hno⟩, ?_, ho1, fun k hk => hk.imp id (fun h => h.1)⟩
  · intro k x hx
    rw [hd] at hx
    exact cell_of_blk (hat.row k x hx) hdb
  · exact hn w' _ (fun k o hk ho => hT.at_ ho (fun h => h.elim (fun h => by omega) (fun h => by omega))) (fun k h1 h2 => .inr ⟨by omega, by omega⟩)
  · exact hst.mem.only hT (fun h => h.elim hN.1 (fun h => by omega)) (fun h => h.elim hN.2 (fun h => by omega))
end Go.Proofs.YtocdidkfnbkkhaaGreat

namespace Go.Proofs.YtocdidkfnbkkhaaGreat
open Go.RowKit Go.Sort
set_option linter.unusedVariables false
set_option linter.unusedSimpArgs false
set_option linter.unusedVariables false
set_option linter.unusedSimpArgs false

open Go.Proofs.YtocdidkfnbkkhaaGreat.Simp
set_option maxRecDepth 100000
set_option maxHeartbeats 3200000
theorem rd_nn {ws : List Int} (h : W32 ws) (a : Nat) : 0 ≤ ws.getD a 0 := (h a).1
theorem nextOf_mv {w : World} {S : Nat → Prop} {wb : Nat} {s : FS} {nx : Value} (hl : 0 < s.data.length) (h : (s.no = 0 ∧ nx = .func (.func 31) #[.pointer (some ⟨wb, 0, none⟩)] #[]) ∨ (s.no = 1 ∧ nx = .func (.func 48) #[.pointer (some ⟨wb, 0, none⟩)] #[]) ∨ (s.no = 2 ∧ nx = .func (.func 63) #[.pointer (some ⟨wb, 0, none⟩)] #[]) ∨ (s.no = 3 ∧ nx = .func (.func 73) #[.pointer (some ⟨wb, 0, none⟩)] #[]) ∨ (s.no = 4 + (s.data.length : Int) ∧ nx = .func (.func 82) #[.pointer (some ⟨wb, 0, none⟩)] #[]) ∨ (s.no = 5 + (s.data.length : Int) ∧ nx = .func (.func 87) #[.pointer (some ⟨wb, 0, none⟩)] #[]) ∨ (s.no = -1 ∧ nx = .nilFunc)) : NextOf w S wb s nx := by
  rcases h with ⟨h, e⟩ | ⟨h, e⟩ | ⟨h, e⟩ | ⟨h, e⟩ | ⟨h, e⟩ | ⟨h, e⟩ | ⟨h, e⟩
  all_goals exact ⟨fun x => by first | exact e | omega, fun x => by first | exact e | omega, fun x => by first | exact e | omega, fun x => by first | exact e | omega, fun x => by first | exact e | omega, fun j x y => by omega, fun x => by first | exact e | omega, fun x => by first | exact e | omega⟩
theorem wstep_b {w : World} {mb rb wb : Nat} {F : Fr} {S : Nat → Prop} {s : FS} {ws : List Int} (now : Int) (hat : WAt w S wb F s) (hm : MemAt w mb rb ws) (hS : ¬ S mb ∧ ¬ S rb) (hF : FIn F ws.length) (h32 : W32 ws) (hd32 : W32 s.data) :
    Calls Tryz.prog 16 #[.pointer (some ⟨wb, 0, none⟩), .pointer (some ⟨mb, 0, none⟩), .int .i64 now] w (GivesW w mb rb wb F S (wstep F s ws now).1 (wstep F s ws now).2.1 (didOf (wstep F s ws now).2.2 (.slice none 0 0))) := by
  obtain ⟨nx, db, do_, dc, hat⟩ := hat
  have hl := hF.max
  have hs1 := hF.src
  have hs2 := hF.dst
  have hn1 := hF.n1
  have hn2 := hF.n2
  have hln := hat.len
  have hpi := hat.pi
  have hno := hat.no
  have hnx := hat.nxt
  by_cases z : s.no < 0
  · rw [wstep_over z]
    have hnil := hnx.z z
    have hc : w.cell? ⟨wb, 0, none⟩ = some .nilFunc := by rw [← hnil]; exact hat.blk.cell rfl
    refine (stepW_nil wb mb now w hc).mono ?_
    rintro e w' ⟨rfl, ho⟩
    exact ⟨S, rfl, WAt.only ⟨nx, db, do_, dc, hat⟩ ho (fun _ _ h => h), hm.only ho (fun h => h) (fun h => h), ho.mono fun _ _ h => h.elim, fun k h => .inl h⟩
  by_cases z0 : s.no = 0
  · have e0 := hnx.a0 z0
    subst e0
    rw [ws0 z0]

    refine wcase now hat hm hS 31 [.pointer (some ⟨wb, 0, none⟩)] [] _ _ _ (enters_of Tryz.func31 (by kernel_rfl) rfl) rfl ⟨rfl, by simp [Value.oneCell']⟩ (fun W hO hb hm' => ?_) rfl ?_ ?_
    · refine (w_pick_b mb rb wb ws _ (P8 F) _ s.pair s.index s.marked now W hb hm' hl hs2 (rd_nn h32 _)).mono ?_
      rintro e w1 ⟨rfl, hst⟩
      exact ⟨_, rfl, .inr ⟨_, _, _, rfl⟩, fun w2 S2 _ _ => nextOf_mv (by show 0 < s.data.length; omega) (.inr (.inl ⟨rfl, rfl⟩)), hst⟩
    · exact ⟨by show 1 - oddN _ ≤ 1; omega, hpi.2⟩
    · show (1 : Int) ≤ _; omega
  by_cases z1 : s.no = 1
  · have e0 := hnx.a1 z1
    subst e0
    rw [ws1 z1]

    refine wcase now hat hm hS 48 [.pointer (some ⟨wb, 0, none⟩)] [] _ _ _ (enters_of Tryz.func48 (by kernel_rfl) rfl) rfl ⟨rfl, by simp [Value.oneCell']⟩ (fun W hO hb hm' => ?_) rfl ?_ ?_
    · have hsl := P8_slot F hpi.1
      have q := w_index_b mb rb wb ws _ (P8 F) _ s.pair s.index s.marked now W hb hm' hl hpi.1 (by rw [hsl]; omega) (by rw [hsl]; exact rd_nn h32 _)
      rw [hsl] at q
      refine q.mono ?_
      rintro e w1 ⟨rfl, hst⟩
      exact ⟨_, rfl, .inr ⟨_, _, _, rfl⟩, fun w2 S2 _ _ => nextOf_mv (by show 0 < s.data.length; omega) (.inr (.inr (.inl ⟨rfl, rfl⟩))), hst⟩
    · exact ⟨hpi.1, by show 1 - oddN _ ≤ 1; omega⟩
    · show (2 : Int) ≤ _; omega
  have hbuf := P8_buf F hpi.1 hpi.2
  have hbin := hF.buf hpi.1 hpi.2
  by_cases z2 : s.no = 2
  · have e0 := hnx.a2 z2
    subst e0
    rw [ws2 z2]

    refine wcase now hat hm hS 63 [.pointer (some ⟨wb, 0, none⟩)] [] _ _ _ (enters_of Tryz.func63 (by kernel_rfl) rfl) rfl ⟨rfl, by simp [Value.oneCell']⟩ (fun W hO hb hm' => ?_) rfl ?_ ?_
    · have q := w_len_b mb rb wb ws _ (P8 F) (some ⟨db, do_, none⟩) s.data.length dc s.pair s.index s.marked now W hb hm' hl hpi.1 hpi.2 (by omega) (by rw [hbuf]; omega)
      rw [hbuf] at q
      refine q.mono ?_
      rintro e w1 ⟨rfl, hst⟩
      exact ⟨_, rfl, .inr ⟨_, _, _, rfl⟩, fun w2 S2 _ _ => nextOf_mv (by show 0 < s.data.length; omega) (.inr (.inr (.inr (.inl ⟨rfl, rfl⟩)))), hst⟩
    · exact hpi
    · show (3 : Int) ≤ _; omega
  by_cases z3 : s.no = 3
  · have e0 := hnx.a3 z3
    subst e0
    rw [ws3 z3]

    refine wcase now hat hm hS 73 [.pointer (some ⟨wb, 0, none⟩)] [] _ _ _ (enters_of Tryz.func73 (by kernel_rfl) rfl) rfl ⟨rfl, by simp [Value.oneCell']⟩ (fun W hO hb hm' => ?_) rfl ?_ ?_
    · have q := w_stamp_b mb rb wb ws _ (P8 F) (some ⟨db, do_, none⟩) s.data.length dc s.pair s.index s.marked now W hb hm' hl hpi.1 hpi.2 (by omega) (by omega) (by rw [hbuf]; omega)
      rw [hbuf] at q
      refine q.mono ?_
      rintro e w1 ⟨nx', rfl, hnw, hst⟩
      obtain ⟨bw, bi, rfl, b1, b2, b3, b4⟩ := hnw.1 (by omega)
      refine ⟨_, rfl, .inr ⟨_, _, _, rfl⟩, fun w2 S2 hk hs => ⟨fun x => by exact absurd (show (4 : Int) < 0 from x) (by omega), fun x => by exact absurd (show (4 : Int) = 0 from x) (by omega), fun x => by exact absurd (show (4 : Int) = 1 from x) (by omega), fun x => by exact absurd (show (4 : Int) = 2 from x) (by omega), fun x => by exact absurd (show (4 : Int) = 3 from x) (by omega), fun j x y => ?_, fun x => by have : (4 : Int) = 4 + (s.data.length : Int) := x; omega, fun x => by have : (4 : Int) = 5 + (s.data.length : Int) := x; omega⟩, hst⟩
      have hj : j = 0 := by have : (4 : Int) = 4 + (j : Int) := x; omega
      subst hj
      exact ⟨bw, bi, rfl, hs _ b1 (Array.getElem?_eq_some_iff.1 b3).1, hs _ b2 (Array.getElem?_eq_some_iff.1 b4).1, hk _ _ b1 b3, hk _ _ b2 b4⟩
    · exact hpi
    · show (4 : Int) ≤ _; omega
  by_cases z4 : s.no < 4 + (s.data.length : Int)
  · obtain ⟨j, hj⟩ : ∃ j : Nat, s.no = 4 + (j : Int) := ⟨(s.no - 4).toNat, by omega⟩
    have hjl : j < s.data.length := by omega
    obtain ⟨bw, bi, e0, s1, s2, h1, h2⟩ := hnx.a4 j hj hjl
    subst e0
    have hx : s.data[j]? = some (s.data.getD j 0) := by simp [List.getD_eq_getElem?_getD, hjl]
    have hrow := hat.row j _ hx
    rw [ws4 hj hjl]
    refine wcase now hat hm hS 83 [] [.pointer (some ⟨bw, 0, none⟩), .pointer (some ⟨bi, 0, none⟩)] _ _ _ (enters_of Tryz.func83 (by kernel_rfl) rfl) rfl ⟨rfl, by simp [Value.oneCell']⟩ (fun W hO hb hm' => ?_) rfl hpi (by show 5 + (j : Int) ≤ _; omega)
    have q := w_word1_b mb rb wb ws _ (P8 F) db do_ s.data.length dc s.pair s.index s.marked now W bw bi j (s.data.getD j 0) hb hm' hl hpi.1 hpi.2 (by omega) hjl (by rw [hbuf]; omega) (hO.at_ h1 (fun h => h)) (hO.at_ h2 (fun h => h)) (cell_of_blk hrow (hO.block db (hat.low _ hat.sd) (fun h => h))) (fun h => hS.2 (h ▸ hat.sd))
    rw [hbuf] at q
    refine q.mono ?_
    rintro e w1 ⟨nx', rfl, hnw, hst⟩
    by_cases hj1 : j + 1 < s.data.length
    · obtain ⟨bw', bi', rfl, b1, b2, b3, b4⟩ := hnw.1 hj1
      refine ⟨_, rfl, .inr ⟨_, _, _, rfl⟩, fun w2 S2 hk hs => ⟨fun x => by exact absurd (show 5 + (j : Int) < 0 from x) (by omega), fun x => by exact absurd (show 5 + (j : Int) = 0 from x) (by omega), fun x => by exact absurd (show 5 + (j : Int) = 1 from x) (by omega), fun x => by exact absurd (show 5 + (j : Int) = 2 from x) (by omega), fun x => by exact absurd (show 5 + (j : Int) = 3 from x) (by omega), fun i x y => ?_, fun x => by have : 5 + (j : Int) = 4 + (s.data.length : Int) := x; omega, fun x => by have : 5 + (j : Int) = 5 + (s.data.length : Int) := x; omega⟩, hst⟩
      have hi : i = j + 1 := by have : 5 + (j : Int) = 4 + (i : Int) := x; omega
      subst hi
      exact ⟨bw', bi', rfl, hs _ b1 (Array.getElem?_eq_some_iff.1 b3).1, hs _ b2 (Array.getElem?_eq_some_iff.1 b4).1, hk _ _ b1 b3, hk _ _ b2 b4⟩
    · have e1 := hnw.2 (by omega)
      subst e1
      exact ⟨_, rfl, .inr ⟨_, _, _, rfl⟩, fun w2 S2 _ _ => nextOf_mv (by show 0 < s.data.length; omega) (.inr (.inr (.inr (.inr (.inl ⟨by show 5 + (j : Int) = 4 + (s.data.length : Int); omega, rfl⟩))))), hst⟩
  by_cases z5 : s.no = 4 + (s.data.length : Int)
  · have e0 := hnx.a5 z5
    subst e0
    rw [ws5 z5]

    refine wcase now hat hm hS 82 [.pointer (some ⟨wb, 0, none⟩)] [] _ _ _ (enters_of Tryz.func82 (by kernel_rfl) rfl) rfl ⟨rfl, by simp [Value.oneCell']⟩ (fun W hO hb hm' => ?_) rfl ?_ ?_
    · have hsl := P8_slot F hpi.1
      have hne : (ws.set (F.src + 1 + s.pair) (s.index : Int)).getD F.src 0 = rd ws F.src := rd_ne (by omega)
      have q := w_slot_b mb rb wb ws _ (P8 F) _ s.pair s.index s.marked now W hb hm' hl hpi.1 hpi.2 (by rw [hsl]; omega) (by show F.src < _; omega) (by rw [hsl]; show 0 ≤ (ws.set (F.src + 1 + s.pair) (s.index : Int)).getD F.src 0; rw [hne]; exact rd_nn h32 _)
      rw [hsl, show (ws.set (F.src + 1 + s.pair) (s.index : Int)).getD (P8 F).la 0 = rd ws F.src from hne] at q
      refine q.mono ?_
      rintro e w1 ⟨rfl, hst⟩
      exact ⟨_, rfl, .inr ⟨_, _, _, rfl⟩, fun w2 S2 _ _ => nextOf_mv (by show 0 < s.data.length; omega) (.inr (.inr (.inr (.inr (.inr (.inl ⟨rfl, rfl⟩)))))), hst⟩
    · exact hpi
    · show 5 + (s.data.length : Int) ≤ _; omega
  · have z6 : s.no = 5 + (s.data.length : Int) := by omega
    have e0 := hnx.a6 z6
    subst e0
    rw [ws6 z6]

    refine wcase now hat hm hS 87 [.pointer (some ⟨wb, 0, none⟩)] [] _ _ _ (enters_of Tryz.func87 (by kernel_rfl) rfl) rfl ⟨rfl, by simp [Value.oneCell']⟩ (fun W hO hb hm' => ?_) rfl ?_ ?_
    · refine (w_pair_b mb rb wb ws _ (P8 F) _ s.pair s.index s.marked now W hb hm' hl hpi.1 (by show F.src < _; omega)).mono ?_
      rintro e w1 ⟨rfl, hst⟩
      exact ⟨_, rfl, .inl rfl, fun w2 S2 _ _ => nextOf_mv (by show 0 < s.data.length; omega) (.inr (.inr (.inr (.inr (.inr (.inr ⟨rfl, rfl⟩)))))), hst⟩
    · exact hpi
    · show (-1 : Int) ≤ _; omega
end Go.Proofs.YtocdidkfnbkkhaaGreat

namespace Go.Proofs.YtocdidkfnbkkhaaGreat
open Go.RowKit Go.Sort
set_option linter.unusedVariables false
set_option linter.unusedSimpArgs false
set_option linter.unusedVariables false
set_option linter.unusedSimpArgs false

open Go.Proofs.YtocdidkfnbkkhaaGreat.Simp
set_option maxRecDepth 100000
set_option maxHeartbeats 3200000
/-- Which function does the next step of a read; what was loaded, v. -/
structure RTail (w : World) (S : Nat → Prop) (wb : Nat) (F : Fr) (s : FS) (nx v : Value) : Prop where
  z : s.no < 0 → nx = .nilFunc
  a0 : s.no = 0 → nx = .func (.func 32) #[.pointer (some ⟨wb, 0, none⟩)] #[]
  a1 : s.no = 1 → nx = .func (.func 49) #[.pointer (some ⟨wb, 0, none⟩)] #[]
  a2 : s.no = 2 → nx = .func (.func 65) #[.pointer (some ⟨wb, 0, none⟩)] #[]
  a3 : s.no = 3 → nx = .func (.func 74) #[.pointer (some ⟨wb, 0, none⟩)] #[]
  a4 : s.no = 4 → nx = .func (.func 79) #[.pointer (some ⟨wb, 0, none⟩)] #[]
  a5 : 5 ≤ s.no → (∃ bl br, nx = .func (.func 88) #[] #[.pointer (some ⟨bl, 0, none⟩), .pointer (some ⟨br, 0, none⟩)] ∧ S bl ∧ S br ∧ w.heap[br]? = some (.cells #[.pointer (some ⟨wb, 0, none⟩)] 48 (0, 0)) ∧ w.heap[bl]? = some (.cells #[v] 30 (0, 0))) ∧ OwnsOff w 0 34 1 v (s.data).length (wcells (s.data)) ∧ (∀ g, v.ownBlock = some g → S g) ∧ s.no = 5 + (s.data.length : Int) ∧ (s.data.length : Int) < s.len ∧ s.len ≤ F.n
  d0 : 0 ≤ s.no → s.no ≤ 4 → s.data = []
  l4 : s.no = 4 → 1 ≤ s.len ∧ s.len ≤ F.n
  l3 : 0 ≤ s.no → s.no ≤ 3 → s.len = 0
theorem RTail.over {w w' : World} {S S' : Nat → Prop} {wb : Nat} {F : Fr} {s : FS} {nx v : Value} (h : RTail w S wb F s nx v) (hk : ∀ k o, S k → w.heap[k]? = some o → w'.heap[k]? = some o) (hs : ∀ k, S k → S' k) : RTail w' S' wb F s nx v := by
  refine ⟨h.z, h.a0, h.a1, h.a2, h.a3, h.a4, fun x => ?_, h.d0, h.l4, h.l3⟩
  obtain ⟨⟨bl, br, e, s1, s2, h1, h2⟩, ho, hv, r⟩ := h.a5 x
  refine ⟨⟨bl, br, e, hs _ s1, hs _ s2, hk _ _ s2 h1, hk _ _ s1 h2⟩, ⟨ho.1, ?_⟩, fun g hg => hs _ (hv g hg), r⟩
  rcases ho.2 with hn | ⟨g, off, cap, cur, rfl, hb, hg, rest⟩
  · exact .inl hn
  · exact .inr ⟨g, off, cap, cur, rfl, hb, hk _ _ (hv g rfl) hg, rest⟩
structure RAtX (w : World) (S : Nat → Prop) (wb : Nat) (F : Fr) (s : FS) (nx v : Value) : Prop where
  blk : RBlk w wb nx (P8 F) F.n F.per s.pair s.index s.len s.stamp
  sb : S wb
  low : ∀ k, S k → k < w.heap.size
  tail : RTail w S wb F s nx v
  pi : s.pair ≤ 1 ∧ s.index ≤ 1
  st : 0 ≤ s.stamp ∧ s.stamp ≤ 4294967295
/-- A read under way at block wb, of the blocks S; its state is s. -/
def RAt (w : World) (S : Nat → Prop) (wb : Nat) (F : Fr) (s : FS) : Prop := ∃ nx v, RAtX w S wb F s nx v
theorem RAt.only {w w' : World} {S T : Nat → Prop} {wb : Nat} {F : Fr} {s : FS} (h : RAt w S wb F s) (ho : Only T w w') (hT : ∀ k, S k → ¬ T k) : RAt w' S wb F s := by
  obtain ⟨nx, v, h⟩ := h
  exact ⟨nx, v, h.blk.only ho (hT _ h.sb), h.sb, fun k hk => Nat.lt_of_lt_of_le (h.low k hk) ho.size, h.tail.over (fun k o hk hw => ho.at_ hw (hT _ hk)) (fun _ h => h), h.pi, h.st⟩
/-- What Step of a read leaves; v: the words that it is answered with. -/
def GivesR (w : World) (mb rb wb : Nat) (F : Fr) (S : Nat → Prop) (s' : FS) (ws' : List Int) (d : Did) (e : Ending) (w' : World) : Prop :=
  ∃ S' v, e = .returned (.agg (didOf d v)) ∧ RAt w' S' wb F s' ∧ OwnsOff w' 0 34 1 v (d.data).length (wcells (d.data)) ∧ (∀ g, v.ownBlock = some g → S' g) ∧ MemAt w' mb rb ws' ∧ Only (fun k => S k ∨ k = rb) w w' ∧ ∀ k, S' k → S k ∨ w.heap.size ≤ k
theorem own_over {w w' : World} {v : Value} {n : Nat} {xs : List Value} (ho : OwnsOff w 0 34 1 v n xs) (hk : ∀ g, v.ownBlock = some g → ∀ o, w.heap[g]? = some o → w'.heap[g]? = some o) : OwnsOff w' 0 34 1 v n xs := by
  refine ⟨ho.1, ?_⟩
  rcases ho.2 with hn | ⟨g, off, cap, cur, rfl, hb, hg, rest⟩
  · exact .inl hn
  · exact .inr ⟨g, off, cap, cur, rfl, hb, hk _ rfl _ hg, rest⟩
theorem rcase {w : World} {mb rb wb : Nat} {F : Fr} {S : Nat → Prop} {s : FS} {nx0 v0 : Value} {ws : List Int} (now : Int) (hat : RAtX w S wb F s nx0 v0) (hm : MemAt w mb rb ws) (hS : ¬ S mb ∧ ¬ S rb)
    (g : Nat) (fs cs : List Value) (s' : FS) (ws' : List Int) (d : Did) (eg : ∀ args w, (callFunc g args).run Tryz.prog w = .ok (.enter g args) w) (hnx : nx0 = .func (.func g) fs.toArray cs.toArray)
    (hC : ∀ W, Only (fun _ => False) w W → RBlk W wb nx0 (P8 F) F.n F.per s.pair s.index s.len s.stamp → MemAt W mb rb ws → Calls Tryz.prog g (fs ++ (.pointer (some ⟨mb, 0, none⟩)) :: .int .i64 now :: cs).toArray W fun e w1 => ∃ nx v v', e = .returned (.tuple #[.agg (didOf d v), nx]) ∧ v.oneCell' = true ∧ IsFn nx
      ∧ OwnsOff w1 0 34 1 v (d.data).length (wcells (d.data)) ∧ (∀ g, v.ownBlock = some g → S g ∧ g ≠ wb ∨ W.heap.size ≤ g) ∧ RTail w1 (fun k => S k ∧ k ≠ wb ∨ W.heap.size ≤ k ∧ k < w1.heap.size) wb F s' nx v' ∧ RBlk w1 wb nx0 (P8 F) F.n F.per s'.pair s'.index s'.len s'.stamp ∧ MemAt w1 mb rb ws' ∧ Only (fun k => S k ∨ k = rb) W w1)
    (hp : s'.pair ≤ 1 ∧ s'.index ≤ 1) (hst : 0 ≤ s'.stamp ∧ s'.stamp ≤ 4294967295) : Calls Tryz.prog 18 #[.pointer (some ⟨wb, 0, none⟩), .pointer (some ⟨mb, 0, none⟩), .int .i64 now] w (GivesR w mb rb wb F S s' ws' d) := by
  have hwl := hat.blk.lt
  have hc : w.cell? ⟨wb, 0, none⟩ = some (.func (.func g) fs.toArray cs.toArray) := by rw [← hnx]; exact hat.blk.cell rfl
  have hN := hat.blk.ne_mem hm
  have hmw := hm.lt
  refine (stepR_b wb mb g fs cs now w (fun W D nx w1 => ∃ v v', D = didOf d v ∧ v.oneCell' = true ∧ IsFn nx ∧ OwnsOff w1 0 34 1 v (d.data).length (wcells (d.data)) ∧ (∀ g, v.ownBlock = some g → S g ∧ g ≠ wb ∨ W.heap.size ≤ g) ∧ RTail w1 (fun k => S k ∧ k ≠ wb ∨ W.heap.size ≤ k ∧ k < w1.heap.size) wb F s' nx v' ∧ RBlk w1 wb nx0 (P8 F) F.n F.per s'.pair s'.index s'.len s'.stamp ∧ MemAt w1 mb rb ws' ∧ Only (fun k => S k ∨ k = rb) W w1) eg hc
    (fun W hO => (hC W hO (hat.blk.only hO (fun h => h)) (hm.only hO (fun h => h) (fun h => h))).mono fun e w1 ⟨nx, v, v', h1, r⟩ => ⟨didOf d v, nx, h1, v, v', rfl, r⟩)
    (fun W D nx w1 hO ⟨v, v', h1, h1c, h2, h3, h4, h5, h6, h7, h8⟩ => by
      subst h1
      refine ⟨rfl, ?_, h2, ⟨_, h6.cell (j := 0) rfl⟩, h6.frozen 0, fun k hk hge => h8.block k hk (fun h => h.elim (fun h => by have := hat.low k h; omega) (fun h => by omega)), h8.size⟩
      unfold Value.oneCell' at h1c
      simp [h1c, Value.oneCell'])).mono ?_
  rintro e w' ⟨W, D, nx, w1, rfl, hO, ⟨v, v', rfl, h1c, hf, hv, hvS, hn, hblk1, hm1, ho8⟩, hT, hb⟩
  have hs1 := hO.size
  have hs2 := ho8.size
  have hs3 := hT.size
  have hTk : ∀ k o, (S k ∧ k ≠ wb ∨ W.heap.size ≤ k) → w1.heap[k]? = some o → w'.heap[k]? = some o := fun k o hk ho => hT.at_ ho (fun h => h.elim (fun h => hk.elim (fun x => x.2 h) (fun x => by omega)) (fun h => hk.elim (fun x => by have := hat.low k x.1; omega) (fun x => by omega)))
  refine ⟨fun k => S k ∨ (w.heap.size ≤ k ∧ k < w'.heap.size), v, rfl, ⟨nx, v', hb.trans (hblk1.setNext nx), Or.inl hat.sb, fun k hk => hk.elim (fun h => by have := hat.low k h; omega) (fun h => h.2), hn.over (fun k o hk ho => hTk k o (hk.imp id (fun h => h.1)) ho) (fun k hk => hk.elim (fun h => .inl h.1) (fun h => .inr ⟨by omega, by omega⟩)), hp, hst⟩,
    own_over hv (fun g hg o ho => hTk g o (hvS g hg) ho), fun g hg => (hvS g hg).elim (fun h => .inl h.1) (fun h => .inr ⟨by omega, by have := (hv.lt g hg).2; omega⟩), ?_, ?_, fun k hk => hk.imp id (fun h => h.1)⟩
  · exact hm1.only hT (fun h => h.elim hN.1 (fun h => by omega)) (fun h => h.elim hN.2 (fun h => by omega))
  · exact (((hO.mono (T := New w.heap.size fun k => S k ∨ k = rb) fun _ _ h => h.elim).trans (ho8.mono fun k _ h => .inr h)).trans (hT.mono fun k _ h => h.elim (fun e => .inr (.inl (by rw [e]; exact hat.sb))) (fun h => .inl h.1))).old
end Go.Proofs.YtocdidkfnbkkhaaGreat

namespace Go.Proofs.YtocdidkfnbkkhaaGreat
open Go.RowKit Go.Sort
set_option linter.unusedVariables false
set_option linter.unusedSimpArgs false
set_option linter.unusedVariables false
set_option linter.unusedSimpArgs false

open Go.Proofs.YtocdidkfnbkkhaaGreat.Simp
set_option maxRecDepth 100000
set_option maxHeartbeats 3200000
theorem rtail_mv {w : World} {S : Nat → Prop} {wb : Nat} {F : Fr} {s : FS} {nx v : Value} (h : (s.no = 0 ∧ nx = .func (.func 32) #[.pointer (some ⟨wb, 0, none⟩)] #[] ∧ s.data = [] ∧ s.len = 0) ∨ (s.no = 1 ∧ nx = .func (.func 49) #[.pointer (some ⟨wb, 0, none⟩)] #[] ∧ s.data = [] ∧ s.len = 0) ∨ (s.no = 2 ∧ nx = .func (.func 65) #[.pointer (some ⟨wb, 0, none⟩)] #[] ∧ s.data = [] ∧ s.len = 0) ∨ (s.no = 3 ∧ nx = .func (.func 74) #[.pointer (some ⟨wb, 0, none⟩)] #[] ∧ s.data = [] ∧ s.len = 0)
    ∨ (s.no = 4 ∧ nx = .func (.func 79) #[.pointer (some ⟨wb, 0, none⟩)] #[] ∧ s.data = [] ∧ 1 ≤ s.len ∧ s.len ≤ F.n) ∨ (s.no = -1 ∧ nx = .nilFunc)) : RTail w S wb F s nx v := by
  rcases h with ⟨h, e, d, l⟩ | ⟨h, e, d, l⟩ | ⟨h, e, d, l⟩ | ⟨h, e, d, l⟩ | ⟨h, e, d, l⟩ | ⟨h, e⟩
  all_goals exact ⟨fun x => by first | exact e | omega, fun x => by first | exact e | omega, fun x => by first | exact e | omega, fun x => by first | exact e | omega, fun x => by first | exact e | omega, fun x => by first | exact e | omega, fun x => by omega, fun x y => by first | exact d | omega, fun x => by first | exact l | omega, fun x y => by first | exact l | omega⟩
theorem rstep_b {w : World} {mb rb wb : Nat} {F : Fr} {S : Nat → Prop} {s : FS} {ws : List Int} (now : Int) (hat : RAt w S wb F s) (hm : MemAt w mb rb ws) (hS : ¬ S mb ∧ ¬ S rb) (hF : FIn F ws.length) (h32 : W32 ws) (hnow : 0 ≤ now ∧ now ≤ 1000000000000) :
    Calls Tryz.prog 18 #[.pointer (some ⟨wb, 0, none⟩), .pointer (some ⟨mb, 0, none⟩), .int .i64 now] w (GivesR w mb rb wb F S (rstep F s ws now).1 (rstep F s ws now).2.1 (rstep F s ws now).2.2) := by
  obtain ⟨nx, v, hat⟩ := hat
  have hl := hF.max
  have hs1 := hF.src
  have hs2 := hF.dst
  have hn1 := hF.n1
  have hn2 := hF.n2
  have hpi := hat.pi
  have hst0 := hat.st
  have hnx := hat.tail
  by_cases z : s.no < 0
  · rw [rstep_over z]
    have hnil := hnx.z z
    have hc : w.cell? ⟨wb, 0, none⟩ = some .nilFunc := by rw [← hnil]; exact hat.blk.cell rfl
    refine (stepR_nil wb mb now w hc).mono ?_
    rintro e w' ⟨rfl, ho⟩
    exact ⟨S, .slice none 0 0, rfl, RAt.only ⟨nx, v, hat⟩ ho (fun _ _ h => h), OwnsOff.nil .., (fun g hg => by cases hg), hm.only ho (fun h => h) (fun h => h), ho.mono fun _ _ h => h.elim, fun k h => .inl h⟩
  by_cases z0 : s.no = 0
  · have e0 := hnx.a0 z0
    have d0 := hnx.d0 (by omega) (by omega)
    have l0 := hnx.l3 (by omega) (by omega)
    subst e0
    rw [rs0 z0]

    refine rcase now hat hm hS 32 [.pointer (some ⟨wb, 0, none⟩)] [] _ _ _ (enters_of Tryz.func32 (by kernel_rfl) rfl) rfl (fun W hO hb hm' => ?_) ?_ ?_
    · refine (r_latest_b mb rb wb ws _ (P8 F) _ _ s.pair s.index s.len s.stamp now W hb hm' hl (by show F.src < _; omega) (rd_nn h32 _)).mono ?_
      rintro e w1 ⟨rfl, hst⟩
      exact ⟨_, .slice none 0 0, .slice none 0 0, rfl, rfl, .inr ⟨_, _, _, rfl⟩, OwnsOff.nil .., (fun g hg => by cases hg), rtail_mv (.inr (.inl ⟨rfl, rfl, d0, l0⟩)), hst.blk, hst.mem, hst.only.mono (fun k _ h => h.elim (fun e => .inl (e ▸ hat.sb)) .inr)⟩
    · exact ⟨oddN_le _, hpi.2⟩
    · exact hst0
  by_cases z1 : s.no = 1
  · have e0 := hnx.a1 z1
    have d0 := hnx.d0 (by omega) (by omega)
    have l0 := hnx.l3 (by omega) (by omega)
    subst e0
    rw [rs1 z1]

    refine rcase now hat hm hS 49 [.pointer (some ⟨wb, 0, none⟩)] [] _ _ _ (enters_of Tryz.func49 (by kernel_rfl) rfl) rfl (fun W hO hb hm' => ?_) ?_ ?_
    · refine (r_reading_b mb rb wb ws _ (P8 F) _ _ s.pair s.index s.len s.stamp now W hb hm' hl hpi.1 hs2).mono ?_
      rintro e w1 ⟨rfl, hst⟩
      exact ⟨_, .slice none 0 0, .slice none 0 0, rfl, rfl, .inr ⟨_, _, _, rfl⟩, OwnsOff.nil .., (fun g hg => by cases hg), rtail_mv (.inr (.inr (.inl ⟨rfl, rfl, d0, l0⟩))), hst.blk, hst.mem, hst.only.mono (fun k _ h => h.elim (fun e => .inl (e ▸ hat.sb)) .inr)⟩
    · exact hpi
    · exact hst0
  by_cases z2 : s.no = 2
  · have e0 := hnx.a2 z2
    have d0 := hnx.d0 (by omega) (by omega)
    have l0 := hnx.l3 (by omega) (by omega)
    subst e0
    rw [rs2 z2]

    refine rcase now hat hm hS 65 [.pointer (some ⟨wb, 0, none⟩)] [] _ _ _ (enters_of Tryz.func65 (by kernel_rfl) rfl) rfl (fun W hO hb hm' => ?_) ?_ ?_
    · have hsl := P8_slot F hpi.1
      have q := r_slot_b mb rb wb ws _ (P8 F) _ _ s.pair s.index s.len s.stamp now W hb hm' hl hpi.1 (by rw [hsl]; omega) (by rw [hsl]; exact rd_nn h32 _)
      rw [hsl] at q
      refine q.mono ?_
      rintro e w1 ⟨rfl, hst⟩
      exact ⟨_, .slice none 0 0, .slice none 0 0, rfl, rfl, .inr ⟨_, _, _, rfl⟩, OwnsOff.nil .., (fun g hg => by cases hg), rtail_mv (.inr (.inr (.inr (.inl ⟨rfl, rfl, d0, l0⟩)))), hst.blk, hst.mem, hst.only.mono (fun k _ h => h.elim (fun e => .inl (e ▸ hat.sb)) .inr)⟩
    · exact ⟨hpi.1, oddN_le _⟩
    · exact hst0
  have hbuf := P8_buf F hpi.1 hpi.2
  have hbin := hF.buf hpi.1 hpi.2
  by_cases z3 : s.no = 3
  · have e0 := hnx.a3 z3
    have d0 := hnx.d0 (by omega) (by omega)
    have l0 := hnx.l3 (by omega) (by omega)
    subst e0
    have hx := h32 (bufA F s.pair s.index)
    by_cases hz : rd ws (bufA F s.pair s.index) = 0
    · have hlz : lenOf F (rd ws (bufOf F s)) = 0 := by unfold bufOf lenOf; rw [hz, if_pos (by omega)]
      rw [rs3z z3 hlz]

      refine rcase now hat hm hS 74 [.pointer (some ⟨wb, 0, none⟩)] [] _ _ _ (enters_of Tryz.func74 (by kernel_rfl) rfl) rfl (fun W hO hb hm' => ?_) ?_ ?_
      · have q := r_lenz_b mb rb wb ws _ (P8 F) _ _ s.pair s.index s.len s.stamp now W hb hm' hl hpi.1 hpi.2 (by rw [hbuf]; omega) (by rw [hbuf]; exact hz)
        refine q.mono ?_
        rintro e w1 ⟨rfl, hst⟩
        rw [l0] at hst
        exact ⟨_, .slice none 0 0, .slice none 0 0, rfl, rfl, .inl rfl, OwnsOff.nil .., (fun g hg => by cases hg), rtail_mv (.inr (.inr (.inr (.inr (.inr ⟨rfl, rfl⟩))))), hst.blk, hst.mem, hst.only.mono (fun k _ h => h.elim (fun e => .inl (e ▸ hat.sb)) .inr)⟩
      · exact hpi
      · exact hst0
    · have hlz : lenOf F (rd ws (bufOf F s)) ≠ 0 := by unfold bufOf lenOf; split <;> omega
      rw [rs3 z3 hlz]

      refine rcase now hat hm hS 74 [.pointer (some ⟨wb, 0, none⟩)] [] _ _ _ (enters_of Tryz.func74 (by kernel_rfl) rfl) rfl (fun W hO hb hm' => ?_) ?_ ?_
      · have q := r_len_b mb rb wb ws _ (P8 F) _ _ s.pair s.index s.len s.stamp now W (rd ws (bufA F s.pair s.index)) hb hm' hl hpi.1 hpi.2 (by rw [hbuf]; omega) (by rw [hbuf]; rfl) (by omega) (by omega)
        refine q.mono ?_
        have hle : 1 ≤ lenOf F (rd ws (bufOf F s)) ∧ lenOf F (rd ws (bufOf F s)) ≤ F.n := by unfold bufOf lenOf; split <;> omega
        rintro e w1 ⟨rfl, hst⟩
        exact ⟨_, .slice none 0 0, .slice none 0 0, rfl, rfl, .inr ⟨_, _, _, rfl⟩, OwnsOff.nil .., (fun g hg => by cases hg), rtail_mv (.inr (.inr (.inr (.inr (.inl ⟨rfl, rfl, d0, hle⟩))))), hst.blk, hst.mem, hst.only.mono (fun k _ h => h.elim (fun e => .inl (e ▸ hat.sb)) .inr)⟩
      · exact hpi
      · exact hst0
  by_cases z4 : s.no = 4
  · have e0 := hnx.a4 z4
    have d0 := hnx.d0 (by omega) (by omega)
    have l4 := hnx.l4 z4
    subst e0
    have hx := h32 (bufOf F s + 1)
    rw [rs4 z4]

    refine rcase now hat hm hS 79 [.pointer (some ⟨wb, 0, none⟩)] [] _ _ _ (enters_of Tryz.func79 (by kernel_rfl) rfl) rfl (fun W hO hb hm' => ?_) ?_ ?_
    · have q := r_stamp_b mb rb wb ws _ (P8 F) _ _ s.pair s.index s.len s.stamp now W (rd ws (bufOf F s + 1)) hb hm' hl hpi.1 hpi.2 (by rw [hbuf]; omega) (by rw [hbuf]; rfl)
      refine q.mono ?_
      rintro e w1 ⟨nx', rfl, hn, hst⟩
      obtain ⟨bl, br, rfl, b1, b2, b3, b4⟩ := hn
      refine ⟨_, .slice none 0 0, .slice none 0 0, rfl, rfl, .inr ⟨_, _, _, rfl⟩, OwnsOff.nil .., (fun g hg => by cases hg), ⟨fun x => by exact absurd (show (5 : Int) < 0 from x) (by omega), fun x => by exact absurd (show (5 : Int) = 0 from x) (by omega), fun x => by exact absurd (show (5 : Int) = 1 from x) (by omega), fun x => by exact absurd (show (5 : Int) = 2 from x) (by omega), fun x => by exact absurd (show (5 : Int) = 3 from x) (by omega), fun x => by exact absurd (show (5 : Int) = 4 from x) (by omega), fun _ => ⟨⟨bl, br, rfl, .inr ⟨b1, (Array.getElem?_eq_some_iff.1 b4).1⟩, .inr ⟨b2, (Array.getElem?_eq_some_iff.1 b3).1⟩, b3, b4⟩, ?_, (fun g hg => by cases hg), ?_, ?_, ?_⟩, fun _ x => by exact absurd (show (5 : Int) ≤ 4 from x) (by omega), fun x => by exact absurd (show (5 : Int) = 4 from x) (by omega), fun _ x => by exact absurd (show (5 : Int) ≤ 3 from x) (by omega)⟩, hst.blk, hst.mem, hst.only.mono (fun k _ h => h.elim (fun e => .inl (e ▸ hat.sb)) .inr)⟩
      · show OwnsOff w1 0 34 1 (.slice none 0 0) s.data.length (wcells s.data)
        rw [d0]; exact OwnsOff.nil ..
      · show (5 : Int) = 5 + (s.data.length : Int)
        rw [d0]; rfl
      · show (s.data.length : Int) < s.len
        rw [d0]; show (0 : Int) < s.len; omega
      · exact l4.2
    · exact hpi
    · exact hx
  · obtain ⟨⟨bl, br, e0, s1, s2, h1, h2⟩, hown, hvS, hno, hlt, hle⟩ := hnx.a5 (by omega)
    subst e0
    obtain ⟨a, c, rfl, _⟩ := hown.slice
    have hxx := h32 (bufOf F s + 2 + s.data.length)
    have hvr : Value.ownBlock (.slice a s.data.length c) ≠ some rb := fun h => hS.2 (hvS _ h)
    have hvw : ∀ g, Value.ownBlock (.slice a s.data.length c) = some g → g ≠ wb := fun g hg e => by
      subst e
      obtain ⟨cs, hc⟩ := hown.typed _ hg
      have := hc.symm.trans hat.blk
      simp at this
    have hval : ∀ (W w1 : World) (v' : Value), (∀ g, v'.ownBlock = some g → Value.ownBlock (.slice a s.data.length c) = some g ∨ W.heap.size ≤ g) → ∀ g, v'.ownBlock = some g → S g ∧ g ≠ wb ∨ W.heap.size ≤ g := fun W w1 v' h g hg => (h g hg).imp (fun h => ⟨hvS _ h, hvw _ h⟩) id
    by_cases hmore : (s.data.length : Int) + 1 < s.len
    · rw [rs5 (k := s.data.length) hno (by omega)]
      refine rcase now hat hm hS 88 [] [.pointer (some ⟨bl, 0, none⟩), .pointer (some ⟨br, 0, none⟩)] _ _ _ (enters_of Tryz.func88 (by kernel_rfl) rfl) rfl (fun W hO hb hm' => ?_) hpi hst0
      have q := r_word1_b mb rb wb ws _ (P8 F) _ _ s.pair s.index s.len s.stamp now W a c s.data bl br (rd ws (bufOf F s + 2 + s.data.length)) true hb hm' hl hpi.1 hpi.2 (by rw [hbuf]; omega) (by rw [hbuf]; rfl) (hO.at_ h1 (fun h => h)) (hO.at_ h2 (fun h => h)) (hown.kept hO (fun _ _ h => h)) hvr (decide_eq_true hmore) hst0 hnow
      refine q.mono ?_
      rintro e w1 ⟨v', nx', rfl, hn, -, hst⟩
      obtain ⟨bl', br', rfl, b1, b2, b3, b4⟩ := hn rfl
      refine ⟨_, .slice none 0 0, v', rfl, rfl, .inr ⟨_, _, _, rfl⟩, OwnsOff.nil .., (fun g hg => by cases hg), ⟨fun x => by exact absurd (show 6 + (s.data.length : Int) < 0 from x) (by omega), fun x => by exact absurd (show 6 + (s.data.length : Int) = 0 from x) (by omega), fun x => by exact absurd (show 6 + (s.data.length : Int) = 1 from x) (by omega), fun x => by exact absurd (show 6 + (s.data.length : Int) = 2 from x) (by omega), fun x => by exact absurd (show 6 + (s.data.length : Int) = 3 from x) (by omega), fun x => by exact absurd (show 6 + (s.data.length : Int) = 4 from x) (by omega), fun _ => ⟨⟨bl', br', rfl, .inr ⟨b1, (Array.getElem?_eq_some_iff.1 b4).1⟩, .inr ⟨b2, (Array.getElem?_eq_some_iff.1 b3).1⟩, b3, b4⟩, hst.own, fun g hg => (hval W w1 v' hst.new g hg).imp id (fun h => ⟨h, (hst.own.lt g hg).2⟩), ?_, ?_, hle⟩, fun _ x => by exact absurd (show 6 + (s.data.length : Int) ≤ 4 from x) (by omega), fun x => by exact absurd (show 6 + (s.data.length : Int) = 4 from x) (by omega), fun _ x => by exact absurd (show 6 + (s.data.length : Int) ≤ 3 from x) (by omega)⟩, hst.blk, hst.mem, hst.only.mono (fun k _ h => .inl (hvS _ h.symm))⟩
      · show 6 + (s.data.length : Int) = 5 + ((s.data ++ [rd ws (bufOf F s + 2 + s.data.length)]).length : Int)
        rw [List.length_append]; simp; omega
      · show ((s.data ++ [rd ws (bufOf F s + 2 + s.data.length)]).length : Int) < s.len
        rw [List.length_append]; simp; omega
    · rw [rs6 (k := s.data.length) hno (by omega)]
      refine rcase now hat hm hS 88 [] [.pointer (some ⟨bl, 0, none⟩), .pointer (some ⟨br, 0, none⟩)] _ _ _ (enters_of Tryz.func88 (by kernel_rfl) rfl) rfl (fun W hO hb hm' => ?_) hpi hst0
      have q := r_word1_b mb rb wb ws _ (P8 F) _ _ s.pair s.index s.len s.stamp now W a c s.data bl br (rd ws (bufOf F s + 2 + s.data.length)) false hb hm' hl hpi.1 hpi.2 (by rw [hbuf]; omega) (by rw [hbuf]; rfl) (hO.at_ h1 (fun h => h)) (hO.at_ h2 (fun h => h)) (hown.kept hO (fun _ _ h => h)) hvr (decide_eq_false hmore) hst0 hnow
      refine q.mono ?_
      rintro e w1 ⟨v', nx', rfl, -, hn, hst⟩
      obtain rfl := hn rfl
      obtain ⟨a', c', hv', _⟩ := hst.own.slice
      exact ⟨_, v', .slice none 0 0, rfl, by rw [hv']; rfl, .inl rfl, hst.own, hval W w1 v' hst.new, rtail_mv (.inr (.inr (.inr (.inr (.inr ⟨rfl, rfl⟩))))), hst.blk, hst.mem, hst.only.mono (fun k _ h => .inl (hvS _ h.symm))⟩
end Go.Proofs.YtocdidkfnbkkhaaGreat
