/- The program's Of, as a contract. No condition but those in the statements. -/
import Derived.Test.YtjhfkpimejaboaaHRo
import Derived.BigQuiet
import Derived.IntWalk
import Derived.BigRegion
import Derived.OpenShut
import Derived.Deep.MidRow
import Derived.OwnWalk
import Derived.Deep.RegionHeld3
import Derived.Laws.EntriesVeiled
namespace Go.Proofs.Ytjhfkpimejaboaa
open Go.RowKit Go.Sort Go.ChangeShapes Go.WideShapes
set_option linter.unusedVariables false
set_option linter.unusedSimpArgs false


/-- A call told of place z of the list: the same one, its lists elsewhere. -/
def LikeX (l : List CV) (z : Int) (u : CV) : Prop := ∃ (j : Nat) (v : CV) (A1 : Option Addr) (c1 : Nat) (A2 : Option Addr) (c2 : Nat), z = (j : Int) ∧ l[j]? = some v ∧ u = v.at_ A1 c1 A2 c2
def Likes (l : List CV) (xs : List Int) (ys : List CV) : Prop := xs.length = ys.length ∧ ∀ (k : Nat) (z : Int) (u : CV), xs[k]? = some z → ys[k]? = some u → LikeX l z u
theorem Likes.nil (l : List CV) : Likes l [] [] := ⟨rfl, fun k z u h => by simp at h⟩
theorem Likes.snoc {l : List CV} {xs : List Int} {ys : List CV} (h : Likes l xs ys) {z : Int} {u : CV} (hx : LikeX l z u) : Likes l (xs ++ [z]) (ys ++ [u]) := by
  refine ⟨by simp [h.1], fun k z' u' h1 h2 => ?_⟩
  by_cases hk : k < xs.length
  · rw [List.getElem?_append_left hk] at h1
    rw [List.getElem?_append_left (by rw [← h.1]; exact hk)] at h2
    exact h.2 k z' u' h1 h2
  · rw [List.getElem?_append_right (by omega)] at h1
    rw [List.getElem?_append_right (by have := h.1; omega), ← h.1] at h2
    obtain ⟨q, hq⟩ : ∃ q, k - xs.length = q := ⟨_, rfl⟩
    rw [hq] at h1 h2
    match q, h1, h2 with
    | 0, h1, h2 => injection h1 with h1; injection h2 with h2; subst h1 h2; exact hx
    | q + 1, h1, h2 => simp at h1
/-- Where a call's lists lie: from block B on, and in neither of two blocks. -/
def AwayU (B : Nat) (u : CV) (v1 v2 : Value) : Prop := (0 < u.rd.length → ∀ a, u.ra = some a → B ≤ a.block ∧ v1.ownBlock ≠ some a.block ∧ v2.ownBlock ≠ some a.block) ∧ (0 < u.ad.length → ∀ a, u.aa = some a → B ≤ a.block ∧ v1.ownBlock ≠ some a.block ∧ v2.ownBlock ≠ some a.block)
theorem rowK_only {K : IntKind} {w w' : World} {A : Option Addr} {l : List Int} {S : Nat → Prop} (h : IntRowK K w w.heap.size A l) (ho : Only S w w') (hn : 0 < l.length → ∀ a, A = some a → ¬ S a.block) : IntRowK K w' w'.heap.size A l := fun hp => by
  obtain ⟨b, o, hA, hlt, hc⟩ := h hp
  have hs := hn hp _ hA
  refine ⟨b, o, hA, Nat.lt_of_lt_of_le hlt ho.size, fun i hi => ?_⟩
  rw [← hc i hi]
  simp [World.cell?, ho.block b hlt hs]
theorem CRows.only {w w' : World} {u : CV} {S : Nat → Prop} (h : CRows w w.heap.size u) (ho : Only S w w') (h1 : 0 < u.rd.length → ∀ a, u.ra = some a → ¬ S a.block) (h2 : 0 < u.ad.length → ∀ a, u.aa = some a → ¬ S a.block) : CRows w' w'.heap.size u := ⟨rowK_only h.rr ho h1, h.rl, rowK_only h.ar ho h2, h.al⟩
theorem row_lt {K : IntKind} {w : World} {A : Option Addr} {l : List Int} (h : IntRowK K w w.heap.size A l) (hp : 0 < l.length) : ∀ a, A = some a → a.block < w.heap.size := fun a ha => by
  obtain ⟨b, o, hA, hlt, _⟩ := h hp
  rw [hA] at ha; cases ha; exact hlt
/-- Of under way: two boxes, a row of places and a row of calls. -/
structure OfSt (V : World) (B pb ob : Nat) (bp bo v1 v2 : Value) (xs : List Int) (ys : List CV) : Prop where
  p : V.heap[pb]? = some (.cells #[bp] 37 (0, 0))
  o : V.heap[ob]? = some (.cells #[bo] 22 (0, 0))
  r1 : OwnsOff V B 3 1 v1 xs.length (icells xs)
  r2 : OwnsOff V B 34 20 v2 ys.length (ccells ys)
  rows : ∀ u ∈ ys, CRows V V.heap.size u
  away : ∀ u ∈ ys, AwayU B u v1 v2
  lt : pb < B ∧ ob < B ∧ pb ≠ ob ∧ B ≤ V.heap.size
theorem OfSt.later {V V' : World} {B pb ob : Nat} {bp bo v1 v2 : Value} {xs : List Int} {ys : List CV} (h : OfSt V B pb ob bp bo v1 v2 xs ys) (hb : Below V.heap.size V V') : OfSt V' B pb ob bp bo v1 v2 xs ys :=
  ⟨(hb.block _ (by have := h.lt; omega)).trans h.p, (hb.block _ (by have := h.lt; omega)).trans h.o, h.r1.keptB hb, h.r2.keptB hb, fun u hu => ((h.rows u hu).below hb).more hb.size, h.away, h.lt.1, h.lt.2.1, h.lt.2.2.1, Nat.le_trans h.lt.2.2.2 hb.size⟩
theorem own_ne {V : World} {B : Nat} {v1 v2 : Value} {n m s1 s2 : Nat} {a b : List Value} (h1 : OwnsOff V B 3 s1 v1 n a) (h2 : OwnsOff V B 34 s2 v2 m b) : ∀ k, v1.ownBlock = some k → v2.ownBlock ≠ some k := fun k e1 e2 => by
  obtain ⟨c1, q1⟩ := h1.typed k e1
  obtain ⟨c2, q2⟩ := h2.typed k e2
  rw [q1] at q2
  injection q2 with q2
  injection q2 with _ q2
  exact absurd q2 (by decide)
theorem AwayU.turn1 {V : World} {B : Nat} {u : CV} {v1 v2 v1' : Value} (h : AwayU B u v1 v2) (hr : CRows V V.heap.size u) (hf : ∀ g, v1'.ownBlock = some g → v1.ownBlock = some g ∨ V.heap.size ≤ g) : AwayU B u v1' v2 :=
  ⟨fun hp a ha => ⟨(h.1 hp a ha).1, fun e => by rcases hf _ e with q | q; exact (h.1 hp a ha).2.1 q; have := row_lt hr.rr hp a ha; omega, (h.1 hp a ha).2.2⟩,
   fun hp a ha => ⟨(h.2 hp a ha).1, fun e => by rcases hf _ e with q | q; exact (h.2 hp a ha).2.1 q; have := row_lt hr.ar hp a ha; omega, (h.2 hp a ha).2.2⟩⟩
theorem AwayU.turn2 {V : World} {B : Nat} {u : CV} {v1 v2 v2' : Value} (h : AwayU B u v1 v2) (hr : CRows V V.heap.size u) (hf : ∀ g, v2'.ownBlock = some g → v2.ownBlock = some g ∨ V.heap.size ≤ g) : AwayU B u v1 v2' :=
  ⟨fun hp a ha => ⟨(h.1 hp a ha).1, (h.1 hp a ha).2.1, fun e => by rcases hf _ e with q | q; exact (h.1 hp a ha).2.2 q; have := row_lt hr.rr hp a ha; omega⟩,
   fun hp a ha => ⟨(h.2 hp a ha).1, (h.2 hp a ha).2.1, fun e => by rcases hf _ e with q | q; exact (h.2 hp a ha).2.2 q; have := row_lt hr.ar hp a ha; omega⟩⟩
theorem OfSt.app1 {V V' : World} {B pb ob : Nat} {bp bo v1 v2 v1' : Value} {xs : List Int} {ys : List CV} (h : OfSt V B pb ob bp bo v1 v2 xs ys) {z : Int} (hown : OwnsOff V' B 3 1 v1' (xs.length + 1) (icells xs ++ [.int .i64 z])) (hg : V.grownBy V' v1.ownBlock)
    (hf : ∀ g, v1'.ownBlock = some g → v1.ownBlock = some g ∨ V.heap.size ≤ g) : OfSt V' B pb ob bp bo v1' v2 (xs ++ [z]) ys := by
  have ho := Only.of_grown hg
  have hlt := h.r1.lt
  refine ⟨(ho.block _ (by have := h.lt; omega) (fun e => by have := hlt _ e.symm; have := h.lt; omega)).trans h.p, (ho.block _ (by have := h.lt; omega) (fun e => by have := hlt _ e.symm; have := h.lt; omega)).trans h.o, by rw [List.length_append, icells_app]; exact hown, h.r2.kept ho (fun k hk e => own_ne h.r1 h.r2 k e.symm hk), fun u hu => (h.rows u hu).only ho (fun hp a ha e => ((h.away u hu).1 hp a ha).2.1 e.symm) (fun hp a ha e => ((h.away u hu).2 hp a ha).2.1 e.symm), fun u hu => (h.away u hu).turn1 (h.rows u hu) hf, h.lt.1, h.lt.2.1, h.lt.2.2.1, Nat.le_trans h.lt.2.2.2 hg.size⟩
theorem OfSt.app2 {V V' : World} {B pb ob : Nat} {bp bo v1 v2 v2' : Value} {xs : List Int} {ys : List CV} (h : OfSt V B pb ob bp bo v1 v2 xs ys) {u : CV} (hown : OwnsOff V' B 34 20 v2' (ys.length + 1) (ccells ys ++ cCells u)) (hg : V.grownBy V' v2.ownBlock)
    (hf : ∀ g, v2'.ownBlock = some g → v2.ownBlock = some g ∨ V.heap.size ≤ g) (hu : CRows V V.heap.size u) (ha : AwayU B u v1 v2) : OfSt V' B pb ob bp bo v1 v2' xs (ys ++ [u]) := by
  have ho := Only.of_grown hg
  have hlt := h.r2.lt
  have one : ∀ q : CV, CRows V V.heap.size q → AwayU B q v1 v2 → CRows V' V'.heap.size q ∧ AwayU B q v1 v2' := fun q hq hw => ⟨hq.only ho (fun hp a ha e => (hw.1 hp a ha).2.2 e.symm) (fun hp a ha e => (hw.2 hp a ha).2.2 e.symm), hw.turn2 hq hf⟩
  refine ⟨(ho.block _ (by have := h.lt; omega) (fun e => by have := hlt _ e.symm; have := h.lt; omega)).trans h.p, (ho.block _ (by have := h.lt; omega) (fun e => by have := hlt _ e.symm; have := h.lt; omega)).trans h.o, h.r1.kept ho (fun k hk e => own_ne h.r1 h.r2 k hk e.symm), by rw [List.length_append, ccells_app, ccells_one]; exact hown, fun q hq => ?_, fun q hq => ?_, h.lt.1, h.lt.2.1, h.lt.2.2.1, Nat.le_trans h.lt.2.2.2 hg.size⟩
  · rcases List.mem_append.1 hq with hq | hq
    · exact (one q (h.rows q hq) (h.away q hq)).1
    · rw [List.mem_singleton.1 hq]; exact (one u hu ha).1
  · rcases List.mem_append.1 hq with hq | hq
    · exact (one q (h.rows q hq) (h.away q hq)).2
    · rw [List.mem_singleton.1 hq]; exact (one u hu ha).2
theorem box_set17 {V : World} {b : Nat} {x y : Value} {t : TypeId} (h : V.heap[b]? = some (.cells #[x] t (0, 0))) : (V.setCell ⟨b, 0, none⟩ y).heap[b]? = some (.cells #[y] t (0, 0)) := by simp [World.setCell, Array.getElem?_modify, h]
theorem OfSt.away_box {V : World} {B pb ob : Nat} {bp bo v1 v2 : Value} {xs : List Int} {ys : List CV} (h : OfSt V B pb ob bp bo v1 v2 xs ys) (b : Nat) (hb : b < B) (y : Value) : OwnsOff (V.setCell ⟨b, 0, none⟩ y) B 3 1 v1 xs.length (icells xs) ∧ OwnsOff (V.setCell ⟨b, 0, none⟩ y) B 34 20 v2 ys.length (ccells ys) ∧
    ∀ u ∈ ys, CRows (V.setCell ⟨b, 0, none⟩ y) (V.setCell ⟨b, 0, none⟩ y).heap.size u := by
  have ho := Only.setCell V ⟨b, 0, none⟩ y
  refine ⟨h.r1.kept ho (fun k hk e => by have := h.r1.lt k hk; have e : k = b := e; omega), h.r2.kept ho (fun k hk e => by have := h.r2.lt k hk; have e : k = b := e; omega), fun u hu => (h.rows u hu).only ho (fun hp a ha e => ?_) (fun hp a ha e => ?_)⟩
  · have := ((h.away u hu).1 hp a ha).1; have e : a.block = b := e; omega
  · have := ((h.away u hu).2 hp a ha).1; have e : a.block = b := e; omega
theorem OfSt.setp {V : World} {B pb ob : Nat} {bp bo v1 v2 : Value} {xs : List Int} {ys : List CV} (h : OfSt V B pb ob bp bo v1 v2 xs ys) (y : Value) : OfSt (V.setCell ⟨pb, 0, none⟩ y) B pb ob y bo v1 v2 xs ys := by
  obtain ⟨q1, q2, q3⟩ := h.away_box pb h.lt.1 y
  exact ⟨box_set17 h.p, (Below.heap_setCell _ _ _ _ (by have := h.lt; simp; omega)).trans h.o, q1, q2, q3, h.away, h.lt.1, h.lt.2.1, h.lt.2.2.1, by have := h.lt; simp [World.setCell]; omega⟩
theorem OfSt.seto {V : World} {B pb ob : Nat} {bp bo v1 v2 : Value} {xs : List Int} {ys : List CV} (h : OfSt V B pb ob bp bo v1 v2 xs ys) (y : Value) : OfSt (V.setCell ⟨ob, 0, none⟩ y) B pb ob bp y v1 v2 xs ys := by
  obtain ⟨q1, q2, q3⟩ := h.away_box ob h.lt.2.1 y
  exact ⟨(Below.heap_setCell _ _ _ _ (by have := h.lt; simp; omega)).trans h.p, box_set17 h.o, q1, q2, q3, h.away, h.lt.1, h.lt.2.1, h.lt.2.2.1, by have := h.lt; simp [World.setCell]; omega⟩
/-- What Of hands back: its closure, over the two boxes. -/
def GivesOf (w : World) (l : List CV) (p : Int) (e : Ending) (w' : World) : Prop := ∃ pb ob v1 v2 ys, e = .returned (.func (.func 25) #[] #[.pointer (some ⟨pb, 0, none⟩), .pointer (some ⟨ob, 0, none⟩)]) ∧ w.heap.size ≤ pb ∧ w.heap.size ≤ ob ∧ OfSt w' (w.heap.size + 2) pb ob v1 v2 v1 v2 (ofN l p l.length) ys ∧ Likes l (ofN l p l.length) ys ∧ (∀ u ∈ ys, CSz 140737488351232 u) ∧ Below w.heap.size w w'

theorem CAt.kept17 {V V' : World} {b o : Nat} {v : CV} {S : Nat → Prop} (h : CAt V b o v) (ho : Only S V V') (hs : ¬ S b) : CAt V' b o v := fun j x hx => by
  rw [← h j x hx]
  simp [World.cell?, ho.block b h.lt hs]
theorem CRows.later17 {w V : World} {v : CV} {n : Nat} (h : CRows w w.heap.size v) (hs : n ≤ V.heap.size) (hb : Below w.heap.size w V) : CRows V V.heap.size v := (h.below hb).more hb.size
theorem away_new {V : World} {B pb ob : Nat} {bp bo v1 v2 : Value} {xs : List Int} {ys : List CV} {v : CV} {A1 : Option Addr} {c1 : Nat} {A2 : Option Addr} {c2 : Nat} (h : OfSt V B pb ob bp bo v1 v2 xs ys) (hf : (0 < v.rd.length → ∀ a, A1 = some a → V.heap.size ≤ a.block) ∧ (0 < v.ad.length → ∀ a, A2 = some a → V.heap.size ≤ a.block)) : AwayU B (v.at_ A1 c1 A2 c2) v1 v2 :=
  ⟨fun hp a ha => by have h1 := hf.1 hp a ha; exact ⟨Nat.le_trans h.lt.2.2.2 h1, fun e => by have := h.r1.lt _ e; omega, fun e => by have := h.r2.lt _ e; omega⟩,
   fun hp a ha => by have h1 := hf.2 hp a ha; exact ⟨Nat.le_trans h.lt.2.2.2 h1, fun e => by have := h.r1.lt _ e; omega, fun e => by have := h.r2.lt _ e; omega⟩⟩
theorem news_block' {w : World} {B : Nat} {cs : List Value} {t : TypeId} {fr : Nat × Nat} (hb : w.heap[B]? = some (.cells cs.toArray t fr)) : ∀ j u, cs[j]? = some u → w.cell? ((⟨B, 0, none⟩ : Addr).add j) = some u := fun j u hu => by
  rw [Addr.add_lit, Nat.zero_add]
  simp [World.cell?, hb, hu]
theorem fold17 (v : CV) : List.foldl (fun (cs : Array Value) (x : Value × Nat) => cs.setIfInBounds x.snd x.fst) #[.int .i64 0, .int .i64 0, .int .i64 0, .int .u64 0, .slice none 0 0, .int .i64 0, .slice none 0 0, .bool false, .int .i64 0, .bool false, .int .i64 0, .int .i64 0, .int .i64 0, .int .i64 0, .int .i64 0, .int .i64 0, .int .i64 0, .int .i64 0, .int .i64 0, .int .i64 0] (cCells v).zipIdx = (cCells v).toArray := by unfold cCells; kernel_rfl
theorem cCells_ones (v : CV) : ∀ u ∈ cCells v, u.oneCell' = true := fun u hu => by
  have := cCells_one v
  rw [Array.all_eq_true_iff_forall_mem] at this
  exact this u (by simpa using hu)
theorem sz_snoc {R : Nat} {ys : List CV} {v : CV} {A1 : Option Addr} {c1 : Nat} {A2 : Option Addr} {c2 : Nat} (h : ∀ u ∈ ys, CSz R u) (hv : CSz R v) : ∀ u ∈ ys ++ [v.at_ A1 c1 A2 c2], CSz R u := fun u hu => by
  rcases List.mem_append.1 hu with hu | hu
  · exact h u hu
  · rw [List.mem_singleton.1 hu]; exact hv
set_option maxRecDepth 100000 in
set_option maxHeartbeats 16000000 in
theorem of_b (A : Option Addr) (l : List CV) (c : Nat) (p : Int) (w : World) (hr : CRow w w.heap.size A l) (hl : l.length ≤ 60) (hz : ∀ (i : Nat) (v : CV), l[i]? = some v → CSz 140737488351232 v) : Calls Try.prog 12 #[.slice A l.length c, .int .i64 p] w (GivesOf w l p) := by
  have HR := Lib.hid hr; have HZ := Lib.hid hz
  obtain ⟨i0, hi0, hz0, hz1, hz2⟩ := info_parts Try.infoI17
  obtain ⟨k0, hk0, hy0, hy1, hy2⟩ := info_parts Try.infoC17
  obtain ⟨W, HW⟩ : ∃ u, Hid (u = (w.alloc (.cells #[.slice none 0 0] 37)).alloc (.cells #[.slice none 0 0] 22)) := ⟨_, rfl⟩
  have hB : Below w.heap.size w W := by rw [HW.out]; exact ((Below.refl _ _).alloc (Nat.le_refl _) _).alloc (by simp) _
  have e1 : W.heap[w.heap.size]? = some (.cells #[.slice none 0 0] 37 (0, 0)) := by rw [HW.out]; exact (Below.heap_alloc _ _ _ (by simp)).trans (heap_alloc_new w _)
  have e2 : W.heap[w.heap.size + 1]? = some (.cells #[.slice none 0 0] 22 (0, 0)) := by rw [HW.out]; have h := heap_alloc_new (w.alloc (.cells #[.slice none 0 0] 37)) (.cells #[.slice none 0 0] 22); rwa [World.size_alloc] at h
  have hO : OfSt W (w.heap.size + 2) w.heap.size (w.heap.size + 1) (.slice none 0 0) (.slice none 0 0) (.slice none 0 0) (.slice none 0 0) [] [] := ⟨e1, e2, OwnsOff.nil _ _ _ _, OwnsOff.nil _ _ _ _, (fun u hu => by cases hu), (fun u hu => by cases hu), by omega, by omega, by omega, by rw [HW.out]; simp⟩
  have HB := Lib.hid hB; have HO := Lib.hid hO
  clear hB e1 e2 hO hr hz
  go_enter Try.func12, Try.ntmps12
  go_wp2_with (rw [← HW.out])
  go_loopw [11] (fun ix wr => ∃ (i : Nat) (v1 v2 : Value) (ys : List CV), i ≤ l.length ∧ ix = .int .i64 i ∧ OfSt wr (w.heap.size + 2) w.heap.size (w.heap.size + 1) v1 v2 v1 v2 (ofN l p i) ys ∧ Likes l (ofN l p i) ys ∧ (∀ u ∈ ys, CSz 140737488351232 u) ∧ Below w.heap.size w wr) (fun ix _ => l.length - (intOf ix).toNat)
  case atStart => exact ⟨0, _, _, [], Nat.zero_le _, rfl, HO.out, Likes.nil l, (fun u hu => by cases hu), HB.out⟩
  case round =>
    obtain ⟨i, v1, v2, ys, hi, rfl, hO, hlk, hsz, hbr⟩ := hrel
    have HLK := Lib.hid hlk; have HSZ := Lib.hid hsz
    clear hlk hsz
    by_cases hlt : i < l.length
    · obtain ⟨b, o, x, rfl, hbl, hx, -, hxc⟩ := HR.out.at_ hlt
      have HXI := Lib.hid hx
      have HXZ := Lib.hid (HZ.out i x hx)
      have HXR := Lib.hid (hxc _ hbr).1
      have HXRW : Hid (CRows w w.heap.size x) := Lib.hid (hxc _ (Below.refl _ _)).2
      obtain ⟨X1, X2, HX1, HX2, hth, hxb1, hxb2, hxs, hxv⟩ := var17 wr x #[.int .i64 0, .int .i64 0, .int .i64 0, .int .u64 0, .slice none 0 0, .int .i64 0, .slice none 0 0, .bool false, .int .i64 0, .bool false, .int .i64 0, .int .i64 0, .int .i64 0, .int .i64 0, .int .i64 0, .int .i64 0, .int .i64 0, .int .i64 0, .int .i64 0, .int .i64 0] rfl
      have HXB := Lib.hid hxb2; have HXV := Lib.hid hxv; have HTH := Lib.hid hth
      clear hxb1 hxb2 hxs hxv hth
      obtain ⟨xb, hxb⟩ : ∃ k, k = wr.heap.size := ⟨_, rfl⟩
      have hOX := hO.later HXB.out
      have HXLT : Hid (w.heap.size + 2 ≤ xb) := Lib.hid (by rw [hxb]; exact hO.lt.2.2.2)
      have HXBE := Lib.hid hxb
      have HV1B : Hid (∀ k, v1.ownBlock = some k → k < wr.heap.size) := Lib.hid (fun k e => (hO.r1.lt k e).2)
      have HV2B : Hid (∀ k, v2.ownBlock = some k → k < wr.heap.size) := Lib.hid (fun k e => (hO.r2.lt k e).2)
      have hbX := hbr.trans (HXB.out.mono hbr.size)
      obtain ⟨xs, hxs⟩ : ∃ xs, ofN l p i = xs := ⟨_, rfl⟩
      have HXL : Hid (xs.length ≤ 60) := Lib.hid (by rw [← hxs]; have := ofN_len l p i; omega)
      have HYL : Hid (ys.length ≤ 60) := Lib.hid (by rw [← HLK.out.1, hxs]; exact HXL.out)
      have hi2 : (i : Int) < (l.length : Int) := by omega
      have x_part := HXV.out.b_part
      by_cases hp : x.part = p
      · have HN := Lib.hid (show ofN l p (i + 1) = xs ++ [(i : Int)] by rw [ofN_hit (by unfold isOf; rw [hx]; simp [hp]), hxs])
        rw [hxs] at hOX HLK
        rw [hp] at x_part
        have hOd := hOX.later (Below.refl X2.heap.size X2).drew
        have hCd : CAt X2.drew wr.heap.size 0 x := HXV.out.later (Below.refl X2.heap.size X2).drew HXV.out.lt
        obtain ⟨Y, HY⟩ : ∃ u, Hid (u = (X2.alloc (.cells #[.int .i64 (i : Int)] 3)).drew) := ⟨_, rfl⟩
        have hlY : Below X2.heap.size X2 Y := by rw [HY.out]; exact ((Below.refl _ _).alloc (Nat.le_refl _) _).drew
        have HEY : Hid (Y.heap[X2.heap.size]? = some (.cells #[.int .i64 (i : Int)] 3 (0, 0))) := Lib.hid (by rw [HY.out]; exact heap_alloc_new _ _)
        have HOY := Lib.hid (hOX.later hlY)
        have HCY : Hid (CAt Y xb 0 x) := Lib.hid (by rw [hxb]; exact HXV.out.later hlY HXV.out.lt)
        have HBY := Lib.hid (hbX.trans (hlY.mono hbX.size))
        have p0 := cell_blk17 hOd.p (i := 0) rfl
        have p1 := cell_blk17 HOY.out.p (i := 0) rfl
        have HOD := Lib.hid hOd; have HCD := Lib.hid hCd
        clear hOX hOd hCd hlY hO hx hxs hp hxc hbl hbr hbX
        go_wp2_with (first | (rw [← HX1.out]) | (with_reducible refine wpList_store_mid (by kernel_rfl) _ _ _ rfl wr.heap.size 0 (cCells x).toArray (by kernel_rfl) (by kernel_rfl) HTH.out (cCells_infoA x) (cCells_one x) ?_) | (rw [← HX2.out]) | (with_reducible refine wpList_loadC (by with_unfolding_all rfl) _ rfl _ _ _ (by with_unfolding_all rfl) HXR.out ?_))
        simp only [← hxb]
        refine wp_region_till (fun W' => W'.cell? ⟨w.heap.size + 1, 0, none⟩ = some v2 ∧ CAt W' xb 0 x) 10 (by kernel_rfl) ⟨cell_blk17 HOD.out.o rfl, by rw [hxb]; exact HCD.out⟩ (fun hHeld => ?_)
        refine till_take (i := 1) rfl (by kernel_rfl) (by kernel_rfl) (by kernel_rfl) (fun _ _ _ h => h) (by kernel_rfl) (Or.inl ⟨by rfl, by intro w _; (go_simp <;> with_reducible rfl)⟩) (by assumption) ?_
        (try simp only [Act.put, List.setIfInBounds_toArray, List.set_cons_zero, List.set_cons_succ, List.getElem_toArray, List.getElem_cons_zero, List.getElem_cons_succ])
        refine till_load (i := 4) rfl (by kernel_rfl) (by kernel_rfl) (by kernel_rfl) (fun _ _ _ h => h) (by kernel_rfl) (by kernel_rfl) (by kernel_rfl) (Or.inl ⟨by rfl, by intro w hSw; (have q4 := hSw.1); (go_simp <;> with_reducible rfl)⟩) (by assumption) ?_
        (try simp only [Act.put, List.setIfInBounds_toArray, List.set_cons_zero, List.set_cons_succ, List.getElem_toArray, List.getElem_cons_zero, List.getElem_cons_succ])
        refine till_load (i := 5) rfl (by kernel_rfl) (by kernel_rfl) (by kernel_rfl) (fun _ _ _ h => h) (by kernel_rfl) (by kernel_rfl) (by kernel_rfl) (yieldsIf_load_mid (by with_unfolding_all rfl) 34 _ rfl xb 0 (by with_unfolding_all rfl) (cCells x) _ (fun W' hW' => hW'.2) Try.underlying34 rfl (cCells_info x)) (by assumption) ?_
        (try simp only [Act.put, List.setIfInBounds_toArray, List.set_cons_zero, List.set_cons_succ, List.getElem_toArray, List.getElem_cons_zero, List.getElem_cons_succ])
        refine till_two (i := 0) (j := 2) (by kernel_rfl) rfl rfl (fun K hK => ?_) (fun K hK => ?_)
        · go_simp
          refine hK.out _ _ hHeld (fun hHeld => ?_)
          clear hK K
          (try simp only [Act.put, List.setIfInBounds_toArray, List.set_cons_zero, List.set_cons_succ, List.getElem_toArray, List.getElem_cons_zero, List.getElem_cons_succ])
          refine till_one (i := 2) (by kernel_rfl) rfl (fun K hK => ?_)
          go_simp
          rw [← HY.out]
          refine hK.out _ _ ⟨cell_blk17 HOY.out.o rfl, HCY.out⟩ (fun hHeld => ?_)
          clear hK K
          (try simp only [Act.put, List.setIfInBounds_toArray, List.set_cons_zero, List.set_cons_succ, List.getElem_toArray, List.getElem_cons_zero, List.getElem_cons_succ])
          refine till_one (i := 3) (by kernel_rfl) rfl (fun K hK => ?_)
          refine step_append_off rfl _ _ 37 rfl (w.heap.size + 2) 3 i0 (.int .i64 0) 1 8 Try.underlying37 hi0 hz0 hz1 hz2 rfl (by decide) _ xs.length (icells xs) rfl HOY.out.r1 ⟨X2.heap.size, 0, none⟩ 1 1 [.int .i64 (i : Int)] rfl rfl (news_block HEY.out) (by simp [Value.oneCell']) (by have := HXL.out; unfold maxLen; omega) (by have := HXL.out; omega) HOY.out.lt.2.2.2 ?_
          intro v1' Z1 hown1 hgr1 hfr1
          obtain ⟨a1, q1, rfl, -, -⟩ := hown1.slice
          have HO3 := Lib.hid (HOY.out.app1 hown1 hgr1 hfr1)
          have HC3 : Hid (CAt Z1 xb 0 x) := Lib.hid (HCY.out.kept17 (Only.of_grown hgr1) (fun e => by have h1 := HV1B.out xb e.symm; have h2 := HXBE.out; omega))
          have HB3 := Lib.hid (HBY.out.grown hgr1 HBY.out.size (fun k e => Nat.le_trans (by omega) (HOY.out.r1.lt k e).1))
          have HS3 := Lib.hid hgr1.size
          clear hown1 hgr1 hfr1
          refine hK.out _ _ ⟨cell_blk17 HO3.out.o rfl, HC3.out⟩ (fun hHeld => ?_)
          clear hK K
          (try simp only [Act.put, List.setIfInBounds_toArray, List.set_cons_zero, List.set_cons_succ, List.getElem_toArray, List.getElem_cons_zero, List.getElem_cons_succ])
          refine till_one (i := 6) (by kernel_rfl) rfl (fun K hK => ?_)
          go_simp
          refine (anew_b x Z1 ((HXRW.out.later17 HS3.out HB3.out)) HXZ.out).mono ?_
          rintro e Z2 ⟨A1, c1, A2, c2, rfl, hru, hfu, hbu⟩
          (try go_wp2_with fail)
          have HO4 := Lib.hid (HO3.out.later hbu)
          have HC4 := Lib.hid (HC3.out.later hbu HC3.out.lt)
          have HB4 := Lib.hid (HB3.out.trans (hbu.mono HB3.out.size))
          have HRU := Lib.hid hru
          have HAU : Hid (AwayU (w.heap.size + 2) (x.at_ A1 c1 A2 c2) (Value.slice a1 (xs.length + 1) q1) v2) := Lib.hid (away_new HO3.out hfu)
          clear hru hfu hbu
          refine hK.out _ _ ⟨cell_blk17 HO4.out.o rfl, HC4.out⟩ (fun hHeld => ?_)
          clear hK K
          (try simp only [Act.put, List.setIfInBounds_toArray, List.set_cons_zero, List.set_cons_succ, List.getElem_toArray, List.getElem_cons_zero, List.getElem_cons_succ])
          obtain ⟨Z3, HZ3⟩ : ∃ u, Hid (u = Z2.alloc (.cells (cCells (x.at_ A1 c1 A2 c2)).toArray 34)) := ⟨_, rfl⟩
          have hl3 : Below Z2.heap.size Z2 Z3 := by rw [HZ3.out]; exact (Below.refl _ _).alloc (Nat.le_refl _) _
          have HE3 : Hid (Z3.heap[Z2.heap.size]? = some (.cells (cCells (x.at_ A1 c1 A2 c2)).toArray 34 (0, 0))) := Lib.hid (by rw [HZ3.out]; exact heap_alloc_new _ _)
          have HO5 := Lib.hid (HO4.out.later hl3)
          have HC5 := Lib.hid (HC4.out.later hl3 HC4.out.lt)
          have HB5 := Lib.hid (HB4.out.trans (hl3.mono HB4.out.size))
          have HRU5 := Lib.hid ((HRU.out.below hl3).more hl3.size)
          clear hl3
          refine till_one (i := 7) (by kernel_rfl) rfl (fun K hK => ?_)
          have hl20 := cCells_len (x.at_ A1 c1 A2 c2)
          have hfold := fold17 (x.at_ A1 c1 A2 c2)
          go_simp
          clear hl20 hfold
          rw [← HZ3.out]
          refine hK.out _ _ ⟨cell_blk17 HO5.out.o rfl, HC5.out⟩ (fun hHeld => ?_)
          clear hK K
          (try simp only [Act.put, List.setIfInBounds_toArray, List.set_cons_zero, List.set_cons_succ, List.getElem_toArray, List.getElem_cons_zero, List.getElem_cons_succ])
          refine till_one (i := 8) (by kernel_rfl) rfl (fun K hK => ?_)
          refine step_append_off rfl _ _ 22 rfl (w.heap.size + 2) 34 k0 (.agg #[.int .i64 0, .int .i64 0, .int .i64 0, .int .u64 0, .slice none 0 0, .int .i64 0, .slice none 0 0, .bool false, .int .i64 0, .bool false, .int .i64 0, .int .i64 0, .int .i64 0, .int .i64 0, .int .i64 0, .int .i64 0, .int .i64 0, .int .i64 0, .int .i64 0, .int .i64 0]) 20 192 Try.underlying22 hk0 hy0 hy1 hy2 rfl (by decide) _ ys.length (ccells ys) rfl HO5.out.r2 ⟨Z2.heap.size, 0, none⟩ 1 1 (cCells (x.at_ A1 c1 A2 c2)) rfl (cCells_len _) (news_block' HE3.out) (cCells_ones _) (by have := HYL.out; unfold maxLen; omega) (by have := HYL.out; omega) HO5.out.lt.2.2.2 ?_
          intro v2' Z4 hown2 hgr2 hfr2
          obtain ⟨a2, q2, rfl, -, -⟩ := hown2.slice
          have HO6 := Lib.hid (HO5.out.app2 hown2 hgr2 hfr2 HRU5.out HAU.out)
          have HC6 : Hid (CAt Z4 xb 0 x) := Lib.hid (HC5.out.kept17 (Only.of_grown hgr2) (fun e => by have h1 := HV2B.out xb e.symm; have h2 := HXBE.out; omega))
          have HB6 := Lib.hid (HB5.out.grown hgr2 HB5.out.size (fun k e => Nat.le_trans (by omega) (HO5.out.r2.lt k e).1))
          clear hown2 hgr2 hfr2
          refine hK.out _ _ ⟨cell_blk17 HO6.out.o rfl, HC6.out⟩ (fun hHeld => ?_)
          clear hK K
          (try simp only [Act.put, List.setIfInBounds_toArray, List.set_cons_zero, List.set_cons_succ, List.getElem_toArray, List.getElem_cons_zero, List.getElem_cons_succ])
          obtain ⟨Z5, HZ5⟩ : ∃ u, Hid (u = Z4.setCell ⟨w.heap.size, 0, none⟩ (Value.slice a1 (xs.length + 1) q1)) := ⟨_, rfl⟩
          have HO7 : Hid (OfSt Z5 (w.heap.size + 2) w.heap.size (w.heap.size + 1) (Value.slice a1 (xs.length + 1) q1) v2 (Value.slice a1 (xs.length + 1) q1) (Value.slice a2 (ys.length + 1) q2) (xs ++ [(i : Int)]) (ys ++ [x.at_ A1 c1 A2 c2])) := Lib.hid (by rw [HZ5.out]; exact HO6.out.setp (Value.slice a1 (xs.length + 1) q1))
          have HC7 : Hid (CAt Z5 xb 0 x) := Lib.hid (by rw [HZ5.out]; exact HC6.out.kept17 (Only.setCell _ _ _) (fun e => by have h1 := HXLT.out; have e : xb = w.heap.size := e; omega))
          have HB7 : Hid (Below w.heap.size w Z5) := Lib.hid (by rw [HZ5.out]; exact HB6.out.setCell (p := ⟨w.heap.size, 0, none⟩) (Nat.le_refl _) _)
          have z0 := cell_blk17 HO6.out.p (i := 0) rfl
          have z1 : Z4.frozen? ⟨w.heap.size, 0, none⟩ = false := by simp [World.frozen?, HO6.out.p]
          refine till_one (i := 9) (by kernel_rfl) rfl (fun K hK => ?_)
          go_simp
          clear z0 z1
          rw [← HZ5.out]
          refine hK.out _ _ ⟨cell_blk17 HO7.out.o rfl, HC7.out⟩ (fun hHeld => ?_)
          clear hK K
          (try simp only [Act.put, List.setIfInBounds_toArray, List.set_cons_zero, List.set_cons_succ, List.getElem_toArray, List.getElem_cons_zero, List.getElem_cons_succ])
          obtain ⟨Z6, HZ6⟩ : ∃ u, Hid (u = Z5.setCell ⟨w.heap.size + 1, 0, none⟩ (Value.slice a2 (ys.length + 1) q2)) := ⟨_, rfl⟩
          have HO8 : Hid (OfSt Z6 (w.heap.size + 2) w.heap.size (w.heap.size + 1) (Value.slice a1 (xs.length + 1) q1) (Value.slice a2 (ys.length + 1) q2) (Value.slice a1 (xs.length + 1) q1) (Value.slice a2 (ys.length + 1) q2) (xs ++ [(i : Int)]) (ys ++ [x.at_ A1 c1 A2 c2])) := Lib.hid (by rw [HZ6.out]; exact HO7.out.seto (Value.slice a2 (ys.length + 1) q2))
          have HB8 : Hid (Below w.heap.size w Z6) := Lib.hid (by rw [HZ6.out]; exact HB7.out.setCell (p := ⟨w.heap.size + 1, 0, none⟩) (by simp) _)
          have z0 := cell_blk17 HO7.out.o (i := 0) rfl
          have z1 : Z5.frozen? ⟨w.heap.size + 1, 0, none⟩ = false := by simp [World.frozen?, HO7.out.o]
          refine till_last (by kernel_rfl) rfl (fun K hK => ?_)
          go_simp
          clear z0 z1
          rw [← HZ6.out]
          refine hK.out _ _ ?_
          clear hK K
          (try simp only [Act.put, List.setIfInBounds_toArray, List.set_cons_zero, List.set_cons_succ, List.getElem_toArray, List.getElem_cons_zero, List.getElem_cons_succ])
          refine till_done (by kernel_rfl) ?_ _
          clear hHeld
          go_wp2
          go_roundw
          case rel => exact ⟨i + 1, (Value.slice a1 (xs.length + 1) q1), (Value.slice a2 (ys.length + 1) q2), ys ++ [x.at_ A1 c1 A2 c2], by omega, by go_num, by rw [HN.out]; exact HO8.out, by rw [HN.out]; exact HLK.out.snoc ⟨i, x, A1, c1, A2, c2, rfl, HXI.out, rfl⟩, sz_snoc HSZ.out HXZ.out, HB8.out⟩
          case measure => simp [intOf]; omega
        · go_simp
          rw [← HY.out]
          refine hK.out _ _ ⟨cell_blk17 HOY.out.o rfl, HCY.out⟩ (fun hHeld => ?_)
          clear hK K
          (try simp only [Act.put, List.setIfInBounds_toArray, List.set_cons_zero, List.set_cons_succ, List.getElem_toArray, List.getElem_cons_zero, List.getElem_cons_succ])
          refine till_one (i := 0) (by kernel_rfl) rfl (fun K hK => ?_)
          go_simp
          refine hK.out _ _ hHeld (fun hHeld => ?_)
          clear hK K
          (try simp only [Act.put, List.setIfInBounds_toArray, List.set_cons_zero, List.set_cons_succ, List.getElem_toArray, List.getElem_cons_zero, List.getElem_cons_succ])
          refine till_one (i := 3) (by kernel_rfl) rfl (fun K hK => ?_)
          refine step_append_off rfl _ _ 37 rfl (w.heap.size + 2) 3 i0 (.int .i64 0) 1 8 Try.underlying37 hi0 hz0 hz1 hz2 rfl (by decide) _ xs.length (icells xs) rfl HOY.out.r1 ⟨X2.heap.size, 0, none⟩ 1 1 [.int .i64 (i : Int)] rfl rfl (news_block HEY.out) (by simp [Value.oneCell']) (by have := HXL.out; unfold maxLen; omega) (by have := HXL.out; omega) HOY.out.lt.2.2.2 ?_
          intro v1' Z1 hown1 hgr1 hfr1
          obtain ⟨a1, q1, rfl, -, -⟩ := hown1.slice
          have HO3 := Lib.hid (HOY.out.app1 hown1 hgr1 hfr1)
          have HC3 : Hid (CAt Z1 xb 0 x) := Lib.hid (HCY.out.kept17 (Only.of_grown hgr1) (fun e => by have h1 := HV1B.out xb e.symm; have h2 := HXBE.out; omega))
          have HB3 := Lib.hid (HBY.out.grown hgr1 HBY.out.size (fun k e => Nat.le_trans (by omega) (HOY.out.r1.lt k e).1))
          have HS3 := Lib.hid hgr1.size
          clear hown1 hgr1 hfr1
          refine hK.out _ _ ⟨cell_blk17 HO3.out.o rfl, HC3.out⟩ (fun hHeld => ?_)
          clear hK K
          (try simp only [Act.put, List.setIfInBounds_toArray, List.set_cons_zero, List.set_cons_succ, List.getElem_toArray, List.getElem_cons_zero, List.getElem_cons_succ])
          refine till_one (i := 6) (by kernel_rfl) rfl (fun K hK => ?_)
          go_simp
          refine (anew_b x Z1 ((HXRW.out.later17 HS3.out HB3.out)) HXZ.out).mono ?_
          rintro e Z2 ⟨A1, c1, A2, c2, rfl, hru, hfu, hbu⟩
          (try go_wp2_with fail)
          have HO4 := Lib.hid (HO3.out.later hbu)
          have HC4 := Lib.hid (HC3.out.later hbu HC3.out.lt)
          have HB4 := Lib.hid (HB3.out.trans (hbu.mono HB3.out.size))
          have HRU := Lib.hid hru
          have HAU : Hid (AwayU (w.heap.size + 2) (x.at_ A1 c1 A2 c2) (Value.slice a1 (xs.length + 1) q1) v2) := Lib.hid (away_new HO3.out hfu)
          clear hru hfu hbu
          refine hK.out _ _ ⟨cell_blk17 HO4.out.o rfl, HC4.out⟩ (fun hHeld => ?_)
          clear hK K
          (try simp only [Act.put, List.setIfInBounds_toArray, List.set_cons_zero, List.set_cons_succ, List.getElem_toArray, List.getElem_cons_zero, List.getElem_cons_succ])
          obtain ⟨Z3, HZ3⟩ : ∃ u, Hid (u = Z2.alloc (.cells (cCells (x.at_ A1 c1 A2 c2)).toArray 34)) := ⟨_, rfl⟩
          have hl3 : Below Z2.heap.size Z2 Z3 := by rw [HZ3.out]; exact (Below.refl _ _).alloc (Nat.le_refl _) _
          have HE3 : Hid (Z3.heap[Z2.heap.size]? = some (.cells (cCells (x.at_ A1 c1 A2 c2)).toArray 34 (0, 0))) := Lib.hid (by rw [HZ3.out]; exact heap_alloc_new _ _)
          have HO5 := Lib.hid (HO4.out.later hl3)
          have HC5 := Lib.hid (HC4.out.later hl3 HC4.out.lt)
          have HB5 := Lib.hid (HB4.out.trans (hl3.mono HB4.out.size))
          have HRU5 := Lib.hid ((HRU.out.below hl3).more hl3.size)
          clear hl3
          refine till_one (i := 7) (by kernel_rfl) rfl (fun K hK => ?_)
          have hl20 := cCells_len (x.at_ A1 c1 A2 c2)
          have hfold := fold17 (x.at_ A1 c1 A2 c2)
          go_simp
          clear hl20 hfold
          rw [← HZ3.out]
          refine hK.out _ _ ⟨cell_blk17 HO5.out.o rfl, HC5.out⟩ (fun hHeld => ?_)
          clear hK K
          (try simp only [Act.put, List.setIfInBounds_toArray, List.set_cons_zero, List.set_cons_succ, List.getElem_toArray, List.getElem_cons_zero, List.getElem_cons_succ])
          refine till_one (i := 8) (by kernel_rfl) rfl (fun K hK => ?_)
          refine step_append_off rfl _ _ 22 rfl (w.heap.size + 2) 34 k0 (.agg #[.int .i64 0, .int .i64 0, .int .i64 0, .int .u64 0, .slice none 0 0, .int .i64 0, .slice none 0 0, .bool false, .int .i64 0, .bool false, .int .i64 0, .int .i64 0, .int .i64 0, .int .i64 0, .int .i64 0, .int .i64 0, .int .i64 0, .int .i64 0, .int .i64 0, .int .i64 0]) 20 192 Try.underlying22 hk0 hy0 hy1 hy2 rfl (by decide) _ ys.length (ccells ys) rfl HO5.out.r2 ⟨Z2.heap.size, 0, none⟩ 1 1 (cCells (x.at_ A1 c1 A2 c2)) rfl (cCells_len _) (news_block' HE3.out) (cCells_ones _) (by have := HYL.out; unfold maxLen; omega) (by have := HYL.out; omega) HO5.out.lt.2.2.2 ?_
          intro v2' Z4 hown2 hgr2 hfr2
          obtain ⟨a2, q2, rfl, -, -⟩ := hown2.slice
          have HO6 := Lib.hid (HO5.out.app2 hown2 hgr2 hfr2 HRU5.out HAU.out)
          have HC6 : Hid (CAt Z4 xb 0 x) := Lib.hid (HC5.out.kept17 (Only.of_grown hgr2) (fun e => by have h1 := HV2B.out xb e.symm; have h2 := HXBE.out; omega))
          have HB6 := Lib.hid (HB5.out.grown hgr2 HB5.out.size (fun k e => Nat.le_trans (by omega) (HO5.out.r2.lt k e).1))
          clear hown2 hgr2 hfr2
          refine hK.out _ _ ⟨cell_blk17 HO6.out.o rfl, HC6.out⟩ (fun hHeld => ?_)
          clear hK K
          (try simp only [Act.put, List.setIfInBounds_toArray, List.set_cons_zero, List.set_cons_succ, List.getElem_toArray, List.getElem_cons_zero, List.getElem_cons_succ])
          obtain ⟨Z5, HZ5⟩ : ∃ u, Hid (u = Z4.setCell ⟨w.heap.size, 0, none⟩ (Value.slice a1 (xs.length + 1) q1)) := ⟨_, rfl⟩
          have HO7 : Hid (OfSt Z5 (w.heap.size + 2) w.heap.size (w.heap.size + 1) (Value.slice a1 (xs.length + 1) q1) v2 (Value.slice a1 (xs.length + 1) q1) (Value.slice a2 (ys.length + 1) q2) (xs ++ [(i : Int)]) (ys ++ [x.at_ A1 c1 A2 c2])) := Lib.hid (by rw [HZ5.out]; exact HO6.out.setp (Value.slice a1 (xs.length + 1) q1))
          have HC7 : Hid (CAt Z5 xb 0 x) := Lib.hid (by rw [HZ5.out]; exact HC6.out.kept17 (Only.setCell _ _ _) (fun e => by have h1 := HXLT.out; have e : xb = w.heap.size := e; omega))
          have HB7 : Hid (Below w.heap.size w Z5) := Lib.hid (by rw [HZ5.out]; exact HB6.out.setCell (p := ⟨w.heap.size, 0, none⟩) (Nat.le_refl _) _)
          have z0 := cell_blk17 HO6.out.p (i := 0) rfl
          have z1 : Z4.frozen? ⟨w.heap.size, 0, none⟩ = false := by simp [World.frozen?, HO6.out.p]
          refine till_one (i := 9) (by kernel_rfl) rfl (fun K hK => ?_)
          go_simp
          clear z0 z1
          rw [← HZ5.out]
          refine hK.out _ _ ⟨cell_blk17 HO7.out.o rfl, HC7.out⟩ (fun hHeld => ?_)
          clear hK K
          (try simp only [Act.put, List.setIfInBounds_toArray, List.set_cons_zero, List.set_cons_succ, List.getElem_toArray, List.getElem_cons_zero, List.getElem_cons_succ])
          obtain ⟨Z6, HZ6⟩ : ∃ u, Hid (u = Z5.setCell ⟨w.heap.size + 1, 0, none⟩ (Value.slice a2 (ys.length + 1) q2)) := ⟨_, rfl⟩
          have HO8 : Hid (OfSt Z6 (w.heap.size + 2) w.heap.size (w.heap.size + 1) (Value.slice a1 (xs.length + 1) q1) (Value.slice a2 (ys.length + 1) q2) (Value.slice a1 (xs.length + 1) q1) (Value.slice a2 (ys.length + 1) q2) (xs ++ [(i : Int)]) (ys ++ [x.at_ A1 c1 A2 c2])) := Lib.hid (by rw [HZ6.out]; exact HO7.out.seto (Value.slice a2 (ys.length + 1) q2))
          have HB8 : Hid (Below w.heap.size w Z6) := Lib.hid (by rw [HZ6.out]; exact HB7.out.setCell (p := ⟨w.heap.size + 1, 0, none⟩) (by simp) _)
          have z0 := cell_blk17 HO7.out.o (i := 0) rfl
          have z1 : Z5.frozen? ⟨w.heap.size + 1, 0, none⟩ = false := by simp [World.frozen?, HO7.out.o]
          refine till_last (by kernel_rfl) rfl (fun K hK => ?_)
          go_simp
          clear z0 z1
          rw [← HZ6.out]
          refine hK.out _ _ ?_
          clear hK K
          (try simp only [Act.put, List.setIfInBounds_toArray, List.set_cons_zero, List.set_cons_succ, List.getElem_toArray, List.getElem_cons_zero, List.getElem_cons_succ])
          refine till_done (by kernel_rfl) ?_ _
          clear hHeld
          go_wp2
          go_roundw
          case rel => exact ⟨i + 1, (Value.slice a1 (xs.length + 1) q1), (Value.slice a2 (ys.length + 1) q2), ys ++ [x.at_ A1 c1 A2 c2], by omega, by go_num, by rw [HN.out]; exact HO8.out, by rw [HN.out]; exact HLK.out.snoc ⟨i, x, A1, c1, A2, c2, rfl, HXI.out, rfl⟩, sz_snoc HSZ.out HXZ.out, HB8.out⟩
          case measure => simp [intOf]; omega
      · have HN := Lib.hid (show ofN l p (i + 1) = xs by rw [ofN_miss (by unfold isOf; rw [hx]; simp [hp]), hxs])
        have hpa : (x.part == p) = false := by simp [hp]
        rw [hxs] at hOX HLK
        have HOX := Lib.hid hOX; have HBX := Lib.hid hbX
        clear hOX hO hx hxs hp hxc hbl hbr hbX
        go_wp2_with (first | (rw [← HX1.out]) | (with_reducible refine wpList_store_mid (by kernel_rfl) _ _ _ rfl wr.heap.size 0 (cCells x).toArray (by kernel_rfl) (by kernel_rfl) HTH.out (cCells_infoA x) (cCells_one x) ?_) | (rw [← HX2.out]) | (with_reducible refine wpList_loadC (by with_unfolding_all rfl) _ rfl _ _ _ (by with_unfolding_all rfl) HXR.out ?_))
        go_roundw
        case rel => exact ⟨i + 1, v1, v2, ys, by omega, by go_num, by rw [HN.out]; exact HOX.out, by rw [HN.out]; exact HLK.out, HSZ.out, HBX.out⟩
        case measure => simp [intOf]; omega
    · have hil : i = l.length := by omega
      subst hil
      have HO := Lib.hid hO; have HB := Lib.hid hbr
      clear hO hbr
      go_wp2
      go_ret
      exact ⟨w.heap.size, w.heap.size + 1, v1, v2, ys, rfl, Nat.le_refl _, by omega, HO.out, HLK.out, HSZ.out, HB.out⟩
end Go.Proofs.Ytjhfkpimejaboaa
