/- Four slots, in plain lists: the steps, and what holds between them. No condition but those in the statements. A writer and a reader play: what is read is one message whole, and none that may not be. No condition but those in the statements. The buffer that is being filled is never the one that is being read. No condition but those in the statements. A read alone, a write alone. No condition but those in the statements. The words stay words of 32 bits. No condition but those in the statements. -/
import Init
namespace Go.Proofs.YtmhpcgcloojfbaaGreatDoor.Simp
set_option linter.unusedVariables false

/-- The words of a sampling channel: where its source's begin, where its destination's one lies, how many words a message has at most, its period. -/
structure Fr where
  src : Nat
  dst : Nat
  n : Nat
  per : Int
def bufA (F : Fr) (p i : Nat) : Nat := F.src + 3 + (2 * p + i) * (F.n + 2)
def oddN (x : Int) : Nat := (x % 2).toNat
def rd (m : List Int) (a : Nat) : Int := m.getD a 0
structure Did where
  done : Bool
  mark : Bool
  stamped : Bool
  code : Int
  data : List Int
  valid : Bool
  buffer : Int
def did0 : Did := ⟨false, false, false, 0, [], false, 0⟩
/-- Where a write, or a read, stands: how many steps were done (below 0: it is answered). -/
structure FS where
  data : List Int
  no : Int
  pair : Nat
  index : Nat
  len : Int
  stamp : Int
  marked : Bool
def start (data : List Int) : FS := ⟨data, 0, 0, 0, 0, 0, false⟩
def bufOf (F : Fr) (s : FS) : Nat := bufA F s.pair s.index
def wstep (F : Fr) (s : FS) (m : List Int) (now : Int) : FS × List Int × Did :=
  if s.no < 0 then (s, m, did0)
  else if s.no = 0 then ({ s with no := 1, pair := 1 - oddN (rd m F.dst) }, m, did0)
  else if s.no = 1 then ({ s with no := 2, index := 1 - oddN (rd m (F.src + 1 + s.pair)) }, m, did0)
  else if s.no = 2 then ({ s with no := 3 }, m.set (bufOf F s) s.data.length, { did0 with buffer := 1 + 2 * s.pair + s.index })
  else if s.no = 3 then ({ s with no := 4 }, m.set (bufOf F s + 1) (now % 4294967296), { did0 with stamped := true })
  else if s.no < 4 + s.data.length then ({ s with no := s.no + 1 }, m.set (bufOf F s + (s.no - 2).toNat) (s.data.getD (s.no - 4).toNat 0), did0)
  else if s.no = 4 + s.data.length then
    ({ s with no := s.no + 1, marked := decide (oddN (rd m F.src) = s.pair) }, m.set (F.src + 1 + s.pair) s.index, { did0 with mark := decide (oddN (rd m F.src) = s.pair) })
  else ({ s with no := -1 }, m.set F.src s.pair, { did0 with done := true, mark := !s.marked })
def lenOf (F : Fr) (x : Int) : Int := if x ≤ F.n then x else F.n
def rstep (F : Fr) (s : FS) (m : List Int) (now : Int) : FS × List Int × Did :=
  if s.no < 0 then (s, m, did0)
  else if s.no = 0 then ({ s with no := 1, pair := oddN (rd m F.src) }, m, did0)
  else if s.no = 1 then ({ s with no := 2 }, m.set F.dst s.pair, did0)
  else if s.no = 2 then ({ s with no := 3, index := oddN (rd m (F.src + 1 + s.pair)) }, m, did0)
  else if s.no = 3 then
    if lenOf F (rd m (bufOf F s)) = 0 then ({ s with no := -1, len := 0 }, m, { did0 with done := true, code := 1, buffer := 1 + 2 * s.pair + s.index })
    else ({ s with no := 4, len := lenOf F (rd m (bufOf F s)) }, m, { did0 with buffer := 1 + 2 * s.pair + s.index })
  else if s.no = 4 then ({ s with no := 5, stamp := rd m (bufOf F s + 1) }, m, did0)
  else if ((s.data.length : Int) + 1 = s.len) then
    ({ s with no := -1, data := s.data ++ [rd m (bufOf F s + (s.no - 3).toNat)] }, m, { did0 with done := true, data := s.data ++ [rd m (bufOf F s + (s.no - 3).toNat)], valid := decide (now - s.stamp ≤ F.per) })
  else ({ s with no := s.no + 1, data := s.data ++ [rd m (bufOf F s + (s.no - 3).toNat)] }, m, did0)

theorem oddN_le (x : Int) : oddN x ≤ 1 := by unfold oddN; omega
theorem oddN_of {p : Nat} (h : p ≤ 1) : oddN (p : Int) = p := by unfold oddN; omega
theorem rd_set (m : List Int) (a b : Nat) (v : Int) : rd (m.set a v) b = if a = b ∧ a < m.length then v else rd m b := by
  unfold rd
  rw [List.getD_eq_getElem?_getD, List.getD_eq_getElem?_getD, List.getElem?_set]
  by_cases h : a = b
  · subst h
    by_cases h2 : a < m.length
    · simp [h2]
    · simp [h2]
  · simp [h]
theorem rd_eq {m : List Int} {a : Nat} {v : Int} (h : a < m.length) : rd (m.set a v) a = v := by rw [rd_set, if_pos ⟨rfl, h⟩]
theorem rd_ne {m : List Int} {a b : Nat} {v : Int} (h : a ≠ b) : rd (m.set a v) b = rd m b := by rw [rd_set, if_neg (fun x => h x.1)]
theorem buf_in (F : Fr) {p i : Nat} (hp : p ≤ 1) (hi : i ≤ 1) : F.src + 3 ≤ bufA F p i ∧ bufA F p i + (F.n + 2) ≤ F.src + 3 + 4 * (F.n + 2) := by
  unfold bufA
  have h := Nat.mul_le_mul_right (F.n + 2) (show 2 * p + i ≤ 3 by omega)
  omega
theorem buf_apart (F : Fr) {p i p' i' : Nat} (hi : i ≤ 1) (hi' : i' ≤ 1) (h : ¬ (p = p' ∧ i = i')) : bufA F p i + (F.n + 2) ≤ bufA F p' i' ∨ bufA F p' i' + (F.n + 2) ≤ bufA F p i := by
  unfold bufA
  rcases Nat.lt_or_gt_of_ne (show 2 * p + i ≠ 2 * p' + i' by omega) with h1 | h1
  · have h2 := Nat.mul_le_mul_right (F.n + 2) (show 2 * p + i + 1 ≤ 2 * p' + i' by omega)
    rw [Nat.add_mul] at h2; omega
  · have h2 := Nat.mul_le_mul_right (F.n + 2) (show 2 * p' + i' + 1 ≤ 2 * p + i by omega)
    rw [Nat.add_mul] at h2; omega
/-- Two partitions, one sampling channel of n words: where its words lie. -/
def fr2 (n : Nat) (per : Int) : Fr := ⟨1, 12 + 4 * n, n, per⟩
def LL (m : List Int) : Nat := oddN (rd m 1)
def SS (m : List Int) (p : Nat) : Nat := oddN (rd m (2 + p))
def RR (n : Nat) (m : List Int) : Nat := oddN (rd m (12 + 4 * n))

def bf (N p i : Nat) : Nat := bufA (fr2 N 0) p i
/-- The length of message k. -/
def ml (N : Nat) (k : Int) : Int := 1 + k % (N : Int)
theorem ml_in {N : Nat} (h : 1 ≤ N) (k : Int) : 1 ≤ ml N k ∧ ml N k ≤ N := by
  unfold ml
  have h1 := Int.emod_nonneg k (show (N : Int) ≠ 0 by omega)
  have h2 := Int.emod_lt_of_pos k (show (0 : Int) < N by omega)
  omega
/-- A buffer holds message k whole (0: none yet). -/
def Whole (N : Nat) (m : List Int) (p i : Nat) (k : Int) : Prop := (k = 0 ∧ rd m (bf N p i) = 0) ∨ (1 ≤ k ∧ rd m (bf N p i) = ml N k ∧ ∀ j : Nat, (j : Int) < ml N k → rd m (bf N p i + 2 + j) = k)
theorem LL_le (m : List Int) : LL m ≤ 1 := oddN_le _
theorem SS_le (m : List Int) (p : Nat) : SS m p ≤ 1 := oddN_le _
theorem RR_le (N : Nat) (m : List Int) : RR N m ≤ 1 := oddN_le _
theorem bf_in {N p i : Nat} (hp : p ≤ 1) (hi : i ≤ 1) : 4 ≤ bf N p i ∧ bf N p i + (N + 2) ≤ 12 + 4 * N := by
  have := buf_in (fr2 N 0) hp hi
  unfold bf
  simp only [fr2] at *
  omega
theorem bf_apart {N p i p' i' : Nat} (hi : i ≤ 1) (hi' : i' ≤ 1) (h : ¬ (p = p' ∧ i = i')) : bf N p i + (N + 2) ≤ bf N p' i' ∨ bf N p' i' + (N + 2) ≤ bf N p i := buf_apart (fr2 N 0) hi hi' h
theorem LL_ne {m : List Int} {a : Nat} {v : Int} (h : a ≠ 1) : LL (m.set a v) = LL m := by unfold LL; rw [rd_ne h]
theorem SS_ne {m : List Int} {a p : Nat} {v : Int} (h : a ≠ 2 + p) : SS (m.set a v) p = SS m p := by unfold SS; rw [rd_ne h]
theorem RR_ne {N : Nat} {m : List Int} {a : Nat} {v : Int} (h : a ≠ 12 + 4 * N) : RR N (m.set a v) = RR N m := by unfold RR; rw [rd_ne h]
theorem LL_eq {m : List Int} {p : Nat} (hp : p ≤ 1) (h : 1 < m.length) : LL (m.set 1 (p : Int)) = p := by unfold LL; rw [rd_eq h, oddN_of hp]
theorem SS_eq {m : List Int} {p i : Nat} (hi : i ≤ 1) (h : 2 + p < m.length) : SS (m.set (2 + p) (i : Int)) p = i := by unfold SS; rw [rd_eq h, oddN_of hi]
theorem RR_eq {N : Nat} {m : List Int} {p : Nat} (hp : p ≤ 1) (h : 12 + 4 * N < m.length) : RR N (m.set (12 + 4 * N) (p : Int)) = p := by unfold RR; rw [rd_eq h, oddN_of hp]
theorem Whole.ne {N : Nat} {m : List Int} {p i a : Nat} {k v : Int} (h : Whole N m p i k) (hN : 1 ≤ N) (ha : a < bf N p i ∨ bf N p i + (N + 2) ≤ a) : Whole N (m.set a v) p i k := by
  have hm := ml_in hN k
  rcases h with ⟨h1, h2⟩ | ⟨h1, h2, h3⟩
  · exact .inl ⟨h1, by rw [rd_ne (by omega)]; exact h2⟩
  · exact .inr ⟨h1, by rw [rd_ne (by omega)]; exact h2, fun j hj => by rw [rd_ne (by omega)]; exact h3 j hj⟩
/-- What holds between the steps: c tells the messages in the buffers, wn, wp, wi the write (0: none is under way; n: its number, or the next one's), mk the last one that is marked, rn, rp, ri the read, fst what was marked ahead of it. -/
structure Inv (N : Nat) (m : List Int) (c : Nat → Nat → Int) (wn : Int) (wp wi : Nat) (n mk : Int) (rn : Int) (rp ri : Nat) (fst : Int) : Prop where
  hl : m.length = 13 + 4 * N
  hN : 1 ≤ N
  w0 : 0 ≤ wn ∧ wn ≤ 5 + ml N n
  w1 : 1 ≤ wn → wp ≤ 1
  w2 : 2 ≤ wn → wi ≤ 1
  i2 : 2 ≤ wn → wn ≤ 4 + ml N n → SS m wp = 1 - wi
  j1 : 1 ≤ wn → wp ≠ LL m → RR N m = LL m
  buf : ∀ p i, p ≤ 1 → i ≤ 1 → ¬ (3 ≤ wn ∧ wn ≤ 4 + ml N n ∧ p = wp ∧ i = wi) → Whole N m p i (c p i)
  par : 3 ≤ wn → wn ≤ 4 + ml N n → rd m (bf N wp wi) = ml N n ∧ ∀ j : Nat, (j : Int) < wn - 4 → rd m (bf N wp wi + 2 + j) = n
  cur : c (LL m) (SS m (LL m)) = mk
  oth : ∀ p, p ≤ 1 → c p (SS m p) ≤ mk ∨ (wn = 5 + ml N n ∧ p = wp ∧ p ≠ LL m)
  nx : wn ≤ 4 + ml N n → n = mk + 1
  fin : wn = 5 + ml N n → SS m wp = wi ∧ c wp wi = n ∧ (wp = LL m ∧ n = mk ∨ wp ≠ LL m ∧ n = mk + 1)
  pos : 0 ≤ mk ∧ ∀ p i, 0 ≤ c p i
  r1 : 1 ≤ rn → rp ≤ 1 ∧ fst ≤ mk
  j2 : rn = 1 → LL m ≠ rp → RR N m = rp
  j0 : 2 ≤ rn → RR N m = rp
  f1 : rn = 1 ∨ rn = 2 → fst ≤ c rp (SS m rp)
  f2 : 3 ≤ rn → ri ≤ 1 ∧ fst ≤ c rp ri ∧ c rp ri ≤ mk
  i3 : 3 ≤ rn → 1 ≤ wn → wn ≤ 4 + ml N n → wp = rp → SS m rp = ri
section
variable {N : Nat} {m : List Int} {c : Nat → Nat → Int} {wn n mk rn fst : Int} {wp wi rp ri : Nat}
theorem Inv.w_pick (h : Inv N m c 0 wp wi n mk rn rp ri fst) : Inv N m c 1 (1 - RR N m) wi n mk rn rp ri fst := by
  have hm := ml_in h.hN n
  have a1 := LL_le m; have a2 := RR_le N m
  exact { hl := h.hl, hN := h.hN, w0 := by omega, w1 := fun _ => by omega, w2 := fun x => by omega, i2 := fun x => by omega, j1 := fun _ x => by omega,
          buf := fun p i hp hi _ => h.buf p i hp hi (fun x => by omega), par := fun x => by omega, cur := h.cur,
          oth := fun p hp => .inl ((h.oth p hp).resolve_right (fun x => by omega)), nx := fun _ => h.nx (by omega), fin := fun x => by omega, pos := h.pos,
          r1 := h.r1, j2 := h.j2, j0 := h.j0, f1 := h.f1, f2 := h.f2, i3 := fun x _ _ y => by have := h.j0 (by omega); have := (h.r1 (by omega)).1; omega }
theorem Inv.w_index (h : Inv N m c 1 wp wi n mk rn rp ri fst) : Inv N m c 2 wp (1 - SS m wp) n mk rn rp ri fst := by
  have hm := ml_in h.hN n
  have a1 := SS_le m wp
  exact { hl := h.hl, hN := h.hN, w0 := by omega, w1 := fun _ => h.w1 (by omega), w2 := fun x => by omega, i2 := fun x _ => by omega, j1 := fun _ x => h.j1 (by omega) x,
          buf := fun p i hp hi _ => h.buf p i hp hi (fun x => by omega), par := fun x => by omega, cur := h.cur,
          oth := fun p hp => .inl ((h.oth p hp).resolve_right (fun x => by omega)), nx := fun _ => h.nx (by omega), fin := fun x => by omega, pos := h.pos,
          r1 := h.r1, j2 := h.j2, j0 := h.j0, f1 := h.f1, f2 := h.f2, i3 := fun x _ _ y => h.i3 x (by omega) (by omega) y }
/-- A store into the buffer that is being filled. -/
theorem Inv.w_fill {a : Nat} {v wn' : Int} (h : Inv N m c wn wp wi n mk rn rp ri fst) (h2 : 2 ≤ wn) (h3 : wn < 4 + ml N n) (hw : wn' = wn + 1) (ha : bf N wp wi ≤ a ∧ a < bf N wp wi + (N + 2))
    (hp : rd (m.set a v) (bf N wp wi) = ml N n ∧ ∀ j : Nat, (j : Int) < wn' - 4 → rd (m.set a v) (bf N wp wi + 2 + j) = n) : Inv N (m.set a v) c wn' wp wi n mk rn rp ri fst := by
  have hm := ml_in h.hN n
  have hw1 := h.w1 (by omega)
  have hw2 := h.w2 h2
  have hb := bf_in (N := N) hw1 hw2
  have hL : LL (m.set a v) = LL m := LL_ne (by omega)
  have hR : RR N (m.set a v) = RR N m := RR_ne (by omega)
  have hS : ∀ p, p ≤ 1 → SS (m.set a v) p = SS m p := fun p hp => SS_ne (by omega)
  have a1 := LL_le m
  exact { hl := by rw [List.length_set]; exact h.hl, hN := h.hN, w0 := by omega, w1 := fun _ => hw1, w2 := fun _ => hw2, i2 := fun _ _ => by rw [hS _ hw1]; exact h.i2 h2 (by omega), j1 := fun _ x => by rw [hL] at x ⊢; rw [hR]; exact h.j1 (by omega) x,
          buf := fun p i hp hi x => by
            have hne : ¬ (p = wp ∧ i = wi) := fun y => x ⟨by omega, by omega, y.1, y.2⟩
            have := bf_apart (N := N) hi hw2 hne
            exact (h.buf p i hp hi (fun y => hne ⟨y.2.2.1, y.2.2.2⟩)).ne h.hN (by omega),
          par := fun _ _ => hp, cur := by rw [hL, hS _ a1]; exact h.cur,
          oth := fun p hp => .inl (by rw [hS _ hp]; exact (h.oth p hp).resolve_right (fun x => by omega)), nx := fun _ => h.nx (by omega), fin := fun x => by omega, pos := h.pos,
          r1 := h.r1, j2 := fun x y => by rw [hL] at y; rw [hR]; exact h.j2 x y, j0 := fun x => by rw [hR]; exact h.j0 x,
          f1 := fun x => by rw [hS _ (h.r1 (by omega)).1]; exact h.f1 x, f2 := h.f2, i3 := fun x _ _ y => by rw [hS _ (h.r1 (by omega)).1]; exact h.i3 x (by omega) (by omega) y }
theorem Inv.w_len (h : Inv N m c 2 wp wi n mk rn rp ri fst) : Inv N (m.set (bf N wp wi) (ml N n)) c 3 wp wi n mk rn rp ri fst := by
  have hm := ml_in h.hN n
  have hb := bf_in (N := N) (h.w1 (by omega)) (h.w2 (by omega))
  exact h.w_fill (by omega) (by omega) rfl (by omega) ⟨rd_eq (by rw [h.hl]; omega), fun j hj => by omega⟩
theorem Inv.w_stamp (h : Inv N m c 3 wp wi n mk rn rp ri fst) (v : Int) : Inv N (m.set (bf N wp wi + 1) v) c 4 wp wi n mk rn rp ri fst := by
  have hm := ml_in h.hN n
  have hb := bf_in (N := N) (h.w1 (by omega)) (h.w2 (by omega))
  exact h.w_fill (by omega) (by omega) rfl (by omega) ⟨by rw [rd_ne (by omega)]; exact (h.par (by omega) (by omega)).1, fun j hj => by omega⟩
theorem Inv.w_word {k : Nat} (h : Inv N m c (4 + (k : Int)) wp wi n mk rn rp ri fst) (hk : (k : Int) < ml N n) : Inv N (m.set (bf N wp wi + 2 + k) n) c (5 + (k : Int)) wp wi n mk rn rp ri fst := by
  have hm := ml_in h.hN n
  have hb := bf_in (N := N) (h.w1 (by omega)) (h.w2 (by omega))
  have hp := h.par (by omega) (by omega)
  refine h.w_fill (by omega) (by omega) (by omega) (by omega) ⟨by rw [rd_ne (by omega)]; exact hp.1, fun j hj => ?_⟩
  by_cases e : j = k
  · subst e; exact rd_eq (by rw [h.hl]; omega)
  · rw [rd_ne (by omega)]; exact hp.2 j (by omega)
/-- The store of the index into the pair's slot: here, or behind it, the message is marked. -/
theorem Inv.w_slot (h : Inv N m c (4 + ml N n) wp wi n mk rn rp ri fst) : Inv N (m.set (2 + wp) (wi : Int)) (fun p i => if p = wp ∧ i = wi then n else c p i) (5 + ml N n) wp wi n (if wp = LL m then n else mk) rn rp ri fst := by
  have hm := ml_in h.hN n
  have hw1 := h.w1 (by omega)
  have hw2 := h.w2 (by omega)
  have hn := h.nx (by omega)
  have hpos := h.pos
  have hL : LL (m.set (2 + wp) (wi : Int)) = LL m := LL_ne (by omega)
  have hR : RR N (m.set (2 + wp) (wi : Int)) = RR N m := RR_ne (by omega)
  have hS : SS (m.set (2 + wp) (wi : Int)) wp = wi := SS_eq hw2 (by rw [h.hl]; omega)
  have hS' : ∀ p, p ≠ wp → SS (m.set (2 + wp) (wi : Int)) p = SS m p := fun p hp => SS_ne (by omega)
  have hmk : mk ≤ (if wp = LL m then n else mk) := by split <;> omega
  exact { hl := by rw [List.length_set]; exact h.hl, hN := h.hN, w0 := by omega, w1 := fun _ => hw1, w2 := fun _ => hw2, i2 := fun _ x => by omega, j1 := fun _ x => by rw [hL] at x ⊢; rw [hR]; exact h.j1 (by omega) x,
          buf := fun p i hp hi _ => by
            have hb := bf_in (N := N) hp hi
            by_cases e : p = wp ∧ i = wi
            · have hq := h.par (by omega) (by omega)
              rw [if_pos e]
              obtain ⟨rfl, rfl⟩ := e
              exact Whole.ne (.inr ⟨by omega, hq.1, fun j hj => hq.2 j (by omega)⟩) h.hN (by omega)
            · rw [if_neg e]
              exact (h.buf p i hp hi (fun y => e ⟨y.2.2.1, y.2.2.2⟩)).ne h.hN (by omega),
          par := fun _ x => by omega,
          cur := by
            rw [hL]
            by_cases e : wp = LL m
            · rw [if_pos e, ← e, hS, if_pos ⟨rfl, rfl⟩]
            · rw [if_neg e, hS' _ (fun x => e x.symm), if_neg (fun x => e x.1.symm)]; exact h.cur,
          oth := fun p hp => by
            by_cases e : p = wp
            · subst e
              rw [hS, hL, if_pos ⟨rfl, rfl⟩]
              by_cases e2 : p = LL m
              · rw [if_pos e2]; exact .inl (Int.le_refl _)
              · exact .inr ⟨rfl, rfl, e2⟩
            · rw [hS' _ e, if_neg (fun x => e x.1)]
              exact .inl (Int.le_trans ((h.oth p hp).resolve_right (fun x => e x.2.1)) hmk),
          nx := fun x => by omega,
          fin := fun _ => ⟨hS, if_pos ⟨rfl, rfl⟩, by
            rw [hL]
            by_cases e : wp = LL m
            · rw [if_pos e]; exact .inl ⟨e, rfl⟩
            · rw [if_neg e]; exact .inr ⟨e, hn⟩⟩,
          pos := ⟨by omega, fun p i => by split; omega; exact hpos.2 p i⟩,
          r1 := fun x => ⟨(h.r1 x).1, Int.le_trans (h.r1 x).2 hmk⟩, j2 := fun x y => by rw [hL] at y; rw [hR]; exact h.j2 x y, j0 := fun x => by rw [hR]; exact h.j0 x,
          f1 := fun x => by
            have := (h.r1 (by omega)).2
            by_cases e : rp = wp
            · rw [e, hS, if_pos ⟨rfl, rfl⟩]; omega
            · rw [hS' _ e, if_neg (fun y => e y.1)]; exact h.f1 x,
          f2 := fun x => by
            have h0 := h.f2 x
            have hne : ¬ (rp = wp ∧ ri = wi) := fun y => by
              have h1 := h.i3 x (by omega) (by omega) y.1.symm
              have h2 := h.i2 (by omega) (by omega)
              rw [y.1] at h1
              omega
            rw [if_neg hne]
            exact ⟨h0.1, h0.2.1, Int.le_trans h0.2.2 hmk⟩,
          i3 := fun _ _ x => by omega }
theorem Inv.w_latest (h : Inv N m c (5 + ml N n) wp wi n mk rn rp ri fst) : Inv N (m.set 1 (wp : Int)) c 0 wp wi (n + 1) n rn rp ri fst := by
  have hm := ml_in h.hN n
  have hm' := ml_in h.hN (n + 1)
  have hw1 := h.w1 (by omega)
  have hw2 := h.w2 (by omega)
  have hf := h.fin rfl
  have hpos := h.pos
  have hL : LL (m.set 1 (wp : Int)) = wp := LL_eq hw1 (by rw [h.hl]; omega)
  have hR : RR N (m.set 1 (wp : Int)) = RR N m := RR_ne (by omega)
  have hS : ∀ p, SS (m.set 1 (wp : Int)) p = SS m p := fun p => SS_ne (by omega)
  have hmk : mk ≤ n := by omega
  exact { hl := by rw [List.length_set]; exact h.hl, hN := h.hN, w0 := by omega, w1 := fun _ => hw1, w2 := fun _ => hw2, i2 := fun x => by omega, j1 := fun x => by omega,
          buf := fun p i hp hi _ => (h.buf p i hp hi (fun x => by omega)).ne h.hN (by have := bf_in (N := N) hp hi; omega),
          par := fun x => by omega, cur := by rw [hL, hS, hf.1]; exact hf.2.1,
          oth := fun p hp => .inl (by
            rw [hS]
            rcases h.oth p hp with x | ⟨_, rfl, _⟩
            · omega
            · rw [hf.1, hf.2.1]; exact Int.le_refl _),
          nx := fun _ => rfl, fin := fun x => by omega, pos := ⟨by omega, hpos.2⟩,
          r1 := fun x => ⟨(h.r1 x).1, by have := (h.r1 x).2; omega⟩,
          j2 := fun x y => by
            rw [hL] at y; rw [hR]
            by_cases e : LL m = rp
            · rw [h.j1 (by omega) (fun z => y (z.trans e))]; exact e
            · exact h.j2 x e,
          j0 := fun x => by rw [hR]; exact h.j0 x, f1 := fun x => by rw [hS]; exact h.f1 x,
          f2 := fun x => by have := h.f2 x; omega, i3 := fun _ x => by omega }
theorem Inv.r_latest (h : Inv N m c wn wp wi n mk 0 rp ri fst) : Inv N m c wn wp wi n mk 1 (LL m) ri mk :=
  { h with r1 := fun _ => ⟨LL_le m, Int.le_refl _⟩, j2 := fun _ x => absurd rfl x, j0 := fun x => by omega, f1 := fun _ => by rw [h.cur]; exact Int.le_refl _, f2 := fun x => by omega, i3 := fun x => by omega }
theorem Inv.r_reading (h : Inv N m c wn wp wi n mk 1 rp ri fst) : Inv N (m.set (12 + 4 * N) (rp : Int)) c wn wp wi n mk 2 rp ri fst := by
  have hrp := (h.r1 (by omega)).1
  have hL : LL (m.set (12 + 4 * N) (rp : Int)) = LL m := LL_ne (by omega)
  have hR : RR N (m.set (12 + 4 * N) (rp : Int)) = rp := RR_eq hrp (by rw [h.hl]; omega)
  have hS : ∀ p, p ≤ 1 → SS (m.set (12 + 4 * N) (rp : Int)) p = SS m p := fun p hp => SS_ne (by omega)
  have a1 := LL_le m
  exact { hl := by rw [List.length_set]; exact h.hl, hN := h.hN, w0 := h.w0, w1 := h.w1, w2 := h.w2, i2 := fun x y => by rw [hS _ (h.w1 (by omega))]; exact h.i2 x y,
          j1 := fun x y => by
            rw [hL] at y ⊢; rw [hR]
            have h1 := h.j1 x y
            by_cases e : LL m = rp
            · exact e.symm
            · have := h.j2 rfl e; omega,
          buf := fun p i hp hi x => (h.buf p i hp hi x).ne h.hN (by have := bf_in (N := N) hp hi; omega),
          par := fun x y => by
            have hb := bf_in (N := N) (h.w1 (by omega)) (h.w2 (by omega))
            have hm := ml_in h.hN n
            have hp := h.par x y
            exact ⟨by rw [rd_ne (by omega)]; exact hp.1, fun j hj => by rw [rd_ne (by omega)]; exact hp.2 j hj⟩,
          cur := by rw [hL, hS _ a1]; exact h.cur, oth := fun p hp => by rw [hS _ hp, hL]; exact h.oth p hp, nx := h.nx,
          fin := fun x => by rw [hS _ (h.w1 (by have := ml_in h.hN n; omega)), hL]; exact h.fin x, pos := h.pos,
          r1 := fun _ => h.r1 (by omega), j2 := fun x => by omega, j0 := fun _ => hR, f1 := fun _ => by rw [hS _ hrp]; exact h.f1 (.inl rfl), f2 := fun x => by omega, i3 := fun x => by omega }
theorem Inv.r_slot (h : Inv N m c wn wp wi n mk 2 rp ri fst) : Inv N m c wn wp wi n mk 3 rp (SS m rp) fst := by
  have hr := h.r1 (by omega)
  have hle : c rp (SS m rp) ≤ mk := by
    rcases h.oth rp hr.1 with x | ⟨x, y, z⟩
    · exact x
    · have h1 := h.j1 (by have := ml_in h.hN n; omega) (by rw [← y]; exact z)
      have h2 := h.j0 (by omega)
      omega
  exact { h with r1 := fun _ => hr, j2 := fun x => by omega, j0 := fun _ => h.j0 (by omega), f1 := fun x => by omega, f2 := fun _ => ⟨SS_le m rp, h.f1 (.inr rfl), hle⟩, i3 := fun _ _ _ _ => rfl }
theorem Inv.r_more {rn' : Int} (h : Inv N m c wn wp wi n mk rn rp ri fst) (h1 : 3 ≤ rn) (h2 : 3 ≤ rn') : Inv N m c wn wp wi n mk rn' rp ri fst :=
  { h with r1 := fun _ => h.r1 (by omega), j2 := fun x => by omega, j0 := fun _ => h.j0 (by omega), f1 := fun x => by omega, f2 := fun _ => h.f2 h1, i3 := fun _ => h.i3 h1 }
theorem Inv.r_done (h : Inv N m c wn wp wi n mk rn rp ri fst) (rp' ri' : Nat) (fst' : Int) : Inv N m c wn wp wi n mk 0 rp' ri' fst' :=
  { h with r1 := fun x => by omega, j2 := fun x => by omega, j0 := fun x => by omega, f1 := fun x => by omega, f2 := fun x => by omega, i3 := fun x => by omega }
/-- The buffer that is being read holds one message whole. -/
theorem Inv.whole (h : Inv N m c wn wp wi n mk rn rp ri fst) (h3 : 3 ≤ rn) : Whole N m rp ri (c rp ri) := by
  refine h.buf rp ri (h.r1 (by omega)).1 (h.f2 h3).1 fun x => ?_
  have h1 := h.i3 h3 (by omega) x.2.1 x.2.2.1.symm
  have h2 := h.i2 (by omega) x.2.1
  have h4 := h.w2 (by omega)
  rw [x.2.2.1] at h1
  omega
/-- The buffer that is being filled is another one than that which is being read. -/
theorem Inv.apart (h : Inv N m c wn wp wi n mk rn rp ri fst) (h3 : 3 ≤ rn) (h2 : 2 ≤ wn) (h4 : wn ≤ 4 + ml N n) : ¬ (wp = rp ∧ wi = ri) := fun x => by
  have h1 := h.i3 h3 (by omega) h4 x.1
  have h5 := h.i2 h2 h4
  have h6 := h.w2 h2
  rw [x.1] at h5
  omega
/-- The memory of zeros. -/
theorem inv_zero (hN : 1 ≤ N) (wp wi rp ri : Nat) (fst : Int) : Inv N (List.replicate (13 + 4 * N) 0) (fun _ _ => 0) 0 wp wi 1 0 0 rp ri fst := by
  have hm := ml_in hN 1
  have hr : ∀ a, rd (List.replicate (13 + 4 * N) 0) a = 0 := fun a => by
    unfold rd
    rw [List.getD_eq_getElem?_getD, List.getElem?_replicate]
    split <;> rfl
  exact { hl := by simp, hN := hN, w0 := by omega, w1 := fun x => by omega, w2 := fun x => by omega, i2 := fun x => by omega, j1 := fun x => by omega,
          buf := fun p i _ _ _ => .inl ⟨rfl, hr _⟩, par := fun x => by omega, cur := rfl, oth := fun _ _ => .inl (Int.le_refl _), nx := fun _ => rfl, fin := fun x => by omega,
          pos := ⟨Int.le_refl _, fun _ _ => Int.le_refl _⟩, r1 := fun x => by omega, j2 := fun x => by omega, j0 := fun x => by omega, f1 := fun x => by omega, f2 := fun x => by omega, i3 := fun x => by omega }
end
end Go.Proofs.YtmhpcgcloojfbaaGreatDoor.Simp

namespace Go.Proofs.YtmhpcgcloojfbaaGreatDoor.Simp
set_option linter.unusedVariables false
set_option linter.unusedSimpArgs false
/-- A writer that writes message n as words n, over and over, and a reader. -/
structure Pl where
  m : List Int
  w : Option FS
  r : Option FS
  n : Int
  written : Int
  marked : Int
  begun : Int
  first : Int
  last : Int
  steps : Int
  own : Int
def msg (N : Nat) (n : Int) : List Int := List.replicate (ml N n).toNat n
def begin_ (N : Nat) (P : Pl) : Pl := { P with n := P.n + 1, w := some (start (msg N (P.n + 1))), steps := 0 }
/-- A step of the write that is under way. -/
def wr1 (N : Nat) (per : Int) (P : Pl) (s : FS) (now : Int) : Pl × Bool :=
  let R := wstep (fr2 N per) s P.m now
  let mk := if R.2.2.mark then P.n else P.marked
  if R.2.2.done = false then ({ P with m := R.2.1, w := some R.1, steps := P.steps + 1, marked := mk }, decide (P.steps + 1 < 40))
  else ({ P with m := R.2.1, w := none, steps := P.steps + 1, marked := mk, written := P.n }, R.2.2.code == 0 && (decide (P.steps + 1 = ml N P.n + 6) && decide (mk = P.n)))
def playW (N : Nat) (per : Int) (P : Pl) (now : Int) : Pl × Bool :=
  match P.w with
  | none => wr1 N per (begin_ N P) (start (msg N (P.n + 1))) now
  | some s => wr1 N per P s now
/-- Is what was found all one message, and one that may be found? -/
def found (N : Nat) (P : Pl) (own : Int) (l : List Int) : Bool :=
  decide (own = (l.length : Int) + 5) && (l.all (fun x => x == l.getD 0 0) && (decide (P.begun ≤ l.getD 0 0) && (decide (P.first ≤ l.getD 0 0) && (decide (P.last ≤ l.getD 0 0) && (decide (1 ≤ l.getD 0 0) && (decide (l.getD 0 0 ≤ P.marked) && decide ((l.length : Int) = ml N (l.getD 0 0))))))))
def rd1 (N : Nat) (per : Int) (P : Pl) (t : FS) (now : Int) : Pl × Bool :=
  let R := rstep (fr2 N per) t P.m now
  if R.2.2.done = false then ({ P with m := R.2.1, r := some R.1, own := P.own + 1 }, decide (P.own + 1 < 40))
  else if R.2.2.code = 1 then ({ P with m := R.2.1, r := none, own := P.own + 1 }, decide (P.begun = 0) && (decide (P.first = 0) && (decide (P.last = 0) && (R.2.2.data.isEmpty && decide (P.own + 1 = 4)))))
  else if R.2.2.code ≠ 0 ∨ R.2.2.data = [] then ({ P with m := R.2.1, r := none, own := P.own + 1 }, false)
  else ({ P with m := R.2.1, r := none, own := P.own + 1, last := R.2.2.data.getD 0 0 }, found N P (P.own + 1) R.2.2.data)
def playR (N : Nat) (per : Int) (P : Pl) (now : Int) : Pl × Bool :=
  match P.r with
  | none => rd1 N per { P with r := some (start []), begun := P.written, first := P.marked, own := 0 } (start []) now
  | some t => rd1 N per P t now

section
variable {F : Fr} {s : FS} {m : List Int} {now : Int}
theorem ws0 (h : s.no = 0) : wstep F s m now = ({ s with no := 1, pair := 1 - oddN (rd m F.dst) }, m, did0) := by unfold wstep; rw [if_neg (by omega), if_pos h]
theorem ws1 (h : s.no = 1) : wstep F s m now = ({ s with no := 2, index := 1 - oddN (rd m (F.src + 1 + s.pair)) }, m, did0) := by unfold wstep; rw [if_neg (by omega), if_neg (by omega), if_pos h]
theorem ws2 (h : s.no = 2) : wstep F s m now = ({ s with no := 3 }, m.set (bufOf F s) s.data.length, { did0 with buffer := 1 + 2 * s.pair + s.index }) := by
  unfold wstep; rw [if_neg (by omega), if_neg (by omega), if_neg (by omega), if_pos h]
theorem ws3 (h : s.no = 3) : wstep F s m now = ({ s with no := 4 }, m.set (bufOf F s + 1) (now % 4294967296), { did0 with stamped := true }) := by
  unfold wstep; rw [if_neg (by omega), if_neg (by omega), if_neg (by omega), if_neg (by omega), if_pos h]
theorem ws4 {k : Nat} (h : s.no = 4 + (k : Int)) (hk : k < s.data.length) : wstep F s m now = ({ s with no := 5 + (k : Int) }, m.set (bufOf F s + 2 + k) (s.data.getD k 0), did0) := by
  unfold wstep; rw [if_neg (by omega), if_neg (by omega), if_neg (by omega), if_neg (by omega), if_neg (by omega), if_pos (by omega)]
  rw [show bufOf F s + (s.no - 2).toNat = bufOf F s + 2 + k by omega, show (s.no - 4).toNat = k by omega, show s.no + 1 = 5 + (k : Int) by omega]
theorem ws5 (h : s.no = 4 + (s.data.length : Int)) : wstep F s m now = ({ s with no := 5 + (s.data.length : Int), marked := decide (oddN (rd m F.src) = s.pair) }, m.set (F.src + 1 + s.pair) s.index, { did0 with mark := decide (oddN (rd m F.src) = s.pair) }) := by
  unfold wstep; rw [if_neg (by omega), if_neg (by omega), if_neg (by omega), if_neg (by omega), if_neg (by omega), if_neg (by omega), if_pos h, show s.no + 1 = 5 + (s.data.length : Int) by omega]
theorem ws6 (h : s.no = 5 + (s.data.length : Int)) : wstep F s m now = ({ s with no := -1 }, m.set F.src s.pair, { did0 with done := true, mark := !s.marked }) := by
  unfold wstep; rw [if_neg (by omega), if_neg (by omega), if_neg (by omega), if_neg (by omega), if_neg (by omega), if_neg (by omega), if_neg (by omega)]
theorem rs0 (h : s.no = 0) : rstep F s m now = ({ s with no := 1, pair := oddN (rd m F.src) }, m, did0) := by unfold rstep; rw [if_neg (by omega), if_pos h]
theorem rs1 (h : s.no = 1) : rstep F s m now = ({ s with no := 2 }, m.set F.dst s.pair, did0) := by unfold rstep; rw [if_neg (by omega), if_neg (by omega), if_pos h]
theorem rs2 (h : s.no = 2) : rstep F s m now = ({ s with no := 3, index := oddN (rd m (F.src + 1 + s.pair)) }, m, did0) := by unfold rstep; rw [if_neg (by omega), if_neg (by omega), if_neg (by omega), if_pos h]
theorem rs3z (h : s.no = 3) (hz : lenOf F (rd m (bufOf F s)) = 0) : rstep F s m now = ({ s with no := -1, len := 0 }, m, { did0 with done := true, code := 1, buffer := 1 + 2 * s.pair + s.index }) := by
  unfold rstep; rw [if_neg (by omega), if_neg (by omega), if_neg (by omega), if_neg (by omega), if_pos h, if_pos hz]
theorem rs3 (h : s.no = 3) (hz : lenOf F (rd m (bufOf F s)) ≠ 0) : rstep F s m now = ({ s with no := 4, len := lenOf F (rd m (bufOf F s)) }, m, { did0 with buffer := 1 + 2 * s.pair + s.index }) := by
  unfold rstep; rw [if_neg (by omega), if_neg (by omega), if_neg (by omega), if_neg (by omega), if_pos h, if_neg hz]
theorem rs4 (h : s.no = 4) : rstep F s m now = ({ s with no := 5, stamp := rd m (bufOf F s + 1) }, m, did0) := by
  unfold rstep; rw [if_neg (by omega), if_neg (by omega), if_neg (by omega), if_neg (by omega), if_neg (by omega), if_pos h]
theorem rs5 {k : Nat} (h : s.no = 5 + (k : Int)) (hl : (s.data.length : Int) + 1 ≠ s.len) : rstep F s m now = ({ s with no := 6 + (k : Int), data := s.data ++ [rd m (bufOf F s + 2 + k)] }, m, did0) := by
  unfold rstep; rw [if_neg (by omega), if_neg (by omega), if_neg (by omega), if_neg (by omega), if_neg (by omega), if_neg (by omega), if_neg hl, show bufOf F s + (s.no - 3).toNat = bufOf F s + 2 + k by omega, show s.no + 1 = 6 + (k : Int) by omega]
theorem rs6 {k : Nat} (h : s.no = 5 + (k : Int)) (hl : (s.data.length : Int) + 1 = s.len) : rstep F s m now = ({ s with no := -1, data := s.data ++ [rd m (bufOf F s + 2 + k)] }, m, { did0 with done := true, data := s.data ++ [rd m (bufOf F s + 2 + k)], valid := decide (now - s.stamp ≤ F.per) }) := by
  unfold rstep; rw [if_neg (by omega), if_neg (by omega), if_neg (by omega), if_neg (by omega), if_neg (by omega), if_neg (by omega), if_pos hl, show bufOf F s + (s.no - 3).toNat = bufOf F s + 2 + k by omega]
end
/-- The write that is under way, and the invariant's numbers. -/
structure WFit (N : Nat) (P : Pl) (s : FS) (wn : Int) (wp wi : Nat) (nn : Int) : Prop where
  hd : s.data = msg N P.n
  hno : s.no = wn
  hp : 1 ≤ wn → s.pair = wp
  hi : 2 ≤ wn → s.index = wi
  hm : wn = 5 + ml N P.n → s.marked = decide (LL P.m = wp)
  hn : nn = P.n
  hw : P.written = P.n - 1
  hs : P.steps = wn
structure RFit (N : Nat) (P : Pl) (t : FS) (c : Nat → Nat → Int) (rn : Int) (rp ri : Nat) : Prop where
  r0 : 1 ≤ rn
  hno : t.no = rn
  hp : t.pair = rp
  hi : 3 ≤ rn → t.index = ri
  ho : P.own = rn
  hb : 0 ≤ P.begun ∧ P.begun ≤ P.first
  hl : 0 ≤ P.last ∧ P.last ≤ P.first
  d0 : rn ≤ 4 → t.data = []
  d4 : 4 ≤ rn → 1 ≤ c rp ri ∧ t.len = ml N (c rp ri)
  d5 : 5 ≤ rn → t.data = List.replicate (rn - 5).toNat (c rp ri) ∧ rn - 5 < ml N (c rp ri)
def WOk (N : Nat) (P : Pl) (wn : Int) (wp wi : Nat) (nn : Int) : Prop := (P.w = none ∧ wn = 0 ∧ nn = P.n + 1 ∧ P.written = P.n) ∨ ∃ s, P.w = some s ∧ WFit N P s wn wp wi nn
def ROk (N : Nat) (P : Pl) (c : Nat → Nat → Int) (rn : Int) (rp ri : Nat) : Prop := (P.r = none ∧ rn = 0) ∨ ∃ t, P.r = some t ∧ RFit N P t c rn rp ri
def PInv (N : Nat) (P : Pl) : Prop := ∃ c wn wp wi nn rn rp ri, Inv N P.m c wn wp wi nn P.marked rn rp ri P.first ∧ WOk N P wn wp wi nn ∧ ROk N P c rn rp ri ∧ 0 ≤ P.written ∧ P.written ≤ P.marked ∧ 0 ≤ P.last ∧ P.last ≤ P.marked ∧ N ≤ 16
theorem msg_len {N : Nat} (hN : 1 ≤ N) (n : Int) : ((msg N n).length : Int) = ml N n := by
  have := ml_in hN n
  unfold msg; rw [List.length_replicate]; omega
theorem msg_at {N k : Nat} {n : Int} (hN : 1 ≤ N) (hk : (k : Int) < ml N n) : (msg N n).getD k 0 = n := by
  unfold msg
  rw [List.getD_eq_getElem?_getD, List.getElem?_replicate, if_pos (by omega)]; rfl
theorem ROk.of {N : Nat} {P Q : Pl} {c c' : Nat → Nat → Int} {rn : Int} {rp ri : Nat} (h : ROk N P c rn rp ri) (hr : Q.r = P.r) (ho : Q.own = P.own) (hb : Q.begun = P.begun) (hf : Q.first = P.first) (hl : Q.last = P.last)
    (hc : 4 ≤ rn → c' rp ri = c rp ri) : ROk N Q c' rn rp ri := by
  rcases h with ⟨h1, h2⟩ | ⟨t, h1, h2⟩
  · exact .inl ⟨hr.trans h1, h2⟩
  · exact .inr ⟨t, hr.trans h1, { r0 := h2.r0, hno := h2.hno, hp := h2.hp, hi := h2.hi, ho := ho.trans h2.ho, hb := by rw [hb, hf]; exact h2.hb, hl := by rw [hl, hf]; exact h2.hl, d0 := h2.d0, d4 := fun x => by rw [hc x]; exact h2.d4 x, d5 := fun x => by rw [hc (by omega)]; exact h2.d5 x }⟩
/-- What a step of a write changes: at most one word of the source's. -/
def Own1 (N : Nat) (m m' : List Int) : Prop := m' = m ∨ ∃ a v, 1 ≤ a ∧ a < 12 + 4 * N ∧ m' = m.set a v
theorem wr1_of {N : Nat} {per now : Int} {P : Pl} {s s' : FS} {m' : List Int} {d : Did} {k : Int} (e : wstep (fr2 N per) s P.m now = (s', m', d)) (hd : d.done = false) (hk : (if d.mark then P.n else P.marked) = k) :
    wr1 N per P s now = ({ P with m := m', w := some s', steps := P.steps + 1, marked := k }, decide (P.steps + 1 < 40)) := by unfold wr1; rw [e]; simp only; rw [if_pos hd, hk]
theorem wr1_end {N : Nat} {per now : Int} {P : Pl} {s s' : FS} {m' : List Int} {d : Did} {k : Int} (e : wstep (fr2 N per) s P.m now = (s', m', d)) (hd : d.done = true) (hc : d.code = 0) (hk : (if d.mark then P.n else P.marked) = k) :
    wr1 N per P s now = ({ P with m := m', w := none, steps := P.steps + 1, marked := k, written := P.n }, decide (P.steps + 1 = ml N P.n + 6) && decide (k = P.n)) := by
  unfold wr1; rw [e]; simp only; rw [if_neg (by rw [hd]; decide), hk, hc]; rfl
theorem wr1_ok {N : Nat} {per : Int} {P : Pl} {s : FS} {c : Nat → Nat → Int} {wn nn rn : Int} {wp wi rp ri : Nat} (h : Inv N P.m c wn wp wi nn P.marked rn rp ri P.first) (hw : WFit N P s wn wp wi nn) (hr : ROk N P c rn rp ri)
    (h0 : 0 ≤ P.written) (h1 : P.written ≤ P.marked) (h2 : 0 ≤ P.last) (h3 : P.last ≤ P.marked) (hN : N ≤ 16) (now : Int) : (wr1 N per P s now).2 = true ∧ PInv N (wr1 N per P s now).1 ∧ Own1 N P.m (wr1 N per P s now).1.m := by
  have hm := ml_in h.hN P.n
  have hlen : (s.data.length : Int) = ml N P.n := by rw [hw.hd]; exact msg_len h.hN _
  obtain ⟨e1, e2, e3, e4, e5, e6, e7, e8⟩ := hw
  subst e6
  have w0 := h.w0
  have nx := h.nx
  have hpos := h.pos
  by_cases z0 : wn = 0
  · subst z0
    rw [wr1_of (ws0 e2) rfl rfl]
    exact ⟨decide_eq_true (by omega), ⟨c, 1, _, wi, P.n, rn, rp, ri, h.w_pick, .inr ⟨_, rfl, ⟨e1, rfl, fun _ => rfl, fun x => by omega, fun x => absurd (show (1 : Int) = 5 + ml N P.n from x) (by omega), rfl, e7, show P.steps + 1 = _ by omega⟩⟩, hr.of rfl rfl rfl rfl rfl (fun _ => rfl), h0, h1, h2, h3, hN⟩, .inl rfl⟩
  by_cases z1 : wn = 1
  · subst z1
    have ep := e3 (by omega)
    rw [wr1_of (ws1 e2) rfl rfl]
    have hix : 1 - oddN (rd P.m (1 + 1 + s.pair)) = 1 - SS P.m wp := by rw [ep]; rfl
    exact ⟨decide_eq_true (by omega), ⟨c, 2, wp, _, P.n, rn, rp, ri, h.w_index, .inr ⟨_, rfl, ⟨e1, rfl, fun _ => ep, fun _ => hix, fun x => absurd (show (2 : Int) = 5 + ml N P.n from x) (by omega), rfl, e7, show P.steps + 1 = _ by omega⟩⟩, hr.of rfl rfl rfl rfl rfl (fun _ => rfl), h0, h1, h2, h3, hN⟩, .inl rfl⟩
  have ep := e3 (by omega)
  have ei := e4 (by omega)
  have hbuf : bufOf (fr2 N per) s = bf N wp wi := by unfold bufOf; rw [ep, ei]; rfl
  have hwp := h.w1 (by omega)
  have hwi := h.w2 (by omega)
  have hb := bf_in (N := N) hwp hwi
  by_cases z2 : wn = 2
  · subst z2
    rw [wr1_of (ws2 e2) rfl rfl, hbuf, hlen]
    exact ⟨decide_eq_true (by omega), ⟨c, 3, wp, wi, P.n, rn, rp, ri, h.w_len, .inr ⟨_, rfl, ⟨e1, rfl, fun _ => ep, fun _ => ei, fun x => absurd (show (3 : Int) = 5 + ml N P.n from x) (by omega), rfl, e7, show P.steps + 1 = _ by omega⟩⟩, hr.of rfl rfl rfl rfl rfl (fun _ => rfl), h0, h1, h2, h3, hN⟩, .inr ⟨_, _, by omega, by omega, rfl⟩⟩
  by_cases z3 : wn = 3
  · subst z3
    rw [wr1_of (ws3 e2) rfl rfl, hbuf]
    exact ⟨decide_eq_true (by omega), ⟨c, 4, wp, wi, P.n, rn, rp, ri, h.w_stamp _, .inr ⟨_, rfl, ⟨e1, rfl, fun _ => ep, fun _ => ei, fun x => absurd (show (4 : Int) = 5 + ml N P.n from x) (by omega), rfl, e7, show P.steps + 1 = _ by omega⟩⟩, hr.of rfl rfl rfl rfl rfl (fun _ => rfl), h0, h1, h2, h3, hN⟩, .inr ⟨_, _, by omega, by omega, rfl⟩⟩
  by_cases z4 : wn < 4 + ml N P.n
  · obtain ⟨k, rfl⟩ : ∃ k : Nat, wn = 4 + (k : Int) := ⟨(wn - 4).toNat, by omega⟩
    have hwd : s.data.getD k 0 = P.n := by rw [e1]; exact msg_at h.hN (by omega)
    rw [wr1_of (ws4 e2 (by omega)) rfl rfl, hbuf, hwd]
    exact ⟨decide_eq_true (by omega), ⟨c, 5 + (k : Int), wp, wi, P.n, rn, rp, ri, h.w_word (by omega), .inr ⟨_, rfl, ⟨e1, rfl, fun _ => ep, fun _ => ei, fun x => absurd (show 5 + (k : Int) = 5 + ml N P.n from x) (by omega), rfl, e7, show P.steps + 1 = _ by omega⟩⟩, hr.of rfl rfl rfl rfl rfl (fun _ => rfl), h0, h1, h2, h3, hN⟩, .inr ⟨_, _, by omega, by omega, rfl⟩⟩
  by_cases z5 : wn = 4 + ml N P.n
  · subst z5
    have hS := h.w_slot
    have hcc : 4 ≤ rn → (fun p i => if p = wp ∧ i = wi then P.n else c p i) rp ri = c rp ri := fun x => if_neg (fun y => h.apart (by omega) (by omega) (by omega) ⟨y.1.symm, y.2.symm⟩)
    have hL : LL (P.m.set (2 + wp) (wi : Int)) = LL P.m := LL_ne (by omega)
    have hdq : decide (oddN (rd P.m (fr2 N per).src) = s.pair) = decide (LL P.m = wp) := by rw [ep]; rfl
    have hmk : P.marked ≤ (if wp = LL P.m then P.n else P.marked) := by split <;> omega
    rw [wr1_of (k := if wp = LL P.m then P.n else P.marked) (ws5 (by omega)) rfl (by
      show (if decide (oddN (rd P.m (fr2 N per).src) = s.pair) = true then P.n else P.marked) = _
      rw [hdq]
      by_cases e : wp = LL P.m
      · rw [if_pos e, decide_eq_true e.symm, if_pos rfl]
      · rw [if_neg e, decide_eq_false (fun x => e x.symm)]; rfl), hdq, hlen, show (fr2 N per).src + 1 + s.pair = 2 + wp by rw [ep]; rfl, ei]
    exact ⟨decide_eq_true (by omega), ⟨_, 5 + ml N P.n, wp, wi, P.n, rn, rp, ri, hS, .inr ⟨_, rfl, ⟨e1, rfl, fun _ => ep, fun _ => (by first | exact ei | rfl), fun _ => by show decide (LL P.m = wp) = decide (LL (P.m.set (2 + wp) (wi : Int)) = wp); rw [hL], rfl, e7, show P.steps + 1 = _ by omega⟩⟩, hr.of rfl rfl rfl rfl rfl hcc, h0, (Int.le_trans h1 hmk), h2, (Int.le_trans h3 hmk), hN⟩, .inr ⟨_, _, by omega, by omega, rfl⟩⟩
  · have z6 : wn = 5 + ml N P.n := by omega
    subst z6
    have hf := h.fin rfl
    have hmd := e5 rfl
    rw [wr1_end (k := P.n) (ws6 (by omega)) rfl rfl (by
      show (if (!s.marked) = true then P.n else P.marked) = P.n
      rw [hmd]
      rcases hf.2.2 with ⟨x, y⟩ | ⟨x, y⟩
      · rw [decide_eq_true x.symm]; exact y.symm
      · rw [decide_eq_false (fun z => x z.symm)]; rfl), show (fr2 N per).src = 1 from rfl, ep]
    exact ⟨by rw [decide_eq_true (show P.steps + 1 = ml N P.n + 6 by omega), decide_eq_true rfl]; rfl, ⟨c, 0, wp, wi, P.n + 1, rn, rp, ri, h.w_latest, .inl ⟨rfl, rfl, rfl, rfl⟩, hr.of rfl rfl rfl rfl rfl (fun _ => rfl), show 0 ≤ P.n by omega, Int.le_refl _, h2, show P.last ≤ P.n by omega, hN⟩, .inr ⟨_, _, by omega, by omega, rfl⟩⟩
theorem playW_ok {N : Nat} {per : Int} {P : Pl} (h : PInv N P) (now : Int) : (playW N per P now).2 = true ∧ PInv N (playW N per P now).1 ∧ Own1 N P.m (playW N per P now).1.m := by
  obtain ⟨c, wn, wp, wi, nn, rn, rp, ri, hi, hw, hr, h0, h1, h2, h3, hN⟩ := h
  unfold playW
  rcases hw with ⟨e, rfl, rfl, hwr⟩ | ⟨s, e, hf⟩
  · rw [e]
    have hb : ROk N (begin_ N P) c rn rp ri := hr.of rfl rfl rfl rfl rfl (fun _ => rfl)
    exact wr1_ok (P := begin_ N P) hi ⟨rfl, rfl, fun x => by omega, fun x => by omega, fun x => by
      have := ml_in hi.hN (begin_ N P).n
      exact absurd x (by omega), rfl, show P.written = P.n + 1 - 1 by omega, rfl⟩ hb h0 h1 h2 h3 hN now
  · rw [e]
    exact wr1_ok hi hf hr h0 h1 h2 h3 hN now
theorem rd1_of {N : Nat} {per now : Int} {P : Pl} {t t' : FS} {m' : List Int} {d : Did} (e : rstep (fr2 N per) t P.m now = (t', m', d)) (hd : d.done = false) :
    rd1 N per P t now = ({ P with m := m', r := some t', own := P.own + 1 }, decide (P.own + 1 < 40)) := by unfold rd1; rw [e]; simp only; rw [if_pos hd]
theorem rd1_none {N : Nat} {per now : Int} {P : Pl} {t t' : FS} {m' : List Int} {d : Did} (e : rstep (fr2 N per) t P.m now = (t', m', d)) (hd : d.done = true) (hc : d.code = 1) (hl : d.data = []) :
    rd1 N per P t now = ({ P with m := m', r := none, own := P.own + 1 }, decide (P.begun = 0) && (decide (P.first = 0) && (decide (P.last = 0) && decide (P.own + 1 = 4)))) := by
  unfold rd1; rw [e]; simp only; rw [if_neg (by rw [hd]; decide), if_pos hc, hl]; rfl
theorem rd1_end {N : Nat} {per now : Int} {P : Pl} {t t' : FS} {m' l : List Int} {d : Did} (e : rstep (fr2 N per) t P.m now = (t', m', d)) (hd : d.done = true) (hc : d.code = 0) (hl : d.data = l) (hn : l ≠ []) :
    rd1 N per P t now = ({ P with m := m', r := none, own := P.own + 1, last := l.getD 0 0 }, found N P (P.own + 1) l) := by
  unfold rd1; rw [e]; simp only; rw [if_neg (by rw [hd]; decide), if_neg (by rw [hc]; decide), hl, if_neg (by rw [hc]; simp [hn])]
/-- What a step of a read changes: at most the destination's word. -/
def Own2 (N : Nat) (m m' : List Int) : Prop := m' = m ∨ ∃ v, m' = m.set (12 + 4 * N) v
theorem WOk.of {N : Nat} {P Q : Pl} {wn nn : Int} {wp wi : Nat} (h : WOk N P wn wp wi nn) (hw : Q.w = P.w) (hn : Q.n = P.n) (hr : Q.written = P.written) (hs : Q.steps = P.steps) (hL : LL Q.m = LL P.m) : WOk N Q wn wp wi nn := by
  rcases h with ⟨h1, h2, h3, h4⟩ | ⟨s, h1, h2⟩
  · exact .inl ⟨hw.trans h1, h2, by rw [hn]; exact h3, by rw [hr, hn]; exact h4⟩
  · exact .inr ⟨s, hw.trans h1, { hd := by rw [hn]; exact h2.hd, hno := h2.hno, hp := h2.hp, hi := h2.hi, hm := fun x => by rw [hL]; rw [hn] at x; exact h2.hm x, hn := by rw [hn]; exact h2.hn, hw := by rw [hr, hn]; exact h2.hw, hs := hs.trans h2.hs }⟩
theorem found_ok {N : Nat} {P : Pl} {own k : Int} {j : Nat} (hj : 1 ≤ j) (hk : (j : Int) = ml N k) (ho : own = (j : Int) + 5) (h1 : P.begun ≤ k) (h2 : P.first ≤ k) (h3 : P.last ≤ k) (h4 : 1 ≤ k) (h5 : k ≤ P.marked) :
    found N P own (List.replicate j k) = true := by
  have hg : (List.replicate j k).getD 0 0 = k := by rw [List.getD_eq_getElem?_getD, List.getElem?_replicate, if_pos (by omega)]; rfl
  unfold found
  rw [hg, List.length_replicate, decide_eq_true ho, decide_eq_true h1, decide_eq_true h2, decide_eq_true h3, decide_eq_true h4, decide_eq_true h5, decide_eq_true hk]
  simp
/-- A step of the read that is under way (rn steps were done; 0: it begins now). -/
theorem rd1_ok {N : Nat} {per : Int} {P : Pl} {t : FS} {c : Nat → Nat → Int} {wn nn rn : Int} {wp wi rp ri : Nat} (h : Inv N P.m c wn wp wi nn P.marked rn rp ri P.first) (hw : WOk N P wn wp wi nn) (hr : RFit N P t c rn rp ri)
    (h0 : 0 ≤ P.written) (h1 : P.written ≤ P.marked) (h2 : 0 ≤ P.last) (h3 : P.last ≤ P.marked) (hN : N ≤ 16) (now : Int) : (rd1 N per P t now).2 = true ∧ PInv N (rd1 N per P t now).1 ∧ Own2 N P.m (rd1 N per P t now).1.m := by
  obtain ⟨e0, e2, ep, e3, e4, eb, el, d0, d4, d5⟩ := hr
  have hr1 := h.r1 e0
  by_cases z1 : rn = 1
  · subst z1
    rw [rd1_of (rs1 e2) rfl, ep]
    exact ⟨decide_eq_true (by omega), ⟨c, wn, wp, wi, nn, 2, rp, ri, h.r_reading, hw.of rfl rfl rfl rfl (LL_ne (by show 12 + 4 * N ≠ 1; omega)), .inr ⟨_, rfl, ⟨by omega, rfl, by first | exact ep | rfl, fun x => by omega, show P.own + 1 = 2 by omega, eb, el, fun _ => d0 (by omega), fun x => by omega, fun x => by omega⟩⟩, h0, h1, h2, h3, hN⟩, .inr ⟨_, rfl⟩⟩
  by_cases z2 : rn = 2
  · subst z2
    rw [rd1_of (rs2 e2) rfl]
    have hix : oddN (rd P.m (1 + 1 + t.pair)) = SS P.m rp := by rw [ep]; rfl
    exact ⟨decide_eq_true (by omega), ⟨c, wn, wp, wi, nn, 3, rp, _, h.r_slot, hw.of rfl rfl rfl rfl rfl, .inr ⟨_, rfl, ⟨by omega, rfl, ep, fun _ => hix, show P.own + 1 = 3 by omega, eb, el, fun _ => d0 (by omega), fun x => by omega, fun x => by omega⟩⟩, h0, h1, h2, h3, hN⟩, .inl rfl⟩
  have h3r : 3 ≤ rn := by omega
  have ei := e3 h3r
  have hbuf : bufOf (fr2 N per) t = bf N rp ri := by unfold bufOf; rw [ep, ei]; rfl
  have hf2 := h.f2 h3r
  have hwh := h.whole h3r
  have hm := ml_in h.hN (c rp ri)
  by_cases z3 : rn = 3
  · subst z3
    rcases hwh with ⟨k0, k1⟩ | ⟨k1, k2, k3⟩
    · rw [rd1_none (rs3z e2 (by rw [hbuf, k1]; unfold lenOf; split <;> omega)) rfl rfl rfl]
      exact ⟨by rw [decide_eq_true (show P.begun = 0 by omega), decide_eq_true (show P.first = 0 by omega), decide_eq_true (show P.last = 0 by omega), decide_eq_true (show P.own + 1 = 4 by omega)]; rfl, ⟨c, wn, wp, wi, nn, 0, rp, ri, h.r_done _ _ _, hw.of rfl rfl rfl rfl rfl, .inl ⟨rfl, rfl⟩, h0, h1, h2, h3, hN⟩, .inl rfl⟩
    · have hlo : lenOf (fr2 N per) (rd P.m (bf N rp ri)) = ml N (c rp ri) := by rw [k2]; exact if_pos hm.2
      rw [rd1_of (rs3 e2 (by rw [hbuf, hlo]; omega)) rfl, hbuf, hlo]
      exact ⟨decide_eq_true (by omega), ⟨c, wn, wp, wi, nn, 4, rp, ri, h.r_more (by omega) (by omega), hw.of rfl rfl rfl rfl rfl, .inr ⟨_, rfl, ⟨by omega, rfl, ep, fun _ => ei, show P.own + 1 = 4 by omega, eb, el, fun _ => d0 (by omega), fun _ => ⟨k1, rfl⟩, fun x => by omega⟩⟩, h0, h1, h2, h3, hN⟩, .inl rfl⟩
  obtain ⟨hc1, hlen⟩ := d4 (by omega)
  by_cases z4 : rn = 4
  · subst z4
    rw [rd1_of (rs4 e2) rfl]
    exact ⟨decide_eq_true (by omega), ⟨c, wn, wp, wi, nn, 5, rp, ri, h.r_more (by omega) (by omega), hw.of rfl rfl rfl rfl rfl, .inr ⟨_, rfl, ⟨by omega, rfl, ep, fun _ => ei, show P.own + 1 = 5 by omega, eb, el, fun x => by omega, fun _ => ⟨hc1, hlen⟩, fun _ => ⟨d0 (by omega), by omega⟩⟩⟩, h0, h1, h2, h3, hN⟩, .inl rfl⟩
  obtain ⟨k, rfl⟩ : ∃ k : Nat, rn = 5 + (k : Int) := ⟨(rn - 5).toNat, by omega⟩
  obtain ⟨hd, hdl⟩ := d5 (by omega)
  rw [show (5 + (k : Int) - 5).toNat = k by omega] at hd
  have hwd : rd P.m (bf N rp ri + 2 + k) = c rp ri := by
    rcases hwh with ⟨k0, _⟩ | ⟨_, _, k3⟩
    · omega
    · exact k3 k (by omega)
  have happ : t.data ++ [rd P.m (bf N rp ri + 2 + k)] = List.replicate (k + 1) (c rp ri) := by rw [hwd, hd, List.replicate_succ']
  have hdlen : (t.data.length : Int) = k := by rw [hd, List.length_replicate]
  by_cases z5 : (k : Int) + 1 = ml N (c rp ri)
  · have hne : List.replicate (k + 1) (c rp ri) ≠ [] := by simp
    rw [rd1_end (l := List.replicate (k + 1) (c rp ri)) (rs6 e2 (by omega)) rfl rfl (by rw [hbuf]; exact happ) hne]
    have hg : (List.replicate (k + 1) (c rp ri)).getD 0 0 = c rp ri := by rw [List.getD_eq_getElem?_getD, List.getElem?_replicate, if_pos (by omega)]; rfl
    exact ⟨found_ok (by omega) (by omega) (by omega) (by omega) (by omega) (by omega) hc1 hf2.2.2, ⟨c, wn, wp, wi, nn, 0, rp, ri, h.r_done _ _ _, hw.of rfl rfl rfl rfl rfl, .inl ⟨rfl, rfl⟩, h0, h1, (show 0 ≤ (List.replicate (k + 1) (c rp ri)).getD 0 0 by rw [hg]; omega), (show (List.replicate (k + 1) (c rp ri)).getD 0 0 ≤ P.marked by rw [hg]; exact hf2.2.2), hN⟩, .inl rfl⟩
  · rw [rd1_of (rs5 e2 (by omega)) rfl, hbuf, happ]
    exact ⟨decide_eq_true (by omega), ⟨c, wn, wp, wi, nn, 6 + (k : Int), rp, ri, h.r_more (by omega) (by omega), hw.of rfl rfl rfl rfl rfl, .inr ⟨_, rfl, ⟨by omega, rfl, ep, fun _ => ei, show P.own + 1 = 6 + (k : Int) by omega, eb, el, fun x => by omega, fun _ => ⟨hc1, hlen⟩, fun _ => ⟨by rw [show (6 + (k : Int) - 5).toNat = k + 1 by omega], by omega⟩⟩⟩, h0, h1, h2, h3, hN⟩, .inl rfl⟩
theorem playR_ok {N : Nat} {per : Int} {P : Pl} (h : PInv N P) (now : Int) : (playR N per P now).2 = true ∧ PInv N (playR N per P now).1 ∧ Own2 N P.m (playR N per P now).1.m := by
  obtain ⟨c, wn, wp, wi, nn, rn, rp, ri, hi, hw, hr, h0, h1, h2, h3, hN⟩ := h
  unfold playR
  rcases hr with ⟨e, rfl⟩ | ⟨t, e, hf⟩
  · rw [e]
    have hL : oddN (rd P.m (fr2 N per).src) = LL P.m := rfl
    simp only
    rw [rd1_of (P := { P with r := some (start []), begun := P.written, first := P.marked, own := 0 }) (rs0 (s := start []) rfl) rfl]
    exact ⟨by rfl, ⟨c, wn, wp, wi, nn, 1, LL P.m, ri, hi.r_latest, hw.of rfl rfl rfl rfl rfl, .inr ⟨_, rfl, ⟨by omega, rfl, rfl, fun x => by omega, rfl, ⟨h0, h1⟩, ⟨h2, h3⟩, fun _ => rfl, fun x => by omega, fun x => by omega⟩⟩, h0, h1, h2, h3, hN⟩, .inl rfl⟩
  · rw [e]
    exact rd1_ok hi hw hf h0 h1 h2 h3 hN now
/-- The play's beginning: a memory of zeros. -/
theorem play_zero {N : Nat} (h1 : 1 ≤ N) (h2 : N ≤ 16) : PInv N ⟨List.replicate (13 + 4 * N) 0, none, none, 0, 0, 0, 0, 0, 0, 0, 0⟩ :=
  ⟨_, 0, 0, 0, 1, 0, 0, 0, inv_zero h1 0 0 0 0 0, .inl ⟨rfl, rfl, rfl, rfl⟩, .inl ⟨rfl, rfl⟩, Int.le_refl _, Int.le_refl _, Int.le_refl _, Int.le_refl _, h2⟩
end Go.Proofs.YtmhpcgcloojfbaaGreatDoor.Simp

namespace Go.Proofs.YtmhpcgcloojfbaaGreatDoor.Simp
set_option linter.unusedVariables false
set_option linter.unusedSimpArgs false
/-- What keeps the two buffers apart, whatever the words are: wl words a message. -/
structure InvA (N : Nat) (m : List Int) (wl : Nat) (wn : Int) (wp wi : Nat) (rn : Int) (rp ri : Nat) : Prop where
  hl : m.length = 13 + 4 * N
  hN : 1 ≤ wl ∧ wl ≤ N
  w0 : 0 ≤ wn ∧ wn ≤ 5 + (wl : Int)
  w1 : 1 ≤ wn → wp ≤ 1
  w2 : 2 ≤ wn → wi ≤ 1
  i2 : 2 ≤ wn → wn ≤ 4 + (wl : Int) → SS m wp = 1 - wi
  r0 : 0 ≤ rn
  r1 : 1 ≤ rn → rp ≤ 1
  j0 : 2 ≤ rn → RR N m = rp
  r3 : 3 ≤ rn → ri ≤ 1
  i3 : 3 ≤ rn → 1 ≤ wn → wn ≤ 4 + (wl : Int) → wp = rp → SS m rp = ri
theorem InvA.apart {N wl wp wi rp ri : Nat} {m : List Int} {wn rn : Int} (h : InvA N m wl wn wp wi rn rp ri) (h3 : 3 ≤ rn) (h2 : 2 ≤ wn) (h4 : wn ≤ 4 + (wl : Int)) : 2 * wp + wi ≠ 2 * rp + ri := fun x => by
  have h6 := h.w2 h2
  have h7 := h.r3 h3
  have h8 : wp = rp := by omega
  have h1 := h.i3 h3 (by omega) h4 h8
  have h5 := h.i2 h2 h4
  rw [h8] at h5
  omega
/-- A write of wl words that has done wn steps. -/
structure WA (wl : Nat) (s : FS) (wn : Int) (wp wi : Nat) : Prop where
  hd : s.data.length = wl
  hno : s.no = wn
  hp : 1 ≤ wn → s.pair = wp
  hi : 2 ≤ wn → s.index = wi
structure RA (t : FS) (rn : Int) (rp ri : Nat) : Prop where
  hno : t.no = rn
  hp : 1 ≤ rn → t.pair = rp
  hi : 3 ≤ rn → t.index = ri
/-- A step of the write keeps them apart: the next state, the memory, what is told. -/
theorem wstep_apart {N wl wp wi rp ri : Nat} {per now : Int} {m : List Int} {s : FS} {wn rn : Int} (h : InvA N m wl wn wp wi rn rp ri) (hs : WA wl s wn wp wi) :
    ∃ wp' wi', (wn < 5 + (wl : Int) → (wstep (fr2 N per) s m now).2.2.done = false ∧ WA wl (wstep (fr2 N per) s m now).1 (wn + 1) wp' wi' ∧ InvA N (wstep (fr2 N per) s m now).2.1 wl (wn + 1) wp' wi' rn rp ri)
      ∧ (wn = 5 + (wl : Int) → (wstep (fr2 N per) s m now).2.2.done = true ∧ InvA N (wstep (fr2 N per) s m now).2.1 wl 0 wp' wi' rn rp ri)
      ∧ (2 ≤ wn → wp' = wp ∧ wi' = wi) ∧ (wstep (fr2 N per) s m now).2.2.buffer = if wn = 2 then 1 + 2 * (wp : Int) + wi else 0 := by
  obtain ⟨e1, e2, e3, e4⟩ := hs
  have hN := h.hN
  have hw0 := h.w0
  have hr0 := h.r0
  by_cases z0 : wn = 0
  · subst z0
    have a2 := RR_le N m
    rw [ws0 e2]
    refine ⟨1 - RR N m, wi, fun _ => ⟨rfl, ⟨e1, rfl, fun _ => rfl, fun x => by omega⟩, { hl := h.hl, hN := hN, w0 := by omega, w1 := fun _ => by omega, w2 := fun x => by omega, i2 := fun x => by omega, r0 := hr0, r1 := h.r1, j0 := h.j0, r3 := h.r3, i3 := fun x _ _ y => ?_ }⟩, fun x => by omega, fun x => by omega, rfl⟩
    have := h.j0 (by omega)
    have := h.r1 (by omega)
    omega
  by_cases z1 : wn = 1
  · subst z1
    have ep := e3 (by omega)
    have a2 := SS_le m wp
    have hix : 1 - oddN (rd m (1 + 1 + s.pair)) = 1 - SS m wp := by rw [ep]; rfl
    rw [ws1 e2]
    exact ⟨wp, 1 - SS m wp, fun _ => ⟨rfl, ⟨e1, rfl, fun _ => ep, fun _ => hix⟩, { hl := h.hl, hN := hN, w0 := by omega, w1 := fun _ => h.w1 (by omega), w2 := fun x => by omega, i2 := fun _ _ => (show SS m wp = 1 - (1 - SS m wp) by omega), r0 := hr0, r1 := h.r1, j0 := h.j0, r3 := h.r3, i3 := fun x _ _ y => h.i3 x (by omega) (by omega) y }⟩, fun x => by omega, fun x => by omega, rfl⟩
  have ep := e3 (by omega)
  have ei := e4 (by omega)
  have hbuf : bufOf (fr2 N per) s = bf N wp wi := by unfold bufOf; rw [ep, ei]; rfl
  have hwp := h.w1 (by omega)
  have hwi := h.w2 (by omega)
  have hb := bf_in (N := N) hwp hwi
  have key : ∀ (a : Nat) (v : Int), bf N wp wi ≤ a → a < bf N wp wi + (N + 2) → wn < 4 + (wl : Int) → InvA N (m.set a v) wl (wn + 1) wp wi rn rp ri := fun a v ha1 ha2 hlt => by
    have hR : RR N (m.set a v) = RR N m := RR_ne (by omega)
    have hS : ∀ p, p ≤ 1 → SS (m.set a v) p = SS m p := fun p hp => SS_ne (by omega)
    exact { hl := by rw [List.length_set]; exact h.hl, hN := hN, w0 := by omega, w1 := fun _ => hwp, w2 := fun _ => hwi, i2 := fun _ _ => by rw [hS _ hwp]; exact h.i2 (by omega) (by omega), r0 := hr0, r1 := h.r1, j0 := fun x => by rw [hR]; exact h.j0 x, r3 := h.r3, i3 := fun x _ _ y => by rw [hS _ (h.r1 (by omega))]; exact h.i3 x (by omega) (by omega) y }
  by_cases z2 : wn = 2
  · subst z2
    rw [ws2 e2, hbuf]
    exact ⟨wp, wi, fun _ => ⟨rfl, ⟨e1, rfl, fun _ => ep, fun _ => ei⟩, key _ _ (by omega) (by omega) (by omega)⟩, fun x => by omega, fun _ => ⟨rfl, rfl⟩, by rw [if_pos rfl, ← ep, ← ei]⟩
  by_cases z3 : wn = 3
  · subst z3
    rw [ws3 e2, hbuf]
    exact ⟨wp, wi, fun _ => ⟨rfl, ⟨e1, rfl, fun _ => ep, fun _ => ei⟩, key _ _ (by omega) (by omega) (by omega)⟩, fun x => by omega, fun _ => ⟨rfl, rfl⟩, rfl⟩
  by_cases z4 : wn < 4 + (wl : Int)
  · obtain ⟨k, rfl⟩ : ∃ k : Nat, wn = 4 + (k : Int) := ⟨(wn - 4).toNat, by omega⟩
    rw [ws4 e2 (by omega), hbuf]
    exact ⟨wp, wi, fun _ => ⟨rfl, ⟨e1, by show 5 + (k : Int) = _; omega, fun _ => ep, fun _ => ei⟩, key _ _ (by omega) (by omega) z4⟩, fun x => by omega, fun _ => ⟨rfl, rfl⟩, by rw [if_neg (by omega)]; rfl⟩
  by_cases z5 : wn = 4 + (wl : Int)
  · subst z5
    rw [ws5 (by omega), show (fr2 N per).src + 1 + s.pair = 2 + wp by rw [ep]; rfl, ei]
    have hR : RR N (m.set (2 + wp) (wi : Int)) = RR N m := RR_ne (by omega)
    exact ⟨wp, wi, fun _ => ⟨rfl, ⟨e1, by show 5 + (s.data.length : Int) = _; omega, fun _ => ep, fun _ => by first | exact ei | rfl⟩, { hl := by rw [List.length_set]; exact h.hl, hN := hN, w0 := by omega, w1 := fun _ => hwp, w2 := fun _ => hwi, i2 := fun _ x => by omega, r0 := hr0, r1 := h.r1, j0 := fun x => by rw [hR]; exact h.j0 x, r3 := h.r3, i3 := fun _ _ x => by omega }⟩, fun x => by omega, fun _ => ⟨rfl, rfl⟩, by rw [if_neg (by omega)]; rfl⟩
  · rw [ws6 (by omega), show (fr2 N per).src = 1 from rfl, ep]
    have hR : RR N (m.set 1 (wp : Int)) = RR N m := RR_ne (by omega)
    exact ⟨wp, wi, fun x => by omega, fun _ => ⟨rfl, { hl := by rw [List.length_set]; exact h.hl, hN := hN, w0 := by omega, w1 := fun _ => hwp, w2 := fun _ => hwi, i2 := fun x => by omega, r0 := hr0, r1 := h.r1, j0 := fun x => by rw [hR]; exact h.j0 x, r3 := h.r3, i3 := fun _ x => by omega }⟩, fun _ => ⟨rfl, rfl⟩, by rw [if_neg (by omega)]; rfl⟩
theorem rstep_apart {N wl wp wi rp ri : Nat} {per now : Int} {m : List Int} {t : FS} {wn rn : Int} (h : InvA N m wl wn wp wi rn rp ri) (ht : RA t rn rp ri) :
    ∃ rp' ri', ((rstep (fr2 N per) t m now).2.2.done = false → RA (rstep (fr2 N per) t m now).1 (rn + 1) rp' ri' ∧ InvA N (rstep (fr2 N per) t m now).2.1 wl wn wp wi (rn + 1) rp' ri')
      ∧ ((rstep (fr2 N per) t m now).2.2.done = true → InvA N (rstep (fr2 N per) t m now).2.1 wl wn wp wi 0 rp' ri')
      ∧ (3 ≤ rn → rp' = rp ∧ ri' = ri) ∧ (rstep (fr2 N per) t m now).2.2.buffer = if rn = 3 then 1 + 2 * (rp : Int) + ri else 0 := by
  obtain ⟨e2, e3, e4⟩ := ht
  have hN := h.hN
  have hw0 := h.w0
  have hr0 := h.r0
  have idle : InvA N m wl wn wp wi 0 rp ri := { h with r0 := by omega, r1 := fun x => by omega, j0 := fun x => by omega, r3 := fun x => by omega, i3 := fun x => by omega }
  by_cases z0 : rn = 0
  · subst z0
    rw [rs0 e2]
    exact ⟨LL m, ri, fun _ => ⟨⟨rfl, fun _ => rfl, fun x => by omega⟩, { h with r0 := by omega, r1 := fun _ => LL_le m, j0 := fun x => by omega, r3 := fun x => by omega, i3 := fun x => by omega }⟩, fun x => (by cases x), fun x => by omega, rfl⟩
  have ep := e3 (by omega)
  have hrp := h.r1 (by omega)
  by_cases z1 : rn = 1
  · subst z1
    rw [rs1 e2, ep]
    have hR : RR N (m.set (12 + 4 * N) (rp : Int)) = rp := RR_eq hrp (by rw [h.hl]; omega)
    have hS : ∀ p, p ≤ 1 → SS (m.set (12 + 4 * N) (rp : Int)) p = SS m p := fun p hp => SS_ne (by omega)
    exact ⟨rp, ri, fun _ => ⟨⟨rfl, fun _ => by first | exact ep | rfl, fun x => by omega⟩, { hl := (List.length_set ..).trans h.hl, hN := hN, w0 := hw0, w1 := h.w1, w2 := h.w2, i2 := fun x y => (hS _ (h.w1 (by omega))).trans (h.i2 x y), r0 := by omega, r1 := fun _ => hrp, j0 := fun _ => hR, r3 := fun x => by omega, i3 := fun x => by omega }⟩, fun x => (by cases x), fun x => by omega, rfl⟩
  by_cases z2 : rn = 2
  · subst z2
    have hix : oddN (rd m (1 + 1 + t.pair)) = SS m rp := by rw [ep]; rfl
    rw [rs2 e2]
    exact ⟨rp, SS m rp, fun _ => ⟨⟨rfl, fun _ => ep, fun _ => hix⟩, { h with r0 := by omega, r1 := fun _ => hrp, j0 := fun _ => h.j0 (by omega), r3 := fun _ => SS_le m rp, i3 := fun _ _ _ _ => rfl }⟩, fun x => (by cases x), fun x => by omega, rfl⟩
  have ei := e4 (by omega)
  have more : InvA N m wl wn wp wi (rn + 1) rp ri := { h with r0 := by omega, r1 := fun _ => hrp, j0 := fun _ => h.j0 (by omega), r3 := fun _ => h.r3 (by omega), i3 := fun _ => h.i3 (by omega) }
  by_cases z3 : rn = 3
  · subst z3
    by_cases hz : lenOf (fr2 N per) (rd m (bufOf (fr2 N per) t)) = 0
    · rw [rs3z e2 hz]
      exact ⟨rp, ri, fun x => (by cases x), fun _ => idle, fun _ => ⟨rfl, rfl⟩, by rw [if_pos rfl, ← ep, ← ei]⟩
    · rw [rs3 e2 hz]
      exact ⟨rp, ri, fun _ => ⟨⟨rfl, fun _ => ep, fun _ => ei⟩, more⟩, fun x => (by cases x), fun _ => ⟨rfl, rfl⟩, by rw [if_pos rfl, ← ep, ← ei]⟩
  by_cases z4 : rn = 4
  · subst z4
    rw [rs4 e2]
    exact ⟨rp, ri, fun _ => ⟨⟨rfl, fun _ => ep, fun _ => ei⟩, more⟩, fun x => (by cases x), fun _ => ⟨rfl, rfl⟩, rfl⟩
  obtain ⟨k, rfl⟩ : ∃ k : Nat, rn = 5 + (k : Int) := ⟨(rn - 5).toNat, by omega⟩
  by_cases hl : (t.data.length : Int) + 1 = t.len
  · rw [rs6 e2 hl]
    exact ⟨rp, ri, fun x => (by cases x), fun _ => idle, fun _ => ⟨rfl, rfl⟩, by rw [if_neg (by omega)]; rfl⟩
  · rw [rs5 e2 hl]
    exact ⟨rp, ri, fun _ => ⟨⟨by show 6 + (k : Int) = _; omega, fun _ => ep, fun _ => ei⟩, more⟩, fun x => (by cases x), fun _ => ⟨rfl, rfl⟩, by rw [if_neg (by omega)]; rfl⟩
end Go.Proofs.YtmhpcgcloojfbaaGreatDoor.Simp

namespace Go.Proofs.YtmhpcgcloojfbaaGreatDoor.Simp
set_option linter.unusedVariables false
set_option linter.unusedSimpArgs false
/-- What a read alone finds: its pair, its index, the length, the words, the stamp. -/
def fP (m : List Int) : Nat := LL m
def fI (m : List Int) : Nat := SS m (LL m)
def fB (N : Nat) (m : List Int) : Nat := bf N (fP m) (fI m)
def fL (N : Nat) (m : List Int) : Int := lenOf (fr2 N 0) (rd m (fB N m))
def fD (N : Nat) (m : List Int) (k : Nat) : List Int := (List.range k).map (fun j => rd m (fB N m + 2 + j))
def fS (N : Nat) (m : List Int) : Int := rd m (fB N m + 1)
/-- The memory behind a read's second step. -/
def fM (N : Nat) (m : List Int) : List Int := m.set (12 + 4 * N) (fP m : Int)
/-- What a read alone is answered with. -/
def fAns (N : Nat) (per : Int) (m : List Int) (now : Int) : Did :=
  if fL N m = 0 then { did0 with done := true, code := 1, buffer := 1 + 2 * (fP m : Int) + fI m }
  else { did0 with done := true, data := fD N m (fL N m).toNat, valid := decide (now - fS N m ≤ per) }
/-- A read alone that has done j steps from a memory m on; mm: the memory now. -/
structure RS (N : Nat) (m : List Int) (t : FS) (mm : List Int) (j : Nat) : Prop where
  hno : t.no = j
  hp : 1 ≤ j → t.pair = fP m
  hi : 3 ≤ j → t.index = fI m
  hm : mm = if j ≤ 1 then m else fM N m
  d0 : j ≤ 5 → t.data = []
  h4 : 4 ≤ j → t.len = fL N m ∧ 1 ≤ fL N m
  h5 : 5 ≤ j → t.stamp = fS N m ∧ t.data = fD N m (j - 5) ∧ (j : Int) - 5 < fL N m
theorem rs_start (N : Nat) (m : List Int) : RS N m (start []) m 0 := ⟨rfl, fun x => by omega, fun x => by omega, rfl, fun _ => rfl, fun x => by omega, fun x => by omega⟩
theorem fM_rd {N : Nat} {m : List Int} {a : Nat} (h : a < 12 + 4 * N) : rd (fM N m) a = rd m a := rd_ne (by omega)
theorem fB_in (N : Nat) (m : List Int) : 4 ≤ fB N m ∧ fB N m + (N + 2) ≤ 12 + 4 * N := bf_in (LL_le m) (SS_le m _)
theorem fL_in {N : Nat} {m : List Int} (h : 0 ≤ rd m (fB N m)) : 0 ≤ fL N m ∧ fL N m ≤ N := by
  unfold fL lenOf
  have hn : (fr2 N 0).n = N := rfl
  rw [hn]
  split <;> omega
/-- A step of it. -/
theorem RS.step {N j : Nat} {per now : Int} {m mm : List Int} {t : FS} (h : RS N m t mm j) (hw : ∀ a, 0 ≤ rd m a) :
    ((rstep (fr2 N per) t mm now).2.2.done = false ∧ RS N m (rstep (fr2 N per) t mm now).1 (rstep (fr2 N per) t mm now).2.1 (j + 1) ∧ (j : Int) < 4 + fL N m ∧ (j = 3 → fL N m ≠ 0))
      ∨ ((rstep (fr2 N per) t mm now).2.2 = fAns N per m now ∧ (rstep (fr2 N per) t mm now).2.1 = fM N m ∧ (rstep (fr2 N per) t mm now).1.no = -1 ∧ (fL N m = 0 ∧ j = 3 ∨ 1 ≤ fL N m ∧ (j : Int) = 4 + fL N m)) := by
  obtain ⟨e2, e3, e4, hm, d0, h4, h5⟩ := h
  have hfl := fL_in (N := N) (hw (fB N m))
  by_cases z0 : j = 0
  · subst z0
    rw [rs0 e2]
    refine .inl ⟨rfl, ⟨rfl, fun _ => ?_, fun x => by omega, by rw [hm]; rfl, fun _ => d0 (by omega), fun x => by omega, fun x => by omega⟩, by omega, fun x => by omega⟩
    rw [hm]; rfl
  have ep := e3 (by omega)
  by_cases z1 : j = 1
  · subst z1
    rw [rs1 e2]
    refine .inl ⟨rfl, ⟨rfl, fun _ => ep, fun x => by omega, ?_, fun _ => d0 (by omega), fun x => by omega, fun x => by omega⟩, by omega, fun x => by omega⟩
    rw [hm, ep]; rfl
  have hm2 : mm = fM N m := by rw [hm, if_neg (by omega)]
  have hmj : fM N m = if j + 1 ≤ 1 then m else fM N m := by rw [if_neg (by omega)]
  by_cases z2 : j = 2
  · subst z2
    rw [rs2 e2]
    have hle := LL_le m
    refine .inl ⟨rfl, ⟨rfl, fun _ => ep, fun _ => ?_, hm2.trans hmj, fun _ => d0 (by omega), fun x => by omega, fun x => by omega⟩, by omega, fun x => by omega⟩
    show oddN (rd mm (1 + 1 + t.pair)) = SS m (LL m)
    rw [hm2, ep, fM_rd (by show 1 + 1 + LL m < _; omega)]
    rfl
  have ei := e4 (by omega)
  have hb := fB_in N m
  have hbuf : bufOf (fr2 N per) t = fB N m := by unfold bufOf; rw [ep, ei]; rfl
  by_cases z3 : j = 3
  · subst z3
    have hlo : lenOf (fr2 N per) (rd mm (bufOf (fr2 N per) t)) = fL N m := by rw [hbuf, hm2, fM_rd (by omega)]; rfl
    by_cases hz : fL N m = 0
    · rw [rs3z e2 (hlo.trans hz)]
      exact .inr ⟨by unfold fAns; rw [if_pos hz, ep, ei], hm2, rfl, .inl ⟨hz, rfl⟩⟩
    · rw [rs3 e2 (by rw [hlo]; exact hz), hlo]
      exact .inl ⟨rfl, ⟨rfl, fun _ => ep, fun _ => ei, hm2.trans hmj, fun _ => d0 (by omega), fun _ => ⟨rfl, by omega⟩, fun x => by omega⟩, by omega, fun _ => hz⟩
  obtain ⟨hl, hl1⟩ := h4 (by omega)
  by_cases z4 : j = 4
  · subst z4
    rw [rs4 e2]
    refine .inl ⟨rfl, ⟨rfl, fun _ => ep, fun _ => ei, hm2.trans hmj, fun _ => d0 (by omega), fun _ => ⟨hl, hl1⟩, fun _ => ⟨?_, d0 (by omega), by omega⟩⟩, by omega, fun x => by omega⟩
    show rd mm (bufOf (fr2 N per) t + 1) = fS N m
    rw [hbuf, hm2, fM_rd (by omega)]; rfl
  obtain ⟨k, rfl⟩ : ∃ k : Nat, j = 5 + k := ⟨j - 5, by omega⟩
  obtain ⟨hs, hd, hdl⟩ := h5 (by omega)
  rw [show 5 + k - 5 = k by omega] at hd
  have hdlen : (t.data.length : Int) = k := by rw [hd]; unfold fD; simp
  have happ : t.data ++ [rd mm (bufOf (fr2 N per) t + 2 + k)] = fD N m (k + 1) := by
    rw [hbuf, hm2, fM_rd (by omega), hd]; unfold fD; rw [List.range_succ, List.map_append]; rfl
  have hno : t.no = 5 + (k : Int) := by rw [e2]; omega
  by_cases z5 : (k : Int) + 1 = fL N m
  · rw [rs6 hno (by omega), happ]
    exact .inr ⟨by unfold fAns; rw [if_neg (by omega), hs, show (fL N m).toNat = k + 1 by omega]; rfl, hm2, rfl, .inr ⟨hl1, by omega⟩⟩
  · rw [rs5 hno (by omega), happ]
    exact .inl ⟨rfl, ⟨by show 6 + (k : Int) = _; omega, fun _ => ep, fun _ => ei, hm2.trans hmj, fun x => by omega, fun _ => ⟨hl, hl1⟩, fun _ => ⟨hs, by rw [show 5 + k + 1 - 5 = k + 1 by omega], by omega⟩⟩, by omega, fun x => by omega⟩
/-- A read changes nothing that the next read finds. -/
theorem f_same (N : Nat) (m : List Int) : fP (fM N m) = fP m ∧ fI (fM N m) = fI m ∧ fB N (fM N m) = fB N m := by
  have hle := LL_le m
  have h1 : LL (fM N m) = LL m := LL_ne (by omega)
  have h2 : SS (fM N m) (LL m) = SS m (LL m) := SS_ne (by omega)
  refine ⟨h1, ?_, ?_⟩
  · unfold fI; rw [h1]; exact h2
  · unfold fB fP fI; rw [h1, h2]
theorem f_keeps (N : Nat) (m : List Int) (hw : 0 ≤ rd m (fB N m)) : fL N (fM N m) = fL N m ∧ fD N (fM N m) (fL N m).toNat = fD N m (fL N m).toNat ∧ fS N (fM N m) = fS N m ∧ fM N (fM N m) = fM N m := by
  have hs := f_same N m
  have hb := fB_in N m
  have hfl := fL_in (N := N) hw
  refine ⟨?_, ?_, ?_, ?_⟩
  · unfold fL; rw [hs.2.2, fM_rd (by omega)]
  · unfold fD; rw [hs.2.2]
    refine List.map_congr_left fun j hj => ?_
    have := List.mem_range.1 hj
    exact fM_rd (by omega)
  · unfold fS; rw [hs.2.2]; exact fM_rd (by omega)
  · show (fM N m).set (12 + 4 * N) (fP (fM N m) : Int) = fM N m
    rw [hs.1]; unfold fM; rw [List.set_set]
/-- The same answer, whatever the tick, as long as it is valid. -/
theorem fAns_same {N : Nat} {per : Int} {m : List Int} {now now' : Int} (hw : 0 ≤ rd m (fB N m)) (h1 : now - fS N m ≤ per) (h2 : now' - fS N m ≤ per) : fAns N per (fM N m) now' = fAns N per m now := by
  have hk := f_keeps N m hw
  have hs := f_same N m
  unfold fAns
  rw [hk.1, hk.2.1, hk.2.2.1, hs.1, hs.2.1, decide_eq_true h1, decide_eq_true h2]
/-- A write alone that has done j steps, from a memory m on; wp, wi: what it chose. -/
structure WS (N : Nat) (m : List Int) (data : List Int) (tick : Int) (t : FS) (mm : List Int) (j : Nat) (wp wi : Nat) : Prop where
  hl : mm.length = 13 + 4 * N
  hd : t.data = data
  hno : t.no = j
  hp : 1 ≤ j → t.pair = wp ∧ wp ≤ 1
  hi : 2 ≤ j → t.index = wi ∧ wi ≤ 1
  h3 : 3 ≤ j → rd mm (bf N wp wi) = (data.length : Int)
  h4 : 4 ≤ j → rd mm (bf N wp wi + 1) = tick % 4294967296
  h5 : ∀ k, 4 + k < j → k < data.length → rd mm (bf N wp wi + 2 + k) = data.getD k 0
  h6 : 4 + data.length < j → SS mm wp = wi
theorem ws_start {N : Nat} {m data : List Int} {tick : Int} (hl : m.length = 13 + 4 * N) : WS N m data tick (start data) m 0 0 0 :=
  ⟨hl, rfl, rfl, fun x => by omega, fun x => by omega, fun x => by omega, fun x => by omega, fun k x => by omega, fun x => by omega⟩
theorem WS.step {N j wp wi : Nat} {per now : Int} {m mm data : List Int} {t : FS} (h : WS N m data now t mm j wp wi) (hN : data.length ≤ N) :
    ∃ wp' wi', (j < 5 + data.length → (wstep (fr2 N per) t mm now).2.2.done = false ∧ (wstep (fr2 N per) t mm now).2.2.stamped = decide (j = 3) ∧ WS N m data now (wstep (fr2 N per) t mm now).1 (wstep (fr2 N per) t mm now).2.1 (j + 1) wp' wi')
      ∧ (j = 5 + data.length → (wstep (fr2 N per) t mm now).2.2.done = true ∧ (wstep (fr2 N per) t mm now).2.2.stamped = false ∧ (wstep (fr2 N per) t mm now).1.no = -1 ∧ (wstep (fr2 N per) t mm now).2.2.code = 0
        ∧ fP (wstep (fr2 N per) t mm now).2.1 = wp ∧ fI (wstep (fr2 N per) t mm now).2.1 = wi ∧ rd (wstep (fr2 N per) t mm now).2.1 (bf N wp wi) = (data.length : Int) ∧ rd (wstep (fr2 N per) t mm now).2.1 (bf N wp wi + 1) = now % 4294967296 ∧ (∀ k, k < data.length → rd (wstep (fr2 N per) t mm now).2.1 (bf N wp wi + 2 + k) = data.getD k 0)) := by
  obtain ⟨hl, hd, e2, e3, e4, h3, h4, h5, h6⟩ := h
  by_cases z0 : j = 0
  · subst z0
    rw [ws0 e2]
    have a2 := oddN_le (rd mm (fr2 N per).dst)
    exact ⟨1 - oddN (rd mm (fr2 N per).dst), wi, fun _ => ⟨rfl, rfl, ⟨hl, hd, rfl, fun _ => ⟨rfl, by omega⟩, fun x => by omega, fun x => by omega, fun x => by omega, fun k x => by omega, fun x => by omega⟩⟩, fun x => by omega⟩
  obtain ⟨ep, hwp⟩ := e3 (by omega)
  by_cases z1 : j = 1
  · subst z1
    rw [ws1 e2]
    exact ⟨wp, 1 - oddN (rd mm ((fr2 N per).src + 1 + t.pair)), fun _ => ⟨rfl, rfl, ⟨hl, hd, rfl, fun _ => ⟨ep, hwp⟩, fun _ => ⟨rfl, by omega⟩, fun x => by omega, fun x => by omega, fun k x => by omega, fun x => by omega⟩⟩, fun x => by omega⟩
  obtain ⟨ei, hwi⟩ := e4 (by omega)
  have hb := bf_in (N := N) hwp hwi
  have hbuf : bufOf (fr2 N per) t = bf N wp wi := by unfold bufOf; rw [ep, ei]; rfl
  by_cases z2 : j = 2
  · subst z2
    rw [ws2 e2, hbuf, hd]
    exact ⟨wp, wi, fun _ => ⟨rfl, rfl, ⟨(List.length_set ..).trans hl, by first | exact hd | rfl, rfl, fun _ => ⟨ep, hwp⟩, fun _ => ⟨ei, hwi⟩, fun _ => rd_eq (by omega), fun x => by omega, fun k x => by omega, fun x => by omega⟩⟩, fun x => by omega⟩
  by_cases z3 : j = 3
  · subst z3
    rw [ws3 e2, hbuf]
    exact ⟨wp, wi, fun _ => ⟨rfl, rfl, ⟨(List.length_set ..).trans hl, hd, rfl, fun _ => ⟨ep, hwp⟩, fun _ => ⟨ei, hwi⟩, fun _ => (rd_ne (by omega)).trans (h3 (by omega)), fun _ => rd_eq (by omega), fun k x => by omega, fun x => by omega⟩⟩, fun x => by omega⟩
  by_cases z4 : j < 4 + data.length
  · obtain ⟨k, rfl⟩ : ∃ k : Nat, j = 4 + k := ⟨j - 4, by omega⟩
    rw [ws4 (k := k) (by rw [e2]; omega) (by rw [hd]; omega), hbuf, hd]
    refine ⟨wp, wi, fun _ => ⟨rfl, (decide_eq_false (by omega)).symm, ⟨(List.length_set ..).trans hl, by first | exact hd | rfl, (by show 5 + (k : Int) = _; omega), fun _ => ⟨ep, hwp⟩, fun _ => ⟨ei, hwi⟩, fun _ => (rd_ne (by omega)).trans (h3 (by omega)), fun _ => (rd_ne (by omega)).trans (h4 (by omega)), fun i x y => ?_, fun x => by omega⟩⟩, fun x => by omega⟩
    by_cases e : i = k
    · subst e; exact rd_eq (by omega)
    · exact (rd_ne (by omega)).trans (h5 i (by omega) y)
  by_cases z5 : j = 4 + data.length
  · subst z5
    rw [ws5 (by rw [e2, hd]; omega), show (fr2 N per).src + 1 + t.pair = 2 + wp by rw [ep]; rfl, ei]
    exact ⟨wp, wi, fun _ => ⟨rfl, (decide_eq_false (by omega)).symm, ⟨(List.length_set ..).trans hl, hd, (by show 5 + (t.data.length : Int) = _; rw [hd]; omega), fun _ => ⟨ep, hwp⟩, fun _ => ⟨by first | exact ei | rfl, hwi⟩, fun _ => (rd_ne (by omega)).trans (h3 (by omega)), fun _ => (rd_ne (by omega)).trans (h4 (by omega)), fun i x y => (rd_ne (by omega)).trans (h5 i (by omega) y), fun _ => SS_eq hwi (by omega)⟩⟩, fun x => by omega⟩
  · refine ⟨wp, wi, fun x => by omega, fun z6 => ?_⟩
    subst z6
    rw [ws6 (by rw [e2, hd]; omega), show (fr2 N per).src = 1 from rfl, ep]
    have hL : LL (mm.set 1 (wp : Int)) = wp := LL_eq hwp (by omega)
    exact ⟨rfl, rfl, rfl, rfl, hL, (by show SS (mm.set 1 (wp : Int)) (LL (mm.set 1 (wp : Int))) = wi; rw [hL, SS_ne (by omega)]; exact h6 (by omega)), (rd_ne (by omega)).trans (h3 (by omega)), (rd_ne (by omega)).trans (h4 (by omega)), fun k hk => (rd_ne (by omega)).trans (h5 k (by omega) hk)⟩
end Go.Proofs.YtmhpcgcloojfbaaGreatDoor.Simp

namespace Go.Proofs.YtmhpcgcloojfbaaGreatDoor.Simp
set_option linter.unusedVariables false
set_option linter.unusedSimpArgs false
/-- Every word is one of 32 bits. -/
def W32 (m : List Int) : Prop := ∀ a, 0 ≤ rd m a ∧ rd m a ≤ 4294967295
theorem W32.set {m : List Int} (h : W32 m) {a : Nat} {v : Int} (hv : 0 ≤ v ∧ v ≤ 4294967295) : W32 (m.set a v) := fun b => by
  rw [rd_set]
  split
  · exact hv
  · exact h b
theorem w32_zero (n : Nat) : W32 (List.replicate n 0) := fun a => by
  unfold rd
  rw [List.getD_eq_getElem?_getD, List.getElem?_replicate]
  split <;> exact ⟨by decide, by decide⟩
theorem w32_mem {m : List Int} (h : W32 m) {x : Int} (hx : x ∈ m) : 0 ≤ x ∧ x ≤ 4294967295 := by
  obtain ⟨i, hi⟩ := List.mem_iff_getElem?.1 hx
  have := h i
  unfold rd at this
  rwa [List.getD_eq_getElem?_getD, hi] at this
theorem w32_of {m : List Int} (h : ∀ x ∈ m, 0 ≤ x ∧ x ≤ 4294967295) : W32 m := fun a => by
  unfold rd
  rw [List.getD_eq_getElem?_getD]
  cases e : m[a]? with
  | none => exact ⟨by decide, by decide⟩
  | some x => exact h x (List.mem_of_getElem? e)
theorem wstep_w32 {F : Fr} {s : FS} {m : List Int} {now : Int} (h : W32 m) (hd : W32 s.data) (hl : s.data.length ≤ 4294967295) (hp : s.pair ≤ 1) (hi : s.index ≤ 1) :
    W32 (wstep F s m now).2.1 ∧ (wstep F s m now).2.1.length = m.length ∧ W32 (wstep F s m now).1.data ∧ (wstep F s m now).1.data = s.data ∧ (wstep F s m now).1.pair ≤ 1 ∧ (wstep F s m now).1.index ≤ 1 := by
  unfold wstep
  split
  · exact ⟨h, rfl, hd, rfl, hp, hi⟩
  split
  · exact ⟨h, rfl, hd, rfl, (show 1 - oddN _ ≤ 1 by omega), hi⟩
  split
  · exact ⟨h, rfl, hd, rfl, hp, (show 1 - oddN _ ≤ 1 by omega)⟩
  split
  · exact ⟨h.set (by omega), List.length_set .., hd, rfl, hp, hi⟩
  split
  · exact ⟨h.set (by omega), List.length_set .., hd, rfl, hp, hi⟩
  split
  · exact ⟨h.set (hd _), List.length_set .., hd, rfl, hp, hi⟩
  split
  · exact ⟨h.set (by omega), List.length_set .., hd, rfl, hp, hi⟩
  · exact ⟨h.set (by omega), List.length_set .., hd, rfl, hp, hi⟩
theorem W32.app {l : List Int} (h : W32 l) {x : Int} (hx : 0 ≤ x ∧ x ≤ 4294967295) : W32 (l ++ [x]) := w32_of fun y hy => by
  rcases List.mem_append.1 hy with z | z
  · exact w32_mem h z
  · simp at z; subst z; exact hx
theorem rstep_w32 {F : Fr} {s : FS} {m : List Int} {now : Int} (h : W32 m) (hd : W32 s.data) (hp : s.pair ≤ 1) (hi : s.index ≤ 1) :
    W32 (rstep F s m now).2.1 ∧ (rstep F s m now).2.1.length = m.length ∧ W32 (rstep F s m now).1.data ∧ (rstep F s m now).1.pair ≤ 1 ∧ (rstep F s m now).1.index ≤ 1 := by
  unfold rstep
  split
  · exact ⟨h, rfl, hd, hp, hi⟩
  split
  · exact ⟨h, rfl, hd, oddN_le _, hi⟩
  split
  · exact ⟨h.set (by omega), List.length_set .., hd, hp, hi⟩
  split
  · exact ⟨h, rfl, hd, hp, oddN_le _⟩
  split
  · split
    · exact ⟨h, rfl, hd, hp, hi⟩
    · exact ⟨h, rfl, hd, hp, hi⟩
  split
  · exact ⟨h, rfl, hd, hp, hi⟩
  split
  · exact ⟨h, rfl, hd.app (h _), hp, hi⟩
  · exact ⟨h, rfl, hd.app (h _), hp, hi⟩
/-- A write that was answered, a read that was answered: nothing is done. -/
theorem wstep_over {F : Fr} {s : FS} {m : List Int} {now : Int} (h : s.no < 0) : wstep F s m now = (s, m, did0) := by unfold wstep; rw [if_pos h]
theorem rstep_over {F : Fr} {s : FS} {m : List Int} {now : Int} (h : s.no < 0) : rstep F s m now = (s, m, did0) := by unfold rstep; rw [if_pos h]
/-- How many words differ behind a store. -/
theorem set_differs {m : List Int} {a b : Nat} {v : Int} (h : rd (m.set a v) b ≠ rd m b) : b = a := by
  rw [rd_set] at h
  by_cases e : a = b ∧ a < m.length
  · exact e.1.symm
  · rw [if_neg e] at h; exact absurd rfl h
end Go.Proofs.YtmhpcgcloojfbaaGreatDoor.Simp
