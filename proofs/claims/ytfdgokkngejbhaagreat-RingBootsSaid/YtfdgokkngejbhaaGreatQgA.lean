/- Texts of the ring, joined, what is used of them. No condition but those in the statements. -/
import Init
section
namespace Go.Proofs.YtfdgokkngejbhaaGreat.Simp
set_option linter.unusedVariables false
/-- The words of a sampling channel: where its source's begin, where its destination's one lies, how many words a message has at most, its period. -/
structure Fr where
  src : Nat
  dst : Nat
  n : Nat
  per : Int
def bufA (F : Fr) (p i : Nat) : Nat := F.src + 3 + (2 * p + i) * (F.n + 2)
def oddN (x : Int) : Nat := (x % 2).toNat
def rd (m : List Int) (a : Nat) : Int := m.getD a 0
structure Did where
  done : Bool
  mark : Bool
  stamped : Bool
  code : Int
  data : List Int
  valid : Bool
  buffer : Int
def did0 : Did := ⟨false, false, false, 0, [], false, 0⟩
/-- Where a write, or a read, stands: how many steps were done (below 0: it is answered). -/
structure FS where
  data : List Int
  no : Int
  pair : Nat
  index : Nat
  len : Int
  stamp : Int
  marked : Bool
def bufOf (F : Fr) (s : FS) : Nat := bufA F s.pair s.index
def wstep (F : Fr) (s : FS) (m : List Int) (now : Int) : FS × List Int × Did :=
  if s.no < 0 then (s, m, did0)
  else if s.no = 0 then ({ s with no := 1, pair := 1 - oddN (rd m F.dst) }, m, did0)
  else if s.no = 1 then ({ s with no := 2, index := 1 - oddN (rd m (F.src + 1 + s.pair)) }, m, did0)
  else if s.no = 2 then ({ s with no := 3 }, m.set (bufOf F s) s.data.length, { did0 with buffer := 1 + 2 * s.pair + s.index })
  else if s.no = 3 then ({ s with no := 4 }, m.set (bufOf F s + 1) (now % 4294967296), { did0 with stamped := true })
  else if s.no < 4 + s.data.length then ({ s with no := s.no + 1 }, m.set (bufOf F s + (s.no - 2).toNat) (s.data.getD (s.no - 4).toNat 0), did0)
  else if s.no = 4 + s.data.length then
    ({ s with no := s.no + 1, marked := decide (oddN (rd m F.src) = s.pair) }, m.set (F.src + 1 + s.pair) s.index, { did0 with mark := decide (oddN (rd m F.src) = s.pair) })
  else ({ s with no := -1 }, m.set F.src s.pair, { did0 with done := true, mark := !s.marked })
def lenOf (F : Fr) (x : Int) : Int := if x ≤ F.n then x else F.n
theorem rd_set (m : List Int) (a b : Nat) (v : Int) : rd (m.set a v) b = if a = b ∧ a < m.length then v else rd m b := by
  unfold rd
  rw [List.getD_eq_getElem?_getD, List.getD_eq_getElem?_getD, List.getElem?_set]
  by_cases h : a = b
  · subst h
    by_cases h2 : a < m.length
    · simp [h2]
    · simp [h2]
  · simp [h]
theorem rd_eq {m : List Int} {a : Nat} {v : Int} (h : a < m.length) : rd (m.set a v) a = v := by rw [rd_set, if_pos ⟨rfl, h⟩]
theorem rd_ne {m : List Int} {a b : Nat} {v : Int} (h : a ≠ b) : rd (m.set a v) b = rd m b := by rw [rd_set, if_neg (fun x => h x.1)]
/-- Two partitions, one sampling channel of n words: where its words lie. -/
def fr2 (n : Nat) (per : Int) : Fr := ⟨1, 12 + 4 * n, n, per⟩
def bf (N p i : Nat) : Nat := bufA (fr2 N 0) p i
/-- The length of message k. -/
def ml (N : Nat) (k : Int) : Int := 1 + k % (N : Int)
theorem ml_in {N : Nat} (h : 1 ≤ N) (k : Int) : 1 ≤ ml N k ∧ ml N k ≤ N := by
  unfold ml
  have h1 := Int.emod_nonneg k (show (N : Int) ≠ 0 by omega)
  have h2 := Int.emod_lt_of_pos k (show (0 : Int) < N by omega)
  omega
end Go.Proofs.YtfdgokkngejbhaaGreat.Simp
namespace Go.Proofs.YtfdgokkngejbhaaGreat.Simp
set_option linter.unusedVariables false
set_option linter.unusedSimpArgs false
def msg (N : Nat) (n : Int) : List Int := List.replicate (ml N n).toNat n
section
variable {F : Fr} {s : FS} {m : List Int} {now : Int}
theorem ws3 (h : s.no = 3) : wstep F s m now = ({ s with no := 4 }, m.set (bufOf F s + 1) (now % 4294967296), { did0 with stamped := true }) := by
  unfold wstep; rw [if_neg (by omega), if_neg (by omega), if_neg (by omega), if_neg (by omega), if_pos h]
theorem ws4 {k : Nat} (h : s.no = 4 + (k : Int)) (hk : k < s.data.length) : wstep F s m now = ({ s with no := 5 + (k : Int) }, m.set (bufOf F s + 2 + k) (s.data.getD k 0), did0) := by
  unfold wstep; rw [if_neg (by omega), if_neg (by omega), if_neg (by omega), if_neg (by omega), if_neg (by omega), if_pos (by omega)]
  rw [show bufOf F s + (s.no - 2).toNat = bufOf F s + 2 + k by omega, show (s.no - 4).toNat = k by omega, show s.no + 1 = 5 + (k : Int) by omega]
end
theorem msg_len {N : Nat} (hN : 1 ≤ N) (n : Int) : ((msg N n).length : Int) = ml N n := by
  have := ml_in hN n
  unfold msg; rw [List.length_replicate]; omega
theorem msg_at {N k : Nat} {n : Int} (hN : 1 ≤ N) (hk : (k : Int) < ml N n) : (msg N n).getD k 0 = n := by
  unfold msg
  rw [List.getD_eq_getElem?_getD, List.getElem?_replicate, if_pos (by omega)]; rfl
end Go.Proofs.YtfdgokkngejbhaaGreat.Simp
namespace Go.Proofs.YtfdgokkngejbhaaGreat.Simp
set_option linter.unusedVariables false
set_option linter.unusedSimpArgs false
/-- Every word is one of 32 bits. -/
def W32 (m : List Int) : Prop := ∀ a, 0 ≤ rd m a ∧ rd m a ≤ 4294967295
theorem W32.set {m : List Int} (h : W32 m) {a : Nat} {v : Int} (hv : 0 ≤ v ∧ v ≤ 4294967295) : W32 (m.set a v) := fun b => by
  rw [rd_set]
  split
  · exact hv
  · exact h b
theorem w32_zero (n : Nat) : W32 (List.replicate n 0) := fun a => by
  unfold rd
  rw [List.getD_eq_getElem?_getD, List.getElem?_replicate]
  split <;> exact ⟨by decide, by decide⟩
theorem w32_mem {m : List Int} (h : W32 m) {x : Int} (hx : x ∈ m) : 0 ≤ x ∧ x ≤ 4294967295 := by
  obtain ⟨i, hi⟩ := List.mem_iff_getElem?.1 hx
  have := h i
  unfold rd at this
  rwa [List.getD_eq_getElem?_getD, hi] at this
theorem w32_of {m : List Int} (h : ∀ x ∈ m, 0 ≤ x ∧ x ≤ 4294967295) : W32 m := fun a => by
  unfold rd
  rw [List.getD_eq_getElem?_getD]
  cases e : m[a]? with
  | none => exact ⟨by decide, by decide⟩
  | some x => exact h x (List.mem_of_getElem? e)
theorem W32.app {l : List Int} (h : W32 l) {x : Int} (hx : 0 ≤ x ∧ x ≤ 4294967295) : W32 (l ++ [x]) := w32_of fun y hy => by
  rcases List.mem_append.1 hy with z | z
  · exact w32_mem h z
  · simp at z; subst z; exact hx
/-- How many words differ behind a store. -/
theorem set_differs {m : List Int} {a b : Nat} {v : Int} (h : rd (m.set a v) b ≠ rd m b) : b = a := by
  rw [rd_set] at h
  by_cases e : a = b ∧ a < m.length
  · exact e.1.symm
  · rw [if_neg e] at h; exact absurd rfl h
end Go.Proofs.YtfdgokkngejbhaaGreat.Simp
end
section
namespace Go.Proofs.YtfdgokkngejbhaaGreat.Simp
set_option linter.unusedVariables false
set_option linter.unusedSimpArgs false
/-- A queue's words: where its tail lies (the cells behind it), where its head, words of a message, cells. -/
structure Qr where
  src : Nat
  dst : Nat
  n : Nat
  d : Nat
def cellQ (F : Qr) (x : Int) : Nat := F.src + 1 + (x % (F.d : Int)).toNat * (F.n + 1)
structure QD where
  done : Bool
  mark : Bool
  ring : Bool
  code : Int
  data : List Int
def qd0 : QD := ⟨false, false, false, 0, []⟩
structure QS where
  data : List Int
  no : Int
  own : Int
  len : Int
def inc32 (x : Int) : Int := (x + 1) % 4294967296
def qsend (F : Qr) (s : QS) (m : List Int) : QS × List Int × QD :=
  if s.no < 0 then (s, m, qd0)
  else if s.no = 0 then
    if (F.d : Int) ≤ (s.own - rd m F.dst) % 4294967296 then ({ s with no := -1 }, m, { qd0 with done := true, mark := true, code := 2 }) else ({ s with no := 1 }, m, qd0)
  else if s.no = 1 then ({ s with no := 2 }, m.set (cellQ F s.own) s.data.length, qd0)
  else if s.no < 2 + s.data.length then ({ s with no := s.no + 1 }, m.set (cellQ F s.own + (s.no - 1).toNat) (s.data.getD (s.no - 2).toNat 0), qd0)
  else if s.no = 2 + s.data.length then ({ s with no := s.no + 1, own := inc32 s.own }, m.set F.src (inc32 s.own), { qd0 with mark := true })
  else ({ s with no := -1 }, m, { qd0 with done := true, ring := true })
def lenQ (F : Qr) (x : Int) : Int := if x ≤ F.n then x else F.n
def qrecv (F : Qr) (s : QS) (m : List Int) : QS × List Int × QD :=
  if s.no < 0 then (s, m, qd0)
  else if s.no = 0 then
    if rd m F.src = s.own then ({ s with no := -1 }, m, { qd0 with done := true, mark := true, code := 2 }) else ({ s with no := 1 }, m, qd0)
  else if s.no = 1 then ({ s with no := 2, len := lenQ F (rd m (cellQ F s.own)) }, m, qd0)
  else if (s.data.length : Int) < s.len then ({ s with no := s.no + 1, data := s.data ++ [rd m (cellQ F s.own + 1 + s.data.length)] }, m, qd0)
  else ({ s with no := -1, own := inc32 s.own }, m.set F.dst (inc32 s.own), { qd0 with done := true, mark := true, data := s.data })
/-- Two partitions, one queue: where its words lie. -/
def qr2 (N D : Nat) : Qr := ⟨1, 2 + D * (N + 1), N, D⟩
theorem cell_in {N D : Nat} (hD : 1 ≤ D) (x : Int) : 2 ≤ cellQ (qr2 N D) x ∧ cellQ (qr2 N D) x + (N + 1) ≤ 2 + D * (N + 1) := by
  have h1 := Int.emod_nonneg x (show (D : Int) ≠ 0 by omega)
  have h2 := Int.emod_lt_of_pos x (show (0 : Int) < D by omega)
  have h := Nat.mul_le_mul_right (N + 1) (show (x % (D : Int)).toNat + 1 ≤ D by omega)
  rw [Nat.add_mul] at h
  show 2 ≤ 1 + 1 + (x % (D : Int)).toNat * (N + 1) ∧ 1 + 1 + (x % (D : Int)).toNat * (N + 1) + (N + 1) ≤ 2 + D * (N + 1)
  omega
theorem cell_apart {N D : Nat} (hD : 1 ≤ D) {x y : Int} (h : x % (D : Int) ≠ y % (D : Int)) : cellQ (qr2 N D) x + (N + 1) ≤ cellQ (qr2 N D) y ∨ cellQ (qr2 N D) y + (N + 1) ≤ cellQ (qr2 N D) x := by
  have h1 := Int.emod_nonneg x (show (D : Int) ≠ 0 by omega)
  have h2 := Int.emod_nonneg y (show (D : Int) ≠ 0 by omega)
  show 1 + 1 + (x % (D : Int)).toNat * (N + 1) + (N + 1) ≤ 1 + 1 + (y % (D : Int)).toNat * (N + 1) ∨ 1 + 1 + (y % (D : Int)).toNat * (N + 1) + (N + 1) ≤ 1 + 1 + (x % (D : Int)).toNat * (N + 1)
  rcases Nat.lt_or_gt_of_ne (show (x % (D : Int)).toNat ≠ (y % (D : Int)).toNat by omega) with g | g
  · have h := Nat.mul_le_mul_right (N + 1) (show (x % (D : Int)).toNat + 1 ≤ (y % (D : Int)).toNat by omega)
    rw [Nat.add_mul] at h; omega
  · have h := Nat.mul_le_mul_right (N + 1) (show (y % (D : Int)).toNat + 1 ≤ (x % (D : Int)).toNat by omega)
    rw [Nat.add_mul] at h; omega
/-- Number k's, from boot on, modulo 2^32. -/
def num (boot k : Int) : Int := (boot + k) % 4294967296
def DepthQ (D : Nat) : Prop := D = 1 ∨ D = 2 ∨ D = 4 ∨ D = 8
theorem num_cell {D : Nat} (hD : DepthQ D) (boot k : Int) : num boot k % (D : Int) = (boot + k) % (D : Int) := by
  unfold num
  rcases hD with rfl | rfl | rfl | rfl <;> omega
theorem num_apart {D : Nat} (hD : DepthQ D) {boot k n : Int} (h1 : k < n) (h2 : n - k < D) : num boot k % (D : Int) ≠ num boot n % (D : Int) := by
  rw [num_cell hD, num_cell hD]
  rcases hD with rfl | rfl | rfl | rfl <;> omega
theorem num_inc (boot k : Int) : inc32 (num boot k) = num boot (k + 1) := by unfold inc32 num; omega
theorem num_less {boot k n : Int} (h1 : k ≤ n) (h2 : n - k ≤ 8) : (num boot n - num boot k) % 4294967296 = n - k := by unfold num; omega
theorem num_eq {boot k n : Int} (h1 : k ≤ n) (h2 : n - k ≤ 8) : num boot n = num boot k ↔ n = k := by unfold num; omega
/-- A cell holds message k whole. -/
def HoldsQ (N D : Nat) (m : List Int) (boot k : Int) : Prop := rd m (cellQ (qr2 N D) (num boot k)) = ml N k ∧ ∀ j : Nat, (j : Int) < ml N k → rd m (cellQ (qr2 N D) (num boot k) + 1 + j) = k
theorem HoldsQ.ne {N D a : Nat} {m : List Int} {boot k v : Int} (h : HoldsQ N D m boot k) (hN : 1 ≤ N) (ha : a < cellQ (qr2 N D) (num boot k) ∨ cellQ (qr2 N D) (num boot k) + (N + 1) ≤ a) : HoldsQ N D (m.set a v) boot k := by
  have hm := ml_in hN k
  exact ⟨(rd_ne (by omega)).trans h.1, fun j hj => (rd_ne (by omega)).trans (h.2 j hj)⟩
/-- What holds between the steps: sn, n: the send (0: none is under way) and its message; rn: the receive. -/
structure InvQ (N D : Nat) (m : List Int) (boot sent got n sn rn : Int) : Prop where
  hl : m.length = 3 + D * (N + 1)
  hN : 1 ≤ N
  hD : DepthQ D
  tl : rd m 1 = num boot sent
  hd : rd m (2 + D * (N + 1)) = num boot got
  bd : 0 ≤ got ∧ got ≤ sent ∧ sent ≤ got + D
  cells : ∀ k, got ≤ k → k < sent → HoldsQ N D m boot k
  s0 : 0 ≤ sn ∧ sn ≤ 3 + ml N n
  s1 : sn ≤ 2 + ml N n → n = sent
  s2 : 1 ≤ sn → sn ≤ 2 + ml N n → n < got + D
  s3 : sn = 3 + ml N n → sent = n + 1
  par : 2 ≤ sn → sn ≤ 2 + ml N n → rd m (cellQ (qr2 N D) (num boot n)) = ml N n ∧ ∀ j : Nat, (j : Int) < sn - 2 → rd m (cellQ (qr2 N D) (num boot n) + 1 + j) = n
  r1 : 1 ≤ rn → got < sent
section
variable {N D : Nat} {m : List Int} {boot sent got n sn rn : Int}
theorem InvQ.d1 (h : InvQ N D m boot sent got n sn rn) : 1 ≤ D ∧ D ≤ 8 := by rcases h.hD with rfl | rfl | rfl | rfl <;> omega
/-- The send finds room. -/
theorem InvQ.room (h : InvQ N D m boot sent got n 0 rn) (hr : sent - got < D) : InvQ N D m boot sent got n 1 rn := by
  have hm := ml_in h.hN n
  have := h.s1 (by omega)
  exact { h with s0 := by omega, s1 := fun _ => this, s2 := fun _ _ => by omega, s3 := fun x => by omega, par := fun x => by omega }
theorem InvQ.full (h : InvQ N D m boot sent got n 0 rn) : (num boot n - rd m (2 + D * (N + 1))) % 4294967296 = sent - got := by
  have hm := ml_in h.hN n
  have hb := h.bd
  have hd := h.d1
  rw [h.hd, h.s1 (by omega)]
  exact num_less (by omega) (by omega)
/-- A store into the cell that is being filled. -/
theorem InvQ.fill {a : Nat} {v sn' : Int} (h : InvQ N D m boot sent got n sn rn) (h1 : 1 ≤ sn) (h2 : sn < 2 + ml N n) (he : sn' = sn + 1) (ha : cellQ (qr2 N D) (num boot n) ≤ a ∧ a < cellQ (qr2 N D) (num boot n) + (N + 1))
    (hp : rd (m.set a v) (cellQ (qr2 N D) (num boot n)) = ml N n ∧ ∀ j : Nat, (j : Int) < sn' - 2 → rd (m.set a v) (cellQ (qr2 N D) (num boot n) + 1 + j) = n) : InvQ N D (m.set a v) boot sent got n sn' rn := by
  have hm := ml_in h.hN n
  have hd := h.d1
  have hc := cell_in (N := N) hd.1 (num boot n)
  have hn := h.s1 (by omega)
  have hs := h.s2 h1 (by omega)
  exact { hl := (List.length_set ..).trans h.hl, hN := h.hN, hD := h.hD, tl := (rd_ne (by omega)).trans h.tl, hd := (rd_ne (by omega)).trans h.hd, bd := h.bd,
          cells := fun k hk1 hk2 => by
            have := cell_apart (N := N) hd.1 (num_apart h.hD (boot := boot) (k := k) (n := n) (by omega) (by omega))
            exact (h.cells k hk1 hk2).ne h.hN (by omega),
          s0 := by omega, s1 := fun _ => hn, s2 := fun _ _ => hs, s3 := fun x => by omega, par := fun _ _ => hp, r1 := h.r1 }
theorem InvQ.s_len (h : InvQ N D m boot sent got n 1 rn) : InvQ N D (m.set (cellQ (qr2 N D) (num boot n)) (ml N n)) boot sent got n 2 rn := by
  have hm := ml_in h.hN n
  have hc := cell_in (N := N) h.d1.1 (num boot n)
  exact h.fill (by omega) (by omega) rfl (by omega) ⟨rd_eq (by rw [h.hl]; omega), fun j hj => by omega⟩
theorem InvQ.s_word {k : Nat} (h : InvQ N D m boot sent got n (2 + (k : Int)) rn) (hk : (k : Int) < ml N n) : InvQ N D (m.set (cellQ (qr2 N D) (num boot n) + 1 + k) n) boot sent got n (3 + (k : Int)) rn := by
  have hm := ml_in h.hN n
  have hc := cell_in (N := N) h.d1.1 (num boot n)
  have hp := h.par (by omega) (by omega)
  refine h.fill (by omega) (by omega) (by omega) (by omega) ⟨(rd_ne (by omega)).trans hp.1, fun j hj => ?_⟩
  by_cases e : j = k
  · subst e; exact rd_eq (by rw [h.hl]; omega)
  · exact (rd_ne (by omega)).trans (hp.2 j (by omega))
theorem InvQ.s_tail (h : InvQ N D m boot sent got n (2 + ml N n) rn) : InvQ N D (m.set 1 (num boot (n + 1))) boot (sent + 1) got n (3 + ml N n) rn := by
  have hm := ml_in h.hN n
  have hd := h.d1
  have hn := h.s1 (by omega)
  have hs := h.s2 (by omega) (by omega)
  have hb := h.bd
  have hp := h.par (by omega) (by omega)
  have hc := fun k => cell_in (N := N) hd.1 (num boot k)
  exact { hl := (List.length_set ..).trans h.hl, hN := h.hN, hD := h.hD, tl := by rw [rd_eq (by rw [h.hl]; omega), hn], hd := (rd_ne (by omega)).trans h.hd, bd := by omega,
          cells := fun k hk1 hk2 => by
            have hck := hc k
            by_cases e : k = n
            · subst e
              exact HoldsQ.ne ⟨hp.1, fun j hj => hp.2 j (by omega)⟩ h.hN (by omega)
            · exact (h.cells k hk1 (by omega)).ne h.hN (by omega),
          s0 := by omega, s1 := fun x => by omega, s2 := fun _ x => by omega, s3 := fun _ => by omega, par := fun _ x => by omega, r1 := fun x => by have := h.r1 x; omega }
theorem InvQ.s_ring (h : InvQ N D m boot sent got n (3 + ml N n) rn) : InvQ N D m boot sent got (n + 1) 0 rn := by
  have hm := ml_in h.hN (n + 1)
  have := h.s3 rfl
  exact { h with s0 := by omega, s1 := fun _ => by omega, s2 := fun x => by omega, s3 := fun x => by omega, par := fun x => by omega }
theorem InvQ.r_some (h : InvQ N D m boot sent got n sn 0) (hr : got < sent) {rn' : Int} : InvQ N D m boot sent got n sn rn' := { h with r1 := fun _ => hr }
theorem InvQ.r_more (h : InvQ N D m boot sent got n sn rn) (h1 : 1 ≤ rn) {rn' : Int} : InvQ N D m boot sent got n sn rn' := { h with r1 := fun _ => h.r1 h1 }
/-- The receiver's first look: is the queue empty? -/
theorem InvQ.empty (h : InvQ N D m boot sent got n sn rn) : rd m 1 = num boot got ↔ sent = got := by
  have hb := h.bd
  have hd := h.d1
  rw [h.tl]
  exact num_eq (by omega) (by omega)
theorem InvQ.r_head (h : InvQ N D m boot sent got n sn rn) (h1 : 1 ≤ rn) : InvQ N D (m.set (2 + D * (N + 1)) (num boot (got + 1))) boot sent (got + 1) n sn 0 := by
  have hm := ml_in h.hN n
  have hd := h.d1
  have hr := h.r1 h1
  have hb := h.bd
  have hc := fun k => cell_in (N := N) hd.1 (num boot k)
  have hcn := hc n
  exact { hl := (List.length_set ..).trans h.hl, hN := h.hN, hD := h.hD, tl := (rd_ne (by omega)).trans h.tl, hd := rd_eq (by rw [h.hl]; omega), bd := by omega,
          cells := fun k hk1 hk2 => by have hck := hc k; exact (h.cells k (by omega) hk2).ne h.hN (by omega),
          s0 := h.s0, s1 := h.s1, s2 := fun x y => by have := h.s2 x y; omega, s3 := h.s3,
          par := fun x y => by
            have hp := h.par x y
            exact ⟨(rd_ne (by omega)).trans hp.1, fun j hj => (rd_ne (by omega)).trans (hp.2 j hj)⟩,
          r1 := fun x => by omega }
theorem InvQ.at_head (h : InvQ N D m boot sent got n sn rn) (h1 : 1 ≤ rn) : HoldsQ N D m boot got := h.cells got (Int.le_refl _) (h.r1 h1)
end
end Go.Proofs.YtfdgokkngejbhaaGreat.Simp
end
section
namespace Go.Proofs.YtfdgokkngejbhaaGreat.Simp
set_option linter.unusedVariables false
set_option linter.unusedSimpArgs false
/-- A sender that sends message n as words n, over and over, and a receiver. -/
structure Ql where
  m : List Int
  bell : Bool
  s : Option QS
  r : Option QS
  tail : Int
  head : Int
  sent : Int
  got : Int
  n : Int
  steps : Int
  own : Int
def startQ (data : List Int) (own : Int) : QS := ⟨data, 0, own, 0⟩
def sd1 (N D : Nat) (P : Ql) (s : QS) : Ql × Bool :=
  let R := qsend (qr2 N D) s P.m
  let sent' := if R.2.2.mark = true ∧ R.2.2.done = false then P.sent + 1 else P.sent
  let bell' := P.bell || R.2.2.ring
  if R.2.2.done = false then ({ P with m := R.2.1, bell := bell', s := some R.1, steps := P.steps + 1, sent := sent' }, decide (P.steps + 1 < 40))
  else if R.2.2.code = 2 then ({ P with m := R.2.1, bell := bell', s := none, steps := P.steps + 1, sent := sent', tail := R.1.own }, decide (P.steps + 1 = 1) && (!R.2.2.ring && decide (sent' - P.got = D)))
  else ({ P with m := R.2.1, bell := bell', s := none, steps := P.steps + 1, sent := sent', tail := R.1.own, n := P.n + 1 }, R.2.2.code == 0 && (R.2.2.ring && (decide (P.steps + 1 = ml N P.n + 4) && (decide (sent' = P.n + 1) && bell'))))
def playS (N D : Nat) (P : Ql) : Ql × Bool :=
  match P.s with
  | none => sd1 N D { P with s := some (startQ (msg N P.n) P.tail), steps := 0 } (startQ (msg N P.n) P.tail)
  | some s => sd1 N D P s
def foundQ (N : Nat) (P : Ql) (own : Int) (l : List Int) : Bool :=
  decide ((l.length : Int) = ml N P.got) && (decide (own = (l.length : Int) + 3) && (decide (P.got < P.sent) && l.all (fun x => x == P.got)))
def rc1 (N D : Nat) (boot : Int) (P : Ql) (t : QS) : Ql × Bool :=
  let R := qrecv (qr2 N D) t P.m
  if R.2.2.done = false then ({ P with m := R.2.1, r := some R.1, own := P.own + 1 }, decide (P.own + 1 < 40))
  else if R.2.2.code = 2 then ({ P with m := R.2.1, r := none, own := P.own + 1, head := R.1.own }, decide (P.own + 1 = 1) && (decide (P.sent = P.got) && R.2.2.data.isEmpty))
  else if R.2.2.code = 0 ∧ foundQ N P (P.own + 1) R.2.2.data = true then ({ P with m := R.2.1, r := none, own := P.own + 1, head := R.1.own, got := P.got + 1 }, decide ((R.1.own - boot) % 4294967296 = (P.got + 1) % 4294967296))
  else ({ P with m := R.2.1, r := none, own := P.own + 1, head := R.1.own }, false)
def playQ (N D : Nat) (boot : Int) (P : Ql) : Ql × Bool :=
  match P.r with
  | none => rc1 N D boot { P with r := some (startQ [] P.head), own := 0 } (startQ [] P.head)
  | some t => rc1 N D boot P t
section
variable {F : Qr} {s : QS} {m : List Int}
theorem qs0 (h : s.no = 0) (hf : ¬ (F.d : Int) ≤ (s.own - rd m F.dst) % 4294967296) : qsend F s m = ({ s with no := 1 }, m, qd0) := by unfold qsend; rw [if_neg (by omega), if_pos h, if_neg hf]
theorem qs0f (h : s.no = 0) (hf : (F.d : Int) ≤ (s.own - rd m F.dst) % 4294967296) : qsend F s m = ({ s with no := -1 }, m, { qd0 with done := true, mark := true, code := 2 }) := by unfold qsend; rw [if_neg (by omega), if_pos h, if_pos hf]
theorem qs1 (h : s.no = 1) : qsend F s m = ({ s with no := 2 }, m.set (cellQ F s.own) s.data.length, qd0) := by unfold qsend; rw [if_neg (by omega), if_neg (by omega), if_pos h]
theorem qs2 {k : Nat} (h : s.no = 2 + (k : Int)) (hk : k < s.data.length) : qsend F s m = ({ s with no := 3 + (k : Int) }, m.set (cellQ F s.own + 1 + k) (s.data.getD k 0), qd0) := by
  unfold qsend; rw [if_neg (by omega), if_neg (by omega), if_neg (by omega), if_pos (by omega), show cellQ F s.own + (s.no - 1).toNat = cellQ F s.own + 1 + k by omega, show (s.no - 2).toNat = k by omega, show s.no + 1 = 3 + (k : Int) by omega]
theorem qs3 (h : s.no = 2 + (s.data.length : Int)) : qsend F s m = ({ s with no := 3 + (s.data.length : Int), own := inc32 s.own }, m.set F.src (inc32 s.own), { qd0 with mark := true }) := by
  unfold qsend; rw [if_neg (by omega), if_neg (by omega), if_neg (by omega), if_neg (by omega), if_pos h, show s.no + 1 = 3 + (s.data.length : Int) by omega]
theorem qs4 (h : s.no = 3 + (s.data.length : Int)) : qsend F s m = ({ s with no := -1 }, m, { qd0 with done := true, ring := true }) := by
  unfold qsend; rw [if_neg (by omega), if_neg (by omega), if_neg (by omega), if_neg (by omega), if_neg (by omega)]
theorem qr0 (h : s.no = 0) (hf : rd m F.src ≠ s.own) : qrecv F s m = ({ s with no := 1 }, m, qd0) := by unfold qrecv; rw [if_neg (by omega), if_pos h, if_neg hf]
theorem qr0f (h : s.no = 0) (hf : rd m F.src = s.own) : qrecv F s m = ({ s with no := -1 }, m, { qd0 with done := true, mark := true, code := 2 }) := by unfold qrecv; rw [if_neg (by omega), if_pos h, if_pos hf]
theorem qr1 (h : s.no = 1) : qrecv F s m = ({ s with no := 2, len := lenQ F (rd m (cellQ F s.own)) }, m, qd0) := by unfold qrecv; rw [if_neg (by omega), if_neg (by omega), if_pos h]
theorem qr2s (h : 2 ≤ s.no) (hl : (s.data.length : Int) < s.len) : qrecv F s m = ({ s with no := s.no + 1, data := s.data ++ [rd m (cellQ F s.own + 1 + s.data.length)] }, m, qd0) := by
  unfold qrecv; rw [if_neg (by omega), if_neg (by omega), if_neg (by omega), if_pos hl]
theorem qr3 (h : 2 ≤ s.no) (hl : ¬ (s.data.length : Int) < s.len) : qrecv F s m = ({ s with no := -1, own := inc32 s.own }, m.set F.dst (inc32 s.own), { qd0 with done := true, mark := true, data := s.data }) := by
  unfold qrecv; rw [if_neg (by omega), if_neg (by omega), if_neg (by omega), if_neg hl]
end
structure SFit (N : Nat) (boot : Int) (P : Ql) (s : QS) (sn : Int) : Prop where
  hd : s.data = msg N P.n
  hno : s.no = sn
  ho : sn ≤ 2 + ml N P.n → s.own = num boot P.n
  hx : sn = 3 + ml N P.n → s.own = num boot (P.n + 1)
  hs : P.steps = sn
structure GFit (N : Nat) (boot : Int) (P : Ql) (t : QS) (rn : Int) : Prop where
  r0 : 0 ≤ rn
  hno : t.no = rn
  ho : t.own = num boot P.got
  hs : P.own = rn
  d0 : rn ≤ 1 → t.data = []
  d2 : 2 ≤ rn → t.len = ml N P.got ∧ t.data = List.replicate (rn - 2).toNat P.got ∧ rn - 2 ≤ ml N P.got
def SOk (N : Nat) (boot : Int) (P : Ql) (sn : Int) : Prop := (P.s = none ∧ sn = 0 ∧ P.tail = num boot P.n) ∨ ∃ s, P.s = some s ∧ SFit N boot P s sn
def GOk (N : Nat) (boot : Int) (P : Ql) (rn : Int) : Prop := (P.r = none ∧ rn = 0 ∧ P.head = num boot P.got) ∨ ∃ t, P.r = some t ∧ 1 ≤ rn ∧ GFit N boot P t rn
def QInv (N D : Nat) (boot : Int) (P : Ql) : Prop := ∃ sn rn, InvQ N D P.m boot P.sent P.got P.n sn rn ∧ SOk N boot P sn ∧ GOk N boot P rn ∧ N ≤ 16
theorem GOk.of {N : Nat} {boot rn : Int} {P Q : Ql} (h : GOk N boot P rn) (hr : Q.r = P.r) (hh : Q.head = P.head) (hg : Q.got = P.got) (ho : Q.own = P.own) : GOk N boot Q rn := by
  rcases h with ⟨h1, h2, h3⟩ | ⟨t, h1, h2, h3⟩
  · exact .inl ⟨hr.trans h1, h2, by rw [hh, hg]; exact h3⟩
  · exact .inr ⟨t, hr.trans h1, h2, { r0 := h3.r0, hno := h3.hno, ho := by rw [hg]; exact h3.ho, hs := ho.trans h3.hs, d0 := h3.d0, d2 := by rw [hg]; exact h3.d2 }⟩
theorem SOk.of {N : Nat} {boot sn : Int} {P Q : Ql} (h : SOk N boot P sn) (hs : Q.s = P.s) (ht : Q.tail = P.tail) (hn : Q.n = P.n) (ho : Q.steps = P.steps) : SOk N boot Q sn := by
  rcases h with ⟨h1, h2, h3⟩ | ⟨t, h1, h3⟩
  · exact .inl ⟨hs.trans h1, h2, by rw [ht, hn]; exact h3⟩
  · exact .inr ⟨t, hs.trans h1, { hd := by rw [hn]; exact h3.hd, hno := h3.hno, ho := by rw [hn]; exact h3.ho, hx := by rw [hn]; exact h3.hx, hs := ho.trans h3.hs }⟩
theorem sd1_of {N D : Nat} {P : Ql} {s s' : QS} {m' : List Int} {d : QD} {k : Int} (e : qsend (qr2 N D) s P.m = (s', m', d)) (hd : d.done = false) (hr : d.ring = false) (hk : (if d.mark = true ∧ d.done = false then P.sent + 1 else P.sent) = k) :
    sd1 N D P s = ({ P with m := m', s := some s', steps := P.steps + 1, sent := k }, decide (P.steps + 1 < 40)) := by unfold sd1; rw [e]; simp only; rw [if_pos hd, hk, hr, Bool.or_false]
theorem sd1_full {N D : Nat} {P : Ql} {s s' : QS} {m' : List Int} {d : QD} (e : qsend (qr2 N D) s P.m = (s', m', d)) (hd : d.done = true) (hr : d.ring = false) (hc : d.code = 2) :
    sd1 N D P s = ({ P with m := m', s := none, steps := P.steps + 1, tail := s'.own }, decide (P.steps + 1 = 1) && decide (P.sent - P.got = D)) := by
  unfold sd1; rw [e]; simp only; rw [if_neg (by rw [hd]; decide), if_pos hc, hr, Bool.or_false, if_neg (by rw [hd]; simp)]; rfl
theorem sd1_end {N D : Nat} {P : Ql} {s s' : QS} {m' : List Int} {d : QD} (e : qsend (qr2 N D) s P.m = (s', m', d)) (hd : d.done = true) (hr : d.ring = true) (hc : d.code = 0) :
    sd1 N D P s = ({ P with m := m', bell := true, s := none, steps := P.steps + 1, tail := s'.own, n := P.n + 1 }, decide (P.steps + 1 = ml N P.n + 4) && decide (P.sent = P.n + 1)) := by
  unfold sd1; rw [e]; simp only; rw [if_neg (by rw [hd]; decide), if_neg (by rw [hc]; decide), hr, Bool.or_true, if_neg (by rw [hd]; simp), hc]; simp
/-- What a step of a send changes: at most one word of the source's. -/
def OwnS (N D : Nat) (m m' : List Int) : Prop := m' = m ∨ ∃ a v, 1 ≤ a ∧ a < 2 + D * (N + 1) ∧ m' = m.set a v
def OwnR (N D : Nat) (m m' : List Int) : Prop := m' = m ∨ ∃ v, m' = m.set (2 + D * (N + 1)) v
theorem sd1_ok {N D : Nat} {boot : Int} {P : Ql} {s : QS} {sn rn : Int} (h : InvQ N D P.m boot P.sent P.got P.n sn rn) (hs : SFit N boot P s sn) (hr : GOk N boot P rn) (hN : N ≤ 16) :
    (sd1 N D P s).2 = true ∧ QInv N D boot (sd1 N D P s).1 ∧ OwnS N D P.m (sd1 N D P s).1.m ∧ (sn = 0 → P.sent - P.got = D → (sd1 N D P s).1.m = P.m) ∧ (sd1 N D P s).1.got = P.got := by
  have hm := ml_in h.hN P.n
  have hlen : (s.data.length : Int) = ml N P.n := by rw [hs.hd]; exact msg_len h.hN _
  obtain ⟨e1, e2, e3, e5, e4⟩ := hs
  have hs0 := h.s0
  have hd := h.d1
  have hb := h.bd
  have hc := cell_in (N := N) hd.1 (num boot P.n)
  by_cases z0 : sn = 0
  · subst z0
    have eo := e3 (by omega)
    have hn := h.s1 (by omega)
    have hf : (s.own - rd P.m (qr2 N D).dst) % 4294967296 = P.sent - P.got := by rw [eo]; exact h.full
    by_cases hfu : P.sent - P.got = D
    · rw [sd1_full (qs0f e2 (by rw [hf]; show (D : Int) ≤ _; omega)) rfl rfl rfl]
      exact ⟨by rw [decide_eq_true (show P.steps + 1 = 1 by omega), decide_eq_true hfu]; rfl, ⟨0, rn, h, .inl ⟨rfl, rfl, eo⟩, hr.of rfl rfl rfl rfl, hN⟩, .inl rfl, fun _ _ => rfl, rfl⟩
    · rw [sd1_of (qs0 e2 (by rw [hf]; show ¬ (D : Int) ≤ _; omega)) rfl rfl rfl]
      exact ⟨decide_eq_true (by omega), ⟨1, rn, h.room (by omega), .inr ⟨_, rfl, ⟨e1, rfl, fun _ => eo, fun x => absurd (show (1 : Int) = 3 + ml N P.n from x) (by omega), show P.steps + 1 = 1 by omega⟩⟩, hr.of rfl rfl rfl rfl, hN⟩, .inl rfl, fun _ x => absurd x hfu, rfl⟩
  by_cases z1 : sn = 1
  · subst z1
    have eo := e3 (by omega)
    rw [sd1_of (qs1 e2) rfl rfl rfl, eo, hlen]
    exact ⟨decide_eq_true (by omega), ⟨2, rn, h.s_len, .inr ⟨_, rfl, ⟨e1, rfl, fun _ => (by first | exact eo | rfl), fun x => absurd (show (2 : Int) = 3 + ml N P.n from x) (by omega), show P.steps + 1 = 2 by omega⟩⟩, hr.of rfl rfl rfl rfl, hN⟩, .inr ⟨_, _, by omega, by omega, rfl⟩, fun x => by omega, rfl⟩
  by_cases z2 : sn < 2 + ml N P.n
  · obtain ⟨k, rfl⟩ : ∃ k : Nat, sn = 2 + (k : Int) := ⟨(sn - 2).toNat, by omega⟩
    have eo := e3 (by omega)
    have hwd : s.data.getD k 0 = P.n := by rw [e1]; exact msg_at h.hN (by omega)
    rw [sd1_of (qs2 e2 (by omega)) rfl rfl rfl, eo, hwd]
    exact ⟨decide_eq_true (by omega), ⟨3 + (k : Int), rn, h.s_word (by omega), .inr ⟨_, rfl, ⟨e1, rfl, fun _ => (by first | exact eo | rfl), fun x => absurd (show 3 + (k : Int) = 3 + ml N P.n from x) (by omega), show P.steps + 1 = 3 + (k : Int) by omega⟩⟩, hr.of rfl rfl rfl rfl, hN⟩, .inr ⟨_, _, by omega, by omega, rfl⟩, fun x => by omega, rfl⟩
  by_cases z3 : sn = 2 + ml N P.n
  · subst z3
    have eo := e3 (by omega)
    have hi : inc32 s.own = num boot (P.n + 1) := by rw [eo]; exact num_inc _ _
    rw [sd1_of (qs3 (by omega)) rfl rfl rfl, hi, hlen]
    exact ⟨decide_eq_true (by omega), ⟨3 + ml N P.n, rn, h.s_tail, .inr ⟨_, rfl, ⟨e1, rfl, fun x => absurd (show 3 + ml N P.n ≤ 2 + ml N P.n from x) (by omega), fun _ => (by first | exact hi | rfl), show P.steps + 1 = 3 + ml N P.n by omega⟩⟩, hr.of rfl rfl rfl rfl, hN⟩, .inr ⟨_, _, Nat.le_refl 1, (by show 1 < 2 + D * (N + 1); omega), rfl⟩, fun x => by omega, rfl⟩
  · have z4 : sn = 3 + ml N P.n := by omega
    subst z4
    have h3 := h.s3 rfl
    have eo := e5 rfl
    rw [sd1_end (qs4 (by omega)) rfl rfl rfl]
    exact ⟨by rw [decide_eq_true (show P.steps + 1 = ml N P.n + 4 by omega), decide_eq_true h3]; rfl, ⟨0, rn, h.s_ring, .inl ⟨rfl, rfl, eo⟩, hr.of rfl rfl rfl rfl, hN⟩, .inl rfl, fun x => by omega, rfl⟩
theorem playS_ok {N D : Nat} {boot : Int} {P : Ql} (h : QInv N D boot P) : (playS N D P).2 = true ∧ QInv N D boot (playS N D P).1 ∧ OwnS N D P.m (playS N D P).1.m ∧ (P.s = none → P.sent - P.got = D → (playS N D P).1.m = P.m) ∧ (playS N D P).1.got = P.got := by
  obtain ⟨sn, rn, hi, hs, hr, hN⟩ := h
  unfold playS
  rcases hs with ⟨e, rfl, ht⟩ | ⟨s, e, hf⟩
  · rw [e]
    have hb : GOk N boot { P with s := some (startQ (msg N P.n) P.tail), steps := 0 } rn := hr.of rfl rfl rfl rfl
    have := sd1_ok (P := { P with s := some (startQ (msg N P.n) P.tail), steps := 0 }) (s := startQ (msg N P.n) P.tail) hi ⟨rfl, rfl, fun _ => ht, fun x => by
      have := ml_in hi.hN P.n
      exact absurd (show (0 : Int) = 3 + ml N P.n from x) (by omega), rfl⟩ hb hN
    exact ⟨this.1, this.2.1, this.2.2.1, fun _ => this.2.2.2.1 rfl, this.2.2.2.2⟩
  · rw [e]
    have := sd1_ok hi hf hr hN
    exact ⟨this.1, this.2.1, this.2.2.1, fun x => (by cases x), this.2.2.2.2⟩
theorem rc1_of {N D : Nat} {boot : Int} {P : Ql} {t t' : QS} {m' : List Int} {d : QD} (e : qrecv (qr2 N D) t P.m = (t', m', d)) (hd : d.done = false) : rc1 N D boot P t = ({ P with m := m', r := some t', own := P.own + 1 }, decide (P.own + 1 < 40)) := by
  unfold rc1; rw [e]; simp only; rw [if_pos hd]
theorem rc1_none {N D : Nat} {boot : Int} {P : Ql} {t t' : QS} {m' : List Int} {d : QD} (e : qrecv (qr2 N D) t P.m = (t', m', d)) (hd : d.done = true) (hc : d.code = 2) (hl : d.data = []) :
    rc1 N D boot P t = ({ P with m := m', r := none, own := P.own + 1, head := t'.own }, decide (P.own + 1 = 1) && decide (P.sent = P.got)) := by
  unfold rc1; rw [e]; simp only; rw [if_neg (by rw [hd]; decide), if_pos hc, hl]; simp
theorem rc1_end {N D : Nat} {boot : Int} {P : Ql} {t t' : QS} {m' l : List Int} {d : QD} (e : qrecv (qr2 N D) t P.m = (t', m', d)) (hd : d.done = true) (hc : d.code = 0) (hl : d.data = l) (hf : foundQ N P (P.own + 1) l = true) :
    rc1 N D boot P t = ({ P with m := m', r := none, own := P.own + 1, head := t'.own, got := P.got + 1 }, decide ((t'.own - boot) % 4294967296 = (P.got + 1) % 4294967296)) := by
  unfold rc1; rw [e]; simp only; rw [if_neg (by rw [hd]; decide), if_neg (by rw [hc]; decide), hl, if_pos ⟨hc, hf⟩]
theorem rc1_ok {N D : Nat} {boot : Int} {P : Ql} {t : QS} {sn rn : Int} (h : InvQ N D P.m boot P.sent P.got P.n sn rn) (hs : SOk N boot P sn) (hr : GFit N boot P t rn) (hN : N ≤ 16) :
    (rc1 N D boot P t).2 = true ∧ QInv N D boot (rc1 N D boot P t).1 ∧ OwnR N D P.m (rc1 N D boot P t).1.m ∧ (rn = 0 → P.sent = P.got → (rc1 N D boot P t).1.m = P.m) ∧ (rc1 N D boot P t).1.sent = P.sent := by
  obtain ⟨e0, e2, eo, e4, d0, d2⟩ := hr
  have hm := ml_in h.hN P.got
  have hd := h.d1
  have hb := h.bd
  by_cases z0 : rn = 0
  · subst z0
    by_cases he : P.sent = P.got
    · rw [rc1_none (qr0f e2 (by rw [eo]; exact h.empty.2 he)) rfl rfl rfl]
      exact ⟨by rw [decide_eq_true (show P.own + 1 = 1 by omega), decide_eq_true he]; rfl, ⟨sn, 0, h, hs.of rfl rfl rfl rfl, .inl ⟨rfl, rfl, eo⟩, hN⟩, .inl rfl, fun _ _ => rfl, rfl⟩
    · rw [rc1_of (qr0 e2 (by rw [eo]; exact fun x => he (h.empty.1 x))) rfl]
      exact ⟨decide_eq_true (by omega), ⟨sn, 1, h.r_some (by omega), hs.of rfl rfl rfl rfl, .inr ⟨_, rfl, Int.le_refl _, ⟨by decide, rfl, eo, show P.own + 1 = 1 by omega, fun _ => d0 (by omega), fun x => by omega⟩⟩, hN⟩, .inl rfl, fun _ x => absurd x he, rfl⟩
  have hh := h.at_head (by omega)
  have hgs := h.r1 (by omega)
  by_cases z1 : rn = 1
  · subst z1
    have hlo : lenQ (qr2 N D) (rd P.m (cellQ (qr2 N D) t.own)) = ml N P.got := by rw [eo, hh.1]; exact if_pos hm.2
    rw [rc1_of (qr1 e2) rfl, hlo]
    exact ⟨decide_eq_true (by omega), ⟨sn, 2, h.r_more (by omega), hs.of rfl rfl rfl rfl, .inr ⟨_, rfl, by decide, ⟨by decide, rfl, eo, show P.own + 1 = 2 by omega, fun x => by omega, fun _ => ⟨rfl, d0 (by omega), (show (2 : Int) - 2 ≤ ml N P.got by omega)⟩⟩⟩, hN⟩, .inl rfl, fun x => by omega, rfl⟩
  obtain ⟨hl, hdt, hle⟩ := d2 (by omega)
  obtain ⟨k, rfl⟩ : ∃ k : Nat, rn = 2 + (k : Int) := ⟨(rn - 2).toNat, by omega⟩
  rw [show (2 + (k : Int) - 2).toNat = k by omega] at hdt
  have hdlen : (t.data.length : Int) = k := by rw [hdt, List.length_replicate]
  have hdl : t.data.length = k := by omega
  by_cases z2 : (k : Int) < ml N P.got
  · have happ : t.data ++ [rd P.m (cellQ (qr2 N D) t.own + 1 + t.data.length)] = List.replicate (k + 1) P.got := by rw [hdl, eo, hh.2 k z2, hdt, List.replicate_succ']
    rw [rc1_of (qr2s (by omega) (by omega)) rfl, happ]
    exact ⟨decide_eq_true (by omega), ⟨sn, 3 + (k : Int), h.r_more (by omega), hs.of rfl rfl rfl rfl, .inr ⟨_, rfl, by omega, ⟨by omega, (by show t.no + 1 = _; omega), eo, show P.own + 1 = 3 + (k : Int) by omega, fun x => by omega, fun _ => ⟨hl, (by rw [show (3 + (k : Int) - 2).toNat = k + 1 by omega]), (show 3 + (k : Int) - 2 ≤ ml N P.got by omega)⟩⟩⟩, hN⟩, .inl rfl, fun x => by omega, rfl⟩
  · have hi : inc32 t.own = num boot (P.got + 1) := by rw [eo]; exact num_inc _ _
    have hf : foundQ N P (P.own + 1) t.data = true := by
      unfold foundQ
      rw [decide_eq_true (show (t.data.length : Int) = ml N P.got by omega), decide_eq_true (show P.own + 1 = (t.data.length : Int) + 3 by omega), decide_eq_true hgs, hdt]
      simp
    rw [rc1_end (qr3 (by omega) (by omega)) rfl rfl rfl hf, hi]
    exact ⟨decide_eq_true (by show (num boot (P.got + 1) - boot) % 4294967296 = _; unfold num; omega), ⟨sn, 0, h.r_head (by omega), hs.of rfl rfl rfl rfl, .inl ⟨rfl, rfl, rfl⟩, hN⟩, .inr ⟨_, rfl⟩, fun x => by omega, rfl⟩
theorem playQ_ok {N D : Nat} {boot : Int} {P : Ql} (h : QInv N D boot P) : (playQ N D boot P).2 = true ∧ QInv N D boot (playQ N D boot P).1 ∧ OwnR N D P.m (playQ N D boot P).1.m ∧ (P.r = none → P.sent = P.got → (playQ N D boot P).1.m = P.m) ∧ (playQ N D boot P).1.sent = P.sent := by
  obtain ⟨sn, rn, hi, hs, hr, hN⟩ := h
  unfold playQ
  rcases hr with ⟨e, rfl, ht⟩ | ⟨t, e, h1, hf⟩
  · rw [e]
    have hb : SOk N boot { P with r := some (startQ [] P.head), own := 0 } sn := hs.of rfl rfl rfl rfl
    have := rc1_ok (P := { P with r := some (startQ [] P.head), own := 0 }) (t := startQ [] P.head) hi hb ⟨Int.le_refl _, rfl, ht, rfl, fun _ => rfl, fun x => by omega⟩ hN
    exact ⟨this.1, this.2.1, this.2.2.1, fun _ => this.2.2.2.1 rfl, this.2.2.2.2⟩
  · rw [e]
    have := rc1_ok hi hs hf hN
    exact ⟨this.1, this.2.1, this.2.2.1, fun x => (by cases x), this.2.2.2.2⟩
/-- What a count tells, between the calls of its side. -/
theorem QInv.count {N D : Nat} {boot : Int} {P : Ql} (h : QInv N D boot P) : 0 ≤ P.got ∧ P.got ≤ P.sent ∧ P.sent ≤ P.got + D
    ∧ (P.s = none → (P.tail - rd P.m (2 + D * (N + 1))) % 4294967296 = P.sent - P.got) ∧ (P.r = none → (rd P.m 1 - P.head) % 4294967296 = P.sent - P.got) := by
  obtain ⟨sn, rn, hi, hs, hr, hN⟩ := h
  have hb := hi.bd
  have hd := hi.d1
  refine ⟨hb.1, hb.2.1, hb.2.2, fun x => ?_, fun x => ?_⟩
  · rcases hs with ⟨_, rfl, ht⟩ | ⟨s, e, _⟩
    · rw [ht]; exact hi.full
    · rw [x] at e; cases e
  · rcases hr with ⟨_, rfl, ht⟩ | ⟨s, e, _⟩
    · rw [ht, hi.tl]; exact num_less (by omega) (by omega)
    · rw [x] at e; cases e
end Go.Proofs.YtfdgokkngejbhaaGreat.Simp
end
section
namespace Go.Proofs.YtfdgokkngejbhaaGreat.Simp
set_option linter.unusedVariables false
set_option linter.unusedSimpArgs false
/-- With its numbers named. -/
def QInvN (N D : Nat) (boot : Int) (P : Ql) (sn rn : Int) : Prop := InvQ N D P.m boot P.sent P.got P.n sn rn ∧ SOk N boot P sn ∧ GOk N boot P rn ∧ N ≤ 16
theorem QInvN.inv {N D : Nat} {boot sn rn : Int} {P : Ql} (h : QInvN N D boot P sn rn) : QInv N D boot P := ⟨sn, rn, h⟩
/-- What a step of the send makes of its numbers: steps done, marked as sent, the message. -/
def nextS (N D : Nat) (sn sent got n : Int) : Int × Int × Int :=
  if sn = 0 then (if sent - got = D then (0, sent, n) else (1, sent, n))
  else if sn < 2 + ml N n then (sn + 1, sent, n) else if sn = 2 + ml N n then (sn + 1, sent + 1, n) else (0, sent, n + 1)
theorem sd1_next {N D : Nat} {boot : Int} {P : Ql} {s : QS} {sn rn : Int} (h : InvQ N D P.m boot P.sent P.got P.n sn rn) (hs : SFit N boot P s sn) (hr : GOk N boot P rn) (hN : N ≤ 16) {x : Int × Int × Int} (hx : nextS N D sn P.sent P.got P.n = x) :
    QInvN N D boot (sd1 N D P s).1 x.1 rn ∧ (sd1 N D P s).1.sent = x.2.1 ∧ (sd1 N D P s).1.n = x.2.2 ∧ ((sd1 N D P s).1.s = none ↔ x.1 = 0) := by
  subst hx
  have hm := ml_in h.hN P.n
  have hlen : (s.data.length : Int) = ml N P.n := by rw [hs.hd]; exact msg_len h.hN _
  obtain ⟨e1, e2, e3, e5, e4⟩ := hs
  have hs0 := h.s0
  have hd := h.d1
  have hb := h.bd
  unfold nextS
  by_cases z0 : sn = 0
  · subst z0
    have eo := e3 (by omega)
    have hf : (s.own - rd P.m (qr2 N D).dst) % 4294967296 = P.sent - P.got := by rw [eo]; exact h.full
    rw [if_pos rfl]
    by_cases hfu : P.sent - P.got = D
    · rw [if_pos hfu, sd1_full (qs0f e2 (by rw [hf]; show (D : Int) ≤ _; omega)) rfl rfl rfl]
      exact ⟨⟨h, .inl ⟨rfl, rfl, eo⟩, hr.of rfl rfl rfl rfl, hN⟩, rfl, rfl, by simp⟩
    · rw [if_neg hfu, sd1_of (qs0 e2 (by rw [hf]; show ¬ (D : Int) ≤ _; omega)) rfl rfl rfl]
      exact ⟨⟨h.room (by omega), .inr ⟨_, rfl, ⟨e1, rfl, fun _ => eo, fun x => absurd (show (1 : Int) = 3 + ml N P.n from x) (by omega), show P.steps + 1 = 1 by omega⟩⟩, hr.of rfl rfl rfl rfl, hN⟩, rfl, rfl, by simp⟩
  rw [if_neg z0]
  by_cases z1 : sn = 1
  · subst z1
    have eo := e3 (by omega)
    rw [if_pos (by omega), sd1_of (qs1 e2) rfl rfl rfl, eo, hlen]
    exact ⟨⟨h.s_len, .inr ⟨_, rfl, ⟨e1, rfl, fun _ => (by first | exact eo | rfl), fun x => absurd (show (2 : Int) = 3 + ml N P.n from x) (by omega), show P.steps + 1 = 2 by omega⟩⟩, hr.of rfl rfl rfl rfl, hN⟩, rfl, rfl, by simp⟩
  by_cases z2 : sn < 2 + ml N P.n
  · obtain ⟨k, rfl⟩ : ∃ k : Nat, sn = 2 + (k : Int) := ⟨(sn - 2).toNat, by omega⟩
    have eo := e3 (by omega)
    have hwd : s.data.getD k 0 = P.n := by rw [e1]; exact msg_at h.hN (by omega)
    rw [if_pos z2, sd1_of (qs2 e2 (by omega)) rfl rfl rfl, eo, hwd, show 2 + (k : Int) + 1 = 3 + (k : Int) by omega]
    exact ⟨⟨h.s_word (by omega), .inr ⟨_, rfl, ⟨e1, rfl, fun _ => (by first | exact eo | rfl), fun x => absurd (show 3 + (k : Int) = 3 + ml N P.n from x) (by omega), show P.steps + 1 = 3 + (k : Int) by omega⟩⟩, hr.of rfl rfl rfl rfl, hN⟩, rfl, rfl, ⟨fun x => (by cases x), fun x => absurd (show 3 + (k : Int) = 0 from x) (by omega)⟩⟩
  rw [if_neg z2]
  by_cases z3 : sn = 2 + ml N P.n
  · subst z3
    have eo := e3 (by omega)
    have hi : inc32 s.own = num boot (P.n + 1) := by rw [eo]; exact num_inc _ _
    rw [if_pos rfl, sd1_of (qs3 (by omega)) rfl rfl rfl, hi, hlen, show 2 + ml N P.n + 1 = 3 + ml N P.n by omega]
    exact ⟨⟨h.s_tail, .inr ⟨_, rfl, ⟨e1, rfl, fun x => absurd (show 3 + ml N P.n ≤ 2 + ml N P.n from x) (by omega), fun _ => (by first | exact hi | rfl), show P.steps + 1 = 3 + ml N P.n by omega⟩⟩, hr.of rfl rfl rfl rfl, hN⟩, rfl, rfl, ⟨fun x => (by cases x), fun x => absurd (show 3 + ml N P.n = 0 from x) (by omega)⟩⟩
  · have z4 : sn = 3 + ml N P.n := by omega
    subst z4
    have eo := e5 rfl
    rw [if_neg z3, sd1_end (qs4 (by omega)) rfl rfl rfl]
    exact ⟨⟨h.s_ring, .inl ⟨rfl, rfl, eo⟩, hr.of rfl rfl rfl rfl, hN⟩, rfl, rfl, by simp⟩
theorem playS_next {N D : Nat} {boot : Int} {P : Ql} {sn rn : Int} (h : QInvN N D boot P sn rn) {x : Int × Int × Int} (hx : nextS N D sn P.sent P.got P.n = x) :
    QInvN N D boot (playS N D P).1 x.1 rn ∧ (playS N D P).1.sent = x.2.1 ∧ (playS N D P).1.n = x.2.2 ∧ ((playS N D P).1.s = none ↔ x.1 = 0) := by
  obtain ⟨hi, hs, hr, hN⟩ := h
  unfold playS
  rcases hs with ⟨e, rfl, ht⟩ | ⟨s, e, hf⟩
  · rw [e]
    have hb : GOk N boot { P with s := some (startQ (msg N P.n) P.tail), steps := 0 } rn := hr.of rfl rfl rfl rfl
    exact sd1_next (P := { P with s := some (startQ (msg N P.n) P.tail), steps := 0 }) (s := startQ (msg N P.n) P.tail) hi ⟨rfl, rfl, fun _ => ht, fun x => by
      have := ml_in hi.hN P.n
      exact absurd (show (0 : Int) = 3 + ml N P.n from x) (by omega), rfl⟩ hb hN hx
  · rw [e]
    exact sd1_next hi hf hr hN hx
/-- What a step of the receive makes of its numbers: steps done, received. -/
def nextR (N : Nat) (rn sent got : Int) : Int × Int :=
  if rn = 0 then (if sent = got then (0, got) else (1, got)) else if rn < 2 + ml N got then (rn + 1, got) else (0, got + 1)
theorem rc1_next {N D : Nat} {boot : Int} {P : Ql} {t : QS} {sn rn : Int} (h : InvQ N D P.m boot P.sent P.got P.n sn rn) (hs : SOk N boot P sn) (hr : GFit N boot P t rn) (hN : N ≤ 16) {x : Int × Int} (hx : nextR N rn P.sent P.got = x) :
    QInvN N D boot (rc1 N D boot P t).1 sn x.1 ∧ (rc1 N D boot P t).1.got = x.2 ∧ (rc1 N D boot P t).1.n = P.n := by
  subst hx
  obtain ⟨e0, e2, eo, e4, d0, d2⟩ := hr
  have hm := ml_in h.hN P.got
  have hd := h.d1
  have hb := h.bd
  unfold nextR
  by_cases z0 : rn = 0
  · subst z0
    rw [if_pos rfl]
    by_cases he : P.sent = P.got
    · rw [if_pos he, rc1_none (qr0f e2 (by rw [eo]; exact h.empty.2 he)) rfl rfl rfl]
      exact ⟨⟨h, hs.of rfl rfl rfl rfl, .inl ⟨rfl, rfl, eo⟩, hN⟩, rfl, rfl⟩
    · rw [if_neg he, rc1_of (qr0 e2 (by rw [eo]; exact fun x => he (h.empty.1 x))) rfl]
      exact ⟨⟨h.r_some (by omega), hs.of rfl rfl rfl rfl, .inr ⟨_, rfl, Int.le_refl _, ⟨(show (0 : Int) ≤ 1 by decide), rfl, eo, show P.own + 1 = 1 by omega, fun _ => d0 (by omega), fun x => by omega⟩⟩, hN⟩, rfl, rfl⟩
  rw [if_neg z0]
  have hh := h.at_head (by omega)
  have hgs := h.r1 (by omega)
  by_cases z1 : rn = 1
  · subst z1
    have hlo : lenQ (qr2 N D) (rd P.m (cellQ (qr2 N D) t.own)) = ml N P.got := by rw [eo, hh.1]; exact if_pos hm.2
    rw [if_pos (by omega), rc1_of (qr1 e2) rfl, hlo]
    exact ⟨⟨h.r_more (by omega), hs.of rfl rfl rfl rfl, .inr ⟨_, rfl, (show (1 : Int) ≤ 2 by decide), ⟨(show (0 : Int) ≤ 2 by decide), rfl, eo, show P.own + 1 = 2 by omega, fun x => absurd (show (2 : Int) ≤ 1 from x) (by decide), fun _ => ⟨rfl, d0 (by omega), (show (2 : Int) - 2 ≤ ml N P.got by omega)⟩⟩⟩, hN⟩, rfl, rfl⟩
  obtain ⟨hl, hdt, hle⟩ := d2 (by omega)
  obtain ⟨k, rfl⟩ : ∃ k : Nat, rn = 2 + (k : Int) := ⟨(rn - 2).toNat, by omega⟩
  rw [show (2 + (k : Int) - 2).toNat = k by omega] at hdt
  have hdlen : (t.data.length : Int) = k := by rw [hdt, List.length_replicate]
  have hdl : t.data.length = k := by omega
  by_cases z2 : (k : Int) < ml N P.got
  · have happ : t.data ++ [rd P.m (cellQ (qr2 N D) t.own + 1 + t.data.length)] = List.replicate (k + 1) P.got := by rw [hdl, eo, hh.2 k z2, hdt, List.replicate_succ']
    rw [if_pos (by omega), rc1_of (qr2s (by omega) (by omega)) rfl, happ, show 2 + (k : Int) + 1 = 3 + (k : Int) by omega]
    exact ⟨⟨h.r_more (by omega), hs.of rfl rfl rfl rfl, .inr ⟨_, rfl, by omega, ⟨by omega, (by show t.no + 1 = _; omega), eo, show P.own + 1 = 3 + (k : Int) by omega, fun x => absurd (show 3 + (k : Int) ≤ 1 from x) (by omega), fun _ => ⟨hl, (by rw [show (3 + (k : Int) - 2).toNat = k + 1 by omega]), (show 3 + (k : Int) - 2 ≤ ml N P.got by omega)⟩⟩⟩, hN⟩, rfl, rfl⟩
  · have hi : inc32 t.own = num boot (P.got + 1) := by rw [eo]; exact num_inc _ _
    have hf : foundQ N P (P.own + 1) t.data = true := by
      unfold foundQ
      rw [decide_eq_true (show (t.data.length : Int) = ml N P.got by omega), decide_eq_true (show P.own + 1 = (t.data.length : Int) + 3 by omega), decide_eq_true hgs, hdt]
      simp
    rw [if_neg (by omega), rc1_end (qr3 (by omega) (by omega)) rfl rfl rfl hf, hi]
    exact ⟨⟨h.r_head (by omega), hs.of rfl rfl rfl rfl, .inl ⟨rfl, rfl, rfl⟩, hN⟩, rfl, rfl⟩
theorem playQ_next {N D : Nat} {boot : Int} {P : Ql} {sn rn : Int} (h : QInvN N D boot P sn rn) {x : Int × Int} (hx : nextR N rn P.sent P.got = x) :
    QInvN N D boot (playQ N D boot P).1 sn x.1 ∧ (playQ N D boot P).1.got = x.2 ∧ (playQ N D boot P).1.n = P.n := by
  obtain ⟨hi, hs, hr, hN⟩ := h
  unfold playQ
  rcases hr with ⟨e, rfl, ht⟩ | ⟨t, e, h1, hf⟩
  · rw [e]
    have hb : SOk N boot { P with r := some (startQ [] P.head), own := 0 } sn := hs.of rfl rfl rfl rfl
    exact rc1_next (P := { P with r := some (startQ [] P.head), own := 0 }) (t := startQ [] P.head) hi hb ⟨Int.le_refl _, rfl, ht, rfl, fun _ => rfl, fun x => by omega⟩ hN hx
  · rw [e]
    exact rc1_next hi hs hf hN hx
/-- The play's beginning. -/
theorem q_zero {N D : Nat} {boot : Int} (h1 : 1 ≤ N) (h2 : N ≤ 16) (hD : DepthQ D) (hb : 0 ≤ boot ∧ boot ≤ 4294967295) :
    QInvN N D boot ⟨((List.replicate (3 + D * (N + 1)) 0).set 1 boot).set (2 + D * (N + 1)) boot, false, none, none, boot, boot, 0, 0, 0, 0, 0⟩ 0 0 := by
  have hm := ml_in h1 0
  have h0 : num boot 0 = boot := by unfold num; omega
  have hd : 1 ≤ D ∧ D ≤ 8 := by rcases hD with rfl | rfl | rfl | rfl <;> omega
  have hpos : 1 ≤ D * (N + 1) := Nat.mul_pos (by omega) (by omega)
  exact ⟨{ hl := by simp, hN := h1, hD := hD, tl := (rd_ne (by omega)).trans ((rd_eq (by simp; omega)).trans h0.symm), hd := (rd_eq (by simp)).trans h0.symm, bd := ⟨Int.le_refl _, Int.le_refl _, by simp⟩, cells := fun k x y => absurd (show (0 : Int) < 0 from Int.lt_of_le_of_lt x y) (by decide), s0 := ⟨Int.le_refl _, (by show (0 : Int) ≤ 3 + ml N 0; omega)⟩, s1 := fun _ => rfl, s2 := fun x => absurd x (by decide), s3 := fun x => absurd (show (0 : Int) = 3 + ml N 0 from x) (by omega), par := fun x => absurd x (by decide), r1 := fun x => absurd x (by decide) },
    .inl ⟨rfl, rfl, h0.symm⟩, .inl ⟨rfl, rfl, h0.symm⟩, h2⟩
end Go.Proofs.YtfdgokkngejbhaaGreat.Simp
end
section
namespace Go.Proofs.YtfdgokkngejbhaaGreat.Simp
set_option linter.unusedVariables false
set_option linter.unusedSimpArgs false
/-- A sender alone, behind k steps: every message is under way, or all are sent. -/
structure RoomS (N D : Nat) (boot : Int) (P : Ql) (k : Int) : Prop where
  inv : ∃ sn, QInvN N D boot P sn 0 ∧ P.got = 0 ∧ ((sn = 0 ∧ P.n = D ∧ P.sent = D) ∨ (k ≤ 8 * P.n + sn ∧ P.n < D))
theorem RoomS.step {N D : Nat} {boot : Int} {P : Ql} {k : Int} (hN : N ≤ 4) (h : RoomS N D boot P k) : RoomS N D boot (playS N D P).1 (k + 1) := by
  obtain ⟨sn, hi, hg, hc⟩ := h
  obtain ⟨x, hx⟩ : ∃ x, nextS N D sn P.sent P.got P.n = x := ⟨_, rfl⟩
  obtain ⟨h1, h2, h3, h4⟩ := playS_next hi hx
  have hg2 := (playS_ok hi.inv).2.2.2.2
  have iv := hi.1
  have hm := ml_in iv.hN P.n
  have s0 := iv.s0
  have s1 := iv.s1
  have s3 := iv.s3
  have bd := iv.bd
  refine ⟨x.1, h1, hg2.trans hg, ?_⟩
  rw [h2, h3]
  unfold nextS at hx
  subst hx
  rw [hg] at *
  rcases hc with ⟨rfl, c2, c3⟩ | ⟨c1, c2⟩
  · rw [if_pos rfl, if_pos (by omega)]
    exact .inl ⟨rfl, c2, c3⟩
  · by_cases z0 : sn = 0
    · have := s1 (by omega)
      rw [if_pos z0, if_neg (by omega)]
      exact .inr ⟨(by show k + 1 ≤ 8 * P.n + 1; omega), c2⟩
    rw [if_neg z0]
    by_cases z1 : sn < 2 + ml N P.n
    · rw [if_pos z1]
      exact .inr ⟨(by show k + 1 ≤ 8 * P.n + (sn + 1); omega), c2⟩
    rw [if_neg z1]
    by_cases z2 : sn = 2 + ml N P.n
    · rw [if_pos z2]
      exact .inr ⟨(by show k + 1 ≤ 8 * P.n + (sn + 1); omega), c2⟩
    · rw [if_neg z2]
      have h3' := s3 (by omega)
      by_cases e : P.n + 1 = (D : Int)
      · exact .inl ⟨rfl, e, (by show P.sent = (D : Int); omega)⟩
      · exact .inr ⟨(by show k + 1 ≤ 8 * (P.n + 1) + 0; omega), (by show P.n + 1 < (D : Int); omega)⟩
theorem RoomS.full {N D : Nat} {boot : Int} {P : Ql} {k : Int} (hN : N ≤ 4) (h : RoomS N D boot P k) (hk : 8 * (D : Int) ≤ k) : P.sent = D ∧ P.got = 0 := by
  obtain ⟨sn, hi, hg, hc⟩ := h
  have hm := ml_in hi.1.hN P.n
  have s0 := hi.1.s0
  rcases hc with ⟨_, _, c3⟩ | ⟨c1, c2⟩
  · exact ⟨c3, hg⟩
  · omega
/-- A receiver alone, behind k steps: every message is under way, or all are received. -/
structure RoomR (N D : Nat) (boot : Int) (P : Ql) (k : Int) : Prop where
  inv : ∃ sn rn, QInvN N D boot P sn rn ∧ P.sent = D ∧ 0 ≤ rn ∧ rn ≤ 2 + ml N P.got ∧ ((rn = 0 ∧ P.got = D) ∨ (k ≤ 8 * P.got + rn ∧ P.got < D))
theorem RoomR.step {N D : Nat} {boot : Int} {P : Ql} {k : Int} (hN : N ≤ 4) (h : RoomR N D boot P k) : RoomR N D boot (playQ N D boot P).1 (k + 1) := by
  obtain ⟨sn, rn, hi, hs, r0, r1, hc⟩ := h
  obtain ⟨x, hx⟩ : ∃ x, nextR N rn P.sent P.got = x := ⟨_, rfl⟩
  obtain ⟨h1, h2, h3⟩ := playQ_next hi hx
  have hg2 := (playQ_ok hi.inv).2.2.2.2
  have hm := ml_in hi.1.hN P.got
  have hm2 := ml_in hi.1.hN (P.got + 1)
  refine ⟨sn, x.1, h1, hg2.trans hs, ?_⟩
  rw [h2]
  unfold nextR at hx
  subst hx
  rcases hc with ⟨rfl, c2⟩ | ⟨c1, c2⟩
  · rw [if_pos rfl, if_pos (by omega)]
    exact ⟨Int.le_refl _, (by show (0 : Int) ≤ 2 + ml N P.got; omega), .inl ⟨rfl, c2⟩⟩
  · by_cases z0 : rn = 0
    · rw [if_pos z0, if_neg (by omega)]
      exact ⟨(by show (0 : Int) ≤ 1; omega), (by show (1 : Int) ≤ 2 + ml N P.got; omega), .inr ⟨(by show k + 1 ≤ 8 * P.got + 1; omega), c2⟩⟩
    rw [if_neg z0]
    by_cases z1 : rn < 2 + ml N P.got
    · rw [if_pos z1]
      exact ⟨(by show (0 : Int) ≤ rn + 1; omega), (by show rn + 1 ≤ 2 + ml N P.got; omega), .inr ⟨(by show k + 1 ≤ 8 * P.got + (rn + 1); omega), c2⟩⟩
    · rw [if_neg z1]
      refine ⟨Int.le_refl _, (by show (0 : Int) ≤ 2 + ml N (P.got + 1); omega), ?_⟩
      by_cases e : P.got + 1 = (D : Int)
      · exact .inl ⟨rfl, e⟩
      · exact .inr ⟨(by show k + 1 ≤ 8 * (P.got + 1) + 0; omega), (by show P.got + 1 < (D : Int); omega)⟩
theorem RoomR.empty {N D : Nat} {boot : Int} {P : Ql} {k : Int} (hN : N ≤ 4) (h : RoomR N D boot P k) (hk : 8 * (D : Int) ≤ k) : P.sent = D ∧ P.got = D := by
  obtain ⟨sn, rn, hi, hs, r0, r1, hc⟩ := h
  have hm := ml_in hi.1.hN P.got
  rcases hc with ⟨_, c3⟩ | ⟨c1, c2⟩
  · exact ⟨hs, c3⟩
  · omega
theorem RoomS.inv' {N D : Nat} {boot : Int} {P : Ql} {k : Int} (h : RoomS N D boot P k) : QInv N D boot P := by
  obtain ⟨sn, hi, _⟩ := h
  exact hi.inv
theorem RoomR.inv' {N D : Nat} {boot : Int} {P : Ql} {k : Int} (h : RoomR N D boot P k) : QInv N D boot P := by
  obtain ⟨sn, rn, hi, _⟩ := h
  exact hi.inv
/-- A receiver that begins when all are sent. -/
theorem RoomS.turn {N D : Nat} {boot : Int} {P : Ql} {k : Int} (hN : N ≤ 4) (h : RoomS N D boot P k) (hk : 8 * (D : Int) ≤ k) : RoomR N D boot P 0 := by
  have hf := h.full hN hk
  obtain ⟨sn, hi, hg, hc⟩ := h
  have hm := ml_in hi.1.hN P.got
  have hd := hi.1.d1
  exact ⟨sn, 0, hi, hf.1, Int.le_refl _, by omega, .inr ⟨by omega, by omega⟩⟩
end Go.Proofs.YtfdgokkngejbhaaGreat.Simp
end
