/- wakes and MemNew. No condition but those in the statements. -/
import Derived.Test.YtckhlencaojkmaaMem
namespace Go.Proofs.Ytckhlencaojkmaa
open Go.RowKit Go.Sort

theorem memNew_at (n : Nat) (v : Int) (hv : v = (n : Int)) (w : World) (hn : n ≤ 65536) : Calls Try.prog 8 #[.int .i64 v] w (GivesMem w (List.replicate n 0)) := by
  subst hv; exact memNew_in n w hn
theorem memLoad_at (mb rb : Nat) (ws : List Int) (k : Nat) (a : Int) (ha : a = (k : Int)) (w : World) (h : MemAt w mb rb ws) (hl : ws.length ≤ 1000000) (hk : k < ws.length) :
    Calls Try.prog 12 #[.pointer (some ⟨mb, 0, none⟩), .int .u64 a] w fun e w' => e = .returned (.tuple #[.int .u32 (ws.getD k 0), .int .i64 0]) ∧ w = w' := by
  subst ha; exact memLoad_in mb rb ws k w h hl hk
/-- What a store at a word's place does. -/
def Stores (w : World) (mb rb : Nat) (ws : List Int) (e : Ending) (w' : World) : Prop := e = .returned (.int .i64 0) ∧ MemAt w' mb rb ws ∧ w.grownBy w' (some rb)
theorem memStore_at (mb rb : Nat) (ws : List Int) (k : Nat) (a x : Int) (ha : a = (k : Int)) (w : World) (h : MemAt w mb rb ws) (hl : ws.length ≤ 1000000) (hk : k < ws.length) :
    Calls Try.prog 11 #[.pointer (some ⟨mb, 0, none⟩), .int .u64 a, .int .u32 x] w (Stores w mb rb (ws.set k x)) := by
  subst ha
  refine (memStore_in mb rb ws k x w h hl hk).mono ?_
  rintro e w' ⟨rfl, rfl⟩
  exact ⟨rfl, h.set k x, ⟨rfl, rfl, rfl, by simp, fun i hi hne => Below.heap_setCell _ _ _ _ (by simpa using fun e => hne (by rw [e]))⟩⟩

set_option maxHeartbeats 800000 in
theorem wakes_b (w : World) : Calls Try.prog 7 #[] w fun e w' => e = .returned (.bool true) ∧ Below w.heap.size w w' := by
  go_enter Try.func7, Try.ntmps7
  go_wp2_with fail
  refine (memNew_at 2 2 rfl _ (by omega)).mono ?_
  rintro e w1 ⟨mb, rb, rfl, h1, h2, hM, hB⟩
  have HB := Lib.hid hB
  have hM := show MemAt w1 mb rb [0, 0] from hM
  have Hr := Lib.hid h2
  clear hB h1 h2
  go_wp2_with fail
  refine (memStore_at mb rb [0, 0] 1 1 7 rfl _ hM (by simp) (by simp)).mono ?_
  rintro e w2 ⟨rfl, hM2, hg⟩
  have hM2 := show MemAt w2 mb rb [0, 7] from hM2
  have HF := Lib.hid (HB.out.grown hg HB.out.size (fun k hk => by injection hk with hk; subst hk; exact Hr.out))
  clear hg hM
  go_wp2_with fail
  refine (memLoad_at mb rb [0, 7] 1 1 rfl _ hM2 (by simp) (by simp)).mono ?_
  rintro e w3 ⟨rfl, rfl⟩
  go_wp2_with fail
  refine (memLoad_out mb rb [0, 7] 2 _ hM2 (by simp) (by simp)).mono ?_
  rintro e w4 ⟨rfl, rfl⟩
  go_wp2_with fail
  go_ret
  exact ⟨by simp, HF.out⟩

theorem zeros_at (n k : Nat) : (List.replicate n (0 : Int)).getD k 0 = 0 := by
  simp [List.getD_eq_getElem?_getD, List.getElem?_replicate]; split <;> rfl

set_option maxHeartbeats 1600000 in
theorem memNew_walk (n : Int) (w : World) : Calls Try.prog 3 #[.int .i64 n] w fun e w' => e = .returned (.bool true) ∧ Below w.heap.size w w' := by
  by_cases hn : 0 ≤ n ∧ n ≤ 65536
  · obtain ⟨m, rfl⟩ := Int.eq_ofNat_of_zero_le hn.1
    have hm : m ≤ 65536 := by omega
    clear hn
    go_enter Try.func3, Try.ntmps3
    go_wp2_with fail
    refine (wakes_b _).mono ?_
    rintro e w0 ⟨rfl, hb0⟩
    go_wp2_with fail
    refine (memNew_in m _ hm).mono ?_
    rintro e w1 ⟨mb, rb, rfl, h1, h2, hM, hB⟩
    have H1 := Lib.hid (hb0.trans (hB.mono hb0.size))
    obtain ⟨ws, hws⟩ : ∃ ws, ws = List.replicate m (0 : Int) := ⟨_, rfl⟩
    rw [← hws] at hM
    have hlen : ws.length = m := by rw [hws]; simp
    have hz : ∀ k, ws.getD k 0 = 0 := fun k => by rw [hws]; exact zeros_at m k
    have HZ := Lib.hid hz
    clear hB hb0 h1 h2 hws hz
    subst hlen
    have l1 := fun w h => memLen_b mb rb ws w h
    have l2 := fun w h => memWords_b mb rb ws w h (by omega)
    go_wp2_with fail
    refine (memLen_b mb rb ws _ hM).mono ?_
    rintro e w' ⟨rfl, rfl⟩
    go_wp2_with fail
    refine (memWords_b mb rb ws _ hM (by omega)).mono ?_
    rintro e w2 ⟨g, rfl, hg, hW, hb2⟩
    have hM2 := hM.below hb2
    have H2 := Lib.hid (H1.out.trans (hb2.mono H1.out.size))
    clear hM hg hW hb2
    go_wp2_with fail
    refine (memWords_b mb rb ws _ hM2 (by omega)).mono ?_
    rintro e w3 ⟨g3, rfl, hg, hW, hb3⟩
    have H3 := Lib.hid (H2.out.trans (hb3.mono H2.out.size))
    clear hM2 hg hb3
    go_wp2_with fail
    go_loop [48] (fun i => ∃ k : Nat, k ≤ ws.length ∧ i = .int .i64 k) (fun i => ws.length - (intOf i).toNat)
    case atStart => exact ⟨0, Nat.zero_le _, rfl⟩
    case round =>
      obtain ⟨k, hk, rfl⟩ := hrel
      by_cases hlt : k < ws.length
      · have hc := hW.cell hlt
        rw [HZ.out k] at hc
        go_wp2
        go_round
        case rel => exact ⟨k + 1, by omega, by go_num⟩
        case measure => simp [intOf]; omega
      · go_wp2
        go_ret
        exact ⟨rfl, H3.out⟩
  · by_cases h0 : n < 0
    · go_enter Try.func3, Try.ntmps3
      go_wp2_with fail
      refine (wakes_b _).mono ?_
      rintro e w0 ⟨rfl, hb0⟩
      go_wp2_with fail
      refine (memNew_out n _ (by omega)).mono ?_
      rintro e w' ⟨rfl, rfl⟩
      go_wp2
      go_ret
      exact ⟨rfl, hb0⟩
    · have h1 : 65536 < n := by omega
      clear hn
      go_enter Try.func3, Try.ntmps3
      go_wp2_with fail
      refine (wakes_b _).mono ?_
      rintro e w0 ⟨rfl, hb0⟩
      go_wp2_with fail
      refine (memNew_out n _ (by omega)).mono ?_
      rintro e w' ⟨rfl, rfl⟩
      go_wp2
      go_ret
      exact ⟨rfl, hb0⟩
end Go.Proofs.Ytckhlencaojkmaa
