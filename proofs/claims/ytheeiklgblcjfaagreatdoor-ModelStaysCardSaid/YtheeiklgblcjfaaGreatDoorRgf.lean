/- Texts of the ring, joined, what is used of them. No condition but those in the statements. -/
import Derived.BigQuiet
import Derived.BigRegion
import Derived.Deep.RegionHeld3
import Derived.Deep.RegionLaw
import Derived.Deep.RegionLawGrows
import Derived.IntWalk
import Derived.OrdersHeld
import Derived.Test.YtheeiklgblcjfaaGreatDoorRga
import Derived.Test.YtheeiklgblcjfaaGreatDoorRge
section
namespace Go.Proofs.YtheeiklgblcjfaaGreatDoor
open Go.RowKit Go.Sort
set_option linter.unusedVariables false
set_option linter.unusedSimpArgs false
section
variable {P:Program} {md:Region.Mode} {ops:Array Oper} {Q:Exit → Act → World → Prop} {S:World → Prop} {k:Nat}
/-- Whatever order comes: behind each operation but number k S holds,as long as k has not come up. -/
def Till (P:Program) (md:Region.Mode) (ops:Array Oper) (Q:Exit → Act → World → Prop) (S:World → Prop) (k:Nat):Nat → Array Bool → Act → World → Prop
  | 0,l,a,w => Region.ready md ops l = [] ∧ Q .normal a w
  | n + 1,l,a,w => (Region.ready md ops l = [] → Q .normal a w) ∧ ∀ i ∈ Region.ready md ops l,wpOp P ops Q i (fun a' w' => (i ≠ k → l.getD k true = false → S w') ∧ Till P md ops Q S k n (l.setIfInBounds i true) a' w') a w
theorem Till.any:∀ (n:Nat) (l:Array Bool) (a:Act) (w:World),Till P md ops Q S k n l a w → wpAny P md ops Q n l a w
  | 0,_,_,_,h => h
  | n + 1,_,_,_,h => ⟨h.1,fun i hi => wpOp_mono (fun a' w' h' => Till.any n _ a' w' h'.2) (h.2 i hi)⟩
/-- Does operation k wait for operation i? -/
def waitsFor (md:Region.Mode) (ops:Array Oper) (k i:Nat):Bool:=match ops[k]? with
  | some o => o.after.toList.any (fun e => Region.binds md e && e.on == i)
  | none => true
theorem not_ready {i:Nat} {l:Array Bool} (hw:waitsFor md ops k i = true) (hi:l.getD i true = false):k ∉ Region.ready md ops l:=fun hk => by
  obtain ⟨_,o,ho,hall⟩:=mem_ready.1 hk
  unfold waitsFor at hw
  rw [ho] at hw
  obtain ⟨e,he,hb⟩:=List.any_eq_true.1 hw
  rw [Bool.and_eq_true] at hb
  have h1:=hall e (by simpa using he) hb.1
  rw [show e.on = i by simpa using hb.2] at h1
  have:(true:Bool) = false:=by
    rcases Nat.lt_or_ge i l.size with h | h
    · simp [h] at h1 hi;rw [hi] at h1;cases h1
    · simp [Array.getElem?_eq_none h] at h1
  cases this
theorem unlisted_of_ready {i:Nat} {l:Array Bool} (h:i ∈ Region.ready md ops l):l.getD i true = false:=(mem_ready.1 h).1
/-- An operation that yields v in every world of T,and comes up ahead of k,may be taken first. T: every world;or S. -/
theorem Till.first {i:Nat} {oi:Oper} {v:Value} {T:World → Prop} (hi:ops[i]? = some oi) (hsel:∀ (j:Nat) (o:Oper) cs b,ops[j]? = some o → o.op ≠ .select cs b)
    (hQ:∀ c a w,Q (.panic c) (a.put oi.dst v) w → Q (.panic c) a w) (hik:i ≠ k) (hT:(∀ w,T w) ∨ (waitsFor md ops k i = true ∧ ∀ w,S w → T w)) :
    ∀ (n:Nat) (l:Array Bool) (a:Act) (w:World),
      (∀ j oj,ops[j]? = some oj → j ≠ i → l.getD j true = false → (∀ e ∈ oj.after,Region.binds md e = true → e.on ≠ i) → oi.apart ops oj = true) →
      i ∈ Region.ready md ops l → ((∀ w,T w) ∨ l.getD k true = false) → YieldsIf P ops T oi v a → (l.getD k true = false → S w) →
      Till P md ops Q S k n (l.setIfInBounds i true) (a.put oi.dst v) w → Till P md ops Q S k (n + 1) l a w:=by
  intro n
  induction n with
  | zero =>
    intro l a w _ hr hc hy hS H
    have hTw:T w:=by
      rcases hc with h | h
      · exact h w
      · rcases hT with h' | ⟨_,h'⟩
        · exact h' w
        · exact h' w (hS h)
    refine ⟨fun h => (by rw [h] at hr;cases hr),fun j hj => ?_⟩
    by_cases hji:j = i
    · subst hji;exact hy.wpOp hi hTw ⟨fun _ h => hS h,H⟩
    · have:=ready_mono hj hji
      rw [H.1] at this
      cases this
  | succ n ih =>
    intro l a w hfree hr hc hy hS H
    have hTw:T w:=by
      rcases hc with h | h
      · exact h w
      · rcases hT with h' | ⟨_,h'⟩
        · exact h' w
        · exact h' w (hS h)
    refine ⟨fun h => (by rw [h] at hr;cases hr),fun j hj => ?_⟩
    by_cases hji:j = i
    · subst hji;exact hy.wpOp hi hTw ⟨fun _ h => hS h,H⟩
    · have h1:=H.2 j (ready_mono hj hji)
      obtain ⟨hjun,oj,hoj,hall⟩:=mem_ready.1 hj
      have hiun:=unlisted_of_ready hr
      have hno:∀ e ∈ oj.after,Region.binds md e = true → e.on ≠ i:=fun e he hb heq => by
        have h2:=hall e he hb
        rw [heq] at h2
        rcases Nat.lt_or_ge i l.size with h | h
        · simp [h] at h2 hiun;rw [hiun] at h2;cases h2
        · simp [Array.getElem?_eq_none h] at h2
      have h2:=wpOp_putIf hoj (hfree j oj hoj hji hjun hno) (fun cs b => hsel i oi cs b hi) (fun cs b => hsel j oj cs b hoj) hQ hy h1
      have hfree':∀ m om,ops[m]? = some om → m ≠ i → (l.setIfInBounds j true).getD m true = false → (∀ e ∈ om.after,Region.binds md e = true → e.on ≠ i) → oi.apart ops om = true:=fun m om hm hmi hun hn => by
        refine hfree m om hm hmi ?_ hn
        by_cases hjm:j = m
        · subst hjm;exact hjun
        · rw [getD_set_ne true hjm] at hun;exact hun
      refine wpOp_mono (fun a' w' h3 => ?_) h2
      have hSw:j ≠ k → l.getD k true = false → S w':=fun hjk hl => h3.2.1 hjk (by rw [getD_set_ne true hik];exact hl)
      refine ⟨hSw,ih (l.setIfInBounds j true) a' w' hfree' (ready_mono hr (Ne.symm hji)) ?_ h3.1 ?_ ?_⟩
      · rcases hc with h | h
        · exact .inl h
        · rcases hT with h' | ⟨hw,_⟩
          · exact .inl h'
          · refine .inr ?_
            have hjk:j ≠ k:=fun e => not_ready hw hiun (e ▸ hj)
            rw [getD_set_ne true hjk];exact h
      · intro hl
        by_cases hjk:j = k
        · subst hjk
          exfalso
          rcases Nat.lt_or_ge j l.size with h | h
          · simp [h] at hl
          · simp [h] at hl
        · rw [getD_set_ne true hjk] at hl;exact hSw hjk hl
      · rw [Array.setIfInBounds_comm _ _ hji]
        exact h3.2.2
/-- Take number i first: a load that S tells of,for which k waits. -/
theorem till_load {i:Nat} {oi:Oper} {v:Value} {n:Nat} {l:Array Bool} {a:Act} {w:World} (hi:ops[i]? = some oi) (hs:Region.noSelect ops = true) (hf:Region.free md ops l i = true) (hr:(Region.ready md ops l).contains i = true)
    (hQ:∀ c a w,Q (.panic c) (a.put oi.dst v) w → Q (.panic c) a w) (hik:(i != k) = true) (hw:waitsFor md ops k i = true) (hl:l.getD k true = false) (hy:YieldsIf P ops S oi v a) (hS:S w)
    (h:Till P md ops Q S k n (l.setIfInBounds i true) (a.put oi.dst v) w):Till P md ops Q S k (n + 1) l a w:=
  Till.first hi (Region.noSelect_spec hs) hQ (by simpa using hik) (.inr ⟨hw,fun _ h => h⟩) n l a w (Region.free_spec hi hf) (by simpa using hr) (.inr hl) hy (fun _ => hS) h
/-- Take number i first: it yields v in whatever world. -/
theorem till_take {i:Nat} {oi:Oper} {v:Value} {n:Nat} {l:Array Bool} {a:Act} {w:World} (hi:ops[i]? = some oi) (hs:Region.noSelect ops = true) (hf:Region.free md ops l i = true) (hr:(Region.ready md ops l).contains i = true)
    (hQ:∀ c a w,Q (.panic c) (a.put oi.dst v) w → Q (.panic c) a w) (hik:(i != k) = true) (hy:YieldsIf P ops (fun _ => True) oi v a) (hS:S w)
    (h:Till P md ops Q S k n (l.setIfInBounds i true) (a.put oi.dst v) w):Till P md ops Q S k (n + 1) l a w:=
  Till.first hi (Region.noSelect_spec hs) hQ (by simpa using hik) (.inl fun _ => trivial) n l a w (Region.free_spec hi hf) (by simpa using hr) (.inl fun _ => trivial) hy (fun _ => hS) h
/-- What may come up comes up,ahead of k. -/
theorem till_one {i:Nat} {o:Oper} {n:Nat} {l:Array Bool} {a:Act} {w:World} (hr:Region.ready md ops l = [i]) (ho:ops[i]? = some o)
    (h:∀ K':Act → World → Prop,Shut (∀ a w,S w → (S w → Till P md ops Q S k n (l.setIfInBounds i true) a w) → K' a w) → if Region.wanted o (yielded ops a.tmps) = true then Oper.wp P o a w K' Q else K' (a.put o.dst undef) w):Till P md ops Q S k (n + 1) l a w:=
  ⟨fun h0 => (by rw [hr] at h0;cases h0),fun j hj => by
    rw [hr] at hj
    obtain rfl:=List.mem_singleton.1 hj
    exact wpOp_step ho (fun K' hK => h K' (fun a w hS hW => hK a w ⟨fun _ _ => hS,hW hS⟩))⟩
/-- Number k itself comes up: behind it nothing is asked. -/
theorem till_last {o:Oper} {n:Nat} {l:Array Bool} {a:Act} {w:World} (hr:Region.ready md ops l = [k]) (ho:ops[k]? = some o)
    (h:∀ K':Act → World → Prop,Shut (∀ a w,Till P md ops Q S k n (l.setIfInBounds k true) a w → K' a w) → if Region.wanted o (yielded ops a.tmps) = true then Oper.wp P o a w K' Q else K' (a.put o.dst undef) w):Till P md ops Q S k (n + 1) l a w:=
  ⟨fun h0 => (by rw [hr] at h0;cases h0),fun j hj => by
    rw [hr] at hj
    obtain rfl:=List.mem_singleton.1 hj
    exact wpOp_step ho (fun K' hK => h K' (fun a w hW => hK a w ⟨fun h => absurd rfl h,hW⟩))⟩
theorem till_done {l:Array Bool} {a:Act} {w:World} (hr:Region.ready md ops l = []) (h:Q .normal a w):∀ n,Till P md ops Q S k n l a w
  | 0 => ⟨hr,h⟩
  | _ + 1 => ⟨fun _ => h,by rw [hr];simp⟩
/-- The beginning. -/
theorem wp_region_till {id:Nat} {a:Act} {w:World} (S:World → Prop) (k:Nat) (hm:P.follows .mixedOrders = true) (hS:S w.drew)
    (h:S w.drew → Till P .any ops Q S k ops.size (Array.replicate ops.size false) a w.drew):(Code.region id ops true).wp P Q a w:=
  wp_region_any hm (Till.any _ _ _ _ (h hS))
end
end Go.Proofs.YtheeiklgblcjfaaGreatDoor
end
section
namespace Go.Proofs.YtheeiklgblcjfaaGreatDoor
open Go.RowKit Go.Sort Go.ChangeShapes Go.WideShapes
set_option linter.unusedVariables false
set_option linter.unusedSimpArgs false
theorem step_append_off {P:Program} {ops:Array Oper} {o:Oper} {a:Act} {w:World} {K:Act → World → Prop} {Q:Exit → Act → World → Prop} {E:Prop} (hgd:o.guard = none) (s x:Operand) (t:TypeId)
    (ho:o.op = .call { callee:=.builtin .append,args:=#[s,x],argTypes:=#[t,t] })
    (base:Nat) (e:TypeId) (i:TypeInfo) (z:Value) (size bytes:Nat) (ht:P.underlying t = some (.slice e)) (hi:P.info? e = some i) (hz:i.zero = some z)
    (hsize:i.size = size) (hby:i.bytes = bytes) (hzs:z.cells.size = size) (hsz:0 < size)
    (v:Value) (n:Nat) (xs:List Value) (hs:a.eval s = v) (hown:OwnsOff w base e size v n xs)
    (ad:Addr) (m c:Nat) (news:List Value) (hx:a.eval x = .slice (some ad) m c) (hl:news.length = m * size) (hnews:∀ j u,news[j]? = some u → w.cell? (ad.add j) = some u) (h1:∀ u ∈ news,u.oneCell' = true)
    (h63:n + m ≤ maxLen) (hbytes:(n + m) * bytes ≤ 140737488355328) (hbase:base ≤ w.heap.size)
    (h:∀ v' w',OwnsOff w' base e size v' (n + m) (xs ++ news) → w.grownBy w' v.ownBlock → (∀ g,v'.ownBlock = some g → v.ownBlock = some g ∨ w.heap.size ≤ g) → K (a.put o.dst v') w') :
    if Region.wanted o (yielded ops a.tmps) = true then Oper.wp P o a w K Q else E:=by
  have hw:Region.wanted o (yielded ops a.tmps) = true:=by simp [Region.wanted,hgd]
  rw [if_pos hw]
  obtain ⟨v',w',hrun,r1,r2,r3⟩:=run_append_off (P:=P) w base t o.type e i z size bytes ht hi hz hsize hby hzs hsz v n xs hown ad m c news hl hnews h1 h63 hbytes hbase
  unfold Oper.wp
  simp [execOp,ho,resolve,invoke,builtin,hs,hx,hrun,Result.andThen]
  exact h v' w' r1 r2 r3
/-- The cells to be appended,out of a block that is known whole. -/
theorem news_block {w:World} {B:Nat} {cs:Array Value} {t:TypeId} {fr:Nat × Nat} (hb:w.heap[B]? = some (.cells cs t fr)):∀ j u,cs.toList[j]? = some u → w.cell? ((⟨B,0,none⟩:Addr).add j) = some u:=fun j u hu => by
  rw [Addr.add_lit,Nat.zero_add]
  simp [World.cell?,hb]
  simpa using hu
theorem Tryz.infoSp:(Tryz.prog.info? 173).map (fun i => (i.zero,i.size,i.bytes)) = some (some (.agg #[.int .i64 0,.int .i64 0]),2,16):=by kernel_rfl
end Go.Proofs.YtheeiklgblcjfaaGreatDoor
end
