/- Texts of the ring, joined, what is used of them. No condition but those in the statements. -/
import Derived.Test.YtheeiklgblcjfaaGreatDoorProg
import Derived.BigQuiet
import Derived.IntWalk
import Derived.Test.YtheeiklgblcjfaaGreatDoorRFn
import Derived.Test.YtheeiklgblcjfaaGreatDoorRga
import Derived.Test.YtheeiklgblcjfaaGreatDoorRge
import Derived.Test.YtheeiklgblcjfaaGreatDoorRgi
namespace Go.Proofs.YtheeiklgblcjfaaGreatDoor
open Go.RowKit Go.Sort
set_option linter.unusedVariables false
set_option linter.unusedSimpArgs false
set_option linter.unusedVariables false
set_option linter.unusedSimpArgs false
/-- Of which requests a row is;its code. -/
def ofL:List (List Int):=[[],[],[1],[1],[1,2],[3,4,5,6,7],[3,4,5,6,7],[3],[4],[5],[6],[3,5],[3,5],[9],[8,9]]
def codeL:List Int:=[4,3,4,1,5,3,5,5,5,5,5,3,4,3,6]
def isB (l:List Int) (op:Int):Bool:=decide (l = []) || madeB l op
theorem isB_eq (l:List Int) (op:Int):isB l op = decide (l = [] ∨ op ∈ l):=by unfold isB madeB;rw [Bool.decide_or]
/-- Does a row hold? -/
def rowA (c:Cfg) (sp:Int) (sn:Bool) (made:List Int) (op port ad:Int) (dn:Nat) (kd wd:Int) (S O:Bool):Nat → Bool
  | 0 => !acceptsB c || (decide (sp < 0) || decide ((c.parts.length:Int) ≤ sp))
  | 1 => decide (op < 1 ∨ 9 < op)
  | 2 => !O
  | 3 => madeB made port
  | 4 => sn
  | 5 => !O || !madeB made port
  | 6 => !sn
  | 7 => decide (kd ≠ 1) || !S
  | 8 => decide (kd ≠ 1) || S
  | 9 => decide (kd ≠ 2) || !S
  | 10 => decide (kd ≠ 2) || S
  | 11 => decide (dn = 0)
  | 12 => decide (wd < (dn:Int))
  | 13 => decide (dn ≠ 1)
  | 14 => !privB c sp ad
  | _ => false
def hitA (c:Cfg) (sp:Int) (sn:Bool) (made:List Int) (op port ad:Int) (dn:Nat) (kd wd:Int) (S O:Bool) (j:Nat):Bool:=isB (ofL.getD j []) op && rowA c sp sn made op port ad dn kd wd S O j
/-- The code of the first that hits. -/
def firstIf (f:Nat → Bool):Int:=if f 0 = true then 4 else if f 1 = true then 3 else if f 2 = true then 4 else if f 3 = true then 1 else if f 4 = true then 5 else if f 5 = true then 3 else if f 6 = true then 5 else if f 7 = true then 5 else if f 8 = true then 5 else if f 9 = true then 5 else if f 10 = true then 5 else if f 11 = true then 3 else if f 12 = true then 4 else if f 13 = true then 3 else if f 14 = true then 6 else 0
theorem first_hit {f:Nat → Bool} {j:Nat} (hj:j < 15) (h0:∀ i,i < j → f i = false) (h1:f j = true):firstIf f = codeL.getD j 0:=by
  unfold firstIf
  match j,hj with
  | 0,_ => rw [if_pos h1];rfl
  | 1,_ => rw [if_neg (by rw [h0 0 (by omega)];decide),if_pos h1];rfl
  | 2,_ => rw [if_neg (by rw [h0 0 (by omega)];decide),if_neg (by rw [h0 1 (by omega)];decide),if_pos h1];rfl
  | 3,_ => rw [if_neg (by rw [h0 0 (by omega)];decide),if_neg (by rw [h0 1 (by omega)];decide),if_neg (by rw [h0 2 (by omega)];decide),if_pos h1];rfl
  | 4,_ => rw [if_neg (by rw [h0 0 (by omega)];decide),if_neg (by rw [h0 1 (by omega)];decide),if_neg (by rw [h0 2 (by omega)];decide),if_neg (by rw [h0 3 (by omega)];decide),if_pos h1];rfl
  | 5,_ => rw [if_neg (by rw [h0 0 (by omega)];decide),if_neg (by rw [h0 1 (by omega)];decide),if_neg (by rw [h0 2 (by omega)];decide),if_neg (by rw [h0 3 (by omega)];decide),if_neg (by rw [h0 4 (by omega)];decide),if_pos h1];rfl
  | 6,_ => rw [if_neg (by rw [h0 0 (by omega)];decide),if_neg (by rw [h0 1 (by omega)];decide),if_neg (by rw [h0 2 (by omega)];decide),if_neg (by rw [h0 3 (by omega)];decide),if_neg (by rw [h0 4 (by omega)];decide),if_neg (by rw [h0 5 (by omega)];decide),if_pos h1];rfl
  | 7,_ => rw [if_neg (by rw [h0 0 (by omega)];decide),if_neg (by rw [h0 1 (by omega)];decide),if_neg (by rw [h0 2 (by omega)];decide),if_neg (by rw [h0 3 (by omega)];decide),if_neg (by rw [h0 4 (by omega)];decide),if_neg (by rw [h0 5 (by omega)];decide),if_neg (by rw [h0 6 (by omega)];decide),if_pos h1];rfl
  | 8,_ => rw [if_neg (by rw [h0 0 (by omega)];decide),if_neg (by rw [h0 1 (by omega)];decide),if_neg (by rw [h0 2 (by omega)];decide),if_neg (by rw [h0 3 (by omega)];decide),if_neg (by rw [h0 4 (by omega)];decide),if_neg (by rw [h0 5 (by omega)];decide),if_neg (by rw [h0 6 (by omega)];decide),if_neg (by rw [h0 7 (by omega)];decide),if_pos h1];rfl
  | 9,_ => rw [if_neg (by rw [h0 0 (by omega)];decide),if_neg (by rw [h0 1 (by omega)];decide),if_neg (by rw [h0 2 (by omega)];decide),if_neg (by rw [h0 3 (by omega)];decide),if_neg (by rw [h0 4 (by omega)];decide),if_neg (by rw [h0 5 (by omega)];decide),if_neg (by rw [h0 6 (by omega)];decide),if_neg (by rw [h0 7 (by omega)];decide),if_neg (by rw [h0 8 (by omega)];decide),if_pos h1];rfl
  | 10,_ => rw [if_neg (by rw [h0 0 (by omega)];decide),if_neg (by rw [h0 1 (by omega)];decide),if_neg (by rw [h0 2 (by omega)];decide),if_neg (by rw [h0 3 (by omega)];decide),if_neg (by rw [h0 4 (by omega)];decide),if_neg (by rw [h0 5 (by omega)];decide),if_neg (by rw [h0 6 (by omega)];decide),if_neg (by rw [h0 7 (by omega)];decide),if_neg (by rw [h0 8 (by omega)];decide),if_neg (by rw [h0 9 (by omega)];decide),if_pos h1];rfl
  | 11,_ => rw [if_neg (by rw [h0 0 (by omega)];decide),if_neg (by rw [h0 1 (by omega)];decide),if_neg (by rw [h0 2 (by omega)];decide),if_neg (by rw [h0 3 (by omega)];decide),if_neg (by rw [h0 4 (by omega)];decide),if_neg (by rw [h0 5 (by omega)];decide),if_neg (by rw [h0 6 (by omega)];decide),if_neg (by rw [h0 7 (by omega)];decide),if_neg (by rw [h0 8 (by omega)];decide),if_neg (by rw [h0 9 (by omega)];decide),if_neg (by rw [h0 10 (by omega)];decide),if_pos h1];rfl
  | 12,_ => rw [if_neg (by rw [h0 0 (by omega)];decide),if_neg (by rw [h0 1 (by omega)];decide),if_neg (by rw [h0 2 (by omega)];decide),if_neg (by rw [h0 3 (by omega)];decide),if_neg (by rw [h0 4 (by omega)];decide),if_neg (by rw [h0 5 (by omega)];decide),if_neg (by rw [h0 6 (by omega)];decide),if_neg (by rw [h0 7 (by omega)];decide),if_neg (by rw [h0 8 (by omega)];decide),if_neg (by rw [h0 9 (by omega)];decide),if_neg (by rw [h0 10 (by omega)];decide),if_neg (by rw [h0 11 (by omega)];decide),if_pos h1];rfl
  | 13,_ => rw [if_neg (by rw [h0 0 (by omega)];decide),if_neg (by rw [h0 1 (by omega)];decide),if_neg (by rw [h0 2 (by omega)];decide),if_neg (by rw [h0 3 (by omega)];decide),if_neg (by rw [h0 4 (by omega)];decide),if_neg (by rw [h0 5 (by omega)];decide),if_neg (by rw [h0 6 (by omega)];decide),if_neg (by rw [h0 7 (by omega)];decide),if_neg (by rw [h0 8 (by omega)];decide),if_neg (by rw [h0 9 (by omega)];decide),if_neg (by rw [h0 10 (by omega)];decide),if_neg (by rw [h0 11 (by omega)];decide),if_neg (by rw [h0 12 (by omega)];decide),if_pos h1];rfl
  | 14,_ => rw [if_neg (by rw [h0 0 (by omega)];decide),if_neg (by rw [h0 1 (by omega)];decide),if_neg (by rw [h0 2 (by omega)];decide),if_neg (by rw [h0 3 (by omega)];decide),if_neg (by rw [h0 4 (by omega)];decide),if_neg (by rw [h0 5 (by omega)];decide),if_neg (by rw [h0 6 (by omega)];decide),if_neg (by rw [h0 7 (by omega)];decide),if_neg (by rw [h0 8 (by omega)];decide),if_neg (by rw [h0 9 (by omega)];decide),if_neg (by rw [h0 10 (by omega)];decide),if_neg (by rw [h0 11 (by omega)];decide),if_neg (by rw [h0 12 (by omega)];decide),if_neg (by rw [h0 13 (by omega)];decide),if_pos h1];rfl
  | n + 15,h => omega
theorem first_none {f:Nat → Bool} (h0:∀ i,i < 15 → f i = false):firstIf f = 0:=by
  unfold firstIf
  rw [if_neg (by rw [h0 0 (by omega)];decide),if_neg (by rw [h0 1 (by omega)];decide),if_neg (by rw [h0 2 (by omega)];decide),if_neg (by rw [h0 3 (by omega)];decide),if_neg (by rw [h0 4 (by omega)];decide),if_neg (by rw [h0 5 (by omega)];decide),if_neg (by rw [h0 6 (by omega)];decide),if_neg (by rw [h0 7 (by omega)];decide),if_neg (by rw [h0 8 (by omega)];decide),if_neg (by rw [h0 9 (by omega)];decide),if_neg (by rw [h0 10 (by omega)];decide),if_neg (by rw [h0 11 (by omega)];decide),if_neg (by rw [h0 12 (by omega)];decide),if_neg (by rw [h0 13 (by omega)];decide),if_neg (by rw [h0 14 (by omega)];decide)]
theorem first_is {c:Cfg} {sp:Int} {sn:Bool} {made:List Int} {op port ad:Int} {dn:Nat} {kd wd:Int} {S O:Bool} (hO:O = (portB c port && decide (portP c port = sp))) (hS:portB c port = true → S = portS c port)
    (hk:portB c port = true → kd = fld (row c.chans (portK c port).toNat) 0 ∧ wd = fld (row c.chans (portK c port).toNat) 3) (h9:portB c port = true → kd = 1 ∨ kd = 2):firstIf (hitA c sp sn made op port ad dn kd wd S O) = refusedN c sp sn made op port ad dn:=by
  by_cases hA:acceptsB c = false ∨ sp < 0 ∨ (c.parts.length:Int) ≤ sp
  · rw [refused_out hA]
    have h0:hitA c sp sn made op port ad dn kd wd S O 0 = true:=by
      show (isB [] op && (!acceptsB c || (decide (sp < 0) || decide ((c.parts.length:Int) ≤ sp)))) = true
      rcases hA with h | h | h
      · rw [h];simp [isB]
      · rw [decide_eq_true h];simp [isB]
      · rw [decide_eq_true h];simp [isB]
    unfold firstIf
    rw [if_pos h0]
  · have a1:acceptsB c = true:=by cases h:acceptsB c with | true => rfl | false => exact absurd (.inl h) hA
    have a2:¬ sp < 0:=fun h => hA (.inr (.inl h))
    have a3:¬ (c.parts.length:Int) ≤ sp:=fun h => hA (.inr (.inr h))
    rw [refused_on a1 a2 a3]
    have h0:hitA c sp sn made op port ad dn kd wd S O 0 = false:=by
      show (isB [] op && (!acceptsB c || (decide (sp < 0) || decide ((c.parts.length:Int) ≤ sp)))) = false
      rw [a1,decide_eq_false a2,decide_eq_false a3];simp
    clear hA
    have hH:hasB c sp made port = (O && madeB made port):=by
      unfold hasB;rw [hO,Bool.and_assoc]
    have hT:O = true → talkT (fld (row c.chans (portK c port).toNat) 0) (portS c port) (fld (row c.chans (portK c port).toNat) 3) op dn = talkT kd S wd op dn:=by
      intro h
      rw [hO,Bool.and_eq_true] at h
      rw [hS h.1,(hk h.1).1,(hk h.1).2]
    have hK:O = true → kd = 1 ∨ kd = 2:=fun h => by rw [hO,Bool.and_eq_true] at h;exact h9 h.1
    have hP:(portB c port = false ∨ portP c port ≠ sp) ↔ O = false:=by
      rw [hO]
      cases portB c port <;> simp
    clear hO hS hk h9
    unfold firstIf
    rw [if_neg (by rw [h0];decide)]
    clear h0
    unfold refT talkN
    simp only [hP,hH]
    clear hP hH
    generalize talkT (fld (row c.chans (portK c port).toNat) 0) (portS c port) (fld (row c.chans (portK c port).toNat) 3) op dn = TT at hT ⊢
    have h10:op = 1 ∨ op = 2 ∨ op = 3 ∨ op = 4 ∨ op = 5 ∨ op = 6 ∨ op = 7 ∨ op = 8 ∨ op = 9 ∨ (op < 1 ∨ 9 < op):=by omega
    rcases h10 with rfl | rfl | rfl | rfl | rfl | rfl | rfl | rfl | rfl | ho
    case inr.inr.inr.inr.inr.inr.inr.inr.inr =>
      rw [if_pos (show hitA c sp sn made op port ad dn kd wd S O 1 = true by unfold hitA;simp [isB,ofL,rowA,ho])]
      rw [if_neg (by omega),if_neg (by omega),if_neg (by omega),if_neg (by omega)]
    all_goals cases hM:madeB made port
    all_goals simp only [hitA,isB_eq,ofL,rowA,hM,List.getD_cons_zero,List.getD_cons_succ]
    all_goals cases O
    all_goals cases sn
    all_goals simp
    all_goals (rw [hT rfl];unfold talkT modeB;rcases hK rfl with rfl | rfl <;> cases S <;> simp)
end Go.Proofs.YtheeiklgblcjfaaGreatDoor
namespace Go.Proofs.YtheeiklgblcjfaaGreatDoor
open Go.RowKit Go.Sort Go.ChangeShapes Go.WideShapes
set_option linter.unusedVariables false
set_option linter.unusedSimpArgs false
section
variable {P:Program} {ops:Array Oper} {rest:List Oper} {o:Oper} {a:Act} {w:World} {Q:Exit → Act → World → Prop}
/-- A load of a whole row or struct that fills a block,behind a guard too. -/
theorem wpList_loadG (hwt:Region.wanted o (yielded ops a.tmps) = true) (ty:TypeId) (x:Operand) (ho:o.op = .load ty x) (g:Nat) (hx:a.eval x = .pointer (some ⟨g,0,none⟩)) (t:TypeId) (cs:Array Value) (fr:Nat × Nat) (d:TypeDesc) (hg:w.heap[g]? = some (.cells cs t fr))
    (hu:P.underlying ty = some d) (hd:(match d with | .struct _ | .array _ _ => true | _ => false) = true) (hi:(P.info? ty).map (·.size) = some cs.size)
    (h:wpList P ops Q rest (a.put o.dst (.agg cs)) w):wpList P ops Q (o :: rest) a w:=by
  refine wpList_step fun K hK => ?_
  rw [if_pos hwt]
  exact wp_load_row ty x ho g hx t cs fr d hg hu hd hi (hK _ _ h)
/-- A call of a function value whose number is a variable,behind a guard too. -/
theorem wpList_fnG (hwt:Region.wanted o (yielded ops a.tmps) = true) (fo:Operand) (xs:List Operand) (ts:Array TypeId)
    (ho:o.op = .call { callee:=.value fo,args:=xs.toArray,argTypes:=ts }) (g:Nat) (caps:List Value) (hf:a.eval fo = .func (.func g) #[] caps.toArray) (eg:∀ args w,(callFunc g args).run P w = .ok (.enter g args) w)
    (args:List Value) (ha:xs.map a.eval ++ caps = args) (S:Value → World → Prop) (hC:Calls P g args.toArray w fun e w' => ∃ v,e = .returned v ∧ S v w')
    (h:∀ v w',S v w' → wpList P ops Q rest (a.put o.dst v) w'):wpList P ops Q (o :: rest) a w:=by
  refine wpList_step fun K hK' => ?_
  rw [if_pos hwt]
  subst ha
  unfold Oper.wp
  simp only [execOp,ho,resolve,hf,Deferred.ofValue,invoke]
  simp [eg,Oper.upon_enter]
  exact hC.mono fun e w' ⟨v,he,hS⟩ => by subst he;exact hK' _ _ (h v w' hS)
end
theorem loop_ne (bs:ByteArray):∀ (n i:Nat) (r:List UInt8),bs.size - i = n → r ≠ [] → ByteArray.toList.loop bs i r ≠ []
  | 0,i,r,hn,hr => by
    unfold ByteArray.toList.loop
    rw [if_neg (by omega)]
    simpa using hr
  | n + 1,i,r,hn,hr => by
    unfold ByteArray.toList.loop
    rw [if_pos (by omega)]
    exact loop_ne bs n (i + 1) _ (by omega) (by simp)
theorem toList_ne {s:ByteArray} (h:s.size ≠ 0):s.toList ≠ []:=by
  unfold ByteArray.toList ByteArray.toList.loop
  rw [if_pos (by omega)]
  exact loop_ne s _ 1 _ rfl (by simp)
theorem asked_size:(Tryz.prog.info? 146).map (·.size) = some 23:=by kernel_rfl
theorem sidx_b (l:List Int) (A:Option Addr) (m:Nat) (v:Int) (w:World) (hr:IntRowK .i64 w w.heap.size A l) (hl:l.length ≤ 1000000):Calls Tryz.prog 101 #[.slice A l.length m,.int .i64 v] w fun e w' => (∃ r:Int,e = .returned (.int .i64 r) ∧ decide (0 ≤ r) = madeB l v) ∧ w = w':=by
  go_enter Tryz.func101,Tryz.ntmps101
  go_wp2
  go_loopw [5,8] (fun _ ix wr => ∃ k:Nat,k ≤ l.length ∧ ix = .int .i64 k ∧ (∀ j,j < k → l.getD j 0 ≠ v) ∧ wr = w) (fun _ ix _ => l.length - (intOf ix).toNat)
  case atStart => exact ⟨0,Nat.zero_le _,rfl,(fun j hj => by omega),rfl⟩
  case round =>
    obtain ⟨k,hk,rfl,hno,rfl⟩:=hrel
    have HN:=Lib.hid hno
    clear hno
    by_cases hlt:k < l.length
    · obtain ⟨b,o,rfl,_,hc⟩:=hr.at_ hlt
      have k0:=hc _ (Below.refl _ _)
      obtain ⟨y,hy⟩:∃ y,l.getD k 0 = y:=⟨_,rfl⟩
      have HY:=Lib.hid hy
      rw [hy] at k0
      clear hy hc
      by_cases he:v = y
      · have hea:(v == y) = true:=by simp [he]
        have HX:=Lib.hid (made_hit hlt (HY.out.trans he.symm))
        clear he
        go_wp2
        go_ret
        exact ⟨⟨_,rfl,by rw [HX.out];exact decide_eq_true (by omega)⟩,rfl⟩
      · have hea:(v == y) = false:=by simp [he]
        have HE:=Lib.hid he
        clear he
        go_wp2
        go_roundw
        case rel => exact ⟨k + 1,by omega,by go_num,(fun j hj => by
          by_cases e:j = k
          · subst e;rw [HY.out];exact fun h => HE.out h.symm
          · exact HN.out j (by omega)),by trivial⟩
        case measure => simp [intOf];omega
    · have HX:=Lib.hid (show madeB l v = false from made_none (fun j hj => HN.out j (by omega)))
      clear HN
      go_wp2
      go_ret
      exact ⟨⟨_,rfl,by rw [HX.out];rfl⟩,rfl⟩
theorem scon_is (l:List Int) (A:Option Addr) (n m:Nat) (v:Int) (q:Bool) (w:World) (hn:n = l.length) (hr:IntRowK .i64 w w.heap.size A l) (hl:l.length ≤ 1000000) (h:madeB l v = q):Calls Tryz.prog 73 #[.slice A n m,.int .i64 v] w fun e w' => e = .returned (.bool q) ∧ w = w':=by
  subst hn
  have hI:=Lib.hid (sidx_b l A m v w hr hl)
  go_enter Tryz.func73,Tryz.ntmps73
  go_wp2_with fail
  refine hI.out.mono ?_
  rintro e w5 ⟨⟨r,rfl,hd⟩,rfl⟩
  rw [h] at hd
  have HX:=Lib.hid hd
  clear h
  cases q with
  | true =>
    go_wp2
    go_ret
    exact ⟨rfl,rfl⟩
  | false =>
    go_wp2
    go_ret
    exact ⟨rfl,rfl⟩
theorem pname_b (op:Int) (w:World) (hT:TabsAt w):Calls Tryz.prog 90 #[.int .i64 op] w fun e w' => e = .returned (.string (nameS op)) ∧ Below w.heap.size w w':=by
  by_cases g1:op = 1
  · subst g1
    have q:=hT.2 0 (by decide)
    rw [show tabL.getD 0 ⟨#[]⟩ = nameS 1 from by decide] at q
    obtain ⟨y,hy⟩:∃ y,nameS 1 = y:=⟨_,rfl⟩
    rw [hy] at q
    have HX:=Lib.hid hy
    clear hy hT
    go_enter Tryz.func90,Tryz.ntmps90
    go_wp2
    go_ret
    exact ⟨by rw [HX.out];first | done | rfl,Below.refl _ _⟩
  by_cases g2:op = 2
  · subst g2
    have q:=hT.2 1 (by decide)
    rw [show tabL.getD 1 ⟨#[]⟩ = nameS 2 from by decide] at q
    obtain ⟨y,hy⟩:∃ y,nameS 2 = y:=⟨_,rfl⟩
    rw [hy] at q
    have HX:=Lib.hid hy
    clear hy hT
    go_enter Tryz.func90,Tryz.ntmps90
    go_wp2
    go_ret
    exact ⟨by rw [HX.out];first | done | rfl,Below.refl _ _⟩
  by_cases g3:op = 3
  · subst g3
    have q:=hT.2 2 (by decide)
    rw [show tabL.getD 2 ⟨#[]⟩ = nameS 3 from by decide] at q
    obtain ⟨y,hy⟩:∃ y,nameS 3 = y:=⟨_,rfl⟩
    rw [hy] at q
    have HX:=Lib.hid hy
    clear hy hT
    go_enter Tryz.func90,Tryz.ntmps90
    go_wp2
    go_ret
    exact ⟨by rw [HX.out];first | done | rfl,Below.refl _ _⟩
  by_cases g4:op = 4
  · subst g4
    have q:=hT.2 3 (by decide)
    rw [show tabL.getD 3 ⟨#[]⟩ = nameS 4 from by decide] at q
    obtain ⟨y,hy⟩:∃ y,nameS 4 = y:=⟨_,rfl⟩
    rw [hy] at q
    have HX:=Lib.hid hy
    clear hy hT
    go_enter Tryz.func90,Tryz.ntmps90
    go_wp2
    go_ret
    exact ⟨by rw [HX.out];first | done | rfl,Below.refl _ _⟩
  by_cases g5:op = 5
  · subst g5
    have q:=hT.2 4 (by decide)
    rw [show tabL.getD 4 ⟨#[]⟩ = nameS 5 from by decide] at q
    obtain ⟨y,hy⟩:∃ y,nameS 5 = y:=⟨_,rfl⟩
    rw [hy] at q
    have HX:=Lib.hid hy
    clear hy hT
    go_enter Tryz.func90,Tryz.ntmps90
    go_wp2
    go_ret
    exact ⟨by rw [HX.out];first | done | rfl,Below.refl _ _⟩
  by_cases g6:op = 6
  · subst g6
    have q:=hT.2 5 (by decide)
    rw [show tabL.getD 5 ⟨#[]⟩ = nameS 6 from by decide] at q
    obtain ⟨y,hy⟩:∃ y,nameS 6 = y:=⟨_,rfl⟩
    rw [hy] at q
    have HX:=Lib.hid hy
    clear hy hT
    go_enter Tryz.func90,Tryz.ntmps90
    go_wp2
    go_ret
    exact ⟨by rw [HX.out];first | done | rfl,Below.refl _ _⟩
  by_cases g7:op = 7
  · subst g7
    have q:=hT.2 6 (by decide)
    rw [show tabL.getD 6 ⟨#[]⟩ = nameS 7 from by decide] at q
    obtain ⟨y,hy⟩:∃ y,nameS 7 = y:=⟨_,rfl⟩
    rw [hy] at q
    have HX:=Lib.hid hy
    clear hy hT
    go_enter Tryz.func90,Tryz.ntmps90
    go_wp2
    go_ret
    exact ⟨by rw [HX.out];first | done | rfl,Below.refl _ _⟩
  by_cases g8:op = 8
  · subst g8
    have q:=hT.2 7 (by decide)
    rw [show tabL.getD 7 ⟨#[]⟩ = nameS 8 from by decide] at q
    obtain ⟨y,hy⟩:∃ y,nameS 8 = y:=⟨_,rfl⟩
    rw [hy] at q
    have HX:=Lib.hid hy
    clear hy hT
    go_enter Tryz.func90,Tryz.ntmps90
    go_wp2
    go_ret
    exact ⟨by rw [HX.out];first | done | rfl,Below.refl _ _⟩
  by_cases g9:op = 9
  · subst g9
    have q:=hT.2 8 (by decide)
    rw [show tabL.getD 8 ⟨#[]⟩ = nameS 9 from by decide] at q
    obtain ⟨y,hy⟩:∃ y,nameS 9 = y:=⟨_,rfl⟩
    rw [hy] at q
    have HX:=Lib.hid hy
    clear hy hT
    go_enter Tryz.func90,Tryz.ntmps90
    go_wp2
    go_ret
    exact ⟨by rw [HX.out];first | done | rfl,Below.refl _ _⟩
  have HX:=Lib.hid (show nameS op = ⟨#[]⟩ from nameS_out (by omega))
  have ho:op < 1 ∨ 9 < op:=by omega
  clear g1 g2 g3 g4 g5 g6 g7 g8 g9 hT
  by_cases h1:op < 1
  · go_enter Tryz.func90,Tryz.ntmps90
    go_wp2
    go_ret
    exact ⟨by rw [HX.out];first | done | rfl,Below.refl _ _⟩
  · have h1d:decide (op < 1) = false:=decide_eq_false h1
    have h2:9 < op:=by omega
    clear ho h1
    go_enter Tryz.func90,Tryz.ntmps90
    go_wp2
    go_ret
    exact ⟨by rw [HX.out];first | done | rfl,Below.refl _ _⟩
set_option maxHeartbeats 800000 in
theorem isof_is (l:List Int) (A:Option Addr) (m:Nat) (fv:Value) (code v:Int) (q:Bool) (w:World) (hr:IntRowK .i64 w w.heap.size A l) (hl:l.length ≤ 1000000) (h:isB l v = q):Calls Tryz.prog 66 #[.agg #[.slice A l.length m,fv,.int .i64 code],.int .i64 v] w fun e w' => e = .returned (.bool q) ∧ Below w.heap.size w w':=by
  obtain ⟨W,HW,hB,hWs,bx⟩:=box_new w #[.slice A l.length m,fv,.int .i64 code] 152
  have hrW:=(hr.below hB).more hB.size
  have a0:=cell_blk (bx _ (Below.refl _ _)) (i:=0) rfl
  have HB:=Lib.hid hB
  obtain ⟨z,hz⟩:∃ z,madeB l v = z:=⟨_,rfl⟩
  have hC:=scon_is l A l.length m v z W rfl hrW hl hz
  unfold isB at h
  rw [hz] at h
  have HC:=Lib.hid hC
  clear hB hr hrW hz hC bx
  by_cases h0:l = []
  · have hq:true = q:=by rw [← h,decide_eq_true h0];rfl
    subst hq
    subst h0
    clear h HC
    simp only [List.length_nil] at HW ⊢
    go_enter Tryz.func66,Tryz.ntmps66
    go_wp2_with (rw [← HW.out])
    go_ret
    exact ⟨rfl,HB.out⟩
  · have hq:z = q:=by rw [← h,decide_eq_false h0];rfl
    subst hq
    have hn:((l.length:Int) == 0) = false:=by simp [h0]
    have HL:=Lib.hid hl
    clear h h0 hl
    go_enter Tryz.func66,Tryz.ntmps66
    go_wp2_with (rw [← HW.out])
    refine HC.out.mono ?_
    rintro e w5 ⟨rfl,rfl⟩
    go_wp2
    go_ret
    exact ⟨rfl,HB.out⟩
set_option maxRecDepth 100000 in
set_option maxHeartbeats 800000 in
theorem prow2_b (c:Cfg) (pa:Option Addr) (pc:Nat) (ca:Option Addr) (cc:Nat) (aa:Option Addr) (ac:Nat) (ba:Option Addr) (bc:Nat) (sp:Int) (sn:Bool) (made:List Int) (ma:Option Addr) (mc:Nat) (va:Option Addr) (vn vc:Nat) (op port ad:Int) (da:Option Addr) (dn dc:Nat) (x0 x1 x2 x3 x4 x5 x6:Int) (S O:Bool) (w:World) (hx:CfgIn w w.heap.size c ⟨pa,pc,ca,cc,aa,ac,ba,bc⟩) (wx:CfgWf c) (lx:CfgFew c) (hs:SIn w made ma) (hp:(Lit.int .i64 port).wf = true) (had:(Lit.int .u64 ad).wf = true) (hdn:dn ≤ 1000000) (hT:TabsAt w):Calls Tryz.prog 91 #[.agg #[.slice pa c.parts.length pc,.slice ca c.chans.length cc,.int .i64 c.len0,.slice aa c.win0.length ac,.int .i64 c.len1,.slice ba c.win1.length bc,.int .i64 sp,.bool sn,.slice ma made.length mc,.slice va vn vc,.int .i64 op,.int .i64 port,.int .u64 ad,.slice da dn dc,.int .i64 x0,.int .i64 x1,.int .i64 x2,.int .i64 x3,.int .i64 x4,.int .i64 x5,.int .u32 x6,.bool S,.bool O]] w fun e w' => e = .returned (.bool (rowA c sp sn made op port ad dn x0 x3 S O 2)) ∧ Below w.heap.size w w':=by
  obtain ⟨W,HW,hB,hWs,bx⟩:=box_new w #[.slice pa c.parts.length pc,.slice ca c.chans.length cc,.int .i64 c.len0,.slice aa c.win0.length ac,.int .i64 c.len1,.slice ba c.win1.length bc,.int .i64 sp,.bool sn,.slice ma made.length mc,.slice va vn vc,.int .i64 op,.int .i64 port,.int .u64 ad,.slice da dn dc,.int .i64 x0,.int .i64 x1,.int .i64 x2,.int .i64 x3,.int .i64 x4,.int .i64 x5,.int .u32 x6,.bool S,.bool O] 146

  have bW:=bx _ (Below.refl _ _)
  have a22:=cell_blk bW (i:=22) rfl
  have HB:=Lib.hid hB
  clear hB hWs bW bx
  clear hx hs hT
  show Calls Tryz.prog 91 #[.agg #[.slice pa c.parts.length pc,.slice ca c.chans.length cc,.int .i64 c.len0,.slice aa c.win0.length ac,.int .i64 c.len1,.slice ba c.win1.length bc,.int .i64 sp,.bool sn,.slice ma made.length mc,.slice va vn vc,.int .i64 op,.int .i64 port,.int .u64 ad,.slice da dn dc,.int .i64 x0,.int .i64 x1,.int .i64 x2,.int .i64 x3,.int .i64 x4,.int .i64 x5,.int .u32 x6,.bool S,.bool O]] w fun e w' => e = .returned (.bool (!O)) ∧ Below w.heap.size w w'
  go_enter Tryz.func91,Tryz.ntmps91
  go_wp2_with (rw [← HW.out])
  go_ret
  exact ⟨by first | rfl | simp | (simp;omega),HB.out⟩
set_option maxRecDepth 100000 in
set_option maxHeartbeats 800000 in
theorem prow4_b (c:Cfg) (pa:Option Addr) (pc:Nat) (ca:Option Addr) (cc:Nat) (aa:Option Addr) (ac:Nat) (ba:Option Addr) (bc:Nat) (sp:Int) (sn:Bool) (made:List Int) (ma:Option Addr) (mc:Nat) (va:Option Addr) (vn vc:Nat) (op port ad:Int) (da:Option Addr) (dn dc:Nat) (x0 x1 x2 x3 x4 x5 x6:Int) (S O:Bool) (w:World) (hx:CfgIn w w.heap.size c ⟨pa,pc,ca,cc,aa,ac,ba,bc⟩) (wx:CfgWf c) (lx:CfgFew c) (hs:SIn w made ma) (hp:(Lit.int .i64 port).wf = true) (had:(Lit.int .u64 ad).wf = true) (hdn:dn ≤ 1000000) (hT:TabsAt w):Calls Tryz.prog 93 #[.agg #[.slice pa c.parts.length pc,.slice ca c.chans.length cc,.int .i64 c.len0,.slice aa c.win0.length ac,.int .i64 c.len1,.slice ba c.win1.length bc,.int .i64 sp,.bool sn,.slice ma made.length mc,.slice va vn vc,.int .i64 op,.int .i64 port,.int .u64 ad,.slice da dn dc,.int .i64 x0,.int .i64 x1,.int .i64 x2,.int .i64 x3,.int .i64 x4,.int .i64 x5,.int .u32 x6,.bool S,.bool O]] w fun e w' => e = .returned (.bool (rowA c sp sn made op port ad dn x0 x3 S O 4)) ∧ Below w.heap.size w w':=by
  obtain ⟨W,HW,hB,hWs,bx⟩:=box_new w #[.slice pa c.parts.length pc,.slice ca c.chans.length cc,.int .i64 c.len0,.slice aa c.win0.length ac,.int .i64 c.len1,.slice ba c.win1.length bc,.int .i64 sp,.bool sn,.slice ma made.length mc,.slice va vn vc,.int .i64 op,.int .i64 port,.int .u64 ad,.slice da dn dc,.int .i64 x0,.int .i64 x1,.int .i64 x2,.int .i64 x3,.int .i64 x4,.int .i64 x5,.int .u32 x6,.bool S,.bool O] 146

  have bW:=bx _ (Below.refl _ _)
  have a7:=cell_blk bW (i:=7) rfl
  have HB:=Lib.hid hB
  clear hB hWs bW bx
  clear hx hs hT
  show Calls Tryz.prog 93 #[.agg #[.slice pa c.parts.length pc,.slice ca c.chans.length cc,.int .i64 c.len0,.slice aa c.win0.length ac,.int .i64 c.len1,.slice ba c.win1.length bc,.int .i64 sp,.bool sn,.slice ma made.length mc,.slice va vn vc,.int .i64 op,.int .i64 port,.int .u64 ad,.slice da dn dc,.int .i64 x0,.int .i64 x1,.int .i64 x2,.int .i64 x3,.int .i64 x4,.int .i64 x5,.int .u32 x6,.bool S,.bool O]] w fun e w' => e = .returned (.bool (sn)) ∧ Below w.heap.size w w'
  go_enter Tryz.func93,Tryz.ntmps93
  go_wp2_with (rw [← HW.out])
  go_ret
  exact ⟨by first | rfl | simp | (simp;omega),HB.out⟩
set_option maxRecDepth 100000 in
set_option maxHeartbeats 800000 in
theorem prow6_b (c:Cfg) (pa:Option Addr) (pc:Nat) (ca:Option Addr) (cc:Nat) (aa:Option Addr) (ac:Nat) (ba:Option Addr) (bc:Nat) (sp:Int) (sn:Bool) (made:List Int) (ma:Option Addr) (mc:Nat) (va:Option Addr) (vn vc:Nat) (op port ad:Int) (da:Option Addr) (dn dc:Nat) (x0 x1 x2 x3 x4 x5 x6:Int) (S O:Bool) (w:World) (hx:CfgIn w w.heap.size c ⟨pa,pc,ca,cc,aa,ac,ba,bc⟩) (wx:CfgWf c) (lx:CfgFew c) (hs:SIn w made ma) (hp:(Lit.int .i64 port).wf = true) (had:(Lit.int .u64 ad).wf = true) (hdn:dn ≤ 1000000) (hT:TabsAt w):Calls Tryz.prog 95 #[.agg #[.slice pa c.parts.length pc,.slice ca c.chans.length cc,.int .i64 c.len0,.slice aa c.win0.length ac,.int .i64 c.len1,.slice ba c.win1.length bc,.int .i64 sp,.bool sn,.slice ma made.length mc,.slice va vn vc,.int .i64 op,.int .i64 port,.int .u64 ad,.slice da dn dc,.int .i64 x0,.int .i64 x1,.int .i64 x2,.int .i64 x3,.int .i64 x4,.int .i64 x5,.int .u32 x6,.bool S,.bool O]] w fun e w' => e = .returned (.bool (rowA c sp sn made op port ad dn x0 x3 S O 6)) ∧ Below w.heap.size w w':=by
  obtain ⟨W,HW,hB,hWs,bx⟩:=box_new w #[.slice pa c.parts.length pc,.slice ca c.chans.length cc,.int .i64 c.len0,.slice aa c.win0.length ac,.int .i64 c.len1,.slice ba c.win1.length bc,.int .i64 sp,.bool sn,.slice ma made.length mc,.slice va vn vc,.int .i64 op,.int .i64 port,.int .u64 ad,.slice da dn dc,.int .i64 x0,.int .i64 x1,.int .i64 x2,.int .i64 x3,.int .i64 x4,.int .i64 x5,.int .u32 x6,.bool S,.bool O] 146

  have bW:=bx _ (Below.refl _ _)
  have a7:=cell_blk bW (i:=7) rfl
  have HB:=Lib.hid hB
  clear hB hWs bW bx
  clear hx hs hT
  show Calls Tryz.prog 95 #[.agg #[.slice pa c.parts.length pc,.slice ca c.chans.length cc,.int .i64 c.len0,.slice aa c.win0.length ac,.int .i64 c.len1,.slice ba c.win1.length bc,.int .i64 sp,.bool sn,.slice ma made.length mc,.slice va vn vc,.int .i64 op,.int .i64 port,.int .u64 ad,.slice da dn dc,.int .i64 x0,.int .i64 x1,.int .i64 x2,.int .i64 x3,.int .i64 x4,.int .i64 x5,.int .u32 x6,.bool S,.bool O]] w fun e w' => e = .returned (.bool (!sn)) ∧ Below w.heap.size w w'
  go_enter Tryz.func95,Tryz.ntmps95
  go_wp2_with (rw [← HW.out])
  go_ret
  exact ⟨by first | rfl | simp | (simp;omega),HB.out⟩
set_option maxRecDepth 100000 in
set_option maxHeartbeats 800000 in
theorem prow11_b (c:Cfg) (pa:Option Addr) (pc:Nat) (ca:Option Addr) (cc:Nat) (aa:Option Addr) (ac:Nat) (ba:Option Addr) (bc:Nat) (sp:Int) (sn:Bool) (made:List Int) (ma:Option Addr) (mc:Nat) (va:Option Addr) (vn vc:Nat) (op port ad:Int) (da:Option Addr) (dn dc:Nat) (x0 x1 x2 x3 x4 x5 x6:Int) (S O:Bool) (w:World) (hx:CfgIn w w.heap.size c ⟨pa,pc,ca,cc,aa,ac,ba,bc⟩) (wx:CfgWf c) (lx:CfgFew c) (hs:SIn w made ma) (hp:(Lit.int .i64 port).wf = true) (had:(Lit.int .u64 ad).wf = true) (hdn:dn ≤ 1000000) (hT:TabsAt w):Calls Tryz.prog 97 #[.agg #[.slice pa c.parts.length pc,.slice ca c.chans.length cc,.int .i64 c.len0,.slice aa c.win0.length ac,.int .i64 c.len1,.slice ba c.win1.length bc,.int .i64 sp,.bool sn,.slice ma made.length mc,.slice va vn vc,.int .i64 op,.int .i64 port,.int .u64 ad,.slice da dn dc,.int .i64 x0,.int .i64 x1,.int .i64 x2,.int .i64 x3,.int .i64 x4,.int .i64 x5,.int .u32 x6,.bool S,.bool O]] w fun e w' => e = .returned (.bool (rowA c sp sn made op port ad dn x0 x3 S O 11)) ∧ Below w.heap.size w w':=by
  obtain ⟨W,HW,hB,hWs,bx⟩:=box_new w #[.slice pa c.parts.length pc,.slice ca c.chans.length cc,.int .i64 c.len0,.slice aa c.win0.length ac,.int .i64 c.len1,.slice ba c.win1.length bc,.int .i64 sp,.bool sn,.slice ma made.length mc,.slice va vn vc,.int .i64 op,.int .i64 port,.int .u64 ad,.slice da dn dc,.int .i64 x0,.int .i64 x1,.int .i64 x2,.int .i64 x3,.int .i64 x4,.int .i64 x5,.int .u32 x6,.bool S,.bool O] 146

  have bW:=bx _ (Below.refl _ _)
  have a13:=cell_blk bW (i:=13) rfl
  have HB:=Lib.hid hB
  clear hB hWs bW bx
  clear hx hs hT
  by_cases hc:dn = 0
  · have HX:=Lib.hid (show rowA c sp sn made op port ad dn x0 x3 S O 11 = true from (show decide (dn = 0) = true from decide_eq_true hc))
    have hz:((dn:Int) == 0) = true:=by simp [hc]
    clear hc
    go_enter Tryz.func97,Tryz.ntmps97
    go_wp2_with (rw [← HW.out])
    go_ret
    exact ⟨by rw [HX.out];rfl,HB.out⟩
  · have HX:=Lib.hid (show rowA c sp sn made op port ad dn x0 x3 S O 11 = false from (show decide (dn = 0) = false from decide_eq_false hc))
    have hz:((dn:Int) == 0) = false:=by simp [hc]
    clear hc
    go_enter Tryz.func97,Tryz.ntmps97
    go_wp2_with (rw [← HW.out])
    go_ret
    exact ⟨by rw [HX.out];rfl,HB.out⟩
set_option maxRecDepth 100000 in
set_option maxHeartbeats 800000 in
theorem prow12_b (c:Cfg) (pa:Option Addr) (pc:Nat) (ca:Option Addr) (cc:Nat) (aa:Option Addr) (ac:Nat) (ba:Option Addr) (bc:Nat) (sp:Int) (sn:Bool) (made:List Int) (ma:Option Addr) (mc:Nat) (va:Option Addr) (vn vc:Nat) (op port ad:Int) (da:Option Addr) (dn dc:Nat) (x0 x1 x2 x3 x4 x5 x6:Int) (S O:Bool) (w:World) (hx:CfgIn w w.heap.size c ⟨pa,pc,ca,cc,aa,ac,ba,bc⟩) (wx:CfgWf c) (lx:CfgFew c) (hs:SIn w made ma) (hp:(Lit.int .i64 port).wf = true) (had:(Lit.int .u64 ad).wf = true) (hdn:dn ≤ 1000000) (hT:TabsAt w):Calls Tryz.prog 98 #[.agg #[.slice pa c.parts.length pc,.slice ca c.chans.length cc,.int .i64 c.len0,.slice aa c.win0.length ac,.int .i64 c.len1,.slice ba c.win1.length bc,.int .i64 sp,.bool sn,.slice ma made.length mc,.slice va vn vc,.int .i64 op,.int .i64 port,.int .u64 ad,.slice da dn dc,.int .i64 x0,.int .i64 x1,.int .i64 x2,.int .i64 x3,.int .i64 x4,.int .i64 x5,.int .u32 x6,.bool S,.bool O]] w fun e w' => e = .returned (.bool (rowA c sp sn made op port ad dn x0 x3 S O 12)) ∧ Below w.heap.size w w':=by
  obtain ⟨W,HW,hB,hWs,bx⟩:=box_new w #[.slice pa c.parts.length pc,.slice ca c.chans.length cc,.int .i64 c.len0,.slice aa c.win0.length ac,.int .i64 c.len1,.slice ba c.win1.length bc,.int .i64 sp,.bool sn,.slice ma made.length mc,.slice va vn vc,.int .i64 op,.int .i64 port,.int .u64 ad,.slice da dn dc,.int .i64 x0,.int .i64 x1,.int .i64 x2,.int .i64 x3,.int .i64 x4,.int .i64 x5,.int .u32 x6,.bool S,.bool O] 146

  have bW:=bx _ (Below.refl _ _)
  have a13:=cell_blk bW (i:=13) rfl
  have a17:=cell_blk bW (i:=17) rfl
  have HB:=Lib.hid hB
  clear hB hWs bW bx
  clear hx hs hT
  by_cases hc:x3 < (dn:Int)
  · have HX:=Lib.hid (show rowA c sp sn made op port ad dn x0 x3 S O 12 = true from (show decide (x3 < (dn:Int)) = true from decide_eq_true hc))
    have hz:decide (x3 < (dn:Int)) = true:=decide_eq_true hc
    clear hc
    go_enter Tryz.func98,Tryz.ntmps98
    go_wp2_with (rw [← HW.out])
    go_ret
    exact ⟨by rw [HX.out];rfl,HB.out⟩
  · have HX:=Lib.hid (show rowA c sp sn made op port ad dn x0 x3 S O 12 = false from (show decide (x3 < (dn:Int)) = false from decide_eq_false hc))
    have hz:decide (x3 < (dn:Int)) = false:=decide_eq_false hc
    clear hc
    go_enter Tryz.func98,Tryz.ntmps98
    go_wp2_with (rw [← HW.out])
    go_ret
    exact ⟨by rw [HX.out];rfl,HB.out⟩
set_option maxRecDepth 100000 in
set_option maxHeartbeats 800000 in
theorem prow13_b (c:Cfg) (pa:Option Addr) (pc:Nat) (ca:Option Addr) (cc:Nat) (aa:Option Addr) (ac:Nat) (ba:Option Addr) (bc:Nat) (sp:Int) (sn:Bool) (made:List Int) (ma:Option Addr) (mc:Nat) (va:Option Addr) (vn vc:Nat) (op port ad:Int) (da:Option Addr) (dn dc:Nat) (x0 x1 x2 x3 x4 x5 x6:Int) (S O:Bool) (w:World) (hx:CfgIn w w.heap.size c ⟨pa,pc,ca,cc,aa,ac,ba,bc⟩) (wx:CfgWf c) (lx:CfgFew c) (hs:SIn w made ma) (hp:(Lit.int .i64 port).wf = true) (had:(Lit.int .u64 ad).wf = true) (hdn:dn ≤ 1000000) (hT:TabsAt w):Calls Tryz.prog 99 #[.agg #[.slice pa c.parts.length pc,.slice ca c.chans.length cc,.int .i64 c.len0,.slice aa c.win0.length ac,.int .i64 c.len1,.slice ba c.win1.length bc,.int .i64 sp,.bool sn,.slice ma made.length mc,.slice va vn vc,.int .i64 op,.int .i64 port,.int .u64 ad,.slice da dn dc,.int .i64 x0,.int .i64 x1,.int .i64 x2,.int .i64 x3,.int .i64 x4,.int .i64 x5,.int .u32 x6,.bool S,.bool O]] w fun e w' => e = .returned (.bool (rowA c sp sn made op port ad dn x0 x3 S O 13)) ∧ Below w.heap.size w w':=by
  obtain ⟨W,HW,hB,hWs,bx⟩:=box_new w #[.slice pa c.parts.length pc,.slice ca c.chans.length cc,.int .i64 c.len0,.slice aa c.win0.length ac,.int .i64 c.len1,.slice ba c.win1.length bc,.int .i64 sp,.bool sn,.slice ma made.length mc,.slice va vn vc,.int .i64 op,.int .i64 port,.int .u64 ad,.slice da dn dc,.int .i64 x0,.int .i64 x1,.int .i64 x2,.int .i64 x3,.int .i64 x4,.int .i64 x5,.int .u32 x6,.bool S,.bool O] 146

  have bW:=bx _ (Below.refl _ _)
  have a13:=cell_blk bW (i:=13) rfl
  have HB:=Lib.hid hB
  clear hB hWs bW bx
  clear hx hs hT
  by_cases hc:dn ≠ 1
  · have HX:=Lib.hid (show rowA c sp sn made op port ad dn x0 x3 S O 13 = true from (show decide (dn ≠ 1) = true from decide_eq_true hc))
    have hz:((dn:Int) != 1) = true:=by simp;omega
    clear hc
    go_enter Tryz.func99,Tryz.ntmps99
    go_wp2_with (rw [← HW.out])
    go_ret
    exact ⟨by rw [HX.out];rfl,HB.out⟩
  · have HX:=Lib.hid (show rowA c sp sn made op port ad dn x0 x3 S O 13 = false from (show decide (dn ≠ 1) = false from decide_eq_false hc))
    have hz:((dn:Int) != 1) = false:=by simp;omega
    clear hc
    go_enter Tryz.func99,Tryz.ntmps99
    go_wp2_with (rw [← HW.out])
    go_ret
    exact ⟨by rw [HX.out];rfl,HB.out⟩
set_option maxRecDepth 100000 in
set_option maxHeartbeats 800000 in
theorem prow3_b (c:Cfg) (pa:Option Addr) (pc:Nat) (ca:Option Addr) (cc:Nat) (aa:Option Addr) (ac:Nat) (ba:Option Addr) (bc:Nat) (sp:Int) (sn:Bool) (made:List Int) (ma:Option Addr) (mc:Nat) (va:Option Addr) (vn vc:Nat) (op port ad:Int) (da:Option Addr) (dn dc:Nat) (x0 x1 x2 x3 x4 x5 x6:Int) (S O:Bool) (w:World) (hx:CfgIn w w.heap.size c ⟨pa,pc,ca,cc,aa,ac,ba,bc⟩) (wx:CfgWf c) (lx:CfgFew c) (hs:SIn w made ma) (hp:(Lit.int .i64 port).wf = true) (had:(Lit.int .u64 ad).wf = true) (hdn:dn ≤ 1000000) (hT:TabsAt w):Calls Tryz.prog 92 #[.agg #[.slice pa c.parts.length pc,.slice ca c.chans.length cc,.int .i64 c.len0,.slice aa c.win0.length ac,.int .i64 c.len1,.slice ba c.win1.length bc,.int .i64 sp,.bool sn,.slice ma made.length mc,.slice va vn vc,.int .i64 op,.int .i64 port,.int .u64 ad,.slice da dn dc,.int .i64 x0,.int .i64 x1,.int .i64 x2,.int .i64 x3,.int .i64 x4,.int .i64 x5,.int .u32 x6,.bool S,.bool O]] w fun e w' => e = .returned (.bool (rowA c sp sn made op port ad dn x0 x3 S O 3)) ∧ Below w.heap.size w w':=by
  obtain ⟨W,HW,hB,hWs,bx⟩:=box_new w #[.slice pa c.parts.length pc,.slice ca c.chans.length cc,.int .i64 c.len0,.slice aa c.win0.length ac,.int .i64 c.len1,.slice ba c.win1.length bc,.int .i64 sp,.bool sn,.slice ma made.length mc,.slice va vn vc,.int .i64 op,.int .i64 port,.int .u64 ad,.slice da dn dc,.int .i64 x0,.int .i64 x1,.int .i64 x2,.int .i64 x3,.int .i64 x4,.int .i64 x5,.int .u32 x6,.bool S,.bool O] 146
  have HSW:=Lib.hid (hs.later hB)
  have bW:=bx _ (Below.refl _ _)
  have a8:=cell_blk bW (i:=8) rfl
  have a11:=cell_blk bW (i:=11) rfl
  have HB:=Lib.hid hB
  clear hB hWs bW bx
  clear hx hs hT
  obtain ⟨m,hm⟩:∃ m,madeB made port = m:=⟨_,rfl⟩
  have HM:=Lib.hid (scon_is made ma made.length mc port m W rfl HSW.out.1 HSW.out.2 hm)
  have HX:=Lib.hid (show rowA c sp sn made op port ad dn x0 x3 S O 3 = m from hm)
  clear hm
  go_enter Tryz.func92,Tryz.ntmps92
  go_wp2_with (rw [← HW.out])
  refine HM.out.mono ?_
  rintro e w5 ⟨rfl,rfl⟩
  go_wp2
  go_ret
  exact ⟨by rw [HX.out];first | done | rfl,HB.out⟩
theorem prow3_is (c:Cfg) (pa:Option Addr) (pc:Nat) (ca:Option Addr) (cc:Nat) (aa:Option Addr) (ac:Nat) (ba:Option Addr) (bc:Nat) (sp:Int) (sn:Bool) (made:List Int) (ma:Option Addr) (mc:Nat) (va:Option Addr) (vn vc:Nat) (op port ad:Int) (da:Option Addr) (dn dc:Nat) (x0 x1 x2 x3 x4 x5 x6:Int) (S O:Bool) (q:Bool) (w:World) (hx:CfgIn w w.heap.size c ⟨pa,pc,ca,cc,aa,ac,ba,bc⟩) (wx:CfgWf c) (lx:CfgFew c) (hs:SIn w made ma) (hp:(Lit.int .i64 port).wf = true) (had:(Lit.int .u64 ad).wf = true) (hdn:dn ≤ 1000000) (hT:TabsAt w) (h:rowA c sp sn made op port ad dn x0 x3 S O 3 = q):Calls Tryz.prog 92 #[.agg #[.slice pa c.parts.length pc,.slice ca c.chans.length cc,.int .i64 c.len0,.slice aa c.win0.length ac,.int .i64 c.len1,.slice ba c.win1.length bc,.int .i64 sp,.bool sn,.slice ma made.length mc,.slice va vn vc,.int .i64 op,.int .i64 port,.int .u64 ad,.slice da dn dc,.int .i64 x0,.int .i64 x1,.int .i64 x2,.int .i64 x3,.int .i64 x4,.int .i64 x5,.int .u32 x6,.bool S,.bool O]] w fun e w' => e = .returned (.bool q) ∧ Below w.heap.size w w':=by subst h;exact prow3_b c pa pc ca cc aa ac ba bc sp sn made ma mc va vn vc op port ad da dn dc x0 x1 x2 x3 x4 x5 x6 S O w hx wx lx hs hp had hdn hT
set_option maxRecDepth 100000 in
set_option maxHeartbeats 800000 in
theorem prow5_b (c:Cfg) (pa:Option Addr) (pc:Nat) (ca:Option Addr) (cc:Nat) (aa:Option Addr) (ac:Nat) (ba:Option Addr) (bc:Nat) (sp:Int) (sn:Bool) (made:List Int) (ma:Option Addr) (mc:Nat) (va:Option Addr) (vn vc:Nat) (op port ad:Int) (da:Option Addr) (dn dc:Nat) (x0 x1 x2 x3 x4 x5 x6:Int) (S O:Bool) (w:World) (hx:CfgIn w w.heap.size c ⟨pa,pc,ca,cc,aa,ac,ba,bc⟩) (wx:CfgWf c) (lx:CfgFew c) (hs:SIn w made ma) (hp:(Lit.int .i64 port).wf = true) (had:(Lit.int .u64 ad).wf = true) (hdn:dn ≤ 1000000) (hT:TabsAt w):Calls Tryz.prog 94 #[.agg #[.slice pa c.parts.length pc,.slice ca c.chans.length cc,.int .i64 c.len0,.slice aa c.win0.length ac,.int .i64 c.len1,.slice ba c.win1.length bc,.int .i64 sp,.bool sn,.slice ma made.length mc,.slice va vn vc,.int .i64 op,.int .i64 port,.int .u64 ad,.slice da dn dc,.int .i64 x0,.int .i64 x1,.int .i64 x2,.int .i64 x3,.int .i64 x4,.int .i64 x5,.int .u32 x6,.bool S,.bool O]] w fun e w' => e = .returned (.bool (rowA c sp sn made op port ad dn x0 x3 S O 5)) ∧ Below w.heap.size w w':=by
  obtain ⟨W,HW,hB,hWs,bx⟩:=box_new w #[.slice pa c.parts.length pc,.slice ca c.chans.length cc,.int .i64 c.len0,.slice aa c.win0.length ac,.int .i64 c.len1,.slice ba c.win1.length bc,.int .i64 sp,.bool sn,.slice ma made.length mc,.slice va vn vc,.int .i64 op,.int .i64 port,.int .u64 ad,.slice da dn dc,.int .i64 x0,.int .i64 x1,.int .i64 x2,.int .i64 x3,.int .i64 x4,.int .i64 x5,.int .u32 x6,.bool S,.bool O] 146
  have HCW:=Lib.hid (hx.later hB)
  have HSW:=Lib.hid (hs.later hB)
  have HTW:=Lib.hid (hT.later hB)
  have bW:=bx _ (Below.refl _ _)
  have a22:=cell_blk bW (i:=22) rfl
  have HB:=Lib.hid hB
  clear hB hWs bW
  clear hx hs hT
  obtain ⟨m,hm⟩:∃ m,madeB made port = m:=⟨_,rfl⟩
  have HM:=Lib.hid hm
  clear hm
  cases O with
  | false =>
    go_enter Tryz.func94,Tryz.ntmps94
    go_wp2_with (rw [← HW.out])
    go_ret
    exact ⟨rfl,HB.out⟩
  | true =>
    have HC:=Lib.hid (prow3_is c pa pc ca cc aa ac ba bc sp sn made ma mc va vn vc op port ad da dn dc x0 x1 x2 x3 x4 x5 x6 S true m W HCW.out wx lx HSW.out hp had hdn HTW.out HM.out)
    have HX:=Lib.hid (show rowA c sp sn made op port ad dn x0 x3 S true 5 = !m from (show (!true || !madeB made port) = !m by rw [HM.out];rfl))
    have hbW:=bx _ (Below.refl _ _)
    have hsz:(Tryz.prog.info? 146).map (·.size) = some (#[.slice pa c.parts.length pc,.slice ca c.chans.length cc,.int .i64 c.len0,.slice aa c.win0.length ac,.int .i64 c.len1,.slice ba c.win1.length bc,.int .i64 sp,.bool sn,.slice ma made.length mc,.slice va vn vc,.int .i64 op,.int .i64 port,.int .u64 ad,.slice da dn dc,.int .i64 x0,.int .i64 x1,.int .i64 x2,.int .i64 x3,.int .i64 x4,.int .i64 x5,.int .u32 x6,.bool S,.bool true]:Array Value).size:=asked_size
    clear bx
    go_enter Tryz.func94,Tryz.ntmps94
    go_wp2_with (first | (rw [← HW.out]) | (with_reducible refine wpList_loadG (by kernel_rfl) 146 _ rfl _ (by kernel_rfl) _ _ _ _ hbW Tryz.underlying146 (by kernel_rfl) hsz ?_))
    refine HC.out.mono ?_
    rintro e w5 ⟨rfl,hb5⟩
    go_wp2
    go_ret
    exact ⟨by rw [HX.out];first | done | rfl,HB.out.trans (hb5.mono HB.out.size)⟩
set_option maxRecDepth 100000 in
set_option maxHeartbeats 800000 in
theorem prow1_b (c:Cfg) (pa:Option Addr) (pc:Nat) (ca:Option Addr) (cc:Nat) (aa:Option Addr) (ac:Nat) (ba:Option Addr) (bc:Nat) (sp:Int) (sn:Bool) (made:List Int) (ma:Option Addr) (mc:Nat) (va:Option Addr) (vn vc:Nat) (op port ad:Int) (da:Option Addr) (dn dc:Nat) (x0 x1 x2 x3 x4 x5 x6:Int) (S O:Bool) (w:World) (hx:CfgIn w w.heap.size c ⟨pa,pc,ca,cc,aa,ac,ba,bc⟩) (wx:CfgWf c) (lx:CfgFew c) (hs:SIn w made ma) (hp:(Lit.int .i64 port).wf = true) (had:(Lit.int .u64 ad).wf = true) (hdn:dn ≤ 1000000) (hT:TabsAt w):Calls Tryz.prog 89 #[.agg #[.slice pa c.parts.length pc,.slice ca c.chans.length cc,.int .i64 c.len0,.slice aa c.win0.length ac,.int .i64 c.len1,.slice ba c.win1.length bc,.int .i64 sp,.bool sn,.slice ma made.length mc,.slice va vn vc,.int .i64 op,.int .i64 port,.int .u64 ad,.slice da dn dc,.int .i64 x0,.int .i64 x1,.int .i64 x2,.int .i64 x3,.int .i64 x4,.int .i64 x5,.int .u32 x6,.bool S,.bool O]] w fun e w' => e = .returned (.bool (rowA c sp sn made op port ad dn x0 x3 S O 1)) ∧ Below w.heap.size w w':=by
  obtain ⟨W,HW,hB,hWs,bx⟩:=box_new w #[.slice pa c.parts.length pc,.slice ca c.chans.length cc,.int .i64 c.len0,.slice aa c.win0.length ac,.int .i64 c.len1,.slice ba c.win1.length bc,.int .i64 sp,.bool sn,.slice ma made.length mc,.slice va vn vc,.int .i64 op,.int .i64 port,.int .u64 ad,.slice da dn dc,.int .i64 x0,.int .i64 x1,.int .i64 x2,.int .i64 x3,.int .i64 x4,.int .i64 x5,.int .u32 x6,.bool S,.bool O] 146
  have HTW:=Lib.hid (hT.later hB)
  have bW:=bx _ (Below.refl _ _)
  have a10:=cell_blk bW (i:=10) rfl
  have HB:=Lib.hid hB
  clear hB hWs bW bx
  clear hx hs hT
  have hC:=pname_b op W HTW.out
  by_cases hc:op < 1 ∨ 9 < op
  · have HX:=Lib.hid (show rowA c sp sn made op port ad dn x0 x3 S O 1 = true from (show decide (op < 1 ∨ 9 < op) = true from decide_eq_true hc))
    rw [nameS_out hc] at hC
    have HC:=Lib.hid hC
    clear hc hC
    go_enter Tryz.func89,Tryz.ntmps89
    go_wp2_with (rw [← HW.out])
    refine HC.out.mono ?_
    rintro e w5 ⟨rfl,hb5⟩
    go_wp2
    go_ret
    exact ⟨by rw [HX.out];rfl,HB.out.trans (hb5.mono HB.out.size)⟩
  · have HX:=Lib.hid (show rowA c sp sn made op port ad dn x0 x3 S O 1 = false from (show decide (op < 1 ∨ 9 < op) = false from decide_eq_false hc))
    obtain ⟨y,hy⟩:∃ y,nameS op = y:=⟨_,rfl⟩
    have hne:(y.toList == []) = false:=by
      rw [← hy]
      have h9:op = 1 ∨ op = 2 ∨ op = 3 ∨ op = 4 ∨ op = 5 ∨ op = 6 ∨ op = 7 ∨ op = 8 ∨ op = 9:=by omega
      rcases h9 with rfl | rfl | rfl | rfl | rfl | rfl | rfl | rfl | rfl <;> exact beq_eq_false_iff_ne.2 (toList_ne (by decide))
    rw [hy] at hC
    have HC:=Lib.hid hC
    clear hc hC hy
    go_enter Tryz.func89,Tryz.ntmps89
    go_wp2_with (rw [← HW.out])
    refine HC.out.mono ?_
    rintro e w5 ⟨rfl,hb5⟩
    go_wp2
    go_ret
    exact ⟨by rw [HX.out];first | rfl | simp [hne],HB.out.trans (hb5.mono HB.out.size)⟩
theorem pacc_is (c:Cfg) (x:CfgAt) (q:Bool) (w:World) (hx:CfgIn w w.heap.size c x) (wx:CfgWf c) (lx:CfgFew c) (h:acceptsB c = q):Calls Tryz.prog 74 #[.agg (cfgCells c x)] w fun e w' => e = .returned (.bool q) ∧ Below w.heap.size w w':=accepts_b c x q w hx wx lx (by rw [← h,← accepts_same];rfl)
set_option maxRecDepth 100000 in
set_option maxHeartbeats 1600000 in
theorem prow0_b (c:Cfg) (pa:Option Addr) (pc:Nat) (ca:Option Addr) (cc:Nat) (aa:Option Addr) (ac:Nat) (ba:Option Addr) (bc:Nat) (sp:Int) (sn:Bool) (made:List Int) (ma:Option Addr) (mc:Nat) (va:Option Addr) (vn vc:Nat) (op port ad:Int) (da:Option Addr) (dn dc:Nat) (x0 x1 x2 x3 x4 x5 x6:Int) (S O:Bool) (w:World) (hx:CfgIn w w.heap.size c ⟨pa,pc,ca,cc,aa,ac,ba,bc⟩) (wx:CfgWf c) (lx:CfgFew c) (hs:SIn w made ma) (hp:(Lit.int .i64 port).wf = true) (had:(Lit.int .u64 ad).wf = true) (hdn:dn ≤ 1000000) (hT:TabsAt w):Calls Tryz.prog 88 #[.agg #[.slice pa c.parts.length pc,.slice ca c.chans.length cc,.int .i64 c.len0,.slice aa c.win0.length ac,.int .i64 c.len1,.slice ba c.win1.length bc,.int .i64 sp,.bool sn,.slice ma made.length mc,.slice va vn vc,.int .i64 op,.int .i64 port,.int .u64 ad,.slice da dn dc,.int .i64 x0,.int .i64 x1,.int .i64 x2,.int .i64 x3,.int .i64 x4,.int .i64 x5,.int .u32 x6,.bool S,.bool O]] w fun e w' => e = .returned (.bool (rowA c sp sn made op port ad dn x0 x3 S O 0)) ∧ Below w.heap.size w w':=by
  obtain ⟨W,HW,hB,hWs,bx⟩:=box_new w #[.slice pa c.parts.length pc,.slice ca c.chans.length cc,.int .i64 c.len0,.slice aa c.win0.length ac,.int .i64 c.len1,.slice ba c.win1.length bc,.int .i64 sp,.bool sn,.slice ma made.length mc,.slice va vn vc,.int .i64 op,.int .i64 port,.int .u64 ad,.slice da dn dc,.int .i64 x0,.int .i64 x1,.int .i64 x2,.int .i64 x3,.int .i64 x4,.int .i64 x5,.int .u32 x6,.bool S,.bool O] 146
  have HCW:=Lib.hid (hx.later hB)
  have bW:=bx _ (Below.refl _ _)
  have a0:=cell_blk bW (i:=0) rfl
  have a1:=cell_blk bW (i:=1) rfl
  have a2:=cell_blk bW (i:=2) rfl
  have a3:=cell_blk bW (i:=3) rfl
  have a4:=cell_blk bW (i:=4) rfl
  have a5:=cell_blk bW (i:=5) rfl
  have a6:=cell_blk bW (i:=6) rfl
  have HB:=Lib.hid hB
  clear hB hWs bW
  clear hx hs hT
  have hl:=lx.1
  obtain ⟨q,hq⟩:∃ q,acceptsB c = q:=⟨_,rfl⟩
  have HC:=Lib.hid (pacc_is c ⟨pa,pc,ca,cc,aa,ac,ba,bc⟩ q W HCW.out wx lx hq)
  simp only [cfgCells] at HC
  have HQ:=Lib.hid hq
  clear hq
  cases q with
  | false =>
    have HX:=Lib.hid (show rowA c sp sn made op port ad dn x0 x3 S O 0 = true from (show (!acceptsB c || (decide (sp < 0) || decide ((c.parts.length:Int) ≤ sp))) = true by rw [HQ.out];rfl))
    go_enter Tryz.func88,Tryz.ntmps88
    go_wp2_with (rw [← HW.out])
    refine HC.out.mono ?_
    rintro e w5 ⟨rfl,hb5⟩
    have b5:=bx _ hb5
    have a0:=cell_blk b5 (i:=0) rfl
    have HF:=Lib.hid (HB.out.trans (hb5.mono HB.out.size))
    clear b5 hb5
    go_wp2
    go_ret
    exact ⟨by rw [HX.out];rfl,HF.out⟩
  | true =>
  by_cases p1:sp < 0
  · have HX:=Lib.hid (show rowA c sp sn made op port ad dn x0 x3 S O 0 = true from (show (!acceptsB c || (decide (sp < 0) || decide ((c.parts.length:Int) ≤ sp))) = true by rw [HQ.out,decide_eq_true p1];rfl))
    go_enter Tryz.func88,Tryz.ntmps88
    go_wp2_with (rw [← HW.out])
    refine HC.out.mono ?_
    rintro e w5 ⟨rfl,hb5⟩
    have b5:=bx _ hb5
    have a0:=cell_blk b5 (i:=0) rfl
    have HF:=Lib.hid (HB.out.trans (hb5.mono HB.out.size))
    clear b5 hb5
    go_wp2
    go_ret
    exact ⟨by rw [HX.out];rfl,HF.out⟩
  have p1d:decide (sp < 0) = false:=decide_eq_false p1
  by_cases p2:(c.parts.length:Int) ≤ sp
  · have HX:=Lib.hid (show rowA c sp sn made op port ad dn x0 x3 S O 0 = true from (show (!acceptsB c || (decide (sp < 0) || decide ((c.parts.length:Int) ≤ sp))) = true by rw [HQ.out,p1d,decide_eq_true p2];rfl))
    go_enter Tryz.func88,Tryz.ntmps88
    go_wp2_with (rw [← HW.out])
    refine HC.out.mono ?_
    rintro e w5 ⟨rfl,hb5⟩
    have b5:=bx _ hb5
    have a0:=cell_blk b5 (i:=0) rfl
    have HF:=Lib.hid (HB.out.trans (hb5.mono HB.out.size))
    clear b5 hb5
    go_wp2
    go_ret
    exact ⟨by rw [HX.out];rfl,HF.out⟩
  have p2d:decide ((c.parts.length:Int) ≤ sp) = false:=decide_eq_false p2
  have HX:=Lib.hid (show rowA c sp sn made op port ad dn x0 x3 S O 0 = false from (show (!acceptsB c || (decide (sp < 0) || decide ((c.parts.length:Int) ≤ sp))) = false by rw [HQ.out,p1d,p2d];rfl))
  go_enter Tryz.func88,Tryz.ntmps88
  go_wp2_with (rw [← HW.out])
  refine HC.out.mono ?_
  rintro e w5 ⟨rfl,hb5⟩
  have b5:=bx _ hb5
  have a0:=cell_blk b5 (i:=0) rfl
  have HF:=Lib.hid (HB.out.trans (hb5.mono HB.out.size))
  clear b5 hb5
  go_wp2
  go_ret
  exact ⟨by rw [HX.out];rfl,HF.out⟩
theorem has_privB {c:Cfg} (wx:CfgWf c) (p a:Int) (h0:0 ≤ a) (f s:Int) (hf:(privSpan c p).1 = f) (hs:(privSpan c p).2 = s):One.hasB f s a = privB c p a:=by
  obtain ⟨f0,f1,s0,s1⟩:=privSpan_in wx p
  unfold One.hasB One.rightB privB
  rw [hf] at f0 f1 ⊢
  rw [hs] at s0 s1 ⊢
  rw [decide_eq_true (show 0 ≤ f ∧ f ≤ 2147483647 ∧ 0 ≤ s ∧ s ≤ 2147483647 - f by omega),Bool.true_and]
  exact decide_eq_decide.2 (by omega)
set_option maxRecDepth 100000 in
set_option maxHeartbeats 1600000 in
theorem prow14_b (c:Cfg) (pa:Option Addr) (pc:Nat) (ca:Option Addr) (cc:Nat) (aa:Option Addr) (ac:Nat) (ba:Option Addr) (bc:Nat) (sp:Int) (sn:Bool) (made:List Int) (ma:Option Addr) (mc:Nat) (va:Option Addr) (vn vc:Nat) (op port ad:Int) (da:Option Addr) (dn dc:Nat) (x0 x1 x2 x3 x4 x5 x6:Int) (S O:Bool) (w:World) (hx:CfgIn w w.heap.size c ⟨pa,pc,ca,cc,aa,ac,ba,bc⟩) (wx:CfgWf c) (lx:CfgFew c) (hs:SIn w made ma) (hp:(Lit.int .i64 port).wf = true) (had:(Lit.int .u64 ad).wf = true) (hdn:dn ≤ 1000000) (hT:TabsAt w):Calls Tryz.prog 100 #[.agg #[.slice pa c.parts.length pc,.slice ca c.chans.length cc,.int .i64 c.len0,.slice aa c.win0.length ac,.int .i64 c.len1,.slice ba c.win1.length bc,.int .i64 sp,.bool sn,.slice ma made.length mc,.slice va vn vc,.int .i64 op,.int .i64 port,.int .u64 ad,.slice da dn dc,.int .i64 x0,.int .i64 x1,.int .i64 x2,.int .i64 x3,.int .i64 x4,.int .i64 x5,.int .u32 x6,.bool S,.bool O]] w fun e w' => e = .returned (.bool (rowA c sp sn made op port ad dn x0 x3 S O 14)) ∧ Below w.heap.size w w':=by
  obtain ⟨W,HW,hB,hWs,bx⟩:=box_new w #[.slice pa c.parts.length pc,.slice ca c.chans.length cc,.int .i64 c.len0,.slice aa c.win0.length ac,.int .i64 c.len1,.slice ba c.win1.length bc,.int .i64 sp,.bool sn,.slice ma made.length mc,.slice va vn vc,.int .i64 op,.int .i64 port,.int .u64 ad,.slice da dn dc,.int .i64 x0,.int .i64 x1,.int .i64 x2,.int .i64 x3,.int .i64 x4,.int .i64 x5,.int .u32 x6,.bool S,.bool O] 146
  have HCW:=Lib.hid (hx.later hB)
  have bW:=bx _ (Below.refl _ _)
  have a0:=cell_blk bW (i:=0) rfl
  have a1:=cell_blk bW (i:=1) rfl
  have a2:=cell_blk bW (i:=2) rfl
  have a3:=cell_blk bW (i:=3) rfl
  have a4:=cell_blk bW (i:=4) rfl
  have a5:=cell_blk bW (i:=5) rfl
  have a6:=cell_blk bW (i:=6) rfl
  have a12:=cell_blk bW (i:=12) rfl
  have HB:=Lib.hid hB
  clear hB hWs bW
  clear hx hs hT
  obtain ⟨a0_,a1_⟩:=bounds_u64 had
  by_cases hc:65536 ≤ ad
  · have HX:=Lib.hid (show rowA c sp sn made op port ad dn x0 x3 S O 14 = true from (show (!privB c sp ad) = true by
      obtain ⟨f0,f1,s0,s1⟩:=privSpan_in wx sp
      unfold privB
      rw [decide_eq_false (by omega)]
      rfl))
    have hcd:decide (65536 ≤ ad) = true:=decide_eq_true hc
    clear hc
    go_enter Tryz.func100,Tryz.ntmps100
    go_wp2_with (rw [← HW.out])
    go_ret
    exact ⟨by rw [HX.out];rfl,HB.out⟩
  · have hcd:decide (65536 ≤ ad) = false:=decide_eq_false hc
    have hC:=private_b c ⟨pa,pc,ca,cc,aa,ac,ba,bc⟩ sp W HCW.out wx lx
    obtain ⟨f,hf⟩:∃ f,(privSpan c sp).1 = f:=⟨_,rfl⟩
    obtain ⟨s,hs⟩:∃ s,(privSpan c sp).2 = s:=⟨_,rfl⟩
    have hH:=One.has_b f s ad
    rw [has_privB wx sp ad a0_ f s hf hs] at hH
    rw [hf,hs] at hC
    obtain ⟨z,hz⟩:∃ z,privB c sp ad = z:=⟨_,rfl⟩
    rw [hz] at hH
    have HX:=Lib.hid (show rowA c sp sn made op port ad dn x0 x3 S O 14 = !z from (show (!privB c sp ad) = !z by rw [hz]))
    have HC:=Lib.hid hC
    have HH:=Lib.hid hH
    simp only [cfgCells] at HC
    have u2:=IntWalk.i64_in ad (by omega)
    clear hC hH hz hf hs
    go_enter Tryz.func100,Tryz.ntmps100
    go_wp2_with (rw [← HW.out])
    refine HC.out.mono ?_
    rintro e w5 ⟨rfl,hb5⟩
    have HF:=Lib.hid (HB.out.trans (hb5.mono HB.out.size))
    clear hb5 a0 a1 a2 a3 a4 a5 a6 a12
    go_wp2_with fail
    refine (HH.out w5).mono ?_
    rintro e w6 ⟨rfl,hb6⟩
    have HF6:=Lib.hid (HF.out.trans (hb6.mono HF.out.size))
    clear hb6
    go_wp2
    go_ret
    exact ⟨by rw [HX.out];first | done | rfl,HF6.out⟩
end Go.Proofs.YtheeiklgblcjfaaGreatDoor
