/- Merged: Aw AwS AwD AwM AwH AwL AwN AwQ AwT AwR TabFresh AwW AwX TabSpec ModSpec ModBlk AwF Texts ModFn ModRd OpsDel ModDel ModWr StF ModMk KeepTx ModWk MdNone MdSteps MdFair MdApP MdApQ MdOpen MdStpO. -/
import Derived.OrdersHeld
import Derived.Deep.DeepAppendWide
import Derived.Lib.SliceRun
import Derived.Deep.DeepAppendRoom
import Derived.Test.YtefhenkdakokeaaMGen0
import Derived.Test.YtefhenkdakokeaaMStr0
import Derived.Test.YtefhenkdakokeaaMDisk0
/- Walks whose every step is one lemma: the frame as a list of slots that are known; regions in order, and regions that draw. No function of the program is named here. -/
set_option maxRecDepth 4000
namespace Go.Proofs.Ytefhenkdakokeaa
open Go Go.RowKit
/- the frame, as far as it is known -/
structure Env (N : Nat) (L : List (Nat × Value)) (a : Act) : Prop where
  size : a.tmps.size = N
  defers : a.defers = []
  at_ : ∀ (i k : Nat) (v : Value), L[i]? = some (k, v) → a.tmps[k]? = some v
def kp (L : List (Nat × Value)) : List Nat → List (Nat × Value)
  | [] => []
  | i :: is => match L[i]? with
    | some p => p :: kp L is
    | none => kp L is
def setd : Option Tmp → Value → List (Nat × Value) → List (Nat × Value)
  | some d, v, L => (d, v) :: L
  | none, _, L => L
def okd : Option Tmp → Nat → List (Nat × Value) → Bool
  | some d, N, L => Nat.blt d N && L.all fun p => !Nat.beq p.1 d
  | none, _, _ => true
theorem kp_at (L : List (Nat × Value)) : ∀ (is : List Nat) (i : Nat) (p : Nat × Value), (kp L is)[i]? = some p → ∃ j : Nat, L[j]? = some p
  | [], i, p, h => by simp [kp] at h
  | j :: is, i, p, h => by
    unfold kp at h
    cases hj : L[j]? with
    | none => rw [hj] at h; exact kp_at L is i p h
    | some q =>
      rw [hj] at h
      cases i with
      | zero => exact ⟨j, by rw [hj]; simpa using h⟩
      | succ i => exact kp_at L is i p (by simpa using h)
section
variable {P : Program} {N : Nat} {L : List (Nat × Value)} {a : Act}
theorem Env.ev (h : Env N L a) (i : Nat) {k : Nat} {v : Value} (hi : L[i]? = some (k, v)) : a.eval (.tmp k) = v := eval_of_get (h.at_ i k v hi)
theorem Env.get (h : Env N L a) (i : Nat) {k : Nat} {v : Value} (hi : L[i]? = some (k, v)) : a.tmps[k]? = some v := h.at_ i k v hi
theorem Env.keep (h : Env N L a) (is : List Nat) : Env N (kp L is) a := ⟨h.size, h.defers, fun i k v hi => by obtain ⟨j, hj⟩ := kp_at L is i (k, v) hi; exact h.at_ j k v hj⟩
theorem Env.put (h : Env N L a) (is : List Nat) (d : Option Tmp) (v : Value) (hk : okd d N (kp L is) = true) : Env N (setd d v (kp L is)) (a.put d v) := by
  cases d with
  | none => exact h.keep is
  | some d =>
    simp only [okd, Bool.and_eq_true, List.all_eq_true] at hk
    have hd : d < N := by have := hk.1; unfold Nat.blt at this; exact Nat.le_of_ble_eq_true this
    refine ⟨by simp [Act.put, h.size], h.defers, fun i k u hi => ?_⟩
    cases i with
    | zero =>
      have hi : (d, v) = (k, u) := by simpa [setd] using hi
      injection hi with h1 h2
      subst h1 h2
      simp [Act.put, h.size, hd]
    | succ i =>
      have hi : (kp L is)[i]? = some (k, u) := by simpa [setd] using hi
      have h1 := hk.2 _ (List.mem_of_getElem? hi)
      have hne : d ≠ k := fun e => by subst e; simp at h1
      obtain ⟨j, hj⟩ := kp_at L is i (k, u) hi
      simp only [Act.put]
      rw [Array.getElem?_setIfInBounds_ne hne]
      exact h.at_ j k u hj
theorem env_nil (hs : a.tmps.size = N) (hd : a.defers = []) : Env N [] a := ⟨hs, hd, fun i k v h => by simp at h⟩
def argL : List Value → Nat → List (Nat × Value)
  | [], _ => []
  | v :: vs, i => (i, v) :: argL vs (i + 1)
end
/- code -/
section
variable {P : Program} {Q Q' : Exit → Act → World → Prop} {K : Act → World → Prop} {a : Act} {w : World} {id j : Nat} {x y : Code}
theorem nx (h : K a w) : Exit.then K Q .normal a w := h
theorem tx (h : Q (.exit id) a w) : Exit.then K Q (.exit id) a w := h
theorem tr (h : Q .ret a w) : Exit.then K Q .ret a w := h
theorem bn (h : Q .normal a w) : Exit.inBlock id Q .normal a w := h
theorem br_ (h : Q .ret a w) : Exit.inBlock id Q .ret a w := h
theorem bx (h : Q .normal a w) : Exit.inBlock id Q (.exit id) a w := by simpa [Exit.inBlock] using h
/- a loop with what counts it down standing in no slot -/
theorem wp_loopG {ι : Type} {c : Code} (I : ι → Act → World → Prop) (μ : ι → Nat) (i0 : ι) (h0 : I i0 a w)
    (round : ∀ i a w, I i a w → c.wp P (Exit.then (fun a' w' => ∃ i', I i' a' w' ∧ μ i' < μ i) Q) a w) : (Code.loop c).wp P Q a w := by
  classical
  have key : ∀ n, ∀ i a w, μ i = n → I i a w → ∃ m, (∃ i, I i a w ∧ μ i = m) ∧ ∀ k, (∃ i, I i a w ∧ μ i = k) → m ≤ k := by
    intro n
    induction n using Nat.strongRecOn with
    | _ n ih =>
      intro i a w hn hi
      by_cases h : ∃ i', I i' a w ∧ μ i' < n
      · obtain ⟨i', h1, h2⟩ := h
        exact ih (μ i') h2 i' a w rfl h1
      · exact ⟨n, ⟨i, hi, hn⟩, fun k ⟨i', h1, h2⟩ => by
          apply Decidable.byContradiction
          intro hk
          exact h ⟨i', h1, by omega⟩⟩
  refine wp_loop (fun a w => ∃ i, I i a w) (fun a w => if h : ∃ m, (∃ i, I i a w ∧ μ i = m) ∧ ∀ k, (∃ i, I i a w ∧ μ i = k) → m ≤ k then h.choose else 0) ⟨i0, h0⟩ fun a w hI => ?_
  obtain ⟨i1, h1⟩ := hI
  have hex := key _ i1 a w rfl h1
  obtain ⟨⟨i, hi, him⟩, hmin⟩ := hex.choose_spec
  refine wp_mono (round i a w hi) fun e a' w' hq => ?_
  cases e with
  | normal =>
    obtain ⟨i', h2, h3⟩ := hq
    refine ⟨⟨i', h2⟩, ?_⟩
    have hex' := key _ i' a' w' rfl h2
    have := hex'.choose_spec.2 (μ i') ⟨i', h2, rfl⟩
    rw [dif_pos hex, dif_pos hex']
    omega
  | _ => exact hq
end
/- what a call tells when it returns -/
section
variable {P : Program} {fn : Func} {R : Ending → World → Prop} {N : Nat} {L : List (Nat × Value)} {a : Act} {w : World}
theorem ret_run (HA : Env N L a) {v : Value} (hv : (results fn a.tmps).run P w = .ok v w) (h : R (.returned v) w) : bodyPost P fn R .ret a w := ⟨HA.defers, v, hv, h⟩
theorem getD_get2 {t : Array Value} {k : Nat} {v : Value} (h : t[k]? = some v) : (t[k]?).getD undef = v := by rw [h]; rfl
theorem res_t {t : Array Value} {i : Nat} {v : Value} (hr : fn.results = #[.tmp i]) (h1 : t[i]? = some v) : (results fn t).run P w = .ok v w := by
  unfold results; simp [hr, getD_get2 h1]
theorem res_tt {t : Array Value} {i j : Nat} {v u : Value} (hr : fn.results = #[.tmp i, .tmp j]) (h1 : t[i]? = some v) (h2 : t[j]? = some u) : (results fn t).run P w = .ok (.tuple #[v, u]) w := by
  unfold results; simp [hr, getD_get2 h1, getD_get2 h2]
theorem load_cell {g : Nat} {ty t : TypeId} {cs : Array Value} {d : TypeDesc} (hg : Row w g t cs) (hu : P.underlying ty = some d) (hd : (match d with | .struct _ | .array _ _ => true | _ => false) = true) (hi : (P.info? ty).map (·.size) = some cs.size) : (loadVar ty ⟨g, 0, none⟩).run P w = .ok (.agg cs) w := run_loadVar_row w g t ty cs (0, 0) d hg hu hd hi
theorem res_ct {t : Array Value} {i g j : Nat} {u : Value} {ty ty' : TypeId} {cs : Array Value} {d : TypeDesc} (hr : fn.results = #[.cell i ty, .tmp j]) (h1 : t[i]? = some (.pointer (some ⟨g, 0, none⟩))) (hg : Row w g ty' cs) (hu : P.underlying ty = some d) (hd : (match d with | .struct _ | .array _ _ => true | _ => false) = true) (hi : (P.info? ty).map (·.size) = some cs.size) (h2 : t[j]? = some u) : (results fn t).run P w = .ok (.tuple #[.agg cs, u]) w := by
  unfold results; simp [hr, getD_get2 h1, getD_get2 h2, asAddr, load_cell hg hu hd hi]
end
end Go.Proofs.Ytefhenkdakokeaa

/- The steps of a walk: one operation in a region that goes in order, or that draws. No function of the program is named here. -/
set_option maxRecDepth 4000
namespace Go.Proofs.Ytefhenkdakokeaa
open Go Go.RowKit
section
variable {P : Program} {Q : Exit → Act → World → Prop} {ops : Array Oper} {rest : List Oper} {o : Oper} {N : Nat} {L : List (Nat × Value)} {a : Act} {w : World}
theorem want_n (hg : o.guard = none) : Region.wanted o (yielded ops a.tmps) = true := by simp [Region.wanted, hg]
theorem want_g {j t : Nat} {b c d : Bool} (hg : o.guard = some (j, b)) (hd : dstAt ops j = some t) (ht : a.tmps[t]? = some (.bool c)) (h : (c == b) = d) : Region.wanted o (yielded ops a.tmps) = d := by
  unfold dstAt at hd
  simp only [Region.wanted, hg, yielded, hd, Option.bind_some, ht]
  rw [← h]; cases c <;> cases b <;> rfl
end
/- what a step knows of the slots -/
section
variable {ops : Array Oper} {n : Nat} {Vl : List (Value → World → Prop)} {a a0 : Act} {x : Nat → Value} {w : World} {o : Oper} {N : Nat} {L : List (Nat × Value)}
end
end Go.Proofs.Ytefhenkdakokeaa

/- What the operations yield, one by one. No function of the program is named here. -/
set_option maxRecDepth 4000
namespace Go.Proofs.Ytefhenkdakokeaa
open Go Go.RowKit
def fieldOff (P : Program) (s : TypeId) (f : Nat) : Option Nat :=
  match P.underlying s with
  | some (.struct fields) => match fields[f]? with
    | some fd => match (P.info? fd.type).map (·.size) with
      | some (_ + 1) => some fd.offset
      | _ => none
    | none => none
  | _ => none
def arrOf (P : Program) (t : TypeId) : Option (Nat × Nat) :=
  match P.underlying t with
  | some (.array n e) => (P.info? e).map fun i => (n, i.size)
  | _ => none
def slOf (P : Program) (t : TypeId) : Option Nat :=
  match P.underlying t with
  | some (.slice e) => (P.info? e).map fun i => i.size
  | _ => none
def cmpI : BinOp → Int → Int → Option Bool
  | .eql, x, y => some (x == y)
  | .neq, x, y => some (x != y)
  | .lss, x, y => some (decide (x < y))
  | .leq, x, y => some (decide (x ≤ y))
  | .gtr, x, y => some (decide (x > y))
  | .geq, x, y => some (decide (x ≥ y))
  | _, _, _ => none
def ariI : BinOp → Int → Int → Option Int
  | .add, x, y => some (x + y)
  | .sub, x, y => some (x - y)
  | .mul, x, y => some (x * y)
  | _, _, _ => none
section
variable {P : Program} {o : Oper} {a : Act} {w : World} {R : Value → World → Prop}
theorem dd_mv {x : Operand} {v : Value} (ho : o.op = .move x) (hx : a.eval x = v) : (execOp a.eval o).run P w = .ok (.value v) w :=
  by simp only [execOp, ho, hx, Sem.run_pure]
theorem dd_as {x : Operand} {v : Value} (ho : o.op = .assign x) (hx : a.eval x = v) : (execOp a.eval o).run P w = .ok (.value v) w :=
  by simp only [execOp, ho, hx, Sem.run_pure]
theorem dd_pickT {c x y : Operand} {v : Value} (ho : o.op = .pick c x y) (hc : a.eval c = .bool true) (hx : a.eval x = v) : (execOp a.eval o).run P w = .ok (.value v) w :=
  by simp [execOp, ho, hc, hx, asBool]
theorem dd_pickF {c x y : Operand} {v : Value} (ho : o.op = .pick c x y) (hc : a.eval c = .bool false) (hy : a.eval y = v) : (execOp a.eval o).run P w = .ok (.value v) w :=
  by simp [execOp, ho, hc, hy, asBool]
theorem dd_nt {ty : TypeId} {x : Operand} {b c : Bool} (ho : o.op = .unOp .not ty x) (hx : a.eval x = .bool b) (hc : (!b) = c) : (execOp a.eval o).run P w = .ok (.value (.bool c)) w :=
  by simp [execOp, ho, hx, Op.unary, ← hc]
theorem dd_ext {x : Operand} {i : Nat} {vs : Array Value} {v : Value} (ho : o.op = .extract x i) (hx : a.eval x = .tuple vs) (hv : vs[i]? = some v) : (execOp a.eval o).run P w = .ok (.value v) w :=
  by simp [execOp, ho, hx, Instr.extract, hv]
theorem dd_cmp {op : BinOp} {ty ty2 : TypeId} {x y : Operand} {k : IntKind} {m n : Int} {b : Bool} (ho : o.op = .binOp op ty x y ty2) (hx : a.eval x = .int k m) (hy : a.eval y = .int k n) (hb : cmpI op m n = some b) : (execOp a.eval o).run P w = .ok (.value (.bool b)) w := by
  cases op <;> simp [cmpI] at hb <;> simp [execOp, ho, hx, hy, eqGuard, binOp, Op.intCmp, ← hb]
theorem dd_ari {op : BinOp} {ty ty2 : TypeId} {x y : Operand} {k : IntKind} {m n z z' : Int} (ho : o.op = .binOp op ty x y ty2) (hx : a.eval x = .int k m) (hy : a.eval y = .int k n) (hz : ariI op m n = some z') (hk : k.wrap z' = z) : (execOp a.eval o).run P w = .ok (.value (.int k z)) w := by
  cases op <;> simp [ariI] at hz <;> simp [execOp, ho, hx, hy, eqGuard, binOp, Op.intArith, hz, hk]
theorem dd_eqs {ty ty2 : TypeId} {x y : Operand} {s t : ByteArray} {b : Bool} (ho : o.op = .binOp .eql ty x y ty2) (hx : a.eval x = .string s) (hy : a.eval y = .string t) (hb : (s.toList == t.toList) = b) : (execOp a.eval o).run P w = .ok (.value (.bool b)) w := by
  simp [execOp, ho, hx, hy, eqGuard, binOp, Op.stringOp, hb]
theorem dd_nes {ty ty2 : TypeId} {x y : Operand} {s t : ByteArray} {b : Bool} (ho : o.op = .binOp .neq ty x y ty2) (hx : a.eval x = .string s) (hy : a.eval y = .string t) (hb : (s.toList != t.toList) = b) : (execOp a.eval o).run P w = .ok (.value (.bool b)) w := by
  simp [execOp, ho, hx, hy, eqGuard, binOp, Op.stringOp, ← hb, bne]
theorem dd_eqa {ty ty2 : TypeId} {x y : Operand} {cs ds : Array Value} {b : Bool} (ho : o.op = .binOp .eql ty x y ty2) (hx : a.eval x = .agg cs) (hy : a.eval y = .agg ds) (hg : P.eqGuardType P.depth ty = false) (hb : ∀ w, (Op.equalIn 10000 ty (.agg cs) (.agg ds)).run P w = .ok b w) : (execOp a.eval o).run P w = .ok (.value (.bool b)) w := by
  have e : (Op.equal ty (.agg cs) (.agg ds)).run P w = .ok b w := hb w
  simp [execOp, ho, hx, hy, eqGuard, binOp, e, hg]
theorem dd_nea {ty ty2 : TypeId} {x y : Operand} {cs ds : Array Value} {b c : Bool} (ho : o.op = .binOp .neq ty x y ty2) (hx : a.eval x = .agg cs) (hy : a.eval y = .agg ds) (hg : P.eqGuardType P.depth ty = false) (hb : ∀ w, (Op.equalIn 10000 ty (.agg cs) (.agg ds)).run P w = .ok b w) (hc : (!b) = c) : (execOp a.eval o).run P w = .ok (.value (.bool c)) w := by
  have e : (Op.equal ty (.agg cs) (.agg ds)).run P w = .ok b w := hb w
  simp [execOp, ho, hx, hy, eqGuard, binOp, e, hg, ← hc]
theorem dd_field {s : TypeId} {x : Operand} {f g i off j : Nat} (ho : o.op = .fieldAddr s x f) (hx : a.eval x = .pointer (some ⟨g, i, none⟩)) (hf : fieldOff P s f = some off) (hj : i + off = j) : (execOp a.eval o).run P w = .ok (.value (.pointer (some ⟨g, j, none⟩))) w := by
  subst hj
  unfold fieldOff at hf
  cases hu : P.underlying s with
  | none => rw [hu] at hf; cases hf
  | some d =>
    rw [hu] at hf
    cases d with
    | struct fields =>
      simp only at hf
      cases hfd : fields[f]? with
      | none => rw [hfd] at hf; cases hf
      | some fd =>
        rw [hfd] at hf
        simp only at hf
        cases hi : P.info? fd.type with
        | none => rw [hi] at hf; cases hf
        | some inf =>
          rw [hi] at hf
          simp only [Option.map_some] at hf
          cases hs : inf.size with
          | zero => rw [hs] at hf; cases hf
          | succ m =>
            rw [hs] at hf
            simp only [Option.some.injEq] at hf
            simp [execOp, ho, hx, Instr.fieldAt, Instr.sureAddr, run_underlying hu, hfd, fieldPlace, sizeOf, typeInfo, hi, hs, Addr.add_mid, hf]
    | _ => simp only at hf; cases hf
theorem dd_idxA {t : TypeId} {x ix : Operand} {g i n sz j : Nat} {k : IntKind} {m : Int} (ho : o.op = .indexAddr t x ix) (hx : a.eval x = .pointer (some ⟨g, i, none⟩)) (hi : a.eval ix = .int k m) (ht : arrOf P t = some (n, sz)) (h0 : 0 ≤ m) (hn : m < (n : Int)) (hj : i + m.toNat * sz = j) : (execOp a.eval o).run P w = .ok (.value (.pointer (some ⟨g, j, none⟩))) w := by
  subst hj
  unfold arrOf at ht
  cases hu : P.underlying t with
  | none => rw [hu] at ht; cases ht
  | some d =>
    rw [hu] at ht
    cases d with
    | array n' e =>
      simp only at ht
      cases hq : P.info? e with
      | none => rw [hq] at ht; cases ht
      | some inf =>
        rw [hq] at ht
        simp only [Option.map_some, Option.some.injEq, Prod.mk.injEq] at ht
        obtain ⟨rfl, rfl⟩ := ht
        simp [execOp, ho, hx, hi, Instr.indexAt, Instr.sureAddr, asIntOf, run_underlying hu, sizeOf, typeInfo, hq, h0, hn, Addr.add_mid]
    | _ => simp only at ht; cases ht
theorem dd_idxS {t : TypeId} {x ix : Operand} {g i n c sz j : Nat} {k : IntKind} {m : Int} (ho : o.op = .indexAddr t x ix) (hx : a.eval x = .slice (some ⟨g, i, none⟩) n c) (hi : a.eval ix = .int k m) (ht : slOf P t = some sz) (h0 : 0 ≤ m) (hn : m < (n : Int)) (hj : i + m.toNat * sz = j) : (execOp a.eval o).run P w = .ok (.value (.pointer (some ⟨g, j, none⟩))) w := by
  subst hj
  unfold slOf at ht
  cases hu : P.underlying t with
  | none => rw [hu] at ht; cases ht
  | some d =>
    rw [hu] at ht
    cases d with
    | slice e =>
      simp only at ht
      cases hq : P.info? e with
      | none => rw [hq] at ht; cases ht
      | some inf =>
        rw [hq] at ht
        simp only [Option.map_some, Option.some.injEq] at ht
        subst ht
        simp [execOp, ho, hx, hi, Instr.indexAt, asIntOf, run_underlying hu, sizeOf, typeInfo, hq, h0, hn, Addr.add_mid]
    | _ => simp only at ht; cases ht
theorem dd_nilc {x : Operand} {p : Addr} (ho : o.op = .nilCheck x) (hx : a.eval x = .pointer (some p)) : (execOp a.eval o).run P w = .ok (.value (.pointer (some p))) w :=
  by simp [execOp, ho, hx]
theorem dd_len {x : Operand} {t : TypeId} {A : Option Addr} {n c : Nat} {e : TypeId} (ho : o.op = .call { callee := .builtin .len, args := #[x], argTypes := #[t] }) (hx : a.eval x = .slice A n c) (hu : P.underlying t = some (.slice e)) : (execOp a.eval o).run P w = .ok (.value (.int .i64 (n : Int))) w :=
  by simp [execOp, ho, resolve, invoke, builtin, Builtin.len_, hx, run_underlying hu, goInt]
theorem dd_lens {x : Operand} {t : TypeId} {s : ByteArray} {n : Int} (ho : o.op = .call { callee := .builtin .len, args := #[x], argTypes := #[t] }) (hx : a.eval x = .string s) (hu : P.underlying t = some .string) (hn : (s.size : Int) = n) : (execOp a.eval o).run P w = .ok (.value (.int .i64 n)) w :=
  by simp [execOp, ho, resolve, invoke, builtin, Builtin.len_, hx, run_underlying hu, goInt, hn]
theorem dd_rn {v : Value} (hr : (execOp a.eval o).run P w = .ok (.value v) w) (h : R v w) : Does P o a w R := does_run hr h
theorem dd_at {ty : TypeId} {x : Operand} (ho : o.op = .load ty x) {p : Addr} (hx : a.eval x = .pointer (some p)) {v : Value} (hc : w.cell? p = some v) {d : TypeDesc} (hu : P.underlying ty = some d) (hd : d.isRow = false) : (execOp a.eval o).run P w = .ok (.value v) w := by
  have hagg : (isAgg ty).run P w = .ok false w := by
    unfold isAgg
    rw [Sem.run_bind, run_underlying hu w]
    cases d <;> simp_all
  simp [execOp, ho, hx, Instr.loadAt, Instr.sureAddr, loadVar, Sem.run_bind, hagg, hc]
/- memory that is known as a list of blocks -/
variable {w0 : World} {F : Nat → Prop} {S : List Blk}
theorem dd_get (HS : St w0 F S w) (k i : Nat) {ty : TypeId} {x : Operand} (ho : o.op = .load ty x) {r : Blk} (hk : S[k]? = some r) (hx : a.eval x = .pointer (some ⟨r.g, i, none⟩)) {v : Value} (hv : r.cs[i]? = some v) {d : TypeDesc} (hu : P.underlying ty = some d) (hd : d.isRow = false) : (execOp a.eval o).run P w = .ok (.value v) w :=
  dd_at ho hx ((HS.row k hk).get hv) hu hd
theorem dd_load (HS : St w0 F S w) (k i : Nat) {ty : TypeId} {x : Operand} (ho : o.op = .load ty x) {r : Blk} (hk : S[k]? = some r) (hx : a.eval x = .pointer (some ⟨r.g, i, none⟩)) {cs : Array Value} (hv : (r.cs.toList.drop i).take cs.size = cs.toList) {d : TypeDesc} (hu : P.underlying ty = some d) (hd : d.isRow = true) (hi : (P.info? ty).map (·.size) = some cs.size) : (execOp a.eval o).run P w = .ok (.value (.agg cs)) w := by
  have hc := (HS.row k hk).slab i cs.toList (by simpa using hv)
  unfold execOp
  simp only [ho, hx, Instr.loadAt, Instr.sureAddr, Sem.run_bind, Sem.run_pure, Result.andThen_ok, run_loadVar_mid w r.g i ty cs.toList d hc hu hd (by simpa using hi)]
theorem dd_atN {ty : TypeId} {x : Operand} (ho : o.op = .load ty x) {g i : Nat} (hx : a.eval x = .pointer (some ⟨g, i, none⟩)) {L : List Value} (hc : w.rangeAt g i L) {d : TypeDesc} (hu : P.underlying ty = some d) (hd : d.isRow = true) (hi : (P.info? ty).map (·.size) = some L.length) : (execOp a.eval o).run P w = .ok (.value (.agg L.toArray)) w := by
  unfold execOp
  simp only [ho, hx, Instr.loadAt, Instr.sureAddr, Sem.run_bind, Sem.run_pure, Result.andThen_ok, run_loadVar_mid w g i ty L d hc hu hd hi]
theorem dd_new (HS : St w0 F S w) {e : TypeId} (cs : Array Value) (ho : o.op = .alloc e) {z : Value} (hz : (P.info? e).bind (·.zero) = some z) (hc : z.cells = cs) (h : ∀ g w', St w0 F (S ++ [⟨g, e, cs⟩]) w' → R (.pointer (some ⟨g, 0, none⟩)) w') : Does P o a w R := fun _ _ hK =>
  wp_st_alloc HS e cs ho z hz hc fun g w' h1 => hK _ _ (h g w' h1)
theorem dd_box (HS : St w0 F S w) {e : TypeId} {x : Operand} (ho : o.op = .box e x) {v : Value} (hx : a.eval x = v) {cs : Array Value} (hc : v.cells = cs) (h : ∀ g w', St w0 F (S ++ [⟨g, e, cs⟩]) w' → R (.pointer (some ⟨g, 0, none⟩)) w') : Does P o a w R := fun _ _ hK =>
  wp_st_box HS e x ho v hx cs hc fun g w' h1 => hK _ _ (h g w' h1)
theorem dd_store (HS : St w0 F S w) (k i : Nat) {ty : TypeId} {x y : Operand} (ho : o.op = .store ty x y) {r : Blk} (hk : S[k]? = some r) (hx : a.eval x = .pointer (some ⟨r.g, i, none⟩)) {v : Value} (hy : a.eval y = v) (hi : (P.info? ty).map (·.size) = some v.cells.size) (hfit : i + v.cells.size ≤ r.cs.size) (h1 : v.cells.all (·.oneCell') = true)
    {cs : Array Value} (hcs : (spl r.cs.toList i v.cells.toList).toArray = cs) (h : ∀ w', St w0 F (S.set k ⟨r.g, r.t, cs⟩) w' → R undef w') : Does P o a w R := fun _ _ hK =>
  wp_st_store HS k i ty x y ho hk hx v hy hi hfit h1 cs hcs fun w' h1 => hK _ _ (h w' h1)
theorem dd_put (HS : St w0 F S w) (k i : Nat) {ty : TypeId} {x y : Operand} (ho : o.op = .store ty x y) {r : Blk} (hk : S[k]? = some r) (hx : a.eval x = .pointer (some ⟨r.g, i, none⟩)) {v : Value} (hy : a.eval y = v) (hi : (P.info? ty).map (·.size) = some 1) (hv : v.cells = #[v]) (h1 : v.oneCell' = true) (hfit : Nat.blt i r.cs.size = true)
    {cs : Array Value} (hcs : r.cs.setIfInBounds i v = cs) (h : ∀ w', St w0 F (S.set k ⟨r.g, r.t, cs⟩) w' → R undef w') : Does P o a w R := fun _ _ hK =>
  wp_st_put HS k i ty x y ho hk hx v hy hi hv h1 (Nat.le_of_ble_eq_true hfit) cs hcs fun w' h1 => hK _ _ (h w' h1)
/- calls -/
theorem dd_call {f : FuncId} {fn : Func} {xs : Array Operand} {ts : Array TypeId} {l : List Value} {R' : Ending → World → Prop} (hf : P.funcs[f]? = some fn) (hn : (fn.name == "runtime.NumGoroutine") = false) (hb : fn.body.isNone = false) (ho : o.op = .call { callee := .value (.func f), args := xs, argTypes := ts }) (hx : (xs.map a.eval) = l.toArray) (C : Calls P f l.toArray w R')
    (h : ∀ e w', R' e w' → ∃ v, e = .returned v ∧ R v w') : Does P o a w R := fun K Q hK => by
  have hcf : (callFunc f (#[] ++ l.toArray ++ #[])).run P w = .ok (.enter f l.toArray) w := by
    have hn' : ¬ fn.name = "runtime.NumGoroutine" := by simpa using hn
    have hb' : ¬ fn.body = none := fun e => by rw [e] at hb; cases hb
    simp [callFunc, hf, hn', hb']
  have he : execOp a.eval o = callFunc f (#[] ++ l.toArray ++ #[]) := by
    unfold execOp
    rw [ho]
    simp only [resolve, Act.eval, Deferred.ofValue]
    rw [← hx]
    rfl
  unfold Oper.wp
  rw [he, hcf]
  refine Calls.mono C fun e w' hr => ?_
  obtain ⟨v, rfl, hv⟩ := h e w' hr
  exact hK v w' hv
end
/- comparisons -/
theorem lt_t {m n : Int} (h : m < n) : cmpI .lss m n = some true := by simp [cmpI, h]
theorem lt_f {m n : Int} (h : ¬ m < n) : cmpI .lss m n = some false := by simp [cmpI]; omega
theorem le_t {m n : Int} (h : m ≤ n) : cmpI .leq m n = some true := by simp [cmpI, h]
theorem le_f {m n : Int} (h : ¬ m ≤ n) : cmpI .leq m n = some false := by simp [cmpI]; omega
theorem gt_t {m n : Int} (h : n < m) : cmpI .gtr m n = some true := by simp [cmpI, h]
theorem gt_f {m n : Int} (h : ¬ n < m) : cmpI .gtr m n = some false := by simp [cmpI]; omega
theorem ge_t {m n : Int} (h : n ≤ m) : cmpI .geq m n = some true := by simp [cmpI, h]
theorem ge_f {m n : Int} (h : ¬ n ≤ m) : cmpI .geq m n = some false := by simp [cmpI]; omega
theorem eq_t {m n : Int} (h : m = n) : cmpI .eql m n = some true := by simp [cmpI, h]
theorem eq_f {m n : Int} (h : ¬ m = n) : cmpI .eql m n = some false := by simp [cmpI, h]
theorem ne_t {m n : Int} (h : ¬ m = n) : cmpI .neq m n = some true := by simp [cmpI, h]
theorem ne_f {m n : Int} (h : m = n) : cmpI .neq m n = some false := by simp [cmpI, h]
end Go.Proofs.Ytefhenkdakokeaa

/- Memory in a walk: rows side by side, literals, slices of the call's own that grow. No function of the program is named here. -/
set_option maxRecDepth 4000
namespace Go.Proofs.Ytefhenkdakokeaa
open Go Go.RowKit
/- cells as pieces, one behind the other -/
def catA (L : List (List Value)) : Array Value := L.flatten.toArray
theorem lens_nil : ([] : List (List Value)).map List.length = [] := rfl
theorem lens_cons {l : List Value} {L : List (List Value)} {n : Nat} {ns : List Nat} (h : l.length = n) (t : L.map List.length = ns) : (l :: L).map List.length = n :: ns := by rw [List.map_cons, h, t]
theorem len_bv {q : List (BitVec 8)} {n : Nat} (h : q.length = n) : (bytesV q).length = n := by rw [len_bytesV, h]
section
variable {L M : List (List Value)} {ns : List Nat}
theorem cat_size (h : L.map List.length = ns) : (catA L).size = ns.sum := by unfold catA; rw [List.size_toArray, List.length_flatten, h]
theorem take_sum (h : L.map List.length = ns) (j : Nat) : (L.take j).flatten.length = (ns.take j).sum := by rw [List.length_flatten, List.map_take, h]
theorem cat_split (L : List (List Value)) (j : Nat) : L.flatten = (L.take j).flatten ++ (L.drop j).flatten := by rw [← List.flatten_append, List.take_append_drop]
theorem cat_store (h : L.map List.length = ns) (j m : Nat) {off : Nat} (ho : (ns.take j).sum = off) (hm : M.flatten.length = ((ns.drop j).take m).sum) : (spl (catA L).toList off M.flatten).toArray = catA (L.take j ++ M ++ L.drop (j + m)) := by
  unfold catA spl
  have e1 : (L.take j).flatten.length = off := by rw [take_sum h j, ho]
  have e2 : ((L.drop j).take m).flatten.length = M.flatten.length := by rw [hm, List.length_flatten, List.map_take, List.map_drop, h]
  rw [List.flatten_append, List.flatten_append]
  congr 1
  rw [cat_split L j, List.take_left' e1, List.append_assoc, List.append_assoc]
  congr 2
  rw [← List.drop_drop, List.drop_left' e1, cat_split (L.drop j) m, List.drop_left' e2, List.drop_drop]
theorem cat_store1 (h : L.map List.length = ns) (j : Nat) {off n : Nat} {cs : Array Value} (ho : (ns.take j).sum = off) (hm : cs.size = n) (hn : ns[j]? = some n) : (spl (catA L).toList off (Value.agg cs).cells.toList).toArray = catA (L.set j cs.toList) := by
  have hj : j < ns.length := (List.getElem?_eq_some_iff.1 hn).1
  have hjL : j < L.length := by rw [← h] at hj; simpa using hj
  have e := cat_store (M := [cs.toList]) h j 1 ho (by
    rw [List.drop_eq_getElem_cons hj, List.take_succ_cons, List.take_zero]
    have := (List.getElem?_eq_some_iff.1 hn).2
    simp [this, hm])
  have e3 : (Value.agg cs).cells.toList = [cs.toList].flatten := by simp [Value.cells]
  rw [e3, e, List.set_eq_take_append_cons_drop, if_pos hjL]
  simp
end
/- literals of structs and arrays, field by field; what is not given is zero -/
def setSegs : List (List Value) → List (Nat × Value) → List (List Value)
  | L, [] => L
  | L, (i, v) :: r => setSegs (L.set i v.cells.toList) r
def zsegs (P : Program) (t : TypeId) : Option (List (List Value)) :=
  match P.info? t, P.underlying t with
  | some it, some (.struct fields) => match it.zero, fields.toList.mapM (fun f => (P.info? f.type).map fun i => (f.offset, i.size)) with
    | some z, some places => if fits 0 (places.map (·.2)) places && ((places.map (·.2)).sum == z.cells.size) then some (places.map fun p => (z.cells.toList.drop p.1).take p.2) else none
    | _, _ => none
  | _, _ => none
theorem set_same {l : List Nat} {i : Nat} {x : Nat} (h : l[i]? = some x) : l.set i x = l := by
  apply List.ext_getElem?
  intro k
  by_cases hk : i = k
  · subst hk
    rw [List.getElem?_set_self (List.getElem?_eq_some_iff.1 h).1, h]
  · rw [List.getElem?_set_ne hk]
theorem fill_segs (place : Nat → Option (Nat × Nat)) : ∀ (ps : List (Nat × Value)) (L : List (List Value)) (ns : List Nat), L.map List.length = ns → (∀ i s, ns[i]? = some s → place i = some ((ns.take i).sum, s)) → (∀ p ∈ ps, ns[p.1]? = some p.2.cells.size) →
    Instr.fill place (catA L) ps = some (catA (setSegs L ps))
  | [], L, ns, _, _, _ => by simp [Instr.fill, setSegs]
  | (i, v) :: ps, L, ns, h, hp, hf => by
    have h1 := hf (i, v) (by simp)
    have hplace := hp i _ h1
    simp only at h1 hplace
    have hi : i < ns.length := (List.getElem?_eq_some_iff.1 h1).1
    have hv : v.cells.toList.length = v.cells.size := Array.length_toList
    have hle : (ns.take i).sum + v.cells.size ≤ (catA L).size := by
      rw [cat_size h]
      have e := congrArg List.sum (List.take_append_drop i ns)
      rw [List.sum_append, List.drop_eq_getElem_cons hi, List.sum_cons, (List.getElem?_eq_some_iff.1 h1).2] at e
      omega
    have e := fill_set (ns.take i).sum v.cells (catA L) hle
    have e2 := cat_store1 (L := L) (cs := v.cells) h i rfl rfl h1
    have e3 : (Value.agg v.cells).cells.toList = v.cells.toList := rfl
    rw [e3] at e2
    simp only [Instr.fill, hplace]
    rw [if_neg (by simp; omega), e, e2, setSegs]
    refine fill_segs place ps _ ns ?_ hp fun p hp => hf p (by simp [hp])
    rw [List.map_set, h, hv]
    exact set_same h1
theorem zsegs_flat {P : Program} {t : TypeId} {Lz : List (List Value)} (hz : zsegs P t = some Lz) (ps : List (Nat × Value)) (hf : ∀ p ∈ ps, (Lz.map List.length)[p.1]? = some p.2.cells.size) : P.built t ps = some (catA (setSegs Lz ps)) := by
  unfold zsegs at hz
  unfold Program.built
  cases hit : P.info? t with
  | none => simp [hit] at hz
  | some it =>
    cases hu : P.underlying t with
    | none => simp [hit, hu] at hz
    | some d =>
      cases d <;> try (simp [hit, hu] at hz; done)
      case struct fields =>
        simp only [hit, hu] at hz ⊢
        cases hzz : it.zero with
        | none => simp [hzz] at hz
        | some z =>
          cases hm : fields.toList.mapM (fun f => (P.info? f.type).map fun i => (f.offset, i.size)) with
          | none => simp [hzz, hm] at hz
          | some pl =>
            simp only [hzz, hm] at hz ⊢
            split at hz
            · rename_i hc
              simp only [Bool.and_eq_true, beq_iff_eq] at hc
              obtain ⟨hfit, hsum⟩ := hc
              injection hz with hz
              have hzl : z.cells.toList.length = z.cells.size := Array.length_toList
              have hat := fits_at _ 0 pl hfit
              have hlens : Lz.map List.length = pl.map (·.2) := by
                rw [← hz, List.map_map]
                refine List.map_congr_left fun p hp => ?_
                obtain ⟨k, hk⟩ := List.getElem?_of_mem hp
                have h2 := hat k p.2 (by simp [hk])
                rw [hk] at h2
                injection h2 with h2
                have h3 : p.1 = ((pl.map (·.2)).take k).sum := by rw [h2]; simp
                have hlt : k < (pl.map (·.2)).length := by have := (List.getElem?_eq_some_iff.1 hk).1; simpa using this
                have e := congrArg List.sum (List.take_append_drop k (pl.map (·.2)))
                rw [List.sum_append, List.drop_eq_getElem_cons hlt, List.sum_cons] at e
                have h4 : (pl.map (·.2))[k] = p.2 := by have := (List.getElem?_eq_some_iff.1 hk).2; simp [this]
                simp only [Function.comp, List.length_take, List.length_drop]
                omega
              have hflat : ∀ (ss : List Nat) (o : Nat) (pl : List (Nat × Nat)) (l : List Value), fits o ss pl = true → (pl.map fun p => (l.drop p.1).take p.2).flatten = (l.drop o).take ss.sum := by
                intro ss
                induction ss with
                | nil => intro o pl l h
                         cases pl with
                         | nil => simp
                         | cons => simp [fits] at h
                | cons s ss ih =>
                  intro o pl l h
                  cases pl with
                  | nil => simp [fits] at h
                  | cons p pl =>
                    obtain ⟨o', s'⟩ := p
                    simp only [fits, Bool.and_eq_true, beq_iff_eq] at h
                    obtain ⟨⟨rfl, rfl⟩, h⟩ := h
                    simp only [List.map_cons, List.flatten_cons, List.sum_cons]
                    rw [ih _ _ _ h, List.take_add, List.drop_drop]
              have hcat : catA Lz = z.cells := by
                unfold catA
                rw [← hz, hflat _ 0 pl _ hfit, List.drop_zero, hsum, List.take_of_length_le (by omega)]
              rw [← hcat]
              refine fill_segs _ ps Lz _ rfl (fun i s hs => ?_) hf
              rw [hlens] at hs ⊢
              rw [List.getElem?_toArray, hat i s hs, Nat.zero_add]
            · cases hz
section
variable {P : Program} {o : Oper} {a : Act} {w : World} {R : Value → World → Prop}
theorem fit_nil {ns : List Nat} : ∀ p ∈ ([] : List (Nat × Value)), ns[p.1]? = some p.2.cells.size := fun p h => by cases h
theorem fit_cons {ns : List Nat} {i n : Nat} {v : Value} {ps : List (Nat × Value)} (h : ns[i]? = some n) (hv : v.cells.size = n) (t : ∀ p ∈ ps, ns[p.1]? = some p.2.cells.size) : ∀ p ∈ (i, v) :: ps, ns[p.1]? = some p.2.cells.size := fun p hp => by
  cases hp with
  | head => rw [h, hv]
  | tail _ hp => exact t p hp
theorem dd_bld {t : TypeId} {parts : Array (Nat × Operand)} {ps : List (Nat × Value)} {Lz : List (List Value)} {ns : List Nat} {cs : Array Value} (ho : o.op = .build t parts) (hp : (parts.map fun (i, x) => (i, a.eval x)).toList = ps) (hz : zsegs P t = some Lz) (hL : Lz.map List.length = ns) (hf : ∀ p ∈ ps, ns[p.1]? = some p.2.cells.size)
    (hc : catA (setSegs Lz ps) = cs) : (execOp a.eval o).run P w = .ok (.value (.agg cs)) w := by
  subst hL hc
  have hb := zsegs_flat hz ps hf
  rw [← hp] at hb ⊢
  unfold execOp
  simp only [ho, Sem.run_bind, run_build w t _ _ hb, Result.andThen_ok, Sem.run_pure]
end
theorem dd_bldk {P : Program} {o : Oper} {a : Act} {w : World} {t : TypeId} {parts : Array (Nat × Operand)} {ps : List (Nat × Value)} {cs : Array Value} (ho : o.op = .build t parts) (hp : (parts.map fun (i, x) => (i, a.eval x)).toList = ps) (hb : P.built t ps = some cs) : (execOp a.eval o).run P w = .ok (.value (.agg cs)) w := by
  rw [← hp] at hb
  unfold execOp
  simp only [ho, Sem.run_bind, run_build w t _ cs hb, Result.andThen_ok, Sem.run_pure]
/- slices of the call's own: the block that they lie in -/
structure OwnC (cb : Array Value) (c n sz : Nat) (L : List Value) : Prop where
  le : n ≤ c
  cap : c ≤ maxLen
  size : cb.size = c * sz
  len : L.length = n * sz
  take : cb.toList.take (n * sz) = L
theorem ownc_to {w : World} {g e c n sz b : Nat} {cb : Array Value} {L : List Value} (h : Row w g e cb) (O : OwnC cb c n sz L) (hb : b ≤ g) : w.ownsRow b e sz (.slice (some ⟨g, 0, none⟩) n c) n L :=
  ⟨O.len, .inr ⟨g, c, cb, rfl, hb, h, O.le, O.cap, O.size, O.take⟩⟩
theorem ownc_of {w : World} {b e n sz : Nat} {v : Value} {L : List Value} (h : w.ownsRow b e sz v n L) (h0 : v ≠ .slice none 0 0) : ∃ g c cb, v = .slice (some ⟨g, 0, none⟩) n c ∧ b ≤ g ∧ Row w g e cb ∧ OwnC cb c n sz L := by
  obtain ⟨hl, h | ⟨g, cap, cur, h1, h2, h3, h4, h5, h6, h7⟩⟩ := h
  · exact absurd h.1 h0
  · exact ⟨g, cap, cur, h1, h2, h3, h4, h5, h6, hl, h7⟩
theorem ownc_pos {w : World} {b e n sz : Nat} {v : Value} {L : List Value} (h : w.ownsRow b e sz v n L) (h0 : 0 < n) : ∃ g c cb, v = .slice (some ⟨g, 0, none⟩) n c ∧ b ≤ g ∧ Row w g e cb ∧ OwnC cb c n sz L := by
  refine ownc_of h fun e => ?_
  rcases h.2 with h | ⟨g, cap, cur, h1, _⟩
  · omega
  · rw [e] at h1; cases h1
/- memory as a list of blocks: one goes, one comes -/
theorem st_erase {w0 w : World} {F : Nat → Prop} {S : List Blk} (h : St w0 F S w) (k : Nat) : St w0 F (S.eraseIdx k) w := by
  have at_ : ∀ j r, (S.eraseIdx k)[j]? = some r → ∃ i, S[i]? = some r ∧ i = (if j < k then j else j + 1) := fun j r hj => by
    rw [List.getElem?_eraseIdx] at hj
    split at hj
    · exact ⟨j, hj, by rw [if_pos (by assumption)]⟩
    · exact ⟨j + 1, hj, by rw [if_neg (by assumption)]⟩
  refine ⟨h.chg, fun j r hj => ?_, fun i j r s hij hi hj => ?_, fun j r hj => ?_⟩
  · obtain ⟨i, hi, _⟩ := at_ j r hj; exact h.rows i r hi
  · obtain ⟨i', hi', ei⟩ := at_ i r hi
    obtain ⟨j', hj', ej⟩ := at_ j s hj
    refine h.apart i' j' r s (fun e => hij ?_) hi' hj'
    rw [ei, ej] at e
    split at e <;> split at e <;> omega
  · obtain ⟨i, hi, _⟩ := at_ j r hj; exact h.own i r hi
theorem St.joins {w0 W W' : World} {F : Nat → Prop} {S : List Blk} (h : St w0 F S W) (hb : Below W.heap.size W W') {g : Nat} {t : TypeId} {cs : Array Value} (hr : Row W' g t cs) (hg : W.heap.size ≤ g) : St w0 F (S ++ [⟨g, t, cs⟩]) W' :=
  (h.same hb).join hr (Nat.le_trans h.chg.size hg) fun b hm e => by have := h.lt hm; omega
theorem st_snoc {w0 w : World} {F : Nat → Prop} {S : List Blk} (h : St w0 F S w) {g : Nat} {t : TypeId} {cs : Array Value} (hr : Row w g t cs) (hg : F g ∨ w0.heap.size ≤ g) (hne : ∀ b ∈ S, b.g ≠ g) : St w0 F (S ++ [⟨g, t, cs⟩]) w := by
  have at_ : ∀ (j : Nat) (s : Blk), (S ++ [(⟨g, t, cs⟩ : Blk)])[j]? = some s → (j < S.length ∧ S[j]? = some s) ∨ (j = S.length ∧ s = ⟨g, t, cs⟩) := fun j s hj => by
    by_cases e : j < S.length
    · rw [List.getElem?_append_left e] at hj; exact .inl ⟨e, hj⟩
    · rw [List.getElem?_append_right (by omega)] at hj
      have e2 : j - S.length = 0 := by
        rcases Nat.eq_zero_or_pos (j - S.length) with h0 | h0
        · exact h0
        · rw [List.getElem?_eq_none (by simp; omega)] at hj; cases hj
      rw [e2] at hj
      exact .inr ⟨by omega, (Option.some.inj hj).symm⟩
  refine ⟨h.chg, fun j s hj => ?_, fun i j s u hij hi hj => ?_, fun j s hj => ?_⟩
  · rcases at_ j s hj with ⟨_, hk⟩ | ⟨_, rfl⟩
    · exact h.rows j s hk
    · exact hr
  · rcases at_ i s hi with ⟨_, hk⟩ | ⟨e1, rfl⟩ <;> rcases at_ j u hj with ⟨_, hu⟩ | ⟨e2, rfl⟩
    · exact h.apart _ _ _ _ hij hk hu
    · exact hne s (List.mem_of_getElem? hk)
    · exact fun e => hne u (List.mem_of_getElem? hu) e.symm
    · omega
  · rcases at_ j s hj with ⟨_, hk⟩ | ⟨_, rfl⟩
    · exact h.own j s hk
    · exact hg
section
variable {P : Program} {o : Oper} {a : Act} {w w0 : World} {R : Value → World → Prop} {F : Nat → Prop} {S : List Blk}
/- a literal slice -/
theorem dd_lits (HS : St w0 F S w) {t e : TypeId} {len : Nat} {parts : Array (Nat × Operand)} (cells : Array Value) (ho : o.op = .buildSlice t len parts) {ps : List (Nat × Value)} (hp : (parts.map fun (i, x) => (i, a.eval x)).toList = ps) {z : Value} {sz : Nat}
    (hu : P.underlying t = some (.slice e)) (hie : (P.info? e).map (fun i => (i.zero, i.size)) = some (some z, sz)) (hpos : Nat.blt 0 (len * sz) = true) (hsmall : Nat.ble (len * sz) 16777216 = true)
    (hf : Instr.fill (fun i => some (i * sz, sz)) ((Array.range (len * sz)).map (z.cells[· % z.cells.size]!)) ps = some cells)
    (h : ∀ g w', St w0 F (S ++ [⟨g, e, cells⟩]) w' → R (.slice (some ⟨g, 0, none⟩) len len) w') : Does P o a w R := fun _ _ hK => by
  obtain ⟨ie, hi, he⟩ := Option.map_eq_some_iff.1 hie
  injection he with hz hsz
  subst hsz
  have h1 := Nat.le_of_ble_eq_true hsmall
  have h2 : 0 < len * ie.size := Nat.le_of_ble_eq_true hpos
  exact wp_buildSlice t e len parts ho cells ie z hu hi hz (by omega) (by omega) (by rw [hp]; exact hf) (hK _ _ (h _ _ (HS.snoc e cells)))
/- append to a slice whose block is known -/
theorem dd_app (HS : St w0 F S w) (k : Nat) {g c n sz : Nat} {cb : Array Value} {e t : TypeId} {L : List Value} (hk : S[k]? = some ⟨g, e, cb⟩) (O : OwnC cb c n sz L) {s x : Operand} (ho : o.op = .call { callee := .builtin .append, args := #[s, x], argTypes := #[t, t] })
    (hs : a.eval s = .slice (some ⟨g, 0, none⟩) n c) {z : Value} {bytes : Nat} (ht : P.underlying t = some (.slice e)) (hi : (P.info? e).map (fun i => (i.zero, i.size, i.bytes)) = some (some z, sz, bytes)) (hzs : z.cells.size = sz) (hsz : 0 < sz)
    {ad : Addr} {m c2 : Nat} (news : List Value) (hx : a.eval x = .slice (some ad) m c2) (hl : news.length = m * sz) (hnews : ∀ j u, news[j]? = some u → w.cell? (ad.add j) = some u) (h1 : ∀ u ∈ news, u.oneCell' = true)
    (h63 : n + m ≤ maxLen) (hbytes : (n + m) * bytes ≤ 140737488355328)
    (h : ∀ g' c' cb' w', OwnC cb' c' (n + m) sz (L ++ news) → St w0 F (S.eraseIdx k ++ [⟨g', e, cb'⟩]) w' → R (.slice (some ⟨g', 0, none⟩) (n + m) c') w') : Does P o a w R := fun _ _ hK => by
  have hrow := HS.row k hk
  have hown := ownc_to hrow O (Nat.zero_le g)
  obtain ⟨i, hi1, hz1, hz2, hz3⟩ := info_parts hi
  obtain ⟨v', w', hr, h2, h3, h4⟩ := run_append_where (P := P) w 0 t o.type e i z sz bytes ht hi1 hz1 hz2 hz3 hzs hsz _ n L hown ad m c2 news hl hnews h1 h63 hbytes (Nat.zero_le _)
  obtain ⟨v3, w3, hr3, _, _, h6⟩ := run_append_own (P := P) w 0 t o.type e i z sz bytes ht hi1 hz1 hz2 hz3 hzs hsz _ n L hown ad m c2 news hl hnews h1 h63 hbytes (Nat.zero_le _)
  rw [hr] at hr3
  injection hr3 with hr3 _
  subst hr3
  obtain ⟨g', c', cb', rfl, _, hrow', O'⟩ := ownc_of h2 (fun ev => by have := (h6.1 ev).1; cases this)
  have hne : ∀ j r, S[j]? = some r → j ≠ k → r.g ≠ g' := fun j r hj hjk e' => by
    have hjr := HS.rows j r hj
    rcases h4.cases (k := g') rfl with h5 | h5
    · injection h5 with h5
      have h5 : g = g' := h5
      exact HS.apart j k r _ hjk hj hk (by rw [e', ← h5])
    · have := hjr.lt; omega
  have hS1 : St w0 F (S.eraseIdx k) w' := by
    have hE := st_erase HS k
    have hg : F g ∨ w0.heap.size ≤ g := HS.own k _ hk
    have hrows : ∀ b ∈ S.eraseIdx k, b.g ≠ g := fun b hb e' => by
      obtain ⟨j, hj⟩ := List.getElem?_of_mem hb
      rw [List.getElem?_eraseIdx] at hj
      split at hj
      · exact HS.apart j k b _ (by omega) hj hk e'
      · exact HS.apart (j + 1) k b _ (by omega) hj hk e'
    exact ⟨hE.chg.grown h3 (fun j e' => by injection e' with e'; have e' : g = j := e'; subst e'; exact hg), fun j r hj => (hE.rows j r hj).only h3 (hrows r (List.mem_of_getElem? hj)), hE.apart, hE.own⟩
  have hg' : F g' ∨ w0.heap.size ≤ g' := by
    rcases h4.cases (k := g') rfl with h5 | h5
    · injection h5 with h5
      have h5 : g = g' := h5
      rw [← h5]; exact HS.own k _ hk
    · exact .inr (Nat.le_trans HS.chg.size h5)
  have hS2 := st_snoc hS1 hrow' hg' (fun b hb => by
    obtain ⟨j, hj⟩ := List.getElem?_of_mem hb
    rw [List.getElem?_eraseIdx] at hj
    split at hj
    · exact hne j b hj (by omega)
    · exact hne (j + 1) b hj (by omega))
  unfold Oper.wp execOp
  simp only [ho, resolve, invoke, builtin, Sem.run_bind, Sem.run_pure, Result.andThen_ok, List.map_toArray, List.map_cons, List.map_nil, hs, hx, hr]
  exact hK _ _ (h g' c' cb' w' O' hS2)
theorem dd_setrow (HS : St w0 F S w) (k : Nat) {ty : TypeId} {x y : Operand} (ho : o.op = .store ty x y) {g n : Nat} {t : TypeId} {old cs : Array Value} (hk : S[k]? = some ⟨g, t, old⟩) (hx : a.eval x = .pointer (some ⟨g, 0, none⟩)) (hy : a.eval y = .agg cs) (hi : (P.info? ty).map (·.size) = some n) (hn : cs.size = n) (hn2 : old.size = n) (h1 : (Value.agg cs).cells.all (·.oneCell') = true)
    (h : ∀ w', St w0 F (S.set k ⟨g, t, cs⟩) w' → R undef w') : Does P o a w R :=
  dd_store HS k 0 ho hk hx hy (by rw [hi, show (Value.agg cs).cells.size = n from hn]) (by show 0 + cs.size ≤ old.size; omega) h1 (spl_agg _ _ _ rfl (by show old.size = cs.size; omega)) h
end
theorem ao_nil : ∀ v ∈ ([] : List Value), Value.oneCell' v = true := fun v h => by cases h
theorem ao_cons {v : Value} {l : List Value} (h : Value.oneCell' v = true) (t : ∀ v ∈ l, Value.oneCell' v = true) : ∀ u ∈ v :: l, Value.oneCell' u = true := fun u hu => by
  cases hu with
  | head => exact h
  | tail _ hu => exact t u hu
theorem one_l {l : List Value} (h : ∀ v ∈ l, Value.oneCell' v = true) : (Value.agg l.toArray).cells.all (·.oneCell') = true := by
  show l.toArray.all _ = true
  simpa using h
theorem args0 {f : Operand → Value} : (#[] : Array Operand).map f = ([] : List Value).toArray := by simp
theorem args1 {f : Operand → Value} {x1 : Operand} {v1 : Value} (h1 : f x1 = v1) : (#[x1] : Array Operand).map f = [v1].toArray := by simp [h1]
theorem args2 {f : Operand → Value} {x1 x2 : Operand} {v1 v2 : Value} (h1 : f x1 = v1) (h2 : f x2 = v2) : (#[x1, x2] : Array Operand).map f = [v1, v2].toArray := by simp [h1, h2]
theorem args3 {f : Operand → Value} {x1 x2 x3 : Operand} {v1 v2 v3 : Value} (h1 : f x1 = v1) (h2 : f x2 = v2) (h3 : f x3 = v3) : (#[x1, x2, x3] : Array Operand).map f = [v1, v2, v3].toArray := by simp [h1, h2, h3]
theorem args4 {f : Operand → Value} {x1 x2 x3 x4 : Operand} {v1 v2 v3 v4 : Value} (h1 : f x1 = v1) (h2 : f x2 = v2) (h3 : f x3 = v3) (h4 : f x4 = v4) : (#[x1, x2, x3, x4] : Array Operand).map f = [v1, v2, v3, v4].toArray := by simp [h1, h2, h3, h4]
theorem pr1 {i : Nat} {f : Operand → Value} {x : Operand} {v : Value} {l : List (Nat × Operand)} {ps : List (Nat × Value)} (h : f x = v) (t : (l.toArray.map fun (i, x) => (i, f x)).toList = ps) : (((i, x) :: l).toArray.map fun (i, x) => (i, f x)).toList = (i, v) :: ps := by
  simp only [List.map_toArray, List.map_cons, h] at *
  simpa using t
theorem pr0 {f : Operand → Value} : (([] : List (Nat × Operand)).toArray.map fun (i, x) => (i, f x)).toList = [] := by simp
theorem len_drop {q : List (BitVec 8)} {n k m : Nat} (h : q.length = n) (hm : n - k = m) : (q.drop k).length = m := by rw [List.length_drop, h, hm]
theorem len_take {q : List (BitVec 8)} {n k : Nat} (h : q.length = n) (hk : k ≤ n) : (q.take k).length = k := by rw [List.length_take, h]; omega
theorem row_news {w : World} {g : Nat} {t : TypeId} {cs : Array Value} (h : Row w g t cs) (o : Nat) {L : List Value} (hL : (cs.toList.drop o).take L.length = L) : ∀ (j : Nat) (u : Value), L[j]? = some u → w.cell? ((⟨g, o, none⟩ : Addr).add j) = some u := fun j u hu => by
  rw [Addr.add_mid]; exact h.slab o L hL j u hu
section
variable {P : Program} {o : Oper} {a : Act} {w : World} {R : Value → World → Prop}
theorem dd_sllh {t : TypeId} {x lo hi : Operand} {g i n c sz j : Nat} {k k' : IntKind} {l u : Nat} (ho : o.op = .slice t x (some lo) (some hi) none) (hx : a.eval x = .slice (some ⟨g, i, none⟩) n c) (hl : a.eval lo = .int k (l : Int)) (hh : a.eval hi = .int k' (u : Int)) (ht : slOf P t = some sz) (h1 : l ≤ u) (h2 : u ≤ c) (h3 : l < c) (hj : i + l * sz = j) {n' c' : Nat} (hn : u - l = n') (hc : c - l = c')
    : (execOp a.eval o).run P w = .ok (.value (.slice (some ⟨g, j, none⟩) n' c')) w := by
  subst hj hn hc
  unfold slOf at ht
  cases hu : P.underlying t with
  | none => rw [hu] at ht; cases ht
  | some d =>
    rw [hu] at ht
    cases d with
    | slice e =>
      simp only at ht
      cases hq : P.info? e with
      | none => rw [hq] at ht; cases ht
      | some inf =>
        rw [hq] at ht
        simp only [Option.map_some, Option.some.injEq] at ht
        subst ht
        have e3 : ¬ c = l := by omega
        simp [execOp, ho, hx, hl, hh, Instr.sliceAt, run_underlying hu, Instr.slice, Instr.sliceBounds, Instr.sliceBound, asIntOf, sizeOf, typeInfo, hq, h1, h2, e3, Addr.add_mid]
    | _ => simp only at ht; cases ht
theorem dd_sll {t : TypeId} {x lo : Operand} {g i n c sz j : Nat} {k : IntKind} {l : Nat} (ho : o.op = .slice t x (some lo) none none) (hx : a.eval x = .slice (some ⟨g, i, none⟩) n c) (hl : a.eval lo = .int k (l : Int)) (ht : slOf P t = some sz) (h1 : l ≤ n) (h3 : l < c) (hj : i + l * sz = j) {n' c' : Nat} (hn : n - l = n') (hc : c - l = c')
    : (execOp a.eval o).run P w = .ok (.value (.slice (some ⟨g, j, none⟩) n' c')) w := by
  subst hj hn hc
  unfold slOf at ht
  cases hu : P.underlying t with
  | none => rw [hu] at ht; cases ht
  | some d =>
    rw [hu] at ht
    cases d with
    | slice e =>
      simp only at ht
      cases hq : P.info? e with
      | none => rw [hq] at ht; cases ht
      | some inf =>
        rw [hq] at ht
        simp only [Option.map_some, Option.some.injEq] at ht
        subst ht
        have e3 : ¬ c = l := by omega
        have e1 : l ≤ n := h1
        simp [execOp, ho, hx, hl, Instr.sliceAt, run_underlying hu, Instr.slice, Instr.sliceBounds, Instr.sliceBound, asIntOf, sizeOf, typeInfo, hq, e1, e3, Addr.add_mid]
    | _ => simp only at ht; cases ht
theorem dd_slh {t : TypeId} {x hi : Operand} {A : Option Addr} {n c sz : Nat} {k' : IntKind} {u : Int} (ho : o.op = .slice t x none (some hi) none) (hx : a.eval x = .slice A n c) (hh : a.eval hi = .int k' u) (ht : slOf P t = some sz) (h1 : 0 ≤ u) (h2 : u ≤ (c : Int)) {n' : Nat} (hn : u.toNat = n')
    : (execOp a.eval o).run P w = .ok (.value (.slice A n' c)) w := by
  subst hn
  unfold slOf at ht
  cases hu : P.underlying t with
  | none => rw [hu] at ht; cases ht
  | some d =>
    rw [hu] at ht
    cases d with
    | slice e =>
      simp only at ht
      cases hq : P.info? e with
      | none => rw [hq] at ht; cases ht
      | some inf =>
        have e4 : (A.map fun x => x.add 0) = A := by cases A <;> simp [Addr.add]
        simp [execOp, ho, hx, hh, Instr.sliceAt, run_underlying hu, Instr.slice, Instr.sliceBounds, Instr.sliceBound, asIntOf, sizeOf, typeInfo, hq, h1, h2, e4]
    | _ => simp only at ht; cases ht
end
end Go.Proofs.Ytefhenkdakokeaa

/- Regions that draw, order by order, what only reads taken first; ways that meet again. No function of the program is named here. -/
set_option maxRecDepth 4000
namespace Go.Proofs.Ytefhenkdakokeaa
open Go Go.RowKit
def PQ (Q : Exit → Act → World → Prop) : Prop := ∀ c (a : Act) (d : Option Tmp) (v : Value) (w : World), Q (.panic c) (a.put d v) w → Q (.panic c) a w
theorem pq_then {K : Act → World → Prop} {Q : Exit → Act → World → Prop} (h : PQ Q) : PQ (Exit.then K Q) := h
theorem pq_block {id : Nat} {Q : Exit → Act → World → Prop} (h : PQ Q) : PQ (Exit.inBlock id Q) := h
theorem pq_body {P : Program} {fn : Func} {R : Ending → World → Prop} : PQ (bodyPost P fn R) := fun c a d v w h => by
  cases d <;> exact h
section
variable {P : Program} {Q : Exit → Act → World → Prop} {ops : Array Oper} {o : Oper} {N i fuel : Nat} {L : List (Nat × Value)} {a : Act} {w : World} {listed : Array Bool} {S : World → Prop}
theorem wp_held {id : Nat} {l : List Oper} {M : Nat} (S : World → Prop) (hm : P.follows .mixedOrders = true) (hM : l.length = M) (h : wpAnyH P .any l.toArray Q S M (Array.replicate M false) a w.drew) : (Code.region id l.toArray true).wp P Q a w := by
  subst hM
  refine wp_region_held (S := S) hm ?_
  have e : l.toArray.size = l.length := by simp
  rw [e]; exact h
theorem hm_nil {K : Nat → Prop} : ∀ i ∈ ([] : List Nat), K i := fun i h => by cases h
theorem hm_cons {K : Nat → Prop} {j : Nat} {l : List Nat} (h : K j) (t : ∀ i ∈ l, K i) : ∀ i ∈ j :: l, K i := fun i hi => by
  cases hi with
  | head => exact h
  | tail _ hi => exact t i hi
end
theorem wp_cut {P : Program} {Q : Exit → Act → World → Prop} {c : Code} {a : Act} {w : World} (I : Act → World → Prop) (h : c.wp P (Exit.then I Q) a w) (k : ∀ a w, I a w → Q .normal a w) : c.wp P Q a w :=
  wp_mono h fun e a w q => by
    cases e with
    | normal => exact k a w q
    | _ => exact q
/- some of the blocks, in whatever order -/
def selB (S : List Blk) : List Nat → List Blk
  | [] => []
  | i :: is => match S[i]? with
    | some r => r :: selB S is
    | none => selB S is
theorem sel_at (S : List Blk) : ∀ (is : List Nat), is.Nodup → ∀ (i j : Nat) (r s : Blk), (selB S is)[i]? = some r → (selB S is)[j]? = some s → ∃ i' j', i' ∈ is ∧ j' ∈ is ∧ S[i']? = some r ∧ S[j']? = some s ∧ (i ≠ j → i' ≠ j')
  | [], _, i, j, r, s, h, _ => by simp [selB] at h
  | k :: is, hn, i, j, r, s, hi, hj => by
    obtain ⟨hk, hn⟩ := List.nodup_cons.1 hn
    unfold selB at hi hj
    cases hs : S[k]? with
    | none =>
      rw [hs] at hi hj
      obtain ⟨i', j', h1, h2, h3⟩ := sel_at S is hn i j r s hi hj
      exact ⟨i', j', by simp [h1], by simp [h2], h3⟩
    | some u =>
      rw [hs] at hi hj
      cases i with
      | zero =>
        obtain rfl : u = r := by simpa using hi
        cases j with
        | zero => obtain rfl : u = s := by simpa using hj
                  exact ⟨k, k, by simp, by simp, hs, hs, fun h => absurd rfl h⟩
        | succ j =>
          obtain ⟨j', _, h1, _, h3, _, _⟩ := sel_at S is hn j j s s (by simpa using hj) (by simpa using hj)
          exact ⟨k, j', by simp, by simp [h1], hs, h3, fun _ e => hk (e ▸ h1)⟩
      | succ i =>
        cases j with
        | zero =>
          obtain rfl : u = s := by simpa using hj
          obtain ⟨i', _, h1, _, h3, _, _⟩ := sel_at S is hn i i r r (by simpa using hi) (by simpa using hi)
          exact ⟨i', k, by simp [h1], by simp, h3, hs, fun _ e => hk (e ▸ h1)⟩
        | succ j =>
          obtain ⟨i', j', h1, h2, h3, h4, h5⟩ := sel_at S is hn i j r s (by simpa using hi) (by simpa using hj)
          exact ⟨i', j', by simp [h1], by simp [h2], h3, h4, fun h => h5 (by omega)⟩
theorem st_sel {w0 w : World} {F : Nat → Prop} {S : List Blk} (h : St w0 F S w) (is : List Nat) (hn : is.Nodup) : St w0 F (selB S is) w :=
  ⟨h.chg, fun j r hj => by obtain ⟨i', _, _, _, h1, _⟩ := sel_at S is hn j j r r hj hj; exact h.rows i' r h1,
    fun i j r s hij hi hj => by obtain ⟨i', j', _, _, h1, h2, h3⟩ := sel_at S is hn i j r s hi hj; exact h.apart i' j' r s (h3 hij) h1 h2,
    fun j r hj => by obtain ⟨i', _, _, _, h1, _⟩ := sel_at S is hn j j r r hj hj; exact h.own i' r h1⟩
end Go.Proofs.Ytefhenkdakokeaa

/- Loops in a walk; rows of bytes, cell by cell; slices that are made. No function of the program is named here. -/
set_option maxRecDepth 4000
namespace Go.Proofs.Ytefhenkdakokeaa
open Go Go.RowKit
/- a loop of at most so many rounds -/
def unr (P : Program) (c : Code) (Q : Exit → Act → World → Prop) : Nat → Act → World → Prop
  | 0, _, _ => False
  | n + 1, a, w => c.wp P (Exit.then (unr P c Q n) Q) a w
theorem wp_unr {P : Program} {c : Code} {Q : Exit → Act → World → Prop} {a : Act} {w : World} (n : Nat) (h : unr P c Q n a w) : (Code.loop c).wp P Q a w :=
  wp_loopG (ι := Nat) (fun i a w => unr P c Q i a w) id n h fun i a w hI => by
    cases i with
    | zero => exact hI.elim
    | succ i =>
      refine wp_mono hI (fun e a w q => ?_)
      cases e with
      | normal => exact ⟨i, q, Nat.lt_succ_self _⟩
      | _ => exact q
theorem unr_go {P : Program} {c : Code} {Q : Exit → Act → World → Prop} {a : Act} {w : World} {n : Nat} (h : c.wp P (Exit.then (unr P c Q n) Q) a w) : unr P c Q (n + 1) a w := h
theorem i64_of {z : Int} (h0 : -9223372036854775808 ≤ z) (h1 : z < 9223372036854775808) : IntKind.i64.wrap z = z := by rw [IntKind.wrap_i64]; omega
theorem bs_slab {q : List (BitVec 8)} {n : Nat} (hq : q.length = n) (off m : Nat) (h : off + m ≤ n) : ((bs q).toList.drop off).take (bs ((q.drop off).take m)).size = (bs ((q.drop off).take m)).toList := by
  rw [size_bs, List.length_take, List.length_drop, hq, Nat.min_eq_left (by omega), bs_toList, bs_toList]
  simp [bytesV, List.map_take, List.map_drop]
theorem bs_slab0 {q : List (BitVec 8)} {n : Nat} (hq : q.length = n) (m : Nat) (h : m ≤ n) : ((bs q).toList.drop 0).take (bs (q.take m)).size = (bs (q.take m)).toList := bs_slab hq 0 m (by omega)
theorem len_spl {q r : List (BitVec 8)} {n m off : Nat} (hq : q.length = n) (hr : r.length = m) (h : off + m ≤ n) : (spl q off r).length = n := by rw [length_spl q off r (by omega), hq]
section
variable {P : Program} {o : Oper} {a : Act} {w w0 : World} {R : Value → World → Prop} {F : Nat → Prop} {S : List Blk}
theorem dd_mk (HS : St w0 F S w) {t e : TypeId} {x y : Operand} (ho : o.op = .makeSlice t x y) {k k' : IntKind} {l c : Nat} (hx : a.eval x = .int k (l : Int)) (hy : a.eval y = .int k' (c : Int)) {z : Value} {sz bytes : Nat} {cs : Array Value}
    (hu : P.underlying t = some (.slice e)) (hie : (P.info? e).map (fun i => (i.zero, i.size, i.bytes)) = some (some z, sz, bytes)) (hlc : l ≤ c) (hb : bytes * c ≤ 281474976710656) (h63 : c ≤ 9223372036854775807) (hcs : madeCells z.cells (c * sz) = cs)
    (h : ∀ g w', St w0 F (S ++ [⟨g, e, cs⟩]) w' → R (.slice (some ⟨g, 0, none⟩) l c) w') : Does P o a w R := fun _ _ hK => by
  obtain ⟨i, hi, hz1, hz2, hz3⟩ := info_parts hie
  subst hz2 hz3 hcs
  have hr := run_make (P := P) w t e i z hu hi hz1 k k' l c (by omega) (by omega) (by rw [← Int.natCast_mul]; omega) (by omega)
  simp only [Int.toNat_natCast] at hr
  have hrun : (execOp a.eval o).run P w = .ok (.value (.slice (some ⟨w.heap.size, 0, none⟩) l c)) (w.alloc (.cells (madeCells z.cells (c * i.size)) e)) := by
    unfold execOp
    simp only [ho, hx, hy, Sem.run_bind, hr, Result.andThen_ok, Sem.run_pure]
  unfold Oper.wp
  rw [hrun]
  exact hK _ _ (h _ _ (HS.snoc e _))
end
section
variable {o : Oper} {a : Act} {w w0 : World} {R : Value → World → Prop} {F : Nat → Prop} {S : List Blk}
end
end Go.Proofs.Ytefhenkdakokeaa

/- More operations of a walk: rows that are far, appends to nothing. No function of the program is named here. -/
set_option maxRecDepth 4000
namespace Go.Proofs.Ytefhenkdakokeaa
open Go Go.RowKit
theorem sl_at {x : Value} {A : Option Addr} {p : Addr} {n c : Nat} (h : x = .slice A n c) (hA : A = some p) : x = .slice (some p) n c := hA ▸ h
theorem wp_loop1 {P : Program} {Q : Exit → Act → World → Prop} {a : Act} {w : World} {ι : Type} {c : Code} (I : ι → Act → World → Prop) (μ : ι → Nat) (i1 : ι) (h0 : c.wp P (Exit.then (I i1) Q) a w)
    (round : ∀ i a w, I i a w → c.wp P (Exit.then (fun a' w' => ∃ i', I i' a' w' ∧ μ i' < μ i) Q) a w) : (Code.loop c).wp P Q a w :=
  wp_loopG (ι := Option ι) (fun i a w => match i with | none => c.wp P (Exit.then (I i1) Q) a w | some i => I i a w) (fun i => match i with | none => μ i1 + 1 | some i => μ i) none h0 fun i a w hI => by
    cases i with
    | none =>
      refine wp_mono hI (fun e a w q => ?_)
      cases e with
      | normal => exact ⟨some i1, q, Nat.lt_succ_self _⟩
      | _ => exact q
    | some i =>
      refine wp_mono (round i a w hI) (fun e a w q => ?_)
      cases e with
      | normal => obtain ⟨i', h1, h2⟩ := q; exact ⟨some i', h1, h2⟩
      | _ => exact q
section
variable {P : Program} {o : Oper} {a : Act} {w w0 : World} {R : Value → World → Prop} {F : Nat → Prop} {S : List Blk}
theorem dd_getR {g : Nat} {t : TypeId} {cs : Array Value} (hr : Row w g t cs) {i : Nat} {ty : TypeId} {x : Operand} (ho : o.op = .load ty x) (hx : a.eval x = .pointer (some ⟨g, i, none⟩)) {v : Value} (hv : cs[i]? = some v) {d : TypeDesc} (hu : P.underlying ty = some d) (hd : d.isRow = false) : (execOp a.eval o).run P w = .ok (.value v) w :=
  dd_at ho hx (hr.get hv) hu hd
theorem dd_loadR {g : Nat} {t : TypeId} {cs : Array Value} (hr : Row w g t cs) {i : Nat} {ty : TypeId} {x : Operand} (ho : o.op = .load ty x) (hx : a.eval x = .pointer (some ⟨g, i, none⟩)) {ds : Array Value} (hv : (cs.toList.drop i).take ds.size = ds.toList) {d : TypeDesc} (hu : P.underlying ty = some d) (hd : d.isRow = true) (hi : (P.info? ty).map (·.size) = some ds.size) : (execOp a.eval o).run P w = .ok (.value (.agg ds)) w :=
  dd_atN ho hx (hr.slab i ds.toList (by simpa using hv)) hu hd (by simpa using hi)
theorem dd_app0 (HS : St w0 F S w) {e t : TypeId} {s x : Operand} (ho : o.op = .call { callee := .builtin .append, args := #[s, x], argTypes := #[t, t] })
    (hs : a.eval s = .slice none 0 0) {z : Value} {bytes sz : Nat} (ht : P.underlying t = some (.slice e)) (hi : (P.info? e).map (fun i => (i.zero, i.size, i.bytes)) = some (some z, sz, bytes)) (hzs : z.cells.size = sz) (hsz : 0 < sz)
    {ad : Addr} {m c2 : Nat} (news : List Value) (hx : a.eval x = .slice (some ad) m c2) (hl : news.length = m * sz) (hnews : ∀ j u, news[j]? = some u → w.cell? (ad.add j) = some u) (h1 : ∀ u ∈ news, u.oneCell' = true)
    (h63 : m ≤ maxLen) (hbytes : m * bytes ≤ 140737488355328)
    (h : ∀ g' c' cb' w', OwnC cb' c' m sz news → St w0 F (S ++ [⟨g', e, cb'⟩]) w' → R (.slice (some ⟨g', 0, none⟩) m c') w') (hm : Nat.blt 0 m = true := by rfl) : Does P o a w R := fun _ _ hK => by
  have hm := Nat.le_of_ble_eq_true hm
  have hown : w.ownsRow 0 e sz (.slice none 0 0) 0 [] := ⟨by simp, .inl ⟨rfl, rfl⟩⟩
  obtain ⟨i, hi1, hz1, hz2, hz3⟩ := info_parts hi
  obtain ⟨v', w', hr, h2, h3, h4⟩ := run_append_where (P := P) w 0 t o.type e i z sz bytes ht hi1 hz1 hz2 hz3 hzs hsz _ 0 [] hown ad m c2 news hl hnews h1 (by omega) (by rw [Nat.zero_add]; exact hbytes) (Nat.zero_le _)
  rw [Nat.zero_add, List.nil_append] at h2
  obtain ⟨g', c', cb', rfl, _, hrow', O'⟩ := ownc_pos h2 (by omega)
  have hg' : w.heap.size ≤ g' := by
    rcases h4.cases (k := g') rfl with h5 | h5
    · cases h5
    · exact h5
  have hS1 : St w0 F S w' := HS.same (by
    have := h3
    exact below_of_grown h3 (fun g e => by cases e) (Nat.le_refl _))
  have hS2 := st_snoc hS1 hrow' (.inr (Nat.le_trans HS.chg.size hg')) (fun b hb e => by have := HS.lt hb; omega)
  unfold Oper.wp execOp
  simp only [ho, resolve, invoke, builtin, Sem.run_bind, Sem.run_pure, Result.andThen_ok, List.map_toArray, List.map_cons, List.map_nil, hs, hx, hr]
  exact hK _ _ (h g' c' cb' w' O' hS2)
end
end Go.Proofs.Ytefhenkdakokeaa

/- Short steps of a walk: the frame by its slots' numbers, an operation apart from where it stands. No function of the program is named here. -/
set_option maxRecDepth 4000
namespace Go.Proofs.Ytefhenkdakokeaa
open Go Go.RowKit
def look : List (Nat × Value) → Nat → Option Value
  | [], _ => none
  | (j, v) :: L, k => bif Nat.beq j k then some v else look L k
def sels (L : List (Nat × Value)) : List Nat → List (Nat × Value) → Option (List (Nat × Value))
  | [], acc => some acc
  | k :: ks, acc => match look L k with
    | some v => sels L ks ((k, v) :: acc)
    | none => none
structure En (N : Nat) (L : List (Nat × Value)) (a : Act) : Prop where
  size : a.tmps.size = N
  defers : a.defers = []
  at_ : ∀ (k : Nat) (v : Value), look L k = some v → a.tmps[k]? = some v
def dq (N : Nat) (o : Oper) : Option Nat := match o.dst with
  | some d => bif Nat.blt d N then some d else none
  | none => none
def dg (N : Nat) (o : Oper) : Option Nat := match o.guard with
  | none => dq N o
  | some _ => none
def dn (o : Oper) : Bool := match o.guard, o.dst with
  | none, none => true
  | _, _ => false
theorem dq_is {N : Nat} {o : Oper} {d : Nat} (h : dq N o = some d) : o.dst = some d ∧ d < N := by
  unfold dq at h
  split at h
  · rename_i e he
    cases hb : Nat.blt e N with
    | false => rw [hb] at h; cases h
    | true =>
      rw [hb] at h
      injection h with h
      subst h
      exact ⟨he, Nat.le_of_ble_eq_true hb⟩
  · cases h
theorem dg_is {N : Nat} {o : Oper} {d : Nat} (h : dg N o = some d) : o.guard = none ∧ dq N o = some d := by
  unfold dg at h
  split at h
  · exact ⟨by assumption, h⟩
  · cases h
theorem dn_is {o : Oper} (h : dn o = true) : o.guard = none ∧ o.dst = none := by
  unfold dn at h
  split at h
  · exact ⟨by assumption, by assumption⟩
  · cases h
section
variable {P : Program} {N : Nat} {L : List (Nat × Value)} {a : Act}
theorem En.ev (h : En N L a) (k : Nat) {v : Value} (hi : look L k = some v) : a.eval (.tmp k) = v := eval_of_get (h.at_ k v hi)
theorem En.get (h : En N L a) (k : Nat) {v : Value} (hi : look L k = some v) : a.tmps[k]? = some v := h.at_ k v hi
theorem En.sub (h : En N L a) {L2 : List (Nat × Value)} (hs : ∀ k v, look L2 k = some v → look L k = some v) : En N L2 a := ⟨h.size, h.defers, fun k v hi => h.at_ k v (hs k v hi)⟩
theorem sels_sub {L : List (Nat × Value)} : ∀ (ks : List Nat) (acc L2 : List (Nat × Value)), (∀ k v, look acc k = some v → look L k = some v) → sels L ks acc = some L2 → ∀ k v, look L2 k = some v → look L k = some v
  | [], acc, L2, h, e => by
    injection e with e
    subst e; exact h
  | j :: ks, acc, L2, h, e => by
    unfold sels at e
    cases hj : look L j with
    | none => rw [hj] at e; cases e
    | some u =>
      rw [hj] at e
      refine sels_sub ks _ L2 (fun k v hk => ?_) e
      unfold look at hk
      cases hb : Nat.beq j k with
      | false => simp only [hb] at hk; exact h k v hk
      | true =>
        simp only [hb] at hk
        have := Nat.eq_of_beq_eq_true hb
        subst this
        rw [hj]; exact hk
theorem En.sel (h : En N L a) (ks : List Nat) {L2 : List (Nat × Value)} (e : sels L ks [] = some L2) : En N L2 a := h.sub (sels_sub ks [] L2 (fun k v hk => by cases hk) e)
theorem En.env0 (h : En N L a) : Env N [] a := env_nil h.size h.defers
theorem En.put (h : En N L a) {d : Nat} (hd : d < N) (v : Value) : En N ((d, v) :: L) (a.put (some d) v) := by
  refine ⟨by simp [Act.put, h.size], h.defers, fun k u hi => ?_⟩
  unfold look at hi
  simp only [Act.put]
  cases hb : Nat.beq d k with
  | true =>
    simp only [hb] at hi
    have := Nat.eq_of_beq_eq_true hb
    subst this
    have hi : v = u := Option.some.inj hi
    subst hi
    simp [h.size, hd]
  | false =>
    simp only [hb] at hi
    have hne : d ≠ k := fun e => by subst e; simp at hb
    rw [Array.getElem?_setIfInBounds_ne hne]
    exact h.at_ k u hi
theorem look_arg : ∀ (vs : List Value) (i k : Nat) (v : Value), look (argL vs i) k = some v → i ≤ k ∧ vs[k - i]? = some v
  | [], i, k, v, h => by cases h
  | u :: vs, i, k, v, h => by
    unfold argL look at h
    cases hb : Nat.beq i k with
    | true =>
      simp only [hb] at h
      have := Nat.eq_of_beq_eq_true hb
      subst this
      simpa using h
    | false =>
      simp only [hb] at h
      have hne : i ≠ k := fun e => by subst e; simp at hb
      obtain ⟨h1, h2⟩ := look_arg vs (i + 1) k v h
      refine ⟨by omega, ?_⟩
      have e : k - i = (k - (i + 1)) + 1 := by omega
      rw [e]; simpa using h2
theorem enter_en {f : FuncId} {fn : Func} {c : Code} {l : List Value} {w : World} {R : Ending → World → Prop} (hf : P.funcs[f]? = some fn) (hb : fn.body = some c) (hN : fn.ntmps = N) (hl : l.length ≤ N)
    (h : ∀ a, En N (argL l 0) a → c.wp P (bodyPost P fn R) a w) : Calls P f l.toArray w R := by
  refine calls_of_wp hf hb (h _ ⟨by simp [hN]; omega, rfl, fun k v hi => ?_⟩)
  obtain ⟨_, h2⟩ := look_arg l 0 k v hi
  have hlt := (List.getElem?_eq_some_iff.1 h2).1
  simp only
  rw [Array.getElem?_append_left (by simpa using hlt)]
  simpa using h2
end
/- an operation, wherever it stands: K is what must hold behind it -/
def Og (P : Program) (ops : Array Oper) (Q : Exit → Act → World → Prop) (o : Oper) (K : Act → World → Prop) (a : Act) (w : World) : Prop :=
  ∀ K' : Act → World → Prop, (∀ a w, K a w → K' a w) → if Region.wanted o (yielded ops a.tmps) = true then Oper.wp P o a w K' Q else K' (a.put o.dst undef) w
section
variable {P : Program} {ops : Array Oper} {Q : Exit → Act → World → Prop} {rest : List Oper} {o : Oper} {K : Act → World → Prop} {N i fuel : Nat} {L : List (Nat × Value)} {a : Act} {w w0 : World} {listed : Array Bool} {S : World → Prop} {F : Nat → Prop} {B : List Blk} {d : Nat}
theorem wl_ (h : Og P ops Q o (wpList P ops Q rest) a w) : wpList P ops Q (o :: rest) a w := wpList_step h
theorem ho_ (ho : ops[i]? = some o) (h : Og P ops Q o K a w) : wpOp P ops Q i K a w := wpOp_step ho h
theorem h1_ (i : Nat) {o : Oper} (ho : ops[i]? = some o) (h : Og P ops Q o (fun a' w' => S w' ∧ wpAnyH P .any ops Q S fuel (listed.setIfInBounds i true) a' w') a w) (hr : Region.ready .any ops listed = [i] := by kernel_rfl) : wpAnyH P .any ops Q S (fuel + 1) listed a w :=
  wpAnyH_all hr (by simp) fun j hj => by
    obtain rfl : j = i := by simpa using hj
    exact wpOp_step ho h
theorem wg_ (H : En N L a) {j t : Nat} {b c e : Bool} (hg : o.guard = some (j, b)) (hd : dstAt ops j = some t) (ht : look L t = some (.bool c)) (h : (c == b) = e) : Region.wanted o (yielded ops a.tmps) = e := want_g hg hd (H.get t ht) h
theorem dr_ (H : En N L a) (hw : Region.wanted o (yielded ops a.tmps) = true) (hd : dq N o = some d) {R : Value → World → Prop} (hD : Does P o a w R) (h : ∀ v w', R v w' → ∀ a', En N ((d, v) :: L) a' → K a' w') : Og P ops Q o K a w := fun K' hK => by
  obtain ⟨h1, h2⟩ := dq_is hd
  rw [if_pos hw]
  exact hD K' Q fun v w' hR => by rw [h1]; exact hK _ _ (h v w' hR _ (H.put h2 v))
theorem d_ (H : En N L a) (hd : dg N o = some d) {R : Value → World → Prop} (hD : Does P o a w R) (h : ∀ v w', R v w' → ∀ a', En N ((d, v) :: L) a' → K a' w') : Og P ops Q o K a w := dr_ H (want_n (dg_is hd).1) (dg_is hd).2 hD h
theorem k_ (H : En N L a) (hw : Region.wanted o (yielded ops a.tmps) = false) (hd : dq N o = some d) (h : ∀ a', En N ((d, undef) :: L) a' → K a' w) : Og P ops Q o K a w := fun K' hK => by
  obtain ⟨h1, h2⟩ := dq_is hd
  rw [hw, if_neg (by decide), h1]
  exact hK _ _ (h _ (H.put h2 undef))
theorem i_ (H : En N L a) (hd : dg N o = some d) {v : Value} (hD : (execOp a.eval o).run P w = .ok (.value v) w) (h : ∀ a', En N ((d, v) :: L) a' → K a' w) : Og P ops Q o K a w :=
  d_ H hd (R := fun u w' => u = v ∧ w' = w) (dd_rn hD ⟨rfl, rfl⟩) fun v' w' hR a' HA' => by obtain ⟨rfl, rfl⟩ := hR; exact h a' HA'
theorem ig (H : En N L a) (hw : Region.wanted o (yielded ops a.tmps) = true) (hd : dq N o = some d) {v : Value} (hD : (execOp a.eval o).run P w = .ok (.value v) w) (h : ∀ a', En N ((d, v) :: L) a' → K a' w) : Og P ops Q o K a w :=
  dr_ H hw hd (R := fun u w' => u = v ∧ w' = w) (dd_rn hD ⟨rfl, rfl⟩) fun v' w' hR a' HA' => by obtain ⟨rfl, rfl⟩ := hR; exact h a' HA'
theorem ic (H : En N L a) (hd : dg N o = some d) {v : Value} (hD : Does P o a w fun u w' => u = v ∧ w' = w) (h : ∀ a', En N ((d, v) :: L) a' → K a' w) : Og P ops Q o K a w :=
  d_ H hd hD fun v' w' hR a' HA' => by obtain ⟨rfl, rfl⟩ := hR; exact h a' HA'
theorem i0 (hd : dn o = true) {v : Value} (hD : (execOp a.eval o).run P w = .ok (.value v) w) (h : K a w) : Og P ops Q o K a w := fun K' hK => by
  rw [if_pos (want_n (dn_is hd).1)]
  exact dd_rn (R := fun u w' => u = v ∧ w' = w) hD ⟨rfl, rfl⟩ K' Q fun v' w' hR => by
    obtain ⟨rfl, rfl⟩ := hR
    rw [(dn_is hd).2]; exact hK _ _ h
/- a new block -/
theorem n_ (H : En N L a) (hd : dg N o = some d) {S : Nat → List Blk} {A : Nat → Value} (hD : ∀ R : Value → World → Prop, (∀ g w', St w0 F (S g) w' → R (A g) w') → Does P o a w R) (h : ∀ g w', St w0 F (S g) w' → ∀ a', En N ((d, A g) :: L) a' → K a' w') : Og P ops Q o K a w :=
  d_ H hd (hD (fun v w' => ∃ g, v = A g ∧ St w0 F (S g) w') fun g w' k => ⟨g, rfl, k⟩) fun v w' hR a' HA' => by
    obtain ⟨g, rfl, k⟩ := hR; exact h g w' k a' HA'
theorem ng (H : En N L a) (hw : Region.wanted o (yielded ops a.tmps) = true) (hd : dq N o = some d) {S : Nat → List Blk} {A : Nat → Value} (hD : ∀ R : Value → World → Prop, (∀ g w', St w0 F (S g) w' → R (A g) w') → Does P o a w R) (h : ∀ g w', St w0 F (S g) w' → ∀ a', En N ((d, A g) :: L) a' → K a' w') : Og P ops Q o K a w :=
  dr_ H hw hd (hD (fun v w' => ∃ g, v = A g ∧ St w0 F (S g) w') fun g w' k => ⟨g, rfl, k⟩) fun v w' hR a' HA' => by
    obtain ⟨g, rfl, k⟩ := hR; exact h g w' k a' HA'
/- a store -/
theorem t_ (hd : dn o = true) {S : List Blk} (hD : ∀ R : Value → World → Prop, (∀ w', St w0 F S w' → R undef w') → Does P o a w R) (h : ∀ w', St w0 F S w' → K a w') : Og P ops Q o K a w := fun K' hK => by
  rw [if_pos (want_n (dn_is hd).1)]
  refine hD (fun _ w' => St w0 F S w') (fun _ k => k) K' Q fun v w' k => ?_
  rw [(dn_is hd).2]; exact hK _ _ (h w' k)
theorem tq (hd : dn o = true) {S : List Blk} {v : Value} (hD : ∀ R : Value → World → Prop, (∀ w', St w0 F S w' → R v w') → Does P o a w R) (h : ∀ w', St w0 F S w' → K a w') : Og P ops Q o K a w := fun K' hK => by
  rw [if_pos (want_n (dn_is hd).1)]
  refine hD (fun _ w' => St w0 F S w') (fun _ k => k) K' Q fun v w' k => ?_
  rw [(dn_is hd).2]; exact hK _ _ (h w' k)
/- bytes or values behind a slice of the call's own -/
theorem a_ (H : En N L a) (hd : dg N o = some d) {S : Nat → Array Value → List Blk} (A : Nat → Nat → Value) {T : Nat → Nat → Array Value → Prop} (hD : ∀ R : Value → World → Prop, (∀ g c cb w', T g c cb → St w0 F (S g cb) w' → R (A g c) w') → Does P o a w R) (h : ∀ g c cb w', T g c cb → St w0 F (S g cb) w' → ∀ a', En N ((d, A g c) :: L) a' → K a' w') : Og P ops Q o K a w :=
  d_ H hd (hD (fun v w' => ∃ g c cb, v = A g c ∧ T g c cb ∧ St w0 F (S g cb) w') fun g c cb w' k1 k2 => ⟨g, c, cb, rfl, k1, k2⟩) fun v w' hR a' HA' => by
    obtain ⟨g, c, cb, rfl, k1, k2⟩ := hR; exact h g c cb w' k1 k2 a' HA'
/- a call that leaves what was there -/
theorem c_ (H : En N L a) (hd : dg N o = some d) (HS : St w0 F B w) {v : Value} (hD : Does P o a w fun u w' => u = v ∧ Below w.heap.size w w') (h : ∀ w', St w0 F B w' → ∀ a', En N ((d, v) :: L) a' → K a' w') : Og P ops Q o K a w :=
  d_ H hd hD fun u w' hR a' HA' => by obtain ⟨rfl, k⟩ := hR; exact h w' (HS.same k) a' HA'
theorem cg (H : En N L a) (hw : Region.wanted o (yielded ops a.tmps) = true) (hd : dq N o = some d) (HS : St w0 F B w) {v : Value} (hD : Does P o a w fun u w' => u = v ∧ Below w.heap.size w w') (h : ∀ w', St w0 F B w' → ∀ a', En N ((d, v) :: L) a' → K a' w') : Og P ops Q o K a w :=
  dr_ H hw hd hD fun u w' hR a' HA' => by obtain ⟨rfl, k⟩ := hR; exact h w' (HS.same k) a' HA'
theorem dc_ {f : FuncId} {fn : Func} {xs : Array Operand} {ts : Array TypeId} {l : List Value} {R' : Ending → World → Prop} {R : Value → World → Prop} (hf : P.funcs[f]? = some fn) (ho : o.op = .call { callee := .value (.func f), args := xs, argTypes := ts }) (hx : (xs.map a.eval) = l.toArray) (C : Calls P f l.toArray w R')
    (h : ∀ e w', R' e w' → ∃ v, e = .returned v ∧ R v w') (hn : (fn.name == "runtime.NumGoroutine") = false := by kernel_rfl) (hb : fn.body.isNone = false := by kernel_rfl) : Does P o a w R := dd_call hf hn hb ho hx C h
theorem dcs {f : FuncId} {fn : Func} {xs : Array Operand} {ts : Array TypeId} {l : List Value} (hf : P.funcs[f]? = some fn) (ho : o.op = .call { callee := .value (.func f), args := xs, argTypes := ts }) (hx : (xs.map a.eval) = l.toArray) {v : Value} (C : Calls P f l.toArray w fun e w' => e = .returned v ∧ Below w.heap.size w w') (v' : Value)
    (hv : v = v' := by rfl) (hn : (fn.name == "runtime.NumGoroutine") = false := by kernel_rfl) (hb : fn.body.isNone = false := by kernel_rfl) : Does P o a w fun u w' => u = v' ∧ Below w.heap.size w w' := dd_call hf hn hb ho hx C fun _ _ h => ⟨v, h.1, hv, h.2⟩
/- several operations that only move values, in order -/
def opv (L : List (Nat × Value)) : Operand → Option Value
  | .tmp k => look L k
  | .const v => some v
  | _ => none
theorem opv_is (H : En N L a) {x : Operand} {v : Value} (h : opv L x = some v) : a.eval x = v := by
  cases x with
  | tmp k => exact H.ev k h
  | const u => exact Option.some.inj h
  | _ => cases h
def pur (L : List (Nat × Value)) (o : Oper) : Option Value := match o.op with
  | .move x => opv L x
  | .assign x => opv L x
  | .pick c x y => match opv L c with
    | some (.bool true) => opv L x
    | some (.bool false) => opv L y
    | _ => none
  | _ => none
theorem pur_is (H : En N L a) {v : Value} (h : pur L o = some v) : (execOp a.eval o).run P w = .ok (.value v) w := by
  unfold pur at h
  split at h
  · exact dd_mv (by assumption) (opv_is H h)
  · exact dd_as (by assumption) (opv_is H h)
  · split at h
    · exact dd_pickT (by assumption) (opv_is H (by assumption)) (opv_is H h)
    · exact dd_pickF (by assumption) (opv_is H (by assumption)) (opv_is H h)
    · cases h
  · cases h
def purs (N : Nat) : Nat → List (Nat × Value) → List Oper → Option (List (Nat × Value) × List Oper)
  | 0, L, l => some (L, l)
  | _ + 1, _, [] => none
  | n + 1, L, o :: l => match dg N o with
    | none => none
    | some d => match pur L o with
      | none => none
      | some v => purs N n ((d, v) :: L) l
theorem purs_is : ∀ (n : Nat) {L L' : List (Nat × Value)} {l l' : List Oper} {a : Act}, En N L a → purs N n L l = some (L', l') → (∀ a', En N L' a' → wpList P ops Q l' a' w) → wpList P ops Q l a w
  | 0, L, L', l, l', a, H, e, h => by
    injection e with e
    injection e with e1 e2
    subst e1 e2
    exact h a H
  | n + 1, L, L', [], l', a, H, e, h => by cases e
  | n + 1, L, L', o :: l, l', a, H, e, h => by
    unfold purs at e
    split at e
    · cases e
    · split at e
      · cases e
      · rename_i d hd _ v hv
        exact wl_ (i_ H hd (pur_is H hv) fun a' H' => purs_is n H' e h)
theorem q_ (H : En N L a) (n : Nat) {l l' : List Oper} {L' : List (Nat × Value)} (e : purs N n L l = some (L', l')) (h : ∀ a', En N L' a' → wpList P ops Q l' a' w) : wpList P ops Q l a w := purs_is n H e h
theorem p_ (H : En N L a) (hd : dg N o = some d) {v : Value} (hp : pur L o = some v) (h : ∀ a', En N ((d, v) :: L) a' → K a' w) : Og P ops Q o K a w := i_ H hd (pur_is H hp) h
/- regions that draw -/
class PQc (Q : Exit → Act → World → Prop) : Prop where
  pq : PQ Q
instance {K : Act → World → Prop} {Q : Exit → Act → World → Prop} [h : PQc Q] : PQc (Exit.then K Q) := ⟨pq_then h.pq⟩
instance {id : Nat} {Q : Exit → Act → World → Prop} [h : PQc Q] : PQc (Exit.inBlock id Q) := ⟨pq_block h.pq⟩
instance {fn : Func} {R : Ending → World → Prop} : PQc (bodyPost P fn R) := ⟨pq_body⟩
def Sx (w0 : World) (F : Nat → Prop) (B : List Blk) (w : World) : Prop := ∃ R9, St w0 F (B ++ R9) w
theorem sxi {S R9 : List Blk} (h : St w0 F S w) (is : List Nat) (e : selB S is = B ++ R9) (hn : is.Nodup := by decide) : Sx w0 F B w := ⟨R9, e ▸ st_sel h is hn⟩
theorem ss {S : List Blk} (h : St w0 F S w) (is : List Nat) (hn : is.Nodup := by decide) : St w0 F (selB S is) w := st_sel h is hn
def hck (ops : Array Oper) (listed : Array Bool) (i : Nat) : Bool := Region.noSelect ops && Region.free .any ops listed i && (Region.ready .any ops listed).contains i
theorem hck_is (h : hck ops listed i = true) : Region.noSelect ops = true ∧ Region.free .any ops listed i = true ∧ (Region.ready .any ops listed).contains i = true := by
  unfold hck at h
  simp only [Bool.and_eq_true] at h
  exact ⟨h.1.1, h.1.2, h.2⟩
theorem htg [hq : PQc Q] (H : En N L a) (i : Nat) {o : Oper} (hS : Sx w0 F B w) (hi : ops[i]? = some o) (hw : Region.wanted o (yielded ops a.tmps) = true) (hd : dq N o = some d) {v : Value} (hy : ∀ w R9, St w0 F (B ++ R9) w → (execOp a.eval o).run P w = .ok (.value v) w)
    (h : ∀ a', En N ((d, v) :: L) a' → wpAnyH P .any ops Q (Sx w0 F B) fuel (listed.setIfInBounds i true) a' w) (hc : hck ops listed i = true := by kernel_rfl) : wpAnyH P .any ops Q (Sx w0 F B) (fuel + 1) listed a w := by
  obtain ⟨h1, h2, h3⟩ := hck_is hc
  refine wpAnyH_take hi h1 h2 h3 (fun c a w => hq.pq c a o.dst v w) (.inl ⟨hw, fun w ⟨R9, k⟩ => hy w R9 k⟩) hS ?_
  rw [(dq_is hd).1]
  exact h _ (H.put (dq_is hd).2 v)
theorem ht_ [PQc Q] (H : En N L a) (i : Nat) {o : Oper} (hS : Sx w0 F B w) (hi : ops[i]? = some o) (hd : dg N o = some d) {v : Value} (hy : ∀ w R9, St w0 F (B ++ R9) w → (execOp a.eval o).run P w = .ok (.value v) w)
    (h : ∀ a', En N ((d, v) :: L) a' → wpAnyH P .any ops Q (Sx w0 F B) fuel (listed.setIfInBounds i true) a' w) (hc : hck ops listed i = true := by kernel_rfl) : wpAnyH P .any ops Q (Sx w0 F B) (fuel + 1) listed a w :=
  htg H i hS hi (want_n (dg_is hd).1) (dg_is hd).2 hy h hc
theorem hp_ [PQc Q] (H : En N L a) (i : Nat) {o : Oper} (hS : Sx w0 F B w) (hi : ops[i]? = some o) (hd : dg N o = some d) {v : Value} (hp : pur L o = some v)
    (h : ∀ a', En N ((d, v) :: L) a' → wpAnyH P .any ops Q (Sx w0 F B) fuel (listed.setIfInBounds i true) a' w) (hc : hck ops listed i = true := by kernel_rfl) : wpAnyH P .any ops Q (Sx w0 F B) (fuel + 1) listed a w :=
  ht_ H i hS hi hd (fun _ _ _ => pur_is H hp) h hc
theorem sx_ {A B : Prop} (h : A) (k : A → B) : A ∧ B := ⟨h, k h⟩
theorem wh_ {S : List Blk} (HS : St w0 F S w) (B : List Blk) {id : Nat} {l : List Oper} {M : Nat} (hM : l.length = M) (hx : Sx w0 F B w) (h : St w0 F S w.drew → Sx w0 F B w.drew → wpAnyH P .any l.toArray Q (Sx w0 F B) M (Array.replicate M false) a w.drew) (hm : P.follows .mixedOrders = true := by kernel_rfl) : (Code.region id l.toArray true).wp P Q a w :=
  wp_held _ hm hM (h HS.drew (let ⟨R9, k⟩ := hx; ⟨R9, k.drew⟩))
theorem wi_ {S : List Blk} (HS : St w0 F S w) (is : List Nat) {id : Nat} {l : List Oper} {M : Nat} (hM : l.length = M) {R9 : List Blk} (js : List Nat) (e : selB S js = selB S is ++ R9) (h : St w0 F S w.drew → Sx w0 F (selB S is) w.drew → wpAnyH P .any l.toArray Q (Sx w0 F (selB S is)) M (Array.replicate M false) a w.drew) (hn : js.Nodup := by decide) (hm : P.follows .mixedOrders = true := by kernel_rfl) : (Code.region id l.toArray true).wp P Q a w :=
  wh_ HS (selB S is) hM (sxi HS js e hn) h hm
end
/- shorter names -/
section
variable {P : Program} {o : Oper} {a : Act} {w : World}
theorem xA (n sz j : Nat) {t : TypeId} {x y : Operand} {g i : Nat} {k : IntKind} {m : Int} (ho : o.op = .indexAddr t x y) (hx : a.eval x = .pointer (some ⟨g, i, none⟩)) (hy : a.eval y = .int k m) (ht : arrOf P t = some (n, sz) := by kernel_rfl) (h0 : 0 ≤ m := by decide) (hn : m < (n : Int) := by decide) (hj : i + m.toNat * sz = j := by rfl) : (execOp a.eval o).run P w = .ok (.value (.pointer (some ⟨g, j, none⟩))) w := dd_idxA ho hx hy ht h0 hn hj
theorem xAo (n sz j : Nat) {t : TypeId} {x y : Operand} {g i : Nat} {k : IntKind} {m : Int} (ho : o.op = .indexAddr t x y) (hx : a.eval x = .pointer (some ⟨g, i, none⟩)) (hy : a.eval y = .int k m) (ht : arrOf P t = some (n, sz) := by kernel_rfl) (h0 : 0 ≤ m := by omega) (hn : m < (n : Int) := by omega) (hj : i + m.toNat * sz = j := by omega) : (execOp a.eval o).run P w = .ok (.value (.pointer (some ⟨g, j, none⟩))) w := dd_idxA ho hx hy ht h0 hn hj
theorem xSo (sz j : Nat) {t : TypeId} {x y : Operand} {g i n c : Nat} {k : IntKind} {m : Int} (ho : o.op = .indexAddr t x y) (hx : a.eval x = .slice (some ⟨g, i, none⟩) n c) (hy : a.eval y = .int k m) (ht : slOf P t = some sz := by kernel_rfl) (h0 : 0 ≤ m := by omega) (hn : m < (n : Int) := by omega) (hj : i + m.toNat * sz = j := by omega) : (execOp a.eval o).run P w = .ok (.value (.pointer (some ⟨g, j, none⟩))) w := dd_idxS ho hx hy ht h0 hn hj
theorem xf (off j : Nat) {s : TypeId} {x : Operand} {f g i : Nat} (ho : o.op = .fieldAddr s x f) (hx : a.eval x = .pointer (some ⟨g, i, none⟩)) (hf : fieldOff P s f = some off := by kernel_rfl) (hj : i + off = j := by rfl) : (execOp a.eval o).run P w = .ok (.value (.pointer (some ⟨g, j, none⟩))) w := dd_field ho hx hf hj
end
/- code -/
section
variable {P : Program} {Q : Exit → Act → World → Prop} {a : Act} {w : World} {N : Nat} {L : List (Nat × Value)} {x y : Code} {id : Nat}
theorem sq_ (h : x.wp P (Exit.then (y.wp P Q) Q) a w) : (Code.seq x y).wp P Q a w := wp_seq h
theorem rl_ {l : List Oper} (h : wpList P l.toArray Q l a w) : (Code.region id l.toArray false).wp P Q a w := wp_region_lit h
theorem ln_ {ops : Array Oper} (h : Q .normal a w) : wpList P ops Q [] a w := h
theorem ct_ (H : En N L a) {k : Nat} (hk : look L k = some (.bool true)) (h : x.wp P Q a w) : (Code.cond (.tmp k) x y).wp P Q a w := wp_cond_true (H.ev k hk) h
theorem cf_ (H : En N L a) {k : Nat} (hk : look L k = some (.bool false)) (h : y.wp P Q a w) : (Code.cond (.tmp k) x y).wp P Q a w := wp_cond_false (H.ev k hk) h
end
end Go.Proofs.Ytefhenkdakokeaa

/- Strings and copies in a walk. No function of the program is named here. -/
set_option maxRecDepth 4000
namespace Go.Proofs.Ytefhenkdakokeaa
open Go Go.RowKit
section
variable {o : Oper} {a : Act} {w w0 : World} {R : Value → World → Prop} {F : Nat → Prop} {S : List Blk}
end
theorem strs_row {w : World} {g : Nat} {t : TypeId} {q : List (BitVec 8)} (h : Row w g t #[.string (strB q)]) (hm : q.length ≤ maxLen) : Strs w (.slice (some ⟨g, 0, none⟩) 1 1) [q] :=
  ⟨_, 1, rfl, by simp, (fun h => by cases h), by simpa using hm, fun _ => ⟨g, 0, rfl, h.lt, fun k p hp => by
    cases k with
    | zero => obtain rfl : q = p := by simpa using hp
              exact h.get rfl
    | succ k => simp at hp⟩⟩
theorem sbeq_t {p q : List (BitVec 8)} (h : p = q) : ((strB p).toList == (strB q).toList) = true := by rw [str_beq, decide_eq_true h]
theorem sbeq_f {p q : List (BitVec 8)} (h : ¬ p = q) : ((strB p).toList == (strB q).toList) = false := by rw [str_beq, decide_eq_false h]
section
variable {o : Oper} {a : Act} {w w0 : World} {R : Value → World → Prop} {F : Nat → Prop} {S : List Blk}
end
end Go.Proofs.Ytefhenkdakokeaa

/- Bytes of a constant text, made a slice: their block bears a mark, so it is no row; what is told of it stays. No function of the program is named here. -/
set_option maxRecDepth 4000
namespace Go.Proofs.Ytefhenkdakokeaa
open Go Go.RowKit
def MarkAt (w : World) (g : Nat) (q : List (BitVec 8)) : Prop := ∃ fr, w.heap[g]? = some (.cells (bs q) 5 fr)
theorem MarkAt.lt {w : World} {g : Nat} {q : List (BitVec 8)} (h : MarkAt w g q) : g < w.heap.size := by
  obtain ⟨fr, h⟩ := h
  exact (Array.getElem?_eq_some_iff.1 h).1
theorem MarkAt.of {w w' : World} {g : Nat} {q : List (BitVec 8)} (h : MarkAt w g q) (e : w'.heap[g]? = w.heap[g]?) : MarkAt w' g q := by
  obtain ⟨fr, h⟩ := h
  exact ⟨fr, e.trans h⟩
theorem MarkAt.call {w w' : World} {g : Nat} {q : List (BitVec 8)} (h : MarkAt w g q) (hb : Below w.heap.size w w') : MarkAt w' g q := h.of (hb.block g h.lt)
theorem MarkAt.slice {w : World} {g n : Nat} {q : List (BitVec 8)} (h : MarkAt w g q) (hn : q.length = n) : Slice w (.slice (some ⟨g, 0, none⟩) n n) q := by
  obtain ⟨fr, h⟩ := h
  subst hn
  refine ⟨_, _, rfl, Nat.le_refl _, fun _ => ⟨g, 0, rfl, (Array.getElem?_eq_some_iff.1 h).1, fun j x hx => ?_⟩⟩
  rw [Nat.zero_add, cell_of_row w g j (bs q) 5 fr h, ← Array.getElem?_toList, bs_toList]
  simp [bytesV, hx]
def inS (S : List Blk) (k : Nat) : Prop := ∃ r ∈ S, r.g = k
theorem MarkAt.chg {w w' : World} {g : Nat} {q : List (BitVec 8)} {S S' : List Blk} (h : MarkAt w g q) (HS : St w (inS S) S' w') (hg : ∀ r ∈ S, r.g ≠ g) : MarkAt w' g q := h.of (HS.chg.block g h.lt fun ⟨r, h1, h2⟩ => hg r h1 h2)
/- the rows' own frame: what lies elsewhere stays, for a while -/
theorem St.frame {w0 w : World} {F : Nat → Prop} {S : List Blk} (h : St w0 F S w) : St w (inS S) S w :=
  ⟨Chg.refl _ _, h.rows, h.apart, fun _ r hk => .inl ⟨r, List.mem_of_getElem? hk, rfl⟩⟩
end Go.Proofs.Ytefhenkdakokeaa

/- A block of the call's own is new. No function of the program is named here. -/
set_option maxRecDepth 4000
namespace Go.Proofs.Ytefhenkdakokeaa
open Go Go.RowKit
theorem st_fresh2 {w0 w : World} {S : List Blk} (h : St w0 noF S w) (k : Nat) {r : Blk} (hk : S[k]? = some r) : w0.heap.size ≤ r.g := (h.own k r hk).resolve_left fun e => e
end Go.Proofs.Ytefhenkdakokeaa

/- More of memory in a walk: cells that are far, rows that come back from a call, slices of slices of one's own. No function of the program is named here. -/
set_option maxRecDepth 4000
namespace Go.Proofs.Ytefhenkdakokeaa
open Go Go.RowKit
/- block b has these cells from o on -/
structure CAt (w : World) (b o : Nat) (L : List Value) : Prop where
  lt : b < w.heap.size
  at_ : w.rangeAt b o L
theorem CAt.call {w w' : World} {b o : Nat} {L : List Value} (h : CAt w b o L) (hb : Below w.heap.size w w') : CAt w' b o L :=
  ⟨Nat.lt_of_lt_of_le h.lt hb.size, fun j v hv => (hb.cell (p := ⟨b, o + j, none⟩) h.lt).trans (h.at_ j v hv)⟩
theorem CAt.pre {w : World} {b o : Nat} {L M : List Value} (h : CAt w b o (L ++ M)) : CAt w b o L :=
  ⟨h.lt, fun j v hv => h.at_ j v (by rw [List.getElem?_append_left (List.getElem?_eq_some_iff.1 hv).1]; exact hv)⟩
theorem CAt.post {w : World} {b o n : Nat} {L M : List Value} (h : CAt w b o (L ++ M)) (hn : L.length = n) : CAt w b (o + n) M := by
  subst hn
  exact ⟨h.lt, fun j v hv => by
    have := h.at_ (L.length + j) v (by rw [List.getElem?_append_right (by omega), Nat.add_sub_cancel_left]; exact hv)
    rwa [← Nat.add_assoc] at this⟩
theorem CAt.news {w : World} {b o : Nat} {L : List Value} (h : CAt w b o L) : ∀ (j : Nat) (u : Value), L[j]? = some u → w.cell? ((⟨b, o, none⟩ : Addr).add j) = some u := fun j u hu => by
  rw [Addr.add_mid]; exact h.at_ j u hu
theorem cat_row {w : World} {g : Nat} {t : TypeId} {cs : Array Value} (h : Row w g t cs) : CAt w g 0 cs.toList :=
  ⟨h.lt, fun j v hv => by rw [Nat.zero_add]; exact h.get (by rw [← Array.getElem?_toList]; exact hv)⟩
theorem cat_own {w : World} {g c n sz : Nat} {t : TypeId} {cb : Array Value} {L : List Value} (h : Row w g t cb) (O : OwnC cb c n sz L) : CAt w g 0 L :=
  ⟨h.lt, fun j v hv => by
    rw [Nat.zero_add]
    refine h.get ?_
    have hj := (List.getElem?_eq_some_iff.1 hv).1
    rw [← O.take, List.getElem?_take_of_lt (by rw [← O.len]; exact hj), Array.getElem?_toList] at hv
    exact hv⟩
theorem Owns.nil (w : World) : Owns w w (.slice none 0 0) [] := ⟨[], World.ownsRow_nil _ _ _ _, Below.refl _ _, fun j q h => by simp at h⟩
theorem Owns.call {w wr w' : World} {v : Value} {ps : List (List (BitVec 8))} (h : Owns w wr v ps) (hb : Below wr.heap.size wr w') : Owns w w' v ps := by
  obtain ⟨vs, h1, h2, h3⟩ := h
  exact ⟨vs, owns_call h1 hb, h2.trans (hb.mono h2.size), fun j q hq => by obtain ⟨u, h4, h5⟩ := h3 j q hq; exact ⟨u, h4, owns_call h5 hb⟩⟩
section
variable {o : Oper} {a : Act} {w w0 w1 : World} {R : Value → World → Prop} {S : List Blk}
end
end Go.Proofs.Ytefhenkdakokeaa

/- Comparisons with nil; what stays while rows that were handed over are written. No function of the program is named here. -/
set_option maxRecDepth 4000
namespace Go.Proofs.Ytefhenkdakokeaa
open Go Go.RowKit
section
variable {P : Program} {o : Oper} {a : Act} {w : World}
theorem run_eqP (ty e : TypeId) (w : World) (p : Option Addr) (hu : P.underlying ty = some (.pointer e)) : (Op.equal ty (.pointer p) (.pointer none)).run P w = .ok p.isNone w := by
  show (Op.equalIn 10000 ty (.pointer p) (.pointer none)).run P w = .ok p.isNone w
  rw [show (10000 : Nat) = 9999 + 1 from rfl]
  unfold Op.equalIn
  cases p <;> simp [Sem.run_bind, run_underlying hu]
theorem dd_eqp {ty ty2 e : TypeId} {x y : Operand} {p : Option Addr} {b : Bool} (ho : o.op = .binOp .eql ty x y ty2) (hx : a.eval x = .pointer p) (hy : a.eval y = .pointer none) (hu : P.underlying ty = some (.pointer e)) (hb : p.isNone = b) : (execOp a.eval o).run P w = .ok (.value (.bool b)) w := by
  subst hb
  simp [execOp, ho, hx, hy, eqGuard, binOp, run_eqP ty e w p hu]
end
theorem Chg.cellF {F : Nat → Prop} {w w' : World} (h : Chg F w w') {p : Addr} (hp : p.block < w.heap.size) (hF : ¬ F p.block) : w'.cell? p = w.cell? p := World.cell?_of_block (w := w) (h.block p.block hp hF)
theorem Slice.chg {F : Nat → Prop} {w w' : World} {A : Option Addr} {n c : Nat} {q : List (BitVec 8)} (h : Slice w (.slice A n c) q) (k : Chg F w w') (hF : ∀ ad, A = some ad → ¬ F ad.block) : Slice w' (.slice A n c) q := by
  obtain ⟨A', c', e, h2, h3⟩ := h
  injection e with e1 e2 e3
  subst e1 e2 e3
  refine ⟨_, _, rfl, h2, fun hne => ?_⟩
  obtain ⟨b, o, rfl, h5, h6⟩ := h3 hne
  exact ⟨b, o, rfl, Nat.lt_of_lt_of_le h5 k.size, fun j x hx => (k.cellF (p := ⟨b, o + j, none⟩) h5 (hF ⟨b, o, none⟩ rfl)).trans (h6 j x hx)⟩
theorem nin_row {w0 w : World} {S1 S2 : List Blk} (h : St w0 noF (S1 ++ S2) w) (k : Nat) {s : Blk} (hk : S2[k]? = some s) : ¬ inS S1 s.g := fun ⟨r, h1, h2⟩ => by
  obtain ⟨i, hi⟩ := List.getElem?_of_mem h1
  have hlt := (List.getElem?_eq_some_iff.1 hi).1
  exact h.apart i (S1.length + k) r s (by omega) (by rw [List.getElem?_append_left hlt]; exact hi) (by rw [List.getElem?_append_right (by omega), Nat.add_sub_cancel_left]; exact hk) h2
end Go.Proofs.Ytefhenkdakokeaa

/- Volumes by their names as bytes: what a table is, plainly. -/
set_option maxRecDepth 4000
namespace Go.Proofs.Ytefhenkdakokeaa
open Go Go.RowKit
abbrev Tv := List (BitVec 8) × List Int
/- which volume has that name first -/
def findT (q : List (BitVec 8)) (l : List Tv) : Option Nat := l.findIdx? fun x => decide (x.1 = q)
def findI (q : List (BitVec 8)) (l : List Tv) : Int := match findT q l with
  | some i => (i : Int)
  | none => -1
theorem findI_some {q : List (BitVec 8)} {l : List Tv} {k : Nat} {p : List (BitVec 8)} {L : List Int} (h : l[k]? = some (p, L)) (hp : p = q) (hno : ∀ j, j < k → ∀ x, l[j]? = some x → x.1 ≠ q) : findI q l = k := by
  have hk := (List.getElem?_eq_some_iff.1 h).1
  have e : findT q l = some k := by
    unfold findT
    rw [List.findIdx?_eq_some_iff_getElem]
    refine ⟨hk, ?_, fun j hj => ?_⟩
    · have := (List.getElem?_eq_some_iff.1 h).2
      rw [this]; exact decide_eq_true hp
    · have := hno j hj _ (List.getElem?_eq_getElem (by omega))
      simpa using this
  unfold findI; rw [e]
theorem findI_none {q : List (BitVec 8)} {l : List Tv} (hno : ∀ j, j < l.length → ∀ x, l[j]? = some x → x.1 ≠ q) : findI q l = -1 := by
  have e : findT q l = none := by
    unfold findT
    rw [List.findIdx?_eq_none_iff]
    intro x hx
    obtain ⟨j, hj⟩ := List.getElem?_of_mem hx
    have := hno j (List.getElem?_eq_some_iff.1 hj).1 x hj
    simpa using this
  unfold findI; rw [e]
end Go.Proofs.Ytefhenkdakokeaa

/- Volumes as a tenant sees them: a name, where the blocks are, how many. No function of the program is named here. -/
set_option maxRecDepth 4000
namespace Go.Proofs.Ytefhenkdakokeaa
open Go Go.RowKit
abbrev Mv := List (BitVec 8) × Nat × Nat
def mvC (x : Mv) : List Value := [.string (strB x.1), .slice (some ⟨x.2.1, 0, none⟩) x.2.2 x.2.2]
def mvL (X : List Mv) : List Value := X.flatMap mvC
def tvs (X : List Mv) : List Tv := X.map fun x => (x.1, List.replicate x.2.2 0)
def numM (X : List Mv) : Nat := (X.map (·.2.2)).sum
theorem mvL_get : ∀ (X : List Mv) (k j : Nat) (x : Mv), X[k]? = some x → j < 2 → (mvL X)[k * 2 + j]? = (mvC x)[j]?
  | [], k, j, x, h, _ => by simp at h
  | y :: X, 0, j, x, h, hj => by
    obtain rfl : y = x := by simpa using h
    unfold mvL; rw [List.flatMap_cons, Nat.zero_mul, Nat.zero_add, List.getElem?_append_left (by show j < 2; exact hj)]
  | y :: X, k + 1, j, x, h, hj => by
    have h2 := mvL_get X k j x (by simpa using h) hj
    unfold mvL at h2 ⊢
    rw [List.flatMap_cons, List.getElem?_append_right (by show 2 ≤ _; omega), show (k + 1) * 2 + j - (mvC y).length = k * 2 + j by show _ - 2 = _; omega]
    exact h2
theorem len_mvL : ∀ X : List Mv, (mvL X).length = X.length * 2
  | [] => rfl
  | y :: X => by unfold mvL; rw [List.flatMap_cons, List.length_append]; have := len_mvL X; unfold mvL at this; rw [this, List.length_cons]; show 2 + _ = _; omega
theorem mvL_app (X Y : List Mv) : mvL (X ++ Y) = mvL X ++ mvL Y := List.flatMap_append
theorem mvL_one (x : Mv) : mvL [x] = mvC x := by simp [mvL]
theorem one_mvL (X : List Mv) : ∀ u ∈ mvL X, u.oneCell' = true := fun u hu => by
  obtain ⟨x, _, hx⟩ := List.mem_flatMap.1 hu
  unfold mvC at hx
  rcases List.mem_cons.1 hx with rfl | hx
  · rfl
  · rw [List.mem_singleton] at hx; subst hx; rfl
section
variable {w : World} {b k : Nat} {X : List Mv} {x : Mv}
theorem mv_sl (h : CAt w b 0 (mvL X)) (hx : X[k]? = some x) : w.cell? ⟨b, k * 2 + 1, none⟩ = some (.slice (some ⟨x.2.1, 0, none⟩) x.2.2 x.2.2) := by
  have := h.at_ (k * 2 + 1) _ (mvL_get X k 1 x hx (by decide))
  rwa [Nat.zero_add] at this
theorem mv_all (h : CAt w b 0 (mvL X)) (hx : X[k]? = some x) : w.rangeAt b (k * 2) [.string (strB x.1), .slice (some ⟨x.2.1, 0, none⟩) x.2.2 x.2.2] := fun j v hv => by
  have hj : j < 2 := (List.getElem?_eq_some_iff.1 hv).1
  have := h.at_ (k * 2 + j) v (by rw [mvL_get X k j x hx hj]; exact hv)
  rwa [Nat.zero_add] at this
end
theorem tvs_get {X : List Mv} {k : Nat} {x : Mv} (h : X[k]? = some x) : (tvs X)[k]? = some (x.1, List.replicate x.2.2 0) := by
  unfold tvs; rw [List.getElem?_map, h]; rfl
theorem len_tvs (X : List Mv) : (tvs X).length = X.length := List.length_map _
theorem numM_nil : numM [] = 0 := rfl
theorem numM_S {X : List Mv} {k : Nat} {x : Mv} (h : X[k]? = some x) : numM (X.take (k + 1)) = numM (X.take k) + x.2.2 := by
  obtain ⟨h1, h2⟩ := List.getElem?_eq_some_iff.1 h
  unfold numM; rw [List.take_succ_eq_append_getElem h1, h2, List.map_append, List.sum_append]; simp
def mmE (X : List Mv) (q : List (BitVec 8)) (n : Int) : Int := if goodN q = false then 11 else if 0 ≤ findI q (tvs X) then 16 else if n < 1 ∨ 4 < n then 17 else if (3 : Int) ≤ X.length ∨ 11 - (numM X : Int) < n then 18 else 0
section
variable {X : List Mv} {q : List (BitVec 8)} {n : Int}
theorem mm_11 (h : goodN q = false) : mmE X q n = 11 := if_pos h
theorem mm_16 (h : goodN q = true) (h2 : 0 ≤ findI q (tvs X)) : mmE X q n = 16 := by unfold mmE; rw [if_neg (by rw [h]; decide), if_pos h2]
theorem mm_17 (h : goodN q = true) (h2 : ¬ 0 ≤ findI q (tvs X)) (h3 : n < 1 ∨ 4 < n) : mmE X q n = 17 := by unfold mmE; rw [if_neg (by rw [h]; decide), if_neg h2, if_pos h3]
theorem mm_18 (h : goodN q = true) (h2 : ¬ 0 ≤ findI q (tvs X)) (h3 : ¬ (n < 1 ∨ 4 < n)) (h4 : (3 : Int) ≤ X.length ∨ 11 - (numM X : Int) < n) : mmE X q n = 18 := by unfold mmE; rw [if_neg (by rw [h]; decide), if_neg h2, if_neg h3, if_pos h4]
theorem mm_0 (h : goodN q = true) (h2 : ¬ 0 ≤ findI q (tvs X)) (h3 : ¬ (n < 1 ∨ 4 < n)) (h4 : ¬ ((3 : Int) ≤ X.length ∨ 11 - (numM X : Int) < n)) : mmE X q n = 0 := by unfold mmE; rw [if_neg (by rw [h]; decide), if_neg h2, if_neg h3, if_neg h4]
theorem mm_of0 (h : mmE X q n = 0) : goodN q = true ∧ ¬ 0 ≤ findI q (tvs X) ∧ 1 ≤ n ∧ n ≤ 4 ∧ X.length ≤ 2 ∧ (numM X : Int) + n ≤ 11 := by
  cases hg : goodN q with
  | false => rw [mm_11 hg] at h; cases h
  | true =>
    by_cases h2 : 0 ≤ findI q (tvs X)
    · rw [mm_16 hg h2] at h; cases h
    by_cases h3 : n < 1 ∨ 4 < n
    · rw [mm_17 hg h2 h3] at h; cases h
    by_cases h4 : (3 : Int) ≤ X.length ∨ 11 - (numM X : Int) < n
    · rw [mm_18 hg h2 h3 h4] at h; cases h
    exact ⟨rfl, h2, by omega, by omega, by omega, by omega⟩
end
structure MvAt (w : World) (A : Option Addr) (n : Nat) (X : List Mv) : Prop where
  len : X.length = n
  at_ : 0 < n → ∃ g, A = some ⟨g, 0, none⟩ ∧ CAt w g 0 (mvL X)
theorem MvAt.call {w w' : World} {A : Option Addr} {n : Nat} {X : List Mv} (h : MvAt w A n X) (hb : Below w.heap.size w w') : MvAt w' A n X :=
  ⟨h.len, fun h0 => by obtain ⟨g, e, k⟩ := h.at_ h0; exact ⟨g, e, k.call hb⟩⟩
theorem mvat_nil (w : World) (A : Option Addr) : MvAt w A 0 [] := ⟨rfl, fun h => absurd h (by decide)⟩
theorem mvat_own {w : World} {g c n : Nat} {t : TypeId} {cb : Array Value} {X : List Mv} (h : Row w g t cb) (O : OwnC cb c n 2 (mvL X)) : MvAt w (some ⟨g, 0, none⟩) n X :=
  ⟨by have := O.len; rw [len_mvL] at this; omega, fun _ => ⟨g, rfl, cat_own h O⟩⟩
theorem numM_le (X : List Mv) (k : Nat) : numM (X.take k) ≤ numM X := by
  have h : numM X = numM (X.take k) + numM (X.drop k) := by
    unfold numM; rw [← List.sum_append, ← List.map_append, List.take_append_drop]
  omega
end Go.Proofs.Ytefhenkdakokeaa

/- A volume's blocks, as bytes. No function of the program is named here. -/
set_option maxRecDepth 4000
namespace Go.Proofs.Ytefhenkdakokeaa
open Go Go.RowKit
theorem made_blk (k : Nat) (hk : k ≤ 4) : madeCells (bs (zer 32)) (k * 32) = bs (zer (k * 32)) := by
  rcases (by omega : k = 0 ∨ k = 1 ∨ k = 2 ∨ k = 3 ∨ k = 4) with rfl | rfl | rfl | rfl | rfl <;> kernel_rfl
theorem spl_blk (q d : List (BitVec 8)) (i : Nat) : (spl (bs q).toList i (Value.agg (bs d)).cells.toList).toArray = bs (spl q i d) := by
  show (spl (bs q).toList i (bs d).toList).toArray = _
  rw [bs_toList]; exact spl_bs q d i
end Go.Proofs.Ytefhenkdakokeaa

/- A function's value in a walk: it is made, it is called. No function of the program is named here. -/
set_option maxRecDepth 4000
namespace Go.Proofs.Ytefhenkdakokeaa
open Go Go.RowKit
section
variable {P : Program} {o : Oper} {a : Act} {w : World} {R : Value → World → Prop}
theorem dcf_ {f : FuncId} {fn : Func} {xs : Array Operand} {ts : Array TypeId} {l : List Value} {cap : Array Value} {R' : Ending → World → Prop} (hf : P.funcs[f]? = some fn) {x : Operand} (ho : o.op = .call { callee := .value x, args := xs, argTypes := ts }) (hv : a.eval x = .func (.func f) #[] cap) (hx : (xs.map a.eval) = l.toArray) (C : Calls P f (l.toArray ++ cap) w R')
    (h : ∀ e w', R' e w' → ∃ v, e = .returned v ∧ R v w') (hn : (fn.name == "runtime.NumGoroutine") = false := by kernel_rfl) (hb : fn.body.isNone = false := by kernel_rfl) : Does P o a w R := fun K Q hK => by
  have hcf : (callFunc f (#[] ++ l.toArray ++ cap)).run P w = .ok (.enter f (l.toArray ++ cap)) w := by
    have hn' : ¬ fn.name = "runtime.NumGoroutine" := by simpa using hn
    have hb' : ¬ fn.body = none := fun e => by rw [e] at hb; cases hb
    simp [callFunc, hf, hn', hb']
  have he : execOp a.eval o = callFunc f (#[] ++ l.toArray ++ cap) := by
    unfold execOp
    rw [ho]
    simp only [resolve, hv, Deferred.ofValue]
    rw [← hx]
    rfl
  unfold Oper.wp
  rw [he, hcf]
  refine Calls.mono C fun e w' hr => ?_
  obtain ⟨v, rfl, hv⟩ := h e w' hr
  exact hK v w' hv
theorem dd_mf {f : Fn} {fs cs : Array Operand} {cap : Array Value} (ho : o.op = .makeFunc f fs cs) (hf : fs = #[]) (hc : cs.map a.eval = cap) : (execOp a.eval o).run P w = .ok (.value (.func f #[] cap)) w := by
  subst hf hc
  simp [execOp, ho, Instr.makeFunc]
end
end Go.Proofs.Ytefhenkdakokeaa

/- Slices of texts. No function of the program is named here. -/
set_option maxRecDepth 4000
namespace Go.Proofs.Ytefhenkdakokeaa
open Go Go.RowKit
theorem strsV_app (l m : List (List (BitVec 8))) : strsV (l ++ m) = strsV l ++ strsV m := List.map_append
structure TxAt (w : World) (A : Option Addr) (n : Nat) (l : List (List (BitVec 8))) : Prop where
  len : l.length = n
  at_ : 0 < n → ∃ g o, A = some ⟨g, o, none⟩ ∧ CAt w g o (strsV l)
theorem TxAt.call {w w' : World} {A : Option Addr} {n : Nat} {l : List (List (BitVec 8))} (h : TxAt w A n l) (hb : Below w.heap.size w w') : TxAt w' A n l :=
  ⟨h.len, fun h0 => by obtain ⟨g, o, e, k⟩ := h.at_ h0; exact ⟨g, o, e, k.call hb⟩⟩
theorem tx_own {w : World} {g c n : Nat} {t : TypeId} {cb : Array Value} {l : List (List (BitVec 8))} (h : Row w g t cb) (O : OwnC cb c n 1 (strsV l)) : TxAt w (some ⟨g, 0, none⟩) n l :=
  ⟨by have := O.len; rw [len_strsV] at this; omega, fun _ => ⟨g, 0, rfl, cat_own h O⟩⟩
theorem tx_row {w : World} {g : Nat} {t : TypeId} {cs : Array Value} {l : List (List (BitVec 8))} {n : Nat} (h : Row w g t cs) (e : cs.toList = strsV l) (hn : l.length = n) : TxAt w (some ⟨g, 0, none⟩) n l :=
  ⟨hn, fun _ => ⟨g, 0, rfl, e ▸ cat_row h⟩⟩
theorem tx_cell {w : World} {g o k : Nat} {l : List (List (BitVec 8))} {q : List (BitVec 8)} (h : CAt w g o (strsV l)) (hq : l[k]? = some q) : w.cell? ⟨g, o + k, none⟩ = some (.string (strB q)) :=
  h.at_ k _ (by unfold strsV; rw [List.getElem?_map, hq]; rfl)
end Go.Proofs.Ytefhenkdakokeaa

/- A tenant as it looks: what only reads. -/
set_option maxRecDepth 4000
namespace Go.Proofs.Ytefhenkdakokeaa
open Go Go.RowKit
theorem mfind1_any (p q : List (BitVec 8)) (A : Option Addr) (n c gn : Nat) (w : World) (hr : Row w gn 9 #[.string (strB q)]) :
    Calls Try.prog 31 (([.agg #[.string (strB p), .slice A n c]] : List Value).toArray ++ #[.pointer (some ⟨gn, 0, none⟩)]) w fun x w' => x = .returned (.bool (decide (p = q))) ∧ Below w.heap.size w w' := by
  rw [show ([.agg #[.string (strB p), .slice A n c]] : List Value).toArray ++ #[.pointer (some ⟨gn, 0, none⟩)] = #[.agg #[.string (strB p), .slice A n c], .pointer (some ⟨gn, 0, none⟩)] from by simp]
  have HS := St.nil w noF
  have HR : ∀ W, Below w.heap.size w W → Row W gn 9 #[.string (strB q)] := fun W hb => hr.call hb
  refine enter_en Try.func31 rfl Try.ntmps31 (Nat.le_of_ble_eq_true rfl) fun a0 (HA0 : En 8 [(0, .agg #[.string (strB p), .slice A n c]), (1, .pointer (some ⟨gn, 0, none⟩))] a0) => ?_
  refine sq_ <| rl_ <| wl_ <| n_ HA0 rfl (fun _ h => dd_box HS rfl (HA0.ev 0 rfl) (cs := #[.string (strB p), .slice A n c]) rfl h) fun _ _ HS1 _ H1 => wl_ <| p_ H1 rfl rfl fun _ H2 => ln_ <| nx <| sq_ <| rl_ <| wl_ <| i_ H2 rfl (xf 0 0 rfl (H2.ev 2 rfl)) fun _ H3 => wl_ <| i_ H3 rfl (dd_get HS1 0 0 rfl rfl (H3.ev 4 rfl) rfl Try.underlying9 rfl) fun _ H4 => wl_ <| i_ H4 rfl (dd_getR (HR _ HS1.below) rfl (H4.ev 1 rfl) rfl Try.underlying9 rfl) fun _ H5 => ?_
  clear HS HA0 H1 H2 H3 H4
  by_cases hc7 : p = q
  ·
   refine wl_ <| i_ H5 rfl (v := .bool true) (dd_eqs rfl (H5.ev 5 rfl) (H5.ev 6 rfl) (sbeq_t hc7)) fun _ H8 => wl_ <| p_ H8 rfl rfl fun _ H9 => ln_ <| nx <| wp_ret <| ret_run H9.env0 (res_t Try.results31 (H9.get 3 rfl)) <| ?_
   clear H5 H8
   exact ⟨by rw [decide_eq_true hc7], HS1.below⟩
  refine wl_ <| i_ H5 rfl (v := .bool false) (dd_eqs rfl (H5.ev 5 rfl) (H5.ev 6 rfl) (sbeq_f hc7)) fun _ H10 => wl_ <| p_ H10 rfl rfl fun _ H11 => ln_ <| nx <| wp_ret <| ret_run H11.env0 (res_t Try.results31 (H11.get 3 rfl)) <| ?_
  clear H5 H10
  exact ⟨by rw [decide_eq_false hc7], HS1.below⟩
theorem mindex_pos (gv n c gn : Nat) (X : List Mv) (q : List (BitVec 8)) (w : World) (hr : Row w gn 9 #[.string (strB q)]) (h0 : CAt w gv 0 (mvL X)) (hl : X.length = n) (hm : n ≤ 1000000) :
    Calls Try.prog 30 #[.slice (some ⟨gv, 0, none⟩) n c, .func (.func 31) #[] #[.pointer (some ⟨gn, 0, none⟩)]] w fun x w' => x = .returned (.int .i64 (findI q (tvs X))) ∧ Below w.heap.size w w' := by
  have HS := St.nil w noF
  have HR : ∀ W, Below w.heap.size w W → Row W gn 9 #[.string (strB q)] := fun W hb => hr.call hb
  have HM : ∀ W, Below w.heap.size w W → CAt W gv 0 (mvL X) := fun W hb => h0.call hb
  refine enter_en Try.func30 rfl Try.ntmps30 (Nat.le_of_ble_eq_true rfl) fun a0 (HA0 : En 19 [(0, .slice (some ⟨gv, 0, none⟩) n c), (1, .func (.func 31) #[] #[.pointer (some ⟨gn, 0, none⟩)])] a0) => ?_
  refine sq_ <| rl_ <| wl_ <| p_ HA0 rfl rfl fun _ H1 => ln_ <| nx <| sq_ <| sq_ <| rl_ <| wl_ <| p_ H1 rfl rfl fun _ H2 => wl_ <| i_ H2 rfl (v := .int .i64 n) (dd_len rfl (H2.ev 6 rfl) Try.underlying56) fun _ H3 => wl_ <| p_ H3 rfl rfl fun _ H4 => ln_ <| nx <| wp_block <| ?_
  clear HA0 H1 H2 H3
  refine wp_loopG (ι := Nat) (fun i a9 w9 => (i ≤ n) ∧ (∀ j, j < i → ∀ y, (tvs X)[j]? = some y → y.1 ≠ q) ∧ En 19 [(8, .int .i64 i), (7, .int .i64 n), (0, .slice (some ⟨gv, 0, none⟩) n c), (1, .func (.func 31) #[] #[.pointer (some ⟨gn, 0, none⟩)])] a9 ∧ St w noF [] w9) (fun i => n - i) (0) ⟨(Nat.zero_le _), (fun j hj => absurd hj (Nat.not_lt_zero _)), H4.sel [1, 0, 7, 8] rfl, ss HS []⟩ ?_
  clear H4 HS
  rintro i aL5 wL5 ⟨hi, hno, HL5, HSL5⟩
  refine sq_ <| rl_ <| ?_
  by_cases hc7 : (i : Int) < n
  ·
   refine wl_ <| i_ HL5 rfl (dd_cmp rfl (HL5.ev 8 rfl) (HL5.ev 7 rfl) (lt_t hc7)) fun _ H8 => ln_ <| nx <| sq_ <| ct_ H8 rfl <| wp_skip <| nx <| sq_ <| wp_block <| sq_ <| rl_ <| q_ H8 2 rfl fun a9 H9 => ln_ <| nx <| sq_ <| ?_
   clear HL5 H8
   obtain ⟨xi, hxi⟩ : ∃ x, X[i]? = some x := ⟨_, List.getElem?_eq_getElem (by rw [hl]; omega)⟩
   refine rl_ <| q_ H9 3 rfl fun _ H10 => wl_ <| i_ H10 rfl (xSo 2 (i * 2) rfl (H10.ev 12 rfl) (H10.ev 13 rfl)) fun _ H11 => wl_ <| i_ H11 rfl (v := .agg #[.string (strB xi.1), .slice (some ⟨xi.2.1, 0, none⟩) xi.2.2 xi.2.2]) (dd_atN rfl (H11.ev 14 rfl) (mv_all (HM _ HSL5.below) hxi) Try.underlying61 rfl (by kernel_rfl)) fun _ H12 => ?_
   clear H9 H10 H11
   cases hb14 : decide (xi.1 = q)
   ·
    refine wl_ <| d_ H12 rfl (R := fun v9 w9 => v9 = .bool false ∧ St w noF [] w9) (dcf_ Try.func31 rfl (H12.ev 11 rfl) (args1 (H12.ev 15 rfl)) (mfind1_any xi.1 q _ _ _ gn wL5 (HR _ HSL5.below)) (fun _ w9 h9 => ⟨_, h9.1, by rw [hb14], HSL5.same h9.2⟩)) ?_
    rintro _ W15 ⟨rfl, HS15⟩ a15 H15
    clear H12 HSL5
    refine ln_ <| nx <| cf_ H15 rfl <| wp_skip <| bn <| nx <| rl_ <| wl_ <| i_ H15 rfl (v := .int .i64 (i + 1)) (dd_ari rfl (H15.ev 8 rfl) rfl rfl (i64_of (by first | omega | (have := bd_lo; omega)) (by omega))) fun _ H16 => wl_ <| p_ H16 rfl rfl fun _ H17 => ln_ <| ?_
    clear H15 H16
    refine nx ⟨i + 1, ⟨(by omega), (fun j hj y hy => (Nat.lt_succ_iff_lt_or_eq.1 hj).elim (fun h8 => hno j h8 y hy) (fun h8 => by rw [h8, tvs_get hxi] at hy; injection hy with hy; rw [← hy]; exact of_decide_eq_false hb14)), H17.sel [1, 0, 7, 8] rfl, ss HS15 []⟩, (by omega)⟩
   refine wl_ <| d_ H12 rfl (R := fun v9 w9 => v9 = .bool true ∧ St w noF [] w9) (dcf_ Try.func31 rfl (H12.ev 11 rfl) (args1 (H12.ev 15 rfl)) (mfind1_any xi.1 q _ _ _ gn wL5 (HR _ HSL5.below)) (fun _ w9 h9 => ⟨_, h9.1, by rw [hb14], HSL5.same h9.2⟩)) ?_
   rintro _ W18 ⟨rfl, HS18⟩ a18 H18
   clear H12 HSL5
   refine ln_ <| nx <| ct_ H18 rfl <| sq_ <| rl_ <| q_ H18 2 rfl fun _ H19 => ln_ <| nx <| wp_ret <| br_ <| tr <| tr <| br_ <| tr <| ret_run H19.env0 (res_t Try.results30 (H19.get 4 rfl)) <| ?_
   clear H18
   exact ⟨by rw [findI_some (tvs_get hxi) (of_decide_eq_true hb14) hno], HS18.below⟩
  refine wl_ <| i_ HL5 rfl (dd_cmp rfl (HL5.ev 8 rfl) (HL5.ev 7 rfl) (lt_f hc7)) fun _ H20 => ln_ <| nx <| sq_ <| cf_ H20 rfl <| wp_exit <| tx <| tx <| bx <| nx <| sq_ <| rl_ <| wl_ <| p_ H20 rfl rfl fun _ H21 => ln_ <| nx <| wp_ret <| ret_run H21.env0 (res_t Try.results30 (H21.get 4 rfl)) <| ?_
  clear HL5 H20
  exact ⟨by rw [findI_none (l := tvs X) (fun j hj => hno j (by rw [len_tvs, hl] at hj; omega))], HSL5.below⟩
theorem mindex_any (A : Option Addr) (n c gn : Nat) (X : List Mv) (q : List (BitVec 8)) (w : World) (hr : Row w gn 9 #[.string (strB q)]) (h0 : MvAt w A n X) (hm : n ≤ 1000000) :
    Calls Try.prog 30 #[.slice A n c, .func (.func 31) #[] #[.pointer (some ⟨gn, 0, none⟩)]] w fun x w' => x = .returned (.int .i64 (findI q (tvs X))) ∧ Below w.heap.size w w' := by
  by_cases hn : n = 0
  · subst hn
    rw [List.length_eq_zero_iff.1 h0.len, show findI q (tvs []) = -1 from rfl]
    have HS := St.nil w noF
    refine enter_en Try.func30 rfl Try.ntmps30 (Nat.le_of_ble_eq_true rfl) fun a0 (HA0 : En 19 [(0, .slice A 0 c), (1, .func (.func 31) #[] #[.pointer (some ⟨gn, 0, none⟩)])] a0) => ?_
    refine sq_ <| rl_ <| wl_ <| p_ HA0 rfl rfl fun _ H1 => ln_ <| nx <| sq_ <| sq_ <| rl_ <| wl_ <| p_ H1 rfl rfl fun _ H2 => wl_ <| i_ H2 rfl (v := .int .i64 0) (dd_len rfl (H2.ev 6 rfl) Try.underlying56) fun _ H3 => wl_ <| p_ H3 rfl rfl fun _ H4 => ln_ <| nx <| wp_block <| wp_unr 1 <| unr_go <| sq_ <| rl_ <| wl_ <| i_ H4 rfl (dd_cmp rfl (H4.ev 8 rfl) (H4.ev 7 rfl) (lt_f (by decide))) fun _ H5 => ln_ <| nx <| sq_ <| cf_ H5 rfl <| wp_exit <| tx <| tx <| bx <| nx <| sq_ <| rl_ <| wl_ <| p_ H5 rfl rfl fun _ H6 => ln_ <| nx <| wp_ret <| ret_run H6.env0 (res_t Try.results30 (H6.get 4 rfl)) <| ?_
    clear HA0 H1 H2 H3 H4 H5
    exact ⟨rfl, HS.below⟩
  · obtain ⟨gv, rfl, h1⟩ := h0.at_ (by omega)
    exact mindex_pos gv n c gn X q w hr h1 h0.len hm
theorem mfind_any (g : Nat) (A : Option Addr) (n c : Nat) (X : List Mv) (q : List (BitVec 8)) (w : World) (hr : Row w g 58 #[.slice A n c]) (h0 : MvAt w A n X) (hm : n ≤ 1000000) :
    Calls Try.prog 24 #[.pointer (some ⟨g, 0, none⟩), .string (strB q)] w fun x w' => x = .returned (.int .i64 (findI q (tvs X))) ∧ Below w.heap.size w w' := by
  have HS := St.nil w noF
  have HB : ∀ W, Below w.heap.size w W → Row W g 58 #[.slice A n c] := fun W hb => hr.call hb
  have HX : ∀ W, Below w.heap.size w W → MvAt W A n X := fun W hb => h0.call hb
  refine enter_en Try.func24 rfl Try.ntmps24 (Nat.le_of_ble_eq_true rfl) fun a0 (HA0 : En 11 [(0, .pointer (some ⟨g, 0, none⟩)), (1, .string (strB q))] a0) => ?_
  refine sq_ <| rl_ <| wl_ <| n_ HA0 rfl (fun _ h => dd_box HS rfl (HA0.ev 1 rfl) (cs := #[.string (strB q)]) rfl h) fun g3 W1 HS1 _ H1 => wl_ <| p_ H1 rfl rfl fun _ H2 => ln_ <| nx <| sq_ <| rl_ <| wl_ <| p_ H2 rfl rfl fun _ H3 => wl_ <| i_ H3 rfl (dd_nilc rfl (H3.ev 5 rfl)) fun _ H4 => wl_ <| i_ H4 rfl (xf 0 0 rfl (H4.ev 6 rfl)) fun _ H5 => wl_ <| i_ H5 rfl (dd_getR (HB _ HS1.below) rfl (H5.ev 7 rfl) rfl Try.underlying56 rfl) fun _ H6 => wl_ <| i_ H6 rfl (v := .func (.func 31) #[] #[.pointer (some ⟨g3, 0, none⟩)]) (dd_mf rfl rfl (args1 (H6.ev 3 rfl))) fun _ H7 => wl_ <| c_ H7 rfl HS1 (dcs Try.func30 rfl (args2 (H7.ev 8 rfl) (H7.ev 9 rfl)) (mindex_any _ _ _ g3 X q W1 (HS1.row 0 rfl) (HX _ HS1.below) hm) (.int .i64 (findI q (tvs X)))) fun _ HS8 _ H8 => ?_
  clear HS HA0 H1 H2 H3 H4 H5 H6
  refine wl_ <| p_ H8 rfl rfl fun _ H9 => ln_ <| nx <| wp_ret <| ret_run H9.env0 (res_t Try.results24 (H9.get 4 rfl)) <| ?_
  clear H7 HS1 H8
  exact ⟨rfl, HS8.below⟩
end Go.Proofs.Ytefhenkdakokeaa

/- A tenant as it looks: Free, Names, block, Read. -/
set_option maxRecDepth 4000
namespace Go.Proofs.Ytefhenkdakokeaa
open Go Go.RowKit
theorem mfree_pos (g gv n c : Nat) (X : List Mv) (w : World) (hr : Row w g 58 #[.slice (some ⟨gv, 0, none⟩) n c]) (h0 : CAt w gv 0 (mvL X)) (hl : X.length = n) (hm : n ≤ 1000000) (hN : numM X ≤ 1000000) : Calls Try.prog 19 #[.pointer (some ⟨g, 0, none⟩)] w fun x w' => x = .returned (.int .i64 (11 - (numM X : Int))) ∧ Below w.heap.size w w' := by
  have HS := St.nil w noF
  have HB : ∀ W, Below w.heap.size w W → Row W g 58 #[.slice (some ⟨gv, 0, none⟩) n c] := fun W hb => hr.call hb
  have HM : ∀ W, Below w.heap.size w W → CAt W gv 0 (mvL X) := fun W hb => h0.call hb
  refine enter_en Try.func19 rfl Try.ntmps19 (Nat.le_of_ble_eq_true rfl) fun a0 (HA0 : En 24 [(0, .pointer (some ⟨g, 0, none⟩))] a0) => ?_
  refine sq_ <| rl_ <| wl_ <| p_ HA0 rfl rfl fun _ H1 => ln_ <| nx <| sq_ <| sq_ <| rl_ <| wl_ <| p_ H1 rfl rfl fun _ H2 => wl_ <| i_ H2 rfl (v := .bool false) (dd_eqp rfl (H2.ev 6 rfl) rfl Try.underlying25 rfl) fun _ H3 => ln_ <| nx <| cf_ H3 rfl <| wp_skip <| nx <| sq_ <| rl_ <| wl_ <| p_ H3 rfl rfl fun _ H4 => ln_ <| nx <| sq_ <| sq_ <| rl_ <| wl_ <| p_ H4 rfl rfl fun _ H5 => wl_ <| i_ H5 rfl (dd_nilc rfl (H5.ev 8 rfl)) fun _ H6 => wl_ <| i_ H6 rfl (xf 0 0 rfl (H6.ev 9 rfl)) fun _ H7 => wl_ <| i_ H7 rfl (dd_getR (HB _ HS.below) rfl (H7.ev 10 rfl) rfl Try.underlying56 rfl) fun _ H8 => ?_
  clear HA0 H1 H2 H3 H4 H5 H6
  refine wl_ <| i_ H8 rfl (v := .int .i64 n) (dd_len rfl (H8.ev 11 rfl) Try.underlying56) fun a9 H9 => wl_ <| p_ H9 rfl rfl fun _ H10 => ln_ <| nx <| wp_block <| ?_
  clear H7 H8 H9
  refine wp_loopG (ι := Nat) (fun i a9 w9 => ∃ z : Int, (i ≤ n) ∧ (z = 11 - (numM (X.take i) : Int)) ∧ En 24 [(13, .int .i64 i), (12, .int .i64 n), (11, .slice (some ⟨gv, 0, none⟩) n c), (3, .int .i64 z)] a9 ∧ St w noF [] w9) (fun i => n - i) (0) ⟨(11 : Int), (Nat.zero_le _), (by rw [List.take_zero, numM_nil]; rfl), H10.sel [3, 11, 12, 13] rfl, ss HS []⟩ ?_
  clear H10 HS
  rintro i aL11 wL11 ⟨z, hi, hz, HL11, HSL11⟩
  refine sq_ <| rl_ <| ?_
  by_cases hc13 : (i : Int) < n
  ·
   refine wl_ <| i_ HL11 rfl (dd_cmp rfl (HL11.ev 13 rfl) (HL11.ev 12 rfl) (lt_t hc13)) fun _ H14 => ln_ <| nx <| sq_ <| ct_ H14 rfl <| wp_skip <| nx <| sq_ <| wp_block <| sq_ <| ?_
   clear HL11
   obtain ⟨xi, hxi⟩ : ∃ x, X[i]? = some x := ⟨_, List.getElem?_eq_getElem (by rw [hl]; omega)⟩
   refine rl_ <| wl_ <| i_ H14 rfl (xSo 2 (i * 2) rfl (H14.ev 11 rfl) (H14.ev 13 rfl)) fun _ H15 => wl_ <| i_ H15 rfl (v := .agg #[.string (strB xi.1), .slice (some ⟨xi.2.1, 0, none⟩) xi.2.2 xi.2.2]) (dd_atN rfl (H15.ev 15 rfl) (mv_all (HM _ HSL11.below) hxi) Try.underlying61 rfl (by kernel_rfl)) fun _ H16 => wl_ <| n_ H16 rfl (fun _ h => dd_new HSL11 #[.string (⟨#[]⟩), .slice none 0 0] rfl (z := .agg #[.string (⟨#[]⟩), .slice none 0 0]) (by kernel_rfl) rfl h) fun _ _ HS17 _ H17 => wl_ <| t_ rfl (fun _ h => dd_setrow HS17 0 rfl rfl (H17.ev 5 rfl) (H17.ev 16 rfl) (by kernel_rfl) (rfl : #[.string (strB xi.1), .slice (some ⟨xi.2.1, 0, none⟩) xi.2.2 xi.2.2].size = 2) (rfl : #[.string (⟨#[]⟩), .slice none 0 0].size = 2) (one_l (ao_cons rfl (ao_cons rfl ao_nil))) h) fun _ HS18 => ln_ <| nx <| rl_ <| wl_ <| p_ H17 rfl rfl fun _ H19 => wl_ <| i_ H19 rfl (xf 1 1 rfl (H19.ev 5 rfl)) fun _ H20 => wl_ <| i_ H20 rfl (dd_get HS18 0 1 rfl rfl (H20.ev 18 rfl) rfl Try.underlying43 rfl) fun _ H21 => wl_ <| i_ H21 rfl (v := .int .i64 xi.2.2) (dd_len rfl (H21.ev 19 rfl) Try.underlying43) fun _ H22 => ?_
   clear H14 H15 HSL11 H16 HS17 H17 H19 H20
   refine wl_ <| i_ H22 rfl (v := .int .i64 (z - (xi.2.2 : Int))) (dd_ari rfl (H22.ev 17 rfl) (H22.ev 20 rfl) rfl (by have h8 := numM_S hxi; have h9 := numM_le X (i + 1); rw [IntKind.wrap_i64]; omega)) fun _ H23 => wl_ <| p_ H23 rfl rfl fun _ H24 => ln_ <| bn <| nx <| rl_ <| wl_ <| i_ H24 rfl (v := .int .i64 (i + 1)) (dd_ari rfl (H24.ev 13 rfl) rfl rfl (i64_of (by first | omega | (have := bd_lo; omega)) (by omega))) fun _ H25 => wl_ <| p_ H25 rfl rfl fun _ H26 => ln_ <| ?_
   clear H21 H22 H23 H24 H25
   refine nx ⟨i + 1, ⟨(z - (xi.2.2 : Int)), (by omega), (by rw [numM_S hxi, hz]; omega), H26.sel [3, 11, 12, 13] rfl, ss HS18 []⟩, (by omega)⟩
  refine wl_ <| i_ HL11 rfl (dd_cmp rfl (HL11.ev 13 rfl) (HL11.ev 12 rfl) (lt_f hc13)) fun _ H27 => ln_ <| nx <| sq_ <| cf_ H27 rfl <| wp_exit <| tx <| tx <| bx <| nx <| sq_ <| rl_ <| q_ H27 2 rfl fun _ H28 => ln_ <| nx <| wp_ret <| ret_run H28.env0 (res_t Try.results19 (H28.get 2 rfl)) <| ?_
  clear HL11 H27
  exact ⟨by rw [hz, show X.take i = X from List.take_of_length_le (by omega)], HSL11.below⟩
theorem mfree_any (g : Nat) (A : Option Addr) (n c : Nat) (X : List Mv) (w : World) (hr : Row w g 58 #[.slice A n c]) (h0 : MvAt w A n X) (hm : n ≤ 1000000) (hN : numM X ≤ 1000000) : Calls Try.prog 19 #[.pointer (some ⟨g, 0, none⟩)] w fun x w' => x = .returned (.int .i64 (11 - (numM X : Int))) ∧ Below w.heap.size w w' := by
  by_cases hn : n = 0
  · subst hn
    rw [List.length_eq_zero_iff.1 h0.len, show (11 - (numM [] : Int)) = 11 from rfl]
    have HS := St.nil w noF
    have HB : ∀ W, Below w.heap.size w W → Row W g 58 #[.slice A 0 c] := fun W hb => hr.call hb
    refine enter_en Try.func19 rfl Try.ntmps19 (Nat.le_of_ble_eq_true rfl) fun a0 (HA0 : En 24 [(0, .pointer (some ⟨g, 0, none⟩))] a0) => ?_
    refine sq_ <| rl_ <| wl_ <| p_ HA0 rfl rfl fun _ H1 => ln_ <| nx <| sq_ <| sq_ <| rl_ <| wl_ <| p_ H1 rfl rfl fun _ H2 => wl_ <| i_ H2 rfl (v := .bool false) (dd_eqp rfl (H2.ev 6 rfl) rfl Try.underlying25 rfl) fun _ H3 => ln_ <| nx <| cf_ H3 rfl <| wp_skip <| nx <| sq_ <| rl_ <| wl_ <| p_ H3 rfl rfl fun _ H4 => ln_ <| nx <| sq_ <| sq_ <| rl_ <| wl_ <| p_ H4 rfl rfl fun _ H5 => wl_ <| i_ H5 rfl (dd_nilc rfl (H5.ev 8 rfl)) fun _ H6 => wl_ <| i_ H6 rfl (xf 0 0 rfl (H6.ev 9 rfl)) fun _ H7 => wl_ <| i_ H7 rfl (dd_getR (HB _ HS.below) rfl (H7.ev 10 rfl) rfl Try.underlying56 rfl) fun _ H8 => ?_
    clear HA0 H1 H2 H3 H4 H5 H6
    refine wl_ <| i_ H8 rfl (v := .int .i64 0) (dd_len rfl (H8.ev 11 rfl) Try.underlying56) fun _ H9 => wl_ <| p_ H9 rfl rfl fun _ H10 => ln_ <| nx <| wp_block <| wp_unr 1 <| unr_go <| sq_ <| rl_ <| wl_ <| i_ H10 rfl (dd_cmp rfl (H10.ev 13 rfl) (H10.ev 12 rfl) (lt_f (by decide))) fun _ H11 => ln_ <| nx <| sq_ <| cf_ H11 rfl <| wp_exit <| tx <| tx <| bx <| nx <| sq_ <| rl_ <| q_ H11 2 rfl fun _ H12 => ln_ <| nx <| wp_ret <| ret_run H12.env0 (res_t Try.results19 (H12.get 2 rfl)) <| ?_
    clear H7 H8 H9 H10 H11
    exact ⟨rfl, HS.below⟩
  · obtain ⟨gv, rfl, h1⟩ := h0.at_ (by omega)
    exact mfree_pos g gv n c X w hr h1 h0.len hm hN
theorem nms_1 {X : List Mv} {x : Mv} {cb : Array Value} {c : Nat} (h : X[0]? = some x) (O : OwnC cb c 1 1 [.string (strB x.1)]) : OwnC cb c 1 1 (strsV ((X.take 1).map (·.1))) := by
  obtain ⟨h1, h2⟩ := List.getElem?_eq_some_iff.1 h
  rw [show X.take 1 = [x] by rw [List.take_succ_eq_append_getElem h1, List.take_zero, h2]; rfl]; exact O
theorem nms_S {X : List Mv} {j : Nat} {x : Mv} {cb : Array Value} {c : Nat} (h : X[j]? = some x) (O : OwnC cb c (j + 1) 1 (strsV ((X.take j).map (·.1)) ++ [.string (strB x.1)])) : OwnC cb c (j + 1) 1 (strsV ((X.take (j + 1)).map (·.1))) := by
  obtain ⟨h1, h2⟩ := List.getElem?_eq_some_iff.1 h
  rw [List.take_succ_eq_append_getElem h1, h2, List.map_append, strsV_app]; exact O
theorem mnames_pos (g gv n c : Nat) (X : List Mv) (w : World) (hr : Row w g 58 #[.slice (some ⟨gv, 0, none⟩) n c]) (h0 : CAt w gv 0 (mvL X)) (hl : X.length = n) (hm : n ≤ 1000) (hn : 0 < n) : Calls Try.prog 17 #[.pointer (some ⟨g, 0, none⟩)] w fun x w' => ∃ g c cb, x = .returned (.slice (some ⟨g, 0, none⟩) n c) ∧ w.heap.size ≤ g ∧ Row w' g 9 cb ∧ OwnC cb c n 1 (strsV (X.map (·.1))) ∧ Below w.heap.size w w' := by
  have HS := St.nil w noF
  have HB : ∀ W, Below w.heap.size w W → Row W g 58 #[.slice (some ⟨gv, 0, none⟩) n c] := fun W hb => hr.call hb
  have HM : ∀ W, Below w.heap.size w W → CAt W gv 0 (mvL X) := fun W hb => h0.call hb
  refine enter_en Try.func17 rfl Try.ntmps17 (Nat.le_of_ble_eq_true rfl) fun a0 (HA0 : En 24 [(0, .pointer (some ⟨g, 0, none⟩))] a0) => ?_
  refine sq_ <| rl_ <| wl_ <| p_ HA0 rfl rfl fun _ H1 => ln_ <| nx <| sq_ <| sq_ <| rl_ <| wl_ <| p_ H1 rfl rfl fun _ H2 => wl_ <| i_ H2 rfl (v := .bool false) (dd_eqp rfl (H2.ev 6 rfl) rfl Try.underlying25 rfl) fun _ H3 => ln_ <| nx <| cf_ H3 rfl <| wp_skip <| nx <| sq_ <| rl_ <| wl_ <| p_ H3 rfl rfl fun _ H4 => ln_ <| nx <| sq_ <| sq_ <| rl_ <| wl_ <| p_ H4 rfl rfl fun _ H5 => wl_ <| i_ H5 rfl (dd_nilc rfl (H5.ev 8 rfl)) fun _ H6 => wl_ <| i_ H6 rfl (xf 0 0 rfl (H6.ev 9 rfl)) fun _ H7 => wl_ <| i_ H7 rfl (dd_getR (HB _ HS.below) rfl (H7.ev 10 rfl) rfl Try.underlying56 rfl) fun _ H8 => ?_
  clear HA0 H1 H2 H3 H4 H5 H6
  refine wl_ <| i_ H8 rfl (v := .int .i64 n) (dd_len rfl (H8.ev 11 rfl) Try.underlying56) fun a9 H9 => wl_ <| p_ H9 rfl rfl fun _ H10 => ln_ <| nx <| wp_block <| ?_
  clear H7 H8 H9
  refine wp_loop1 (ι := Nat) (fun j1 a9 w9 => ∃ gi1 : Nat, ∃ ci1 : Nat, ∃ cbi1 : Array Value, (1 ≤ j1 ∧ j1 ≤ n) ∧ (OwnC cbi1 ci1 j1 1 (strsV ((X.take j1).map (·.1)))) ∧ En 24 [(13, .int .i64 j1), (12, .int .i64 n), (11, .slice (some ⟨gv, 0, none⟩) n c), (3, .slice (some ⟨gi1, 0, none⟩) j1 ci1)] a9 ∧ St w noF [⟨gi1, 9, cbi1⟩] w9) (fun j1 => n - j1) (1) ?_ ?_
  ·
   refine sq_ <| rl_ <| wl_ <| i_ H10 rfl (dd_cmp rfl (H10.ev 13 rfl) (H10.ev 12 rfl) (lt_t (by omega))) fun _ H12 => ln_ <| nx <| sq_ <| ct_ H12 rfl <| wp_skip <| nx <| sq_ <| wp_block <| sq_ <| ?_
   clear H10
   obtain ⟨x0, hx0⟩ : ∃ x, X[0]? = some x := ⟨_, List.getElem?_eq_getElem (by rw [hl]; omega)⟩
   refine rl_ <| wl_ <| i_ H12 rfl (xSo 2 0 rfl (H12.ev 11 rfl) (H12.ev 13 rfl)) fun _ H13 => wl_ <| i_ H13 rfl (v := .agg #[.string (strB x0.1), .slice (some ⟨x0.2.1, 0, none⟩) x0.2.2 x0.2.2]) (dd_atN rfl (H13.ev 15 rfl) (mv_all (HM _ HS.below) hx0) Try.underlying61 rfl (by kernel_rfl)) fun _ H14 => wl_ <| n_ H14 rfl (fun _ h => dd_new HS #[.string (⟨#[]⟩), .slice none 0 0] rfl (z := .agg #[.string (⟨#[]⟩), .slice none 0 0]) (by kernel_rfl) rfl h) fun g5 _ HS15 _ H15 => wl_ <| t_ rfl (fun _ h => dd_setrow HS15 0 rfl rfl (H15.ev 5 rfl) (H15.ev 16 rfl) (by kernel_rfl) (rfl : #[.string (strB x0.1), .slice (some ⟨x0.2.1, 0, none⟩) x0.2.2 x0.2.2].size = 2) (rfl : #[.string (⟨#[]⟩), .slice none 0 0].size = 2) (one_l (ao_cons rfl (ao_cons rfl ao_nil))) h) fun _ HS16 => ln_ <| nx <| rl_ <| wl_ <| p_ H15 rfl rfl fun _ H17 => wl_ <| i_ H17 rfl (xf 0 0 rfl (H17.ev 5 rfl)) fun _ H18 => wl_ <| i_ H18 rfl (dd_get HS16 0 0 rfl rfl (H18.ev 18 rfl) rfl Try.underlying9 rfl) fun _ H19 => wl_ <| n_ H19 rfl (fun _ h => dd_lits HS16 #[.string (strB x0.1)] rfl (ps := [(0, .string (strB x0.1))]) (pr1 (H19.ev 19 rfl) (pr0)) (z := .string (⟨#[]⟩)) (sz := 1) Try.underlying49 (by kernel_rfl) rfl rfl (by kernel_rfl) h) fun g20 _ HS20 _ H20 => ?_
   clear H12 H13 HS H14 HS15 H15 H17 H18
   refine wl_ <| a_ H20 rfl (S := fun g21_22 cb21_22 => [⟨g5, 61, #[.string (strB x0.1), .slice (some ⟨x0.2.1, 0, none⟩) x0.2.2 x0.2.2]⟩, ⟨g20, 9, #[.string (strB x0.1)]⟩, ⟨g21_22, 9, cb21_22⟩]) (fun g21_22 c21_22 => .slice (some ⟨g21_22, 0, none⟩) 1 c21_22) (T := fun _ c21_22 cb21_22 => OwnC cb21_22 c21_22 1 1 ([.string (strB x0.1)])) (fun _ h => dd_app0 HS20 rfl (H20.ev 17 rfl) (z := .string (⟨#[]⟩)) (bytes := 16) (sz := 1) Try.underlying49 (by kernel_rfl) rfl (by decide) ([.string (strB x0.1)]) (H20.ev 20 rfl) rfl (row_news (HS20.row 1 rfl) 0 (slab_whole _)) (ao_cons rfl ao_nil) (by unfold maxLen; omega) (by omega) h) fun g21_22 c21_22 cb21_22 _ O21_22 HS21 _ H21 => wl_ <| p_ H21 rfl rfl fun _ H23 => ln_ <| ?_
   clear HS16 H19 HS20 H20 H21
   have H24 := H23.sel [11, 12, 13, 3] rfl
   refine bn <| nx <| rl_ <| wl_ <| i_ H24 rfl (v := .int .i64 1) (dd_ari rfl (H24.ev 13 rfl) rfl rfl (by decide)) fun _ H25 => wl_ <| p_ H25 rfl rfl fun _ H26 => ln_ <| ?_
   clear H23 H24 H25
   exact nx ⟨g21_22, c21_22, cb21_22, (by omega), (nms_1 hx0 O21_22), H26.sel [3, 11, 12, 13] rfl, ss HS21 [2]⟩
  clear H10 HS
  rintro j1 aL11 wL11 ⟨gi1, ci1, cbi1, hj, Oi1, HL11, HSL11⟩
  refine sq_ <| rl_ <| ?_
  by_cases hc28 : (j1 : Int) < n
  ·
   refine wl_ <| i_ HL11 rfl (dd_cmp rfl (HL11.ev 13 rfl) (HL11.ev 12 rfl) (lt_t hc28)) fun _ H29 => ln_ <| nx <| sq_ <| ct_ H29 rfl <| wp_skip <| nx <| sq_ <| wp_block <| sq_ <| ?_
   clear HL11
   obtain ⟨xj1, hxj1⟩ : ∃ x, X[j1]? = some x := ⟨_, List.getElem?_eq_getElem (by rw [hl]; omega)⟩
   refine rl_ <| wl_ <| i_ H29 rfl (xSo 2 (j1 * 2) rfl (H29.ev 11 rfl) (H29.ev 13 rfl)) fun _ H30 => wl_ <| i_ H30 rfl (v := .agg #[.string (strB xj1.1), .slice (some ⟨xj1.2.1, 0, none⟩) xj1.2.2 xj1.2.2]) (dd_atN rfl (H30.ev 15 rfl) (mv_all (HM _ HSL11.below) hxj1) Try.underlying61 rfl (by kernel_rfl)) fun _ H31 => wl_ <| n_ H31 rfl (fun _ h => dd_new HSL11 #[.string (⟨#[]⟩), .slice none 0 0] rfl (z := .agg #[.string (⟨#[]⟩), .slice none 0 0]) (by kernel_rfl) rfl h) fun g5 _ HS32 _ H32 => wl_ <| t_ rfl (fun _ h => dd_setrow HS32 1 rfl rfl (H32.ev 5 rfl) (H32.ev 16 rfl) (by kernel_rfl) (rfl : #[.string (strB xj1.1), .slice (some ⟨xj1.2.1, 0, none⟩) xj1.2.2 xj1.2.2].size = 2) (rfl : #[.string (⟨#[]⟩), .slice none 0 0].size = 2) (one_l (ao_cons rfl (ao_cons rfl ao_nil))) h) fun _ HS33 => ln_ <| nx <| rl_ <| wl_ <| p_ H32 rfl rfl fun _ H34 => wl_ <| i_ H34 rfl (xf 0 0 rfl (H34.ev 5 rfl)) fun _ H35 => wl_ <| i_ H35 rfl (dd_get HS33 1 0 rfl rfl (H35.ev 18 rfl) rfl Try.underlying9 rfl) fun _ H36 => wl_ <| n_ H36 rfl (fun _ h => dd_lits HS33 #[.string (strB xj1.1)] rfl (ps := [(0, .string (strB xj1.1))]) (pr1 (H36.ev 19 rfl) (pr0)) (z := .string (⟨#[]⟩)) (sz := 1) Try.underlying49 (by kernel_rfl) rfl rfl (by kernel_rfl) h) fun g20 _ HS37 _ H37 => ?_
   clear H29 H30 HSL11 H31 HS32 H32 H34 H35
   refine wl_ <| a_ H37 rfl (S := fun g21_39 cb21_39 => [⟨g5, 61, #[.string (strB xj1.1), .slice (some ⟨xj1.2.1, 0, none⟩) xj1.2.2 xj1.2.2]⟩, ⟨g20, 9, #[.string (strB xj1.1)]⟩, ⟨g21_39, 9, cb21_39⟩]) (fun g21_39 c21_39 => .slice (some ⟨g21_39, 0, none⟩) (j1 + 1) c21_39) (T := fun _ c21_39 cb21_39 => OwnC cb21_39 c21_39 (j1 + 1) 1 ((strsV ((X.take j1).map (·.1))) ++ [.string (strB xj1.1)])) (fun _ h => dd_app HS37 0 rfl Oi1 rfl (H37.ev 17 rfl) (z := .string (⟨#[]⟩)) (bytes := 16) Try.underlying49 (by kernel_rfl) rfl (by decide) ([.string (strB xj1.1)]) (H37.ev 20 rfl) rfl (row_news (HS37.row 2 rfl) 0 (slab_whole _)) (ao_cons rfl ao_nil) (by unfold maxLen; omega) (by omega) h) fun g21_39 c21_39 cb21_39 _ O21_39 HS38 _ H38 => wl_ <| p_ H38 rfl rfl fun _ H40 => ln_ <| bn <| nx <| rl_ <| wl_ <| i_ H40 rfl (v := .int .i64 (j1 + 1)) (dd_ari rfl (H40.ev 13 rfl) rfl rfl (i64_of (by first | omega | (have := bd_lo; omega)) (by omega))) fun _ H41 => wl_ <| p_ H41 rfl rfl fun _ H42 => ln_ <| ?_
   clear HS33 H36 HS37 H37 H38 H40 H41
   refine nx ⟨j1 + 1, ⟨g21_39, c21_39, cb21_39, (by omega), (nms_S hxj1 O21_39), H42.sel [3, 11, 12, 13] rfl, ss HS38 [2]⟩, (by omega)⟩
  refine wl_ <| i_ HL11 rfl (dd_cmp rfl (HL11.ev 13 rfl) (HL11.ev 12 rfl) (lt_f hc28)) fun _ H43 => ln_ <| nx <| sq_ <| cf_ H43 rfl <| wp_exit <| tx <| tx <| bx <| nx <| sq_ <| rl_ <| q_ H43 2 rfl fun _ H44 => ln_ <| nx <| wp_ret <| ret_run H44.env0 (res_t Try.results17 (H44.get 2 rfl)) <| ?_
  clear HL11 H43
  obtain rfl : j1 = n := by omega
  exact ⟨gi1, ci1, cbi1, rfl, st_fresh2 HSL11 0 rfl, HSL11.row 0 rfl, (by have h9 := Oi1; rw [show X.take j1 = X from by rw [← hl]; exact List.take_length] at h9; exact h9), HSL11.below⟩
theorem mblk_out (g gv n c k : Nat) (X : List Mv) (xk : Mv) (q : List (BitVec 8)) (z : Int) (w : World) (hr : Row w g 58 #[.slice (some ⟨gv, 0, none⟩) n c]) (h0 : CAt w gv 0 (mvL X)) (hl : X.length = n) (hm : n ≤ 1000000) (hk : findI q (tvs X) = (k : Int)) (hxk : X[k]? = some xk) (hz : z < 0 ∨ (xk.2.2 : Int) ≤ z) : Calls Try.prog 28 #[.pointer (some ⟨g, 0, none⟩), .string (strB q), .int .i64 z] w fun x w' => x = .returned (.tuple #[.pointer none, .int .i64 17]) ∧ Below w.heap.size w w' := by
  have HS := St.nil w noF
  have HB : ∀ W, Below w.heap.size w W → Row W g 58 #[.slice (some ⟨gv, 0, none⟩) n c] := fun W hb => hr.call hb
  have HM : ∀ W, Below w.heap.size w W → CAt W gv 0 (mvL X) := fun W hb => h0.call hb
  have HX : ∀ W, Below w.heap.size w W → MvAt W (some ⟨gv, 0, none⟩) n X := fun W hb => ⟨hl, fun _ => ⟨gv, rfl, h0.call hb⟩⟩
  have hkn : k < n := by rw [← hl]; exact (List.getElem?_eq_some_iff.1 hxk).1
  refine enter_en Try.func28 rfl Try.ntmps28 (Nat.le_of_ble_eq_true rfl) fun a0 (HA0 : En 36 [(0, .pointer (some ⟨g, 0, none⟩)), (1, .string (strB q)), (2, .int .i64 z)] a0) => ?_
  refine sq_ <| rl_ <| q_ HA0 2 rfl fun _ H1 => ln_ <| nx <| sq_ <| sq_ <| rl_ <| wl_ <| p_ H1 rfl rfl fun _ H2 => wl_ <| i_ H2 rfl (v := .bool false) (dd_eqp rfl (H2.ev 10 rfl) rfl Try.underlying25 rfl) fun _ H3 => ln_ <| nx <| cf_ H3 rfl <| wp_skip <| nx <| sq_ <| rl_ <| q_ H3 2 rfl fun _ H4 => wl_ <| c_ H4 rfl HS (v := .int .i64 k) (dc_ Try.func24 rfl (args2 (H4.ev 12 rfl) (H4.ev 13 rfl)) (mfind_any g _ _ _ X q w (HB _ HS.below) (HX _ HS.below) (by omega)) (fun _ w9 h9 => ⟨_, h9.1, by rw [hk], h9.2⟩)) fun _ HS5 _ H5 => wl_ <| p_ H5 rfl rfl fun _ H6 => ln_ <| nx <| sq_ <| sq_ <| rl_ <| wl_ <| p_ H6 rfl rfl fun _ H7 => wl_ <| i_ H7 rfl (dd_cmp rfl (H7.ev 15 rfl) rfl (lt_f (by omega))) fun _ H8 => ?_
  clear HA0 H1 H2 H3 H4 HS H5 H6
  refine ln_ <| nx <| cf_ H8 rfl <| wp_skip <| nx <| sq_ <| rl_ <| wl_ <| p_ H8 rfl rfl fun _ H9 => wl_ <| i_ H9 rfl (dd_nilc rfl (H9.ev 17 rfl)) fun _ H10 => wl_ <| i_ H10 rfl (xf 0 0 rfl (H10.ev 18 rfl)) fun _ H11 => wl_ <| i_ H11 rfl (dd_getR (HB _ HS5.below) rfl (H11.ev 19 rfl) rfl Try.underlying56 rfl) fun _ H12 => wl_ <| p_ H12 rfl rfl fun _ H13 => wl_ <| i_ H13 rfl (xSo 2 (k * 2) rfl (H13.ev 20 rfl) (H13.ev 21 rfl)) fun _ H14 => wl_ <| i_ H14 rfl (xf 1 (k * 2 + 1) rfl (H14.ev 22 rfl)) fun _ H15 => wl_ <| i_ H15 rfl (dd_at rfl (H15.ev 23 rfl) (mv_sl (HM _ HS5.below) hxk) Try.underlying43 rfl) fun _ H16 => ?_
  clear H7 H8 H9 H10 H11 H12 H13 H14
  refine wl_ <| p_ H16 rfl rfl fun _ H17 => ln_ <| ?_
  clear H15 H16
  have H18 := H17.sel [2, 9] rfl
  refine nx <| sq_ <| sq_ <| rl_ <| wl_ <| p_ H18 rfl rfl fun _ H19 => ?_
  clear H17 H18
  by_cases hc21 : (z : Int) < 0
  ·
   refine wl_ <| i_ H19 rfl (dd_cmp rfl (H19.ev 25 rfl) rfl (lt_t hc21)) fun _ H22 => wl_ <| p_ H22 rfl rfl fun _ H23 => wl_ <| k_ H23 (wg_ H23 rfl rfl rfl rfl) rfl fun _ H24 => wl_ <| k_ H24 (wg_ H24 rfl rfl rfl rfl) rfl fun _ H25 => wl_ <| k_ H25 (wg_ H25 rfl rfl rfl rfl) rfl fun _ H26 => wl_ <| k_ H26 (wg_ H26 rfl rfl rfl rfl) rfl fun _ H27 => wl_ <| p_ H27 rfl rfl fun _ H28 => ln_ <| nx <| ct_ H28 rfl <| sq_ <| rl_ <| q_ H28 2 rfl fun _ H29 => ?_
   clear H19 H22 H23 H24 H25 H26 H27
   refine ln_ <| nx <| wp_ret <| tr <| ret_run H29.env0 (res_tt Try.results28 (H29.get 6 rfl) (H29.get 7 rfl)) <| ?_
   clear H28
   exact ⟨rfl, HS5.below⟩
  refine wl_ <| i_ H19 rfl (dd_cmp rfl (H19.ev 25 rfl) rfl (lt_f hc21)) fun _ H30 => wl_ <| p_ H30 rfl rfl fun _ H31 => wl_ <| ig H31 (wg_ H31 rfl rfl rfl rfl) rfl (dd_mv rfl (H31.ev 2 rfl)) fun _ H32 => wl_ <| ig H32 (wg_ H32 rfl rfl rfl rfl) rfl (dd_mv rfl (H32.ev 9 rfl)) fun _ H33 => wl_ <| ig H33 (wg_ H33 rfl rfl rfl rfl) rfl (v := .int .i64 xk.2.2) (dd_len rfl (H33.ev 29 rfl) Try.underlying43) fun _ H34 => ?_
  clear H19 H30 H31 H32 H33
  by_cases hc36 : (xk.2.2 : Int) ≤ z
  ·
   refine wl_ <| ig H34 (wg_ H34 rfl rfl rfl rfl) rfl (dd_cmp rfl (H34.ev 28 rfl) (H34.ev 30 rfl) (ge_t hc36)) fun _ H37 => wl_ <| p_ H37 rfl rfl fun _ H38 => ln_ <| nx <| ct_ H38 rfl <| sq_ <| rl_ <| q_ H38 2 rfl fun _ H39 => ln_ <| nx <| wp_ret <| tr <| ret_run H39.env0 (res_tt Try.results28 (H39.get 6 rfl) (H39.get 7 rfl)) <| ?_
   clear H34 H37 H38
   exact ⟨rfl, HS5.below⟩
  refine wl_ <| ig H34 (wg_ H34 rfl rfl rfl rfl) rfl (dd_cmp rfl (H34.ev 28 rfl) (H34.ev 30 rfl) (ge_f hc36)) fun _ H40 => wl_ <| p_ H40 rfl rfl fun _ H41 => ln_ <| nx <| cf_ H41 rfl <| wp_skip <| nx <| sq_ <| ?_
  clear H34 H40
  exact absurd hz (by omega)
theorem mblk_at (g gv n c k : Nat) (X : List Mv) (xk : Mv) (q : List (BitVec 8)) (j : Nat) (w : World) (hr : Row w g 58 #[.slice (some ⟨gv, 0, none⟩) n c]) (h0 : CAt w gv 0 (mvL X)) (hl : X.length = n) (hm : n ≤ 1000000) (hk : findI q (tvs X) = (k : Int)) (hxk : X[k]? = some xk) (hj : j < xk.2.2) : Calls Try.prog 28 #[.pointer (some ⟨g, 0, none⟩), .string (strB q), .int .i64 j] w fun x w' => x = .returned (.tuple #[.pointer (some ⟨xk.2.1, j * 32, none⟩), .int .i64 0]) ∧ Below w.heap.size w w' := by
  have HS := St.nil w noF
  have HB : ∀ W, Below w.heap.size w W → Row W g 58 #[.slice (some ⟨gv, 0, none⟩) n c] := fun W hb => hr.call hb
  have HM : ∀ W, Below w.heap.size w W → CAt W gv 0 (mvL X) := fun W hb => h0.call hb
  have HX : ∀ W, Below w.heap.size w W → MvAt W (some ⟨gv, 0, none⟩) n X := fun W hb => ⟨hl, fun _ => ⟨gv, rfl, h0.call hb⟩⟩
  have hkn : k < n := by rw [← hl]; exact (List.getElem?_eq_some_iff.1 hxk).1
  refine enter_en Try.func28 rfl Try.ntmps28 (Nat.le_of_ble_eq_true rfl) fun a0 (HA0 : En 36 [(0, .pointer (some ⟨g, 0, none⟩)), (1, .string (strB q)), (2, .int .i64 j)] a0) => ?_
  refine sq_ <| rl_ <| q_ HA0 2 rfl fun _ H1 => ln_ <| nx <| sq_ <| sq_ <| rl_ <| wl_ <| p_ H1 rfl rfl fun _ H2 => wl_ <| i_ H2 rfl (v := .bool false) (dd_eqp rfl (H2.ev 10 rfl) rfl Try.underlying25 rfl) fun _ H3 => ln_ <| nx <| cf_ H3 rfl <| wp_skip <| nx <| sq_ <| rl_ <| q_ H3 2 rfl fun _ H4 => wl_ <| c_ H4 rfl HS (v := .int .i64 k) (dc_ Try.func24 rfl (args2 (H4.ev 12 rfl) (H4.ev 13 rfl)) (mfind_any g _ _ _ X q w (HB _ HS.below) (HX _ HS.below) (by omega)) (fun _ w9 h9 => ⟨_, h9.1, by rw [hk], h9.2⟩)) fun _ HS5 _ H5 => wl_ <| p_ H5 rfl rfl fun _ H6 => ln_ <| nx <| sq_ <| sq_ <| rl_ <| wl_ <| p_ H6 rfl rfl fun _ H7 => wl_ <| i_ H7 rfl (dd_cmp rfl (H7.ev 15 rfl) rfl (lt_f (by omega))) fun _ H8 => ?_
  clear HA0 H1 H2 H3 H4 HS H5 H6
  refine ln_ <| nx <| cf_ H8 rfl <| wp_skip <| nx <| sq_ <| rl_ <| wl_ <| p_ H8 rfl rfl fun _ H9 => wl_ <| i_ H9 rfl (dd_nilc rfl (H9.ev 17 rfl)) fun _ H10 => wl_ <| i_ H10 rfl (xf 0 0 rfl (H10.ev 18 rfl)) fun _ H11 => wl_ <| i_ H11 rfl (dd_getR (HB _ HS5.below) rfl (H11.ev 19 rfl) rfl Try.underlying56 rfl) fun _ H12 => wl_ <| p_ H12 rfl rfl fun _ H13 => wl_ <| i_ H13 rfl (xSo 2 (k * 2) rfl (H13.ev 20 rfl) (H13.ev 21 rfl)) fun _ H14 => wl_ <| i_ H14 rfl (xf 1 (k * 2 + 1) rfl (H14.ev 22 rfl)) fun _ H15 => wl_ <| i_ H15 rfl (dd_at rfl (H15.ev 23 rfl) (mv_sl (HM _ HS5.below) hxk) Try.underlying43 rfl) fun _ H16 => ?_
  clear H7 H8 H9 H10 H11 H12 H13 H14
  refine wl_ <| p_ H16 rfl rfl fun _ H17 => ln_ <| ?_
  clear H15 H16
  have H18 := H17.sel [2, 9] rfl
  refine nx <| sq_ <| sq_ <| rl_ <| wl_ <| p_ H18 rfl rfl fun _ H19 => wl_ <| i_ H19 rfl (dd_cmp rfl (H19.ev 25 rfl) rfl (lt_f (by omega))) fun _ H20 => wl_ <| p_ H20 rfl rfl fun _ H21 => wl_ <| ig H21 (wg_ H21 rfl rfl rfl rfl) rfl (dd_mv rfl (H21.ev 2 rfl)) fun _ H22 => wl_ <| ig H22 (wg_ H22 rfl rfl rfl rfl) rfl (dd_mv rfl (H22.ev 9 rfl)) fun _ H23 => wl_ <| ig H23 (wg_ H23 rfl rfl rfl rfl) rfl (v := .int .i64 xk.2.2) (dd_len rfl (H23.ev 29 rfl) Try.underlying43) fun _ H24 => wl_ <| ig H24 (wg_ H24 rfl rfl rfl rfl) rfl (dd_cmp rfl (H24.ev 28 rfl) (H24.ev 30 rfl) (ge_f (by omega))) fun _ H25 => wl_ <| p_ H25 rfl rfl fun _ H26 => ?_
  clear H17 H18 H19 H20 H21 H22 H23 H24
  refine ln_ <| nx <| cf_ H26 rfl <| wp_skip <| nx <| sq_ <| rl_ <| q_ H26 2 rfl fun _ H27 => wl_ <| i_ H27 rfl (xSo 32 (j * 32) rfl (H27.ev 33 rfl) (H27.ev 34 rfl)) fun _ H28 => q_ H28 2 rfl fun _ H29 => ln_ <| nx <| wp_ret <| ret_run H29.env0 (res_tt Try.results28 (H29.get 6 rfl) (H29.get 7 rfl)) <| ?_
  clear H25 H26 H27 H28
  exact ⟨rfl, HS5.below⟩
end Go.Proofs.Ytefhenkdakokeaa

/- slices.Delete of one volume: what it needs. No function of the program is named here. -/
set_option maxRecDepth 4000
namespace Go.Proofs.Ytefhenkdakokeaa
open Go Go.RowKit
section
variable {P : Program} {o : Oper} {a : Act} {w w0 : World} {R : Value → World → Prop} {F : Nat → Prop} {S : List Blk}
theorem dd_sl3 {t : TypeId} {x lo hi mx : Operand} {g i n c sz j : Nat} {k k' k3 : IntKind} {l u m : Nat} (ho : o.op = .slice t x (some lo) (some hi) (some mx)) (hx : a.eval x = .slice (some ⟨g, i, none⟩) n c) (hl : a.eval lo = .int k (l : Int)) (hh : a.eval hi = .int k' (u : Int)) (hm : a.eval mx = .int k3 (m : Int)) (ht : slOf P t = some sz) (h1 : l ≤ u) (h2 : u ≤ m) (h4 : m ≤ c) (h3 : l < m) (hj : i + l * sz = j) {n' c' : Nat} (hn : u - l = n') (hc : m - l = c')
    : (execOp a.eval o).run P w = .ok (.value (.slice (some ⟨g, j, none⟩) n' c')) w := by
  subst hj hn hc
  unfold slOf at ht
  cases hu : P.underlying t with
  | none => rw [hu] at ht; cases ht
  | some d =>
    rw [hu] at ht
    cases d with
    | slice e =>
      simp only at ht
      cases hq : P.info? e with
      | none => rw [hq] at ht; cases ht
      | some inf =>
        rw [hq] at ht
        simp only [Option.map_some, Option.some.injEq] at ht
        subst ht
        have e3 : ¬ m = l := by omega
        simp [execOp, ho, hx, hl, hh, hm, Instr.sliceAt, run_underlying hu, Instr.slice, Instr.sliceBounds, Instr.sliceBound, asIntOf, sizeOf, typeInfo, hq, h1, h2, h4, e3, Addr.add_mid]
    | _ => simp only at ht; cases ht
theorem dd_slE {t : TypeId} {x lo : Operand} {g i n c sz : Nat} {k : IntKind} {l : Nat} (ho : o.op = .slice t x (some lo) none none) (hx : a.eval x = .slice (some ⟨g, i, none⟩) n c) (hl : a.eval lo = .int k (l : Int)) (ht : slOf P t = some sz) (h1 : l = n) (h3 : l = c)
    : (execOp a.eval o).run P w = .ok (.value (.slice (some ⟨g, i, none⟩) 0 0)) w := by
  subst h1
  unfold slOf at ht
  cases hu : P.underlying t with
  | none => rw [hu] at ht; cases ht
  | some d =>
    rw [hu] at ht
    cases d with
    | slice e =>
      simp only at ht
      cases hq : P.info? e with
      | none => rw [hq] at ht; cases ht
      | some inf =>
        rw [hq] at ht
        simp only [Option.map_some, Option.some.injEq] at ht
        subst ht h3
        simp [execOp, ho, hx, hl, Instr.sliceAt, run_underlying hu, Instr.slice, Instr.sliceBounds, Instr.sliceBound, asIntOf, sizeOf, typeInfo, hq]
    | _ => simp only at ht; cases ht
/- append where there is room -/
theorem dd_appS (HS : St w0 F S w) (k : Nat) {g c n sz bytes : Nat} {cb : Array Value} {e t : TypeId} {L : List Value} {z : Value} (hk : S[k]? = some ⟨g, e, cb⟩) (O : OwnC cb c n sz L) {s x : Operand} (ho : o.op = .call { callee := .builtin .append, args := #[s, x], argTypes := #[t, t] })
    (hs : a.eval s = .slice (some ⟨g, 0, none⟩) n c) (ht : P.underlying t = some (.slice e)) (hi : (P.info? e).map (fun i => (i.zero, i.size, i.bytes)) = some (some z, sz, bytes))
    {ad : Addr} {m c2 : Nat} (news : List Value) (hx : a.eval x = .slice (some ad) m c2) (hl : news.length = m * sz) (hnews : ∀ j u, news[j]? = some u → w.cell? (ad.add j) = some u) (h1 : ∀ u ∈ news, u.oneCell' = true) (hr : n + m ≤ c)
    (h : ∀ cb' w', OwnC cb' c (n + m) sz (L ++ news) → St w0 F (S.set k ⟨g, e, cb'⟩) w' → R (.slice (some ⟨g, 0, none⟩) (n + m) c) w') : Does P o a w R := fun _ _ hK => by
  obtain ⟨i, hi1, _, hz2, _⟩ := info_parts hi
  have hrow := HS.row k hk
  obtain ⟨w', hrun, h2, h3⟩ := run_append_own_spare (P := P) w 0 t o.type e i sz ht hi1 hz2 g n c L (ownc_to hrow O (Nat.zero_le g)) ad m c2 news hl hnews h1 hr
  obtain ⟨g', c', cb', ev, _, hrow', O'⟩ := ownc_of h2 (fun ev => by cases ev)
  injection ev with ev _ ev2
  injection ev with ev
  injection ev with ev
  subst ev ev2
  unfold Oper.wp execOp
  simp only [ho, resolve, invoke, builtin, Sem.run_bind, Sem.run_pure, Result.andThen_ok, List.map_toArray, List.map_cons, List.map_nil, hs, hx, hrun]
  exact hK _ _ (h cb' w' O' (HS.upd k hk hrow' h3))
end
end Go.Proofs.Ytefhenkdakokeaa

/- slices.Delete of one of a tenant's volumes. -/
set_option maxRecDepth 4000
namespace Go.Proofs.Ytefhenkdakokeaa
open Go Go.RowKit
theorem zeroVM : (Try.prog.info? 61).bind (·.zero) = some (.agg #[.string ⟨#[]⟩, .slice none 0 0]) := by kernel_rfl
/- one volume cleared -/
theorem dd_clrM {o : Oper} {a : Act} {w w0 : World} {R : Value → World → Prop} {F : Nat → Prop} {S : List Blk} (HS : St w0 F S w) (k : Nat) {g off c2 : Nat} {cb : Array Value} {x : Operand} (hk : S[k]? = some ⟨g, 61, cb⟩) (ho : o.op = .call { callee := .builtin .clear, args := #[x], argTypes := #[56] }) (hx : a.eval x = .slice (some ⟨g, off, none⟩) 1 c2) (hfit : off + 2 ≤ cb.size)
    (h : ∀ w', St w0 F (S.set k ⟨g, 61, (cb.toList.take off ++ [Value.string ⟨#[]⟩, .slice none 0 0] ++ cb.toList.drop (off + 2)).toArray⟩) w' → R (.tuple #[]) w') : Does Try.prog o a w R := fun _ _ hK => by
  have hrow : Row w g 61 cb := HS.row k hk
  have hst := run_storeCells_at (P := Try.prog) g off 61 [Value.string ⟨#[]⟩, .slice none 0 0] 0 cb w hrow (by simpa using hfit) (by decide)
  have hzv : (zeroValue 61).run Try.prog w = .ok (.agg #[.string ⟨#[]⟩, .slice none 0 0]) w := by
    obtain ⟨i, hi, hz⟩ := Option.bind_eq_some_iff.1 zeroVM
    simp [zeroValue, typeInfo, hi, hz]
  have hzc : (Builtin.zeroCells (Value.agg #[.string ⟨#[]⟩, .slice none 0 0]).cells 1).toList = [Value.string ⟨#[]⟩, .slice none 0 0] := by kernel_rfl
  have hrun : (Builtin.clear_ #[56] o.type #[.slice (some ⟨g, off, none⟩) 1 c2]).run Try.prog w = .ok (.tuple #[]) (w.setRow g (cb.toList.take off ++ [Value.string ⟨#[]⟩, .slice none 0 0] ++ cb.toList.drop (off + 2)).toArray) := by
    have hst2 := hst
    simp only [Nat.add_zero, List.length_cons, List.length_nil, Nat.reduceAdd] at hst2
    simp [Builtin.clear_, run_underlying Try.underlying56, hzv, hzc, hst2]
  unfold Oper.wp execOp
  simp only [ho, resolve, invoke, builtin, Sem.run_bind, Sem.run_pure, Result.andThen_ok, List.map_toArray, List.map_cons, List.map_nil, hx, hrun]
  exact hK _ _ (h _ (HS.upd k hk (hrow.setRow _) (grown_setRow w g _)))
theorem own_takeVM {cb : Array Value} {c n i : Nat} {L : List Value} (O : OwnC cb c n 2 L) (h : i ≤ n) : OwnC cb c i 2 (L.take (i * 2)) :=
  ⟨Nat.le_trans h O.le, O.cap, O.size, by rw [List.length_take, O.len]; omega, by rw [← O.take, List.take_take, Nat.min_eq_left (by omega)]⟩
theorem del_cellsM {w : World} {g c n : Nat} {t : TypeId} {cb : Array Value} {L : List Value} (h : Row w g t cb) (O : OwnC cb c n 2 L) (k : Nat) : ∀ (j : Nat) (u : Value), (L.drop (k * 2))[j]? = some u → w.cell? ((⟨g, 0 + k * 2, none⟩ : Addr).add j) = some u := fun j u hu => by
  rw [List.getElem?_drop] at hu
  have hj : k * 2 + j < L.length := (List.getElem?_eq_some_iff.1 hu).1
  rw [Addr.add_mid, h.cell, Nat.zero_add, ← Array.getElem?_toList]
  rw [← O.take, List.getElem?_take_of_lt (by rw [← O.len]; exact hj)] at hu
  exact hu
theorem own_clrM {cb : Array Value} {c n : Nat} {L : List Value} (O : OwnC cb c n 2 L) (h : n + 1 ≤ c) : OwnC (cb.toList.take (0 + n * 2) ++ [Value.string ⟨#[]⟩, .slice none 0 0] ++ cb.toList.drop (0 + n * 2 + 2)).toArray c n 2 L := by
  have hs := O.size
  have ht : (cb.toList.take (0 + n * 2)).length = n * 2 := by rw [List.length_take, Array.length_toList]; omega
  refine ⟨O.le, O.cap, ?_, O.len, ?_⟩
  · rw [List.size_toArray, List.length_append, List.length_append, ht, List.length_drop, Array.length_toList]
    show n * 2 + 2 + (cb.size - (0 + n * 2 + 2)) = c * 2
    omega
  · rw [List.append_assoc, List.take_append_of_le_length (by rw [ht]; exact Nat.le_refl _), List.take_of_length_le (by rw [ht]; exact Nat.le_refl _), Nat.zero_add, O.take]
theorem del_ownM {cb : Array Value} {c n m : Nat} {L M : List Value} (O : OwnC cb c n 2 L) (h : n = m) (e : L = M) : OwnC cb c m 2 M := by subst h e; exact O
set_option maxHeartbeats 800000 in
theorem delete_stM (g M c i : Nat) (cb : Array Value) (L : List Value) (F : Nat → Prop) (w : World) (HS : St w F [⟨g, 61, cb⟩] w) (O : OwnC cb c (M + 1) 2 L) (h1 : ∀ u ∈ L, u.oneCell' = true) (hi : i < M + 1) :
    Calls Try.prog 27 #[.slice (some ⟨g, 0, none⟩) (M + 1) c, .int .i64 i, .int .i64 (i + 1)] w fun e w' => ∃ cb', e = .returned (.slice (some ⟨g, 0, none⟩) M c) ∧ OwnC cb' c M 2 (L.take (i * 2) ++ L.drop ((i + 1) * 2)) ∧ St w F [⟨g, 61, cb'⟩] w' := by
  have hNc := O.le
  have hcm := O.cap
  refine enter_en Try.func27 rfl Try.ntmps27 (Nat.le_of_ble_eq_true rfl) fun a0 (HA0 : En 33 [(0, .slice (some ⟨g, 0, none⟩) (M + 1) c), (1, .int .i64 i), (2, .int .i64 (i + 1))] a0) => ?_
  refine sq_ <| rl_ <| wl_ <| p_ HA0 rfl rfl fun _ H1 => ln_ <| nx <| sq_ <| rl_ <| q_ H1 4 rfl fun _ H2 => wl_ <| i_ H2 rfl (v := .int .i64 (M + 1)) (dd_len rfl (H2.ev 11 rfl) Try.underlying56) fun _ H3 => wl_ <| i_ H3 rfl (v := .slice (some ⟨g, 0 + i * 2, none⟩) (i + 1 - i) (M + 1 - i)) (dd_sl3 (l := i) (u := i + 1) (m := M + 1) (sz := 2) rfl (H3.ev 8 rfl) (H3.ev 9 rfl) (H3.ev 10 rfl) (H3.ev 12 rfl) (by kernel_rfl) (by omega) (by omega) (by omega) (by omega) rfl rfl rfl) fun _ H4 => ln_ <| nx <| sq_ <| sq_ <| rl_ <| q_ H4 2 rfl fun _ H5 => wl_ <| i_ H5 rfl (dd_cmp rfl (H5.ev 14 rfl) (H5.ev 15 rfl) (eq_f (show ¬ (i : Int) = i + 1 by omega))) fun _ H6 => ln_ <| nx <| cf_ H6 rfl <| wp_skip <| nx <| sq_ <| rl_ <| wl_ <| p_ H6 rfl rfl fun _ H7 => wl_ <| i_ H7 rfl (v := .int .i64 (M + 1)) (dd_len rfl (H7.ev 18 rfl) Try.underlying56) fun _ H8 => ?_
  clear HA0 H1 H2 H3 H4 H5 H6
  refine wl_ <| p_ H8 rfl rfl fun _ H9 => ln_ <| nx <| sq_ <| ?_
  clear H7 H8
  by_cases hc16 : (i + 1 : Int) < c
  ·
   refine wi_ HS [] rfl [0] rfl fun HSh17 hx17 => hp_ H9 0 hx17 rfl rfl rfl fun _ H18 => hp_ H18 1 hx17 rfl rfl rfl fun _ H19 => ht_ H19 2 hx17 rfl rfl (v := .slice (some ⟨g, 0, none⟩) i c) (fun _ _ _ => dd_slh (sz := 2) rfl (H19.ev 20 rfl) (H19.ev 21 rfl) (by kernel_rfl) (by omega) (by omega) rfl) fun _ H20 => hp_ H20 3 hx17 rfl rfl rfl fun _ H21 => hp_ H21 4 hx17 rfl rfl rfl fun _ H22 => ht_ H22 5 hx17 rfl rfl (v := .slice (some ⟨g, 0 + (i + 1) * 2, none⟩) (M + 1 - (i + 1)) (c - (i + 1))) (fun _ _ _ => dd_sll (l := i + 1) (sz := 2) rfl (H22.ev 23 rfl) (H22.ev 24 rfl) (by kernel_rfl) (by omega) (by omega) rfl rfl rfl) fun _ H23 => ?_
   clear HS H9 H18 H19 H20 H21 H22
   refine h1_ 6 rfl <| d_ H23 rfl (R := fun v9 w9 => ∃ cb2 : Array Value, v9 = .slice (some ⟨g, 0, none⟩) M c ∧ (OwnC cb2 c (M) 2 (L.take (i * 2) ++ L.drop ((i + 1) * 2))) ∧ St w F [⟨g, 61, cb2⟩] w9) (dd_appS HSh17 0 rfl (own_takeVM O (by omega)) rfl (H23.ev 22 rfl) Try.underlying56 (z := .agg #[.string ⟨#[]⟩, .slice none 0 0]) (bytes := 40) (by kernel_rfl) (L.drop ((i + 1) * 2)) (H23.ev 25 rfl) (by rw [List.length_drop, O.len]; omega) (del_cellsM (HSh17.row 0 rfl) O (i + 1)) (fun u hu => h1 u (List.mem_of_mem_drop hu)) (by omega) (fun cb9 w9 h8 h9 => ⟨cb9, by rw [show i + (M + 1 - (i + 1)) = M by omega], (show i + (M + 1 - (i + 1)) = M by omega) ▸ h8, h9⟩)) ?_
   rintro _ W24 ⟨cb2, rfl, O2, HS24⟩ a24 H24
   clear H23 HSh17
   refine sx_ (sxi HS24 [0] rfl) fun hx25 => hp_ H24 7 hx25 rfl rfl rfl fun _ H26 => ?_
   clear hx17 H24
   refine wpAnyH_done (by kernel_rfl) ?_ _
   clear hx25
   refine nx <| sq_ <| rl_ <| q_ H26 2 rfl fun _ H27 => wl_ <| i_ H27 rfl (v := .int .i64 M) (dd_len rfl (H27.ev 28 rfl) Try.underlying56) fun _ H28 => wl_ <| p_ H28 rfl rfl fun _ H29 => wl_ <| i_ H29 rfl (v := .slice (some ⟨g, 0 + (M) * 2, none⟩) 1 (c - (M))) (dd_sllh (l := M) (u := M + 1) (sz := 2) rfl (H29.ev 27 rfl) (H29.ev 29 rfl) (H29.ev 30 rfl) (by kernel_rfl) (by omega) (by omega) (by omega) rfl (by omega) rfl) fun _ H30 => wl_ <| tq rfl (S := [⟨g, 61, (cb2.toList.take (0 + (M) * 2) ++ [Value.string ⟨#[]⟩, .slice none 0 0] ++ cb2.toList.drop (0 + (M) * 2 + 2)).toArray⟩]) (v := .tuple #[]) (fun _ h => dd_clrM HS24 0 rfl rfl (H30.ev 31 rfl) (by rw [O2.size]; omega) h) fun _ HS31 => ln_ <| ?_
   clear H26 H27 H28 H29 HS24
   have H32 := H30.sel [0] rfl
   refine nx <| sq_ <| rl_ <| q_ H32 2 rfl fun _ H33 => ln_ <| nx <| wp_ret <| ret_run H33.env0 (res_t Try.results27 (H33.get 6 rfl)) <| ?_
   clear H30 H32
   exact ⟨_, rfl, del_ownM (own_clrM O2 (by omega)) rfl (by first | rfl | rw [List.drop_of_length_le (by rw [O.len]; omega)]), HS31⟩
  refine wi_ HS [] rfl [0] rfl fun HSh34 hx34 => hp_ H9 0 hx34 rfl rfl rfl fun _ H35 => hp_ H35 1 hx34 rfl rfl rfl fun _ H36 => ht_ H36 2 hx34 rfl rfl (v := .slice (some ⟨g, 0, none⟩) i c) (fun _ _ _ => dd_slh (sz := 2) rfl (H36.ev 20 rfl) (H36.ev 21 rfl) (by kernel_rfl) (by omega) (by omega) rfl) fun _ H37 => hp_ H37 3 hx34 rfl rfl rfl fun _ H38 => hp_ H38 4 hx34 rfl rfl rfl fun _ H39 => ht_ H39 5 hx34 rfl rfl (v := .slice (some ⟨g, 0, none⟩) 0 0) (fun _ _ _ => dd_slE (l := i + 1) (sz := 2) rfl (H39.ev 23 rfl) (H39.ev 24 rfl) (by kernel_rfl) (by omega) (by omega)) fun _ H40 => ?_
  clear HS H9 H35 H36 H37 H38 H39
  refine h1_ 6 rfl <| d_ H40 rfl (R := fun v9 w9 => ∃ cb2 : Array Value, v9 = .slice (some ⟨g, 0, none⟩) M c ∧ (OwnC cb2 c (M) 2 (L.take (i * 2) ++ [])) ∧ St w F [⟨g, 61, cb2⟩] w9) (dd_appS HSh34 0 rfl (own_takeVM O (by omega)) rfl (H40.ev 22 rfl) Try.underlying56 (z := .agg #[.string ⟨#[]⟩, .slice none 0 0]) (bytes := 40) (by kernel_rfl) [] (H40.ev 25 rfl) (by simp) (fun j u h9 => by simp at h9) (fun u h9 => by cases h9) (by omega) (fun cb9 w9 h8 h9 => ⟨cb9, by rw [show i + 0 = M by omega], (show i + 0 = M by omega) ▸ h8, h9⟩)) ?_
  rintro _ W41 ⟨cb2, rfl, O2, HS41⟩ a41 H41
  clear H40 HSh34
  refine sx_ (sxi HS41 [0] rfl) fun hx42 => hp_ H41 7 hx42 rfl rfl rfl fun _ H43 => ?_
  clear hx34 H41
  refine wpAnyH_done (by kernel_rfl) ?_ _
  clear hx42
  refine nx <| sq_ <| rl_ <| q_ H43 2 rfl fun _ H44 => wl_ <| i_ H44 rfl (v := .int .i64 M) (dd_len rfl (H44.ev 28 rfl) Try.underlying56) fun _ H45 => wl_ <| p_ H45 rfl rfl fun _ H46 => wl_ <| i_ H46 rfl (v := .slice (some ⟨g, 0 + (M) * 2, none⟩) 1 (c - (M))) (dd_sllh (l := M) (u := M + 1) (sz := 2) rfl (H46.ev 27 rfl) (H46.ev 29 rfl) (H46.ev 30 rfl) (by kernel_rfl) (by omega) (by omega) (by omega) rfl (by omega) rfl) fun _ H47 => wl_ <| tq rfl (S := [⟨g, 61, (cb2.toList.take (0 + (M) * 2) ++ [Value.string ⟨#[]⟩, .slice none 0 0] ++ cb2.toList.drop (0 + (M) * 2 + 2)).toArray⟩]) (v := .tuple #[]) (fun _ h => dd_clrM HS41 0 rfl rfl (H47.ev 31 rfl) (by rw [O2.size]; omega) h) fun _ HS48 => ln_ <| ?_
  clear H43 H44 H45 H46 HS41
  have H49 := H47.sel [0] rfl
  refine nx <| sq_ <| rl_ <| q_ H49 2 rfl fun _ H50 => ln_ <| nx <| wp_ret <| ret_run H50.env0 (res_t Try.results27 (H50.get 6 rfl)) <| ?_
  clear H47 H49
  exact ⟨_, rfl, del_ownM (own_clrM O2 (by omega)) rfl (by first | rfl | rw [List.drop_of_length_le (by rw [O.len]; omega)]), HS48⟩
end Go.Proofs.Ytefhenkdakokeaa

/- A tenant as it looks: New, Read, Write, Make, Gone. -/
set_option maxRecDepth 4000
namespace Go.Proofs.Ytefhenkdakokeaa
open Go Go.RowKit
theorem mnew_any (w : World) : Calls Try.prog 8 #[] w fun x w' => ∃ g, x = .returned (.pointer (some ⟨g, 0, none⟩)) ∧ w.heap.size ≤ g ∧ Row w' g 58 #[.slice none 0 0] ∧ Below w.heap.size w w' := by
  have HS := St.nil w noF
  refine enter_en Try.func8 rfl Try.ntmps8 (Nat.le_of_ble_eq_true rfl) fun a0 (HA0 : En 3 [] a0) => ?_
  refine sq_ <| rl_ <| wl_ <| p_ HA0 rfl rfl fun _ H1 => ln_ <| nx <| sq_ <| rl_ <| wl_ <| i_ H1 rfl (v := .agg #[.slice none 0 0]) (dd_bld rfl (ps := []) (pr0) (Lz := [[.slice none 0 0]]) (by kernel_rfl) (lens_cons rfl (lens_nil)) (fit_nil) (cs := #[.slice none 0 0]) rfl) fun _ H2 => wl_ <| n_ H2 rfl (fun _ h => dd_box HS rfl (H2.ev 1 rfl) (cs := #[.slice none 0 0]) rfl h) fun g2 _ HS3 _ H3 => wl_ <| p_ H3 rfl rfl fun _ H4 => ln_ <| nx <| wp_ret <| ret_run H4.env0 (res_t Try.results8 (H4.get 0 rfl)) <| ?_
  clear HA0 H1 HS H2 H3
  exact ⟨g2, rfl, st_fresh2 HS3 0 rfl, HS3.row 0 rfl, HS3.below⟩
theorem mread_at (g gv n c k : Nat) (X : List Mv) (xk : Mv) (q : List (BitVec 8)) (j : Nat) (Q : List (BitVec 8)) (w : World) (hr : Row w g 58 #[.slice (some ⟨gv, 0, none⟩) n c]) (h0 : CAt w gv 0 (mvL X)) (hl : X.length = n) (hm : n ≤ 1000000) (hk : findI q (tvs X) = (k : Int)) (hxk : X[k]? = some xk) (hj : j < xk.2.2) (hr2 : Row w xk.2.1 32 (bs Q)) (hQ : Q.length = xk.2.2 * 32) : Calls Try.prog 15 #[.pointer (some ⟨g, 0, none⟩), .string (strB q), .int .i64 j] w fun x w' => x = .returned (.tuple #[.agg (bs ((Q.drop (j * 32)).take 32)), .int .i64 0]) ∧ Below w.heap.size w w' := by
  have HS := St.nil w noF
  have HB : ∀ W, Below w.heap.size w W → Row W g 58 #[.slice (some ⟨gv, 0, none⟩) n c] := fun W hb => hr.call hb
  have HM : ∀ W, Below w.heap.size w W → CAt W gv 0 (mvL X) := fun W hb => h0.call hb
  have HX : ∀ W, Below w.heap.size w W → MvAt W (some ⟨gv, 0, none⟩) n X := fun W hb => ⟨hl, fun _ => ⟨gv, rfl, h0.call hb⟩⟩
  have HQ : ∀ W, Below w.heap.size w W → Row W xk.2.1 32 (bs Q) := fun W hb => hr2.call hb
  refine enter_en Try.func15 rfl Try.ntmps15 (Nat.le_of_ble_eq_true rfl) fun a0 (HA0 : En 24 [(0, .pointer (some ⟨g, 0, none⟩)), (1, .string (strB q)), (2, .int .i64 j)] a0) => ?_
  refine sq_ <| rl_ <| wl_ <| n_ HA0 rfl (fun _ h => dd_new HS (bs (zer 32)) rfl (z := .agg (bs (zer 32))) (by kernel_rfl) rfl h) fun _ W1 HS1 _ H1 => wl_ <| p_ H1 rfl rfl fun _ H2 => ln_ <| nx <| sq_ <| rl_ <| q_ H2 3 rfl fun _ H3 => wl_ <| c_ H3 rfl HS1 (dcs Try.func28 rfl (args3 (H3.ev 11 rfl) (H3.ev 12 rfl) (H3.ev 13 rfl)) (mblk_at g gv n c k X xk q j W1 (HB _ HS1.below) (HM _ HS1.below) hl hm hk hxk hj) (.tuple #[.pointer (some ⟨xk.2.1, j * 32, none⟩), .int .i64 0])) fun _ HS4 _ H4 => wl_ <| p_ H4 rfl rfl fun _ H5 => wl_ <| i_ H5 rfl (v := .pointer (some ⟨xk.2.1, j * 32, none⟩)) (dd_ext rfl (H5.ev 10 rfl) rfl) fun _ H6 => wl_ <| i_ H6 rfl (v := .int .i64 0) (dd_ext rfl (H6.ev 10 rfl) rfl) fun _ H7 => q_ H7 2 rfl fun _ H8 => ?_
  clear HS HA0 H1 H2 H3 HS1 H4 H5 H6
  refine ln_ <| nx <| sq_ <| sq_ <| rl_ <| wl_ <| p_ H8 rfl rfl fun _ H9 => wl_ <| i_ H9 rfl (dd_cmp rfl (H9.ev 17 rfl) rfl (ne_f (by decide))) fun _ H10 => ln_ <| nx <| cf_ H10 rfl <| wp_skip <| nx <| sq_ <| rl_ <| wl_ <| p_ H10 rfl rfl fun _ H11 => wl_ <| i_ H11 rfl (dd_nilc rfl (H11.ev 21 rfl)) fun _ H12 => wl_ <| i_ H12 rfl (v := .agg (bs ((Q.drop (j * 32)).take 32))) (dd_loadR (HQ _ HS4.below) rfl (H12.ev 22 rfl) (bs_slab hQ (j * 32) 32 (by omega)) Try.underlying32 rfl (by rw [show (bs ((Q.drop (j * 32)).take 32)).size = 32 from ((size_bs _).trans (len_take (n := xk.2.2 * 32 - j * 32) (len_drop hQ rfl) (by omega)))]; kernel_rfl)) fun _ H13 => wl_ <| t_ rfl (fun _ h => dd_setrow HS4 0 rfl rfl (H13.ev 6 rfl) (H13.ev 23 rfl) (by kernel_rfl) (((size_bs _).trans (len_take (n := xk.2.2 * 32 - j * 32) (len_drop hQ rfl) (by omega))) : (bs ((Q.drop (j * 32)).take 32)).size = 32) (((size_bs _).trans (length_zer 32)) : (bs (zer 32)).size = 32) (one_bs _) h) fun _ HS14 => wl_ <| p_ H13 rfl rfl fun _ H15 => ln_ <| ?_
  clear H7 H8 H9 H10 H11 H12 HS4 H13
  have H16 := H15.sel [6, 7] rfl
  refine nx <| wp_ret <| ret_run H16.env0 (res_ct Try.results15 (H16.get 6 rfl) (HS14.row 0 rfl) Try.underlying32 rfl (by rw [show (bs ((Q.drop (j * 32)).take 32)).size = 32 from ((size_bs _).trans (len_take (n := xk.2.2 * 32 - j * 32) (len_drop hQ rfl) (by omega)))]; kernel_rfl) (H16.get 7 rfl)) <| ?_
  clear H15
  exact ⟨rfl, HS14.below⟩
theorem mwrite_out (g gv n c k : Nat) (X : List Mv) (xk : Mv) (q : List (BitVec 8)) (z : Int) (d : List (BitVec 8)) (w : World) (hr : Row w g 58 #[.slice (some ⟨gv, 0, none⟩) n c]) (h0 : CAt w gv 0 (mvL X)) (hl : X.length = n) (hm : n ≤ 1000000) (hk : findI q (tvs X) = (k : Int)) (hxk : X[k]? = some xk) (hz : z < 0 ∨ (xk.2.2 : Int) ≤ z) : Calls Try.prog 14 #[.pointer (some ⟨g, 0, none⟩), .string (strB q), .int .i64 z, .agg (bs d)] w fun x w' => x = .returned (.int .i64 17) ∧ Below w.heap.size w w' := by
  have HS := St.nil w noF
  have HB : ∀ W, Below w.heap.size w W → Row W g 58 #[.slice (some ⟨gv, 0, none⟩) n c] := fun W hb => hr.call hb
  have HM : ∀ W, Below w.heap.size w W → CAt W gv 0 (mvL X) := fun W hb => h0.call hb
  have HX : ∀ W, Below w.heap.size w W → MvAt W (some ⟨gv, 0, none⟩) n X := fun W hb => ⟨hl, fun _ => ⟨gv, rfl, h0.call hb⟩⟩
  refine enter_en Try.func14 rfl Try.ntmps14 (Nat.le_of_ble_eq_true rfl) fun a0 (HA0 : En 24 [(0, .pointer (some ⟨g, 0, none⟩)), (1, .string (strB q)), (2, .int .i64 z), (3, .agg (bs d))] a0) => ?_
  refine sq_ <| rl_ <| wl_ <| n_ HA0 rfl (fun _ h => dd_box HS rfl (HA0.ev 3 rfl) (cs := (bs d)) rfl h) fun _ W1 HS1 _ H1 => wl_ <| p_ H1 rfl rfl fun _ H2 => ln_ <| nx <| sq_ <| rl_ <| q_ H2 3 rfl fun _ H3 => wl_ <| c_ H3 rfl HS1 (dcs Try.func28 rfl (args3 (H3.ev 12 rfl) (H3.ev 13 rfl) (H3.ev 14 rfl)) (mblk_out g gv n c k X xk q z W1 (HB _ HS1.below) (HM _ HS1.below) hl hm hk hxk hz) (.tuple #[.pointer none, .int .i64 17])) fun _ HS4 _ H4 => wl_ <| p_ H4 rfl rfl fun _ H5 => wl_ <| i_ H5 rfl (v := .pointer none) (dd_ext rfl (H5.ev 11 rfl) rfl) fun _ H6 => wl_ <| i_ H6 rfl (v := .int .i64 17) (dd_ext rfl (H6.ev 11 rfl) rfl) fun _ H7 => q_ H7 2 rfl fun _ H8 => ?_
  clear HS HA0 H1 H2 H3 HS1 H4 H5 H6
  refine ln_ <| nx <| sq_ <| sq_ <| rl_ <| wl_ <| p_ H8 rfl rfl fun _ H9 => wl_ <| i_ H9 rfl (dd_cmp rfl (H9.ev 18 rfl) rfl (ne_t (by decide))) fun _ H10 => ln_ <| nx <| ct_ H10 rfl <| sq_ <| rl_ <| q_ H10 2 rfl fun _ H11 => ln_ <| ?_
  clear H7 H8 H9 H10
  have H12 := H11.sel [8] rfl
  refine nx <| wp_ret <| tr <| ret_run H12.env0 (res_t Try.results14 (H12.get 8 rfl)) <| ?_
  clear H11
  exact ⟨rfl, HS4.below⟩
theorem mwrite_at (F : Nat → Prop) (g gv n c k : Nat) (X : List Mv) (xk : Mv) (q : List (BitVec 8)) (j : Nat) (d Q : List (BitVec 8)) (w : World) (HS : St w F [⟨xk.2.1, 32, bs Q⟩] w) (HB : ∀ W, Chg F w W → Row W g 58 #[.slice (some ⟨gv, 0, none⟩) n c]) (HM : ∀ W, Chg F w W → CAt W gv 0 (mvL X)) (hl : X.length = n) (hm : n ≤ 1000000) (hk : findI q (tvs X) = (k : Int)) (hxk : X[k]? = some xk) (hj : j < xk.2.2) (hQ : Q.length = xk.2.2 * 32) (hd : d.length = 32) :
    Calls Try.prog 14 #[.pointer (some ⟨g, 0, none⟩), .string (strB q), .int .i64 j, .agg (bs d)] w fun x w' => x = .returned (.int .i64 0) ∧ St w F [⟨xk.2.1, 32, bs (spl Q (j * 32) d)⟩] w' := by
  refine enter_en Try.func14 rfl Try.ntmps14 (Nat.le_of_ble_eq_true rfl) fun a0 (HA0 : En 24 [(0, .pointer (some ⟨g, 0, none⟩)), (1, .string (strB q)), (2, .int .i64 j), (3, .agg (bs d))] a0) => ?_
  refine sq_ <| rl_ <| wl_ <| n_ HA0 rfl (fun _ h => dd_box HS rfl (HA0.ev 3 rfl) (cs := (bs d)) rfl h) fun g7 W1 HS1 _ H1 => wl_ <| p_ H1 rfl rfl fun _ H2 => ln_ <| nx <| sq_ <| rl_ <| q_ H2 3 rfl fun _ H3 => wl_ <| c_ H3 rfl HS1 (dcs Try.func28 rfl (args3 (H3.ev 12 rfl) (H3.ev 13 rfl) (H3.ev 14 rfl)) (mblk_at g gv n c k X xk q j W1 (HB _ HS1.chg) (HM _ HS1.chg) hl hm hk hxk hj) (.tuple #[.pointer (some ⟨xk.2.1, j * 32, none⟩), .int .i64 0])) fun _ HS4 _ H4 => wl_ <| p_ H4 rfl rfl fun _ H5 => wl_ <| i_ H5 rfl (v := .pointer (some ⟨xk.2.1, j * 32, none⟩)) (dd_ext rfl (H5.ev 11 rfl) rfl) fun _ H6 => wl_ <| i_ H6 rfl (v := .int .i64 0) (dd_ext rfl (H6.ev 11 rfl) rfl) fun _ H7 => q_ H7 2 rfl fun _ H8 => ?_
  clear HS HA0 H1 H2 H3 HS1 H4 H5 H6
  refine ln_ <| nx <| sq_ <| sq_ <| rl_ <| wl_ <| p_ H8 rfl rfl fun _ H9 => wl_ <| i_ H9 rfl (dd_cmp rfl (H9.ev 18 rfl) rfl (ne_f (by decide))) fun _ H10 => ln_ <| nx <| cf_ H10 rfl <| wp_skip <| nx <| sq_ <| rl_ <| wl_ <| p_ H10 rfl rfl fun _ H11 => wl_ <| i_ H11 rfl (v := .agg (bs d)) (dd_load HS4 1 0 rfl rfl (H11.ev 7 rfl) (slab_whole _) Try.underlying32 rfl (by rw [show (bs d).size = 32 from ((size_bs _).trans hd)]; kernel_rfl)) fun _ H12 => wl_ <| i_ H12 rfl (dd_nilc rfl (H12.ev 21 rfl)) fun _ H13 => wl_ <| t_ rfl (S := [⟨xk.2.1, 32, bs (spl Q (j * 32) d)⟩, ⟨g7, 32, bs d⟩]) (fun _ h => dd_store HS4 0 (j * 32) rfl rfl (H13.ev 23 rfl) (H13.ev 22 rfl) (by rw [show Value.cells (.agg (bs d)) = bs d from rfl, show (bs d).size = 32 from ((size_bs _).trans hd)]; kernel_rfl) (by rw [show (Value.agg (bs d)).cells.size = 32 from ((size_bs _).trans hd), show (bs Q).size = xk.2.2 * 32 from (size_bs _).trans hQ]; omega) (one_bs _) (spl_blk Q d (j * 32)) h) fun _ HS14 => ln_ <| ?_
  clear H7 H8 H9 H10 H11 H12 HS4
  have H15 := H13.sel [] rfl
  refine nx <| sq_ <| rl_ <| wl_ <| p_ H15 rfl rfl fun _ H16 => ln_ <| nx <| wp_ret <| ret_run H16.env0 (res_t Try.results14 (H16.get 8 rfl)) <| ?_
  clear H13 H15
  exact ⟨rfl, ss HS14 [0]⟩
end Go.Proofs.Ytefhenkdakokeaa

/- Rows handed to a call, the others staying, whatever the frame. No function of the program is named here. -/
set_option maxRecDepth 4000
namespace Go.Proofs.Ytefhenkdakokeaa
open Go Go.RowKit
theorem St.reframeF {F : Nat → Prop} {w0 w w' : World} {S1 S2 S1' : List Blk} (h : St w0 F (S1 ++ S2) w) (k : St w (inS S1) S1' w') : St w0 F (S1' ++ S2) w' := by
  have hw : ∀ j, inS S1 j → F j ∨ w0.heap.size ≤ j := fun j ⟨r, h1, h2⟩ => by
    obtain ⟨i, hi⟩ := List.getElem?_of_mem (List.mem_append_left S2 h1)
    exact h2 ▸ h.own i r hi
  have hap : ∀ (r s : Blk), r ∈ S1 → ∀ (j : Nat), S2[j]? = some s → r.g ≠ s.g := fun r s hr j hj => by
    obtain ⟨i, hi⟩ := List.getElem?_of_mem hr
    have hlt := (List.getElem?_eq_some_iff.1 hi).1
    exact h.apart i (S1.length + j) r s (by omega) (by rw [List.getElem?_append_left hlt]; exact hi) (by rw [List.getElem?_append_right (by omega), Nat.add_sub_cancel_left]; exact hj)
  have hS2 : ∀ (j : Nat) (s : Blk), S2[j]? = some s → ¬ inS S1 s.g ∧ s.g < w.heap.size ∧ (F s.g ∨ w0.heap.size ≤ s.g) ∧ Row w s.g s.t s.cs := fun j s hj => by
    have hi : (S1 ++ S2)[S1.length + j]? = some s := by rw [List.getElem?_append_right (by omega), Nat.add_sub_cancel_left]; exact hj
    exact ⟨fun ⟨r, h1, h2⟩ => hap r s h1 j hj h2, (h.rows _ _ hi).lt, h.own _ _ hi, h.rows _ _ hi⟩
  have hx : ∀ (i j : Nat) (r s : Blk), S1'[i]? = some r → S2[j]? = some s → r.g ≠ s.g := fun i j r s hi hj e => by
    obtain ⟨h1, h2, _⟩ := hS2 j s hj
    rcases k.own i r hi with hf | hf
    · exact h1 (e ▸ hf)
    · omega
  refine ⟨⟨k.chg.os.trans h.chg.os, k.chg.tape.trans h.chg.tape, k.chg.output.trans h.chg.output, Nat.le_trans h.chg.size k.chg.size, fun j hj hn => ?_⟩, fun i r hi => ?_, fun i j r s hij hi hj => ?_, fun i r hi => ?_⟩
  · exact (k.chg.block j (Nat.lt_of_lt_of_le hj h.chg.size) fun hf => (hw j hf).elim hn fun h9 => by omega).trans (h.chg.block j hj hn)
  · by_cases hlt : i < S1'.length
    · rw [List.getElem?_append_left hlt] at hi; exact k.rows i r hi
    · rw [List.getElem?_append_right (by omega)] at hi
      obtain ⟨h1, h2, _, h4⟩ := hS2 _ _ hi
      exact (k.chg.block r.g h2 h1).trans h4
  · by_cases hli : i < S1'.length <;> by_cases hlj : j < S1'.length
    · rw [List.getElem?_append_left hli] at hi; rw [List.getElem?_append_left hlj] at hj; exact k.apart i j r s hij hi hj
    · rw [List.getElem?_append_left hli] at hi; rw [List.getElem?_append_right (by omega)] at hj; exact hx _ _ _ _ hi hj
    · rw [List.getElem?_append_right (by omega)] at hi; rw [List.getElem?_append_left hlj] at hj; exact fun e => hx _ _ _ _ hj hi e.symm
    · rw [List.getElem?_append_right (by omega)] at hi hj
      exact h.apart (S1.length + (i - S1'.length)) (S1.length + (j - S1'.length)) r s (by omega) (by rw [List.getElem?_append_right (by omega), Nat.add_sub_cancel_left]; exact hi) (by rw [List.getElem?_append_right (by omega), Nat.add_sub_cancel_left]; exact hj)
  · by_cases hlt : i < S1'.length
    · rw [List.getElem?_append_left hlt] at hi
      rcases k.own i r hi with hf | hf
      · exact hw _ hf
      · exact .inr (Nat.le_trans h.chg.size hf)
    · rw [List.getElem?_append_right (by omega)] at hi
      exact (hS2 _ _ hi).2.2.1
end Go.Proofs.Ytefhenkdakokeaa

/- A tenant as it looks: Make, Gone. -/
set_option maxRecDepth 4000
namespace Go.Proofs.Ytefhenkdakokeaa
open Go Go.RowKit
theorem goodNs_1 (q : List (BitVec 8)) : goodNs [q] = goodN q := by unfold goodNs; simp
theorem mvL_take : ∀ (X : List Mv) (k : Nat), mvL (X.take k) = (mvL X).take (k * 2)
  | [], k => by simp [mvL]
  | y :: X, 0 => by simp [mvL]
  | y :: X, k + 1 => by
    have h := mvL_take X k
    unfold mvL at h ⊢
    have h2 : (mvC y).take ((k + 1) * 2) = mvC y := List.take_of_length_le (by show 2 ≤ _; omega)
    rw [List.take_succ_cons, List.flatMap_cons, List.flatMap_cons, h, List.take_append, h2, show (mvC y).length = 2 from rfl, show (k + 1) * 2 - 2 = k * 2 by omega]
theorem mvL_drop : ∀ (X : List Mv) (k : Nat), mvL (X.drop k) = (mvL X).drop (k * 2)
  | [], k => by simp [mvL]
  | y :: X, 0 => by simp [mvL]
  | y :: X, k + 1 => by
    have h := mvL_drop X k
    unfold mvL at h ⊢
    have h2 : (mvC y).drop ((k + 1) * 2) = [] := List.drop_of_length_le (by show 2 ≤ _; omega)
    rw [List.drop_succ_cons, List.flatMap_cons, h, List.drop_append, h2, show (mvC y).length = 2 from rfl, show (k + 1) * 2 - 2 = k * 2 by omega, List.nil_append]
theorem mvL_erase (X : List Mv) (i : Nat) : (mvL X).take (i * 2) ++ (mvL X).drop ((i + 1) * 2) = mvL (X.eraseIdx i) := by
  rw [List.eraseIdx_eq_take_drop_succ, mvL_app, mvL_take, mvL_drop]
theorem mv_put {X : List Mv} {cb : Array Value} {c n gb k : Nat} {q : List (BitVec 8)} (O : OwnC cb c n 2 (mvL X ++ [.string (strB q), .slice (some ⟨gb, 0, none⟩) k k])) : OwnC cb c n 2 (mvL (X ++ [(q, gb, k)])) := by
  rw [mvL_app, mvL_one]; exact O
theorem mv_put0 {cb : Array Value} {c n gb k : Nat} {q : List (BitVec 8)} (O : OwnC cb c n 2 [.string (strB q), .slice (some ⟨gb, 0, none⟩) k k]) : OwnC cb c n 2 (mvL ([] ++ [(q, gb, k)])) := by
  rw [List.nil_append, mvL_one]; exact O
theorem mmake_no (g : Nat) (A : Option Addr) (n c : Nat) (X : List Mv) (q : List (BitVec 8)) (z : Int) (w : World) (hr : Row w g 58 #[.slice A n c]) (h0 : MvAt w A n X) (hm : n ≤ 1000000) (hN : numM X ≤ 1000000) (hq : q.length ≤ maxLen) (hE : ¬ mmE X q z = 0) : Calls Try.prog 9 #[.pointer (some ⟨g, 0, none⟩), .string (strB q), .int .i64 z] w fun x w' => x = .returned (.int .i64 (mmE X q z)) ∧ Below w.heap.size w w' := by
  have hl := h0.len
  have HS := St.nil w noF
  have HB : ∀ W, Below w.heap.size w W → Row W g 58 #[.slice A n c] := fun W hb => hr.call hb
  have HX : ∀ W, Below w.heap.size w W → MvAt W A n X := fun W hb => h0.call hb
  refine enter_en Try.func9 rfl Try.ntmps9 (Nat.le_of_ble_eq_true rfl) fun a0 (HA0 : En 53 [(0, .pointer (some ⟨g, 0, none⟩)), (1, .string (strB q)), (2, .int .i64 z)] a0) => ?_
  refine sq_ <| rl_ <| wl_ <| p_ HA0 rfl rfl fun _ H1 => ln_ <| nx <| sq_ <| wp_block <| sq_ <| rl_ <| wl_ <| p_ H1 rfl rfl fun _ H2 => wl_ <| i_ H2 rfl (v := .bool false) (dd_eqp rfl (H2.ev 8 rfl) rfl Try.underlying25 rfl) fun _ H3 => wl_ <| p_ H3 rfl rfl fun _ H4 => ln_ <| nx <| cf_ H4 rfl <| sq_ <| rl_ <| wl_ <| p_ H4 rfl rfl fun _ H5 => wl_ <| n_ H5 rfl (fun _ h => dd_lits HS #[.string (strB q)] rfl (ps := [(0, .string (strB q))]) (pr1 (H5.ev 11 rfl) (pr0)) (z := .string (⟨#[]⟩)) (sz := 1) Try.underlying49 (by kernel_rfl) rfl rfl (by kernel_rfl) h) fun _ W6 HS6 _ H6 => ?_
  clear HA0 H1 H2 H3 H4 HS H5
  cases hb8 : goodN q
  ·
   refine wl_ <| c_ H6 rfl HS6 (v := .bool false) (dc_ Try.func23 rfl (args1 (H6.ev 12 rfl)) (good_any [q] _ W6 (strs_row (HS6.row 0 rfl) hq) (by unfold maxLen; simp)) (fun _ w9 h9 => ⟨_, h9.1, by rw [goodNs_1, hb8], h9.2⟩)) fun _ HS9 _ H9 => wl_ <| i_ H9 rfl (v := .bool true) (dd_nt rfl (H9.ev 13 rfl) rfl) fun _ H10 => wl_ <| p_ H10 rfl rfl fun _ H11 => ln_ <| nx <| ct_ H11 rfl <| sq_ <| rl_ <| wl_ <| p_ H11 rfl rfl fun _ H12 => ln_ <| nx <| wp_ret <| br_ <| tr <| ret_run H12.env0 (res_t Try.results9 (H12.get 6 rfl)) <| ?_
   clear H6 HS6 H9 H10 H11
   exact ⟨by rw [mm_11 hb8], HS9.below⟩
  refine wl_ <| c_ H6 rfl HS6 (v := .bool true) (dc_ Try.func23 rfl (args1 (H6.ev 12 rfl)) (good_any [q] _ W6 (strs_row (HS6.row 0 rfl) hq) (by unfold maxLen; simp)) (fun _ w9 h9 => ⟨_, h9.1, by rw [goodNs_1, hb8], h9.2⟩)) fun W13 HS13 _ H13 => wl_ <| i_ H13 rfl (v := .bool false) (dd_nt rfl (H13.ev 13 rfl) rfl) fun _ H14 => wl_ <| p_ H14 rfl rfl fun _ H15 => ln_ <| nx <| cf_ H15 rfl <| sq_ <| rl_ <| q_ H15 2 rfl fun _ H16 => wl_ <| c_ H16 rfl HS13 (dcs Try.func24 rfl (args2 (H16.ev 16 rfl) (H16.ev 17 rfl)) (mfind_any g _ _ _ X q W13 (HB _ HS13.below) (HX _ HS13.below) (by omega)) (.int .i64 (findI q (tvs X)))) fun W17 HS17 _ H17 => ?_
  clear H6 HS6 H13 H14 H15 H16 HS13
  by_cases hc19 : (0 : Int) ≤ findI q (tvs X)
  ·
   refine wl_ <| i_ H17 rfl (dd_cmp rfl (H17.ev 18 rfl) rfl (ge_t hc19)) fun _ H20 => wl_ <| p_ H20 rfl rfl fun _ H21 => ln_ <| nx <| ct_ H21 rfl <| sq_ <| rl_ <| wl_ <| p_ H21 rfl rfl fun _ H22 => ln_ <| ?_
   clear H17 H20 H21
   have H23 := H22.sel [6] rfl
   refine nx <| wp_ret <| br_ <| tr <| ret_run H23.env0 (res_t Try.results9 (H23.get 6 rfl)) <| ?_
   clear H22
   exact ⟨by rw [mm_16 hb8 hc19], HS17.below⟩
  refine wl_ <| i_ H17 rfl (dd_cmp rfl (H17.ev 18 rfl) rfl (ge_f hc19)) fun _ H24 => wl_ <| p_ H24 rfl rfl fun _ H25 => ln_ <| nx <| cf_ H25 rfl <| sq_ <| rl_ <| wl_ <| p_ H25 rfl rfl fun _ H26 => ?_
  clear H17 H24 H25
  by_cases hc28 : (z : Int) < 1
  ·
   refine wl_ <| i_ H26 rfl (dd_cmp rfl (H26.ev 21 rfl) rfl (lt_t hc28)) fun _ H29 => wl_ <| p_ H29 rfl rfl fun _ H30 => wl_ <| k_ H30 (wg_ H30 rfl rfl rfl rfl) rfl fun _ H31 => wl_ <| k_ H31 (wg_ H31 rfl rfl rfl rfl) rfl fun _ H32 => q_ H32 2 rfl fun _ H33 => ln_ <| ?_
   clear H26 H29 H30 H31 H32
   have H34 := H33.sel [2, 1, 0, 20] rfl
   refine nx <| ct_ H34 rfl <| sq_ <| rl_ <| wl_ <| p_ H34 rfl rfl fun _ H35 => ln_ <| nx <| wp_ret <| br_ <| tr <| ret_run H35.env0 (res_t Try.results9 (H35.get 6 rfl)) <| ?_
   clear H33 H34
   exact ⟨by rw [mm_17 hb8 hc19 (by omega)], HS17.below⟩
  refine wl_ <| i_ H26 rfl (dd_cmp rfl (H26.ev 21 rfl) rfl (lt_f hc28)) fun _ H36 => wl_ <| p_ H36 rfl rfl fun _ H37 => wl_ <| ig H37 (wg_ H37 rfl rfl rfl rfl) rfl (dd_mv rfl (H37.ev 2 rfl)) fun _ H38 => ?_
  clear H26 H36 H37
  by_cases hc40 : (4 : Int) < z
  ·
   refine wl_ <| ig H38 (wg_ H38 rfl rfl rfl rfl) rfl (dd_cmp rfl (H38.ev 24 rfl) rfl (gt_t hc40)) fun _ H41 => q_ H41 2 rfl fun _ H42 => ln_ <| ?_
   clear H38 H41
   have H43 := H42.sel [2, 1, 0, 20] rfl
   refine nx <| ct_ H43 rfl <| sq_ <| rl_ <| wl_ <| p_ H43 rfl rfl fun _ H44 => ln_ <| nx <| wp_ret <| br_ <| tr <| ret_run H44.env0 (res_t Try.results9 (H44.get 6 rfl)) <| ?_
   clear H42 H43
   exact ⟨by rw [mm_17 hb8 hc19 (by omega)], HS17.below⟩
  refine wl_ <| ig H38 (wg_ H38 rfl rfl rfl rfl) rfl (dd_cmp rfl (H38.ev 24 rfl) rfl (gt_f hc40)) fun _ H45 => q_ H45 2 rfl fun _ H46 => ln_ <| ?_
  clear H38 H45
  have H47 := H46.sel [2, 1, 0, 20] rfl
  refine nx <| cf_ H47 rfl <| sq_ <| rl_ <| wl_ <| p_ H47 rfl rfl fun _ H48 => wl_ <| i_ H48 rfl (dd_nilc rfl (H48.ev 28 rfl)) fun _ H49 => wl_ <| i_ H49 rfl (xf 0 0 rfl (H49.ev 29 rfl)) fun _ H50 => wl_ <| i_ H50 rfl (dd_getR (HB _ HS17.below) rfl (H50.ev 30 rfl) rfl Try.underlying56 rfl) fun _ H51 => wl_ <| i_ H51 rfl (v := .int .i64 n) (dd_len rfl (H51.ev 31 rfl) Try.underlying56) fun _ H52 => ?_
  clear H46 H47 H48 H49 H50 H51
  by_cases hc54 : (3 : Int) ≤ n
  ·
   refine wl_ <| i_ H52 rfl (dd_cmp rfl (H52.ev 32 rfl) rfl (ge_t hc54)) fun _ H55 => wl_ <| p_ H55 rfl rfl fun _ H56 => wl_ <| k_ H56 (wg_ H56 rfl rfl rfl rfl) rfl fun _ H57 => wl_ <| k_ H57 (wg_ H57 rfl rfl rfl rfl) rfl fun _ H58 => wl_ <| k_ H58 (wg_ H58 rfl rfl rfl rfl) rfl fun _ H59 => wl_ <| k_ H59 (wg_ H59 rfl rfl rfl rfl) rfl fun _ H60 => q_ H60 2 rfl fun _ H61 => ln_ <| nx <| ct_ H61 rfl <| sq_ <| rl_ <| wl_ <| p_ H61 rfl rfl fun _ H62 => ?_
   clear H52 H55 H56 H57 H58 H59 H60
   refine ln_ <| ?_
   clear H61
   have H63 := H62.sel [6] rfl
   refine nx <| wp_ret <| br_ <| tr <| ret_run H63.env0 (res_t Try.results9 (H63.get 6 rfl)) <| ?_
   clear H62
   exact ⟨by rw [mm_18 hb8 hc19 (by omega) (by omega)], HS17.below⟩
  refine wl_ <| i_ H52 rfl (dd_cmp rfl (H52.ev 32 rfl) rfl (ge_f hc54)) fun _ H64 => wl_ <| p_ H64 rfl rfl fun _ H65 => wl_ <| ig H65 (wg_ H65 rfl rfl rfl rfl) rfl (dd_mv rfl (H65.ev 2 rfl)) fun _ H66 => wl_ <| ig H66 (wg_ H66 rfl rfl rfl rfl) rfl (dd_mv rfl (H66.ev 0 rfl)) fun _ H67 => wl_ <| cg H67 (wg_ H67 rfl rfl rfl rfl) rfl HS17 (dcs Try.func19 rfl (args1 (H67.ev 36 rfl)) (mfree_any g _ _ _ X W17 (HB _ HS17.below) (HX _ HS17.below) (by omega) (by omega)) (.int .i64 (11 - (numM X : Int)))) fun _ HS68 _ H68 => ?_
  clear H52 H64 H65 H66 H67 HS17
  by_cases hc70 : (11 - (numM X : Int) : Int) < z
  ·
   refine wl_ <| ig H68 (wg_ H68 rfl rfl rfl rfl) rfl (dd_cmp rfl (H68.ev 35 rfl) (H68.ev 37 rfl) (gt_t hc70)) fun _ H71 => q_ H71 2 rfl fun _ H72 => ln_ <| nx <| ct_ H72 rfl <| sq_ <| rl_ <| wl_ <| p_ H72 rfl rfl fun _ H73 => ln_ <| ?_
   clear H68 H71 H72
   have H74 := H73.sel [6] rfl
   refine nx <| wp_ret <| br_ <| tr <| ret_run H74.env0 (res_t Try.results9 (H74.get 6 rfl)) <| ?_
   clear H73
   exact ⟨by rw [mm_18 hb8 hc19 (by omega) (by omega)], HS68.below⟩
  refine wl_ <| ig H68 (wg_ H68 rfl rfl rfl rfl) rfl (dd_cmp rfl (H68.ev 35 rfl) (H68.ev 37 rfl) (gt_f hc70)) fun _ H75 => q_ H75 2 rfl fun _ H76 => ln_ <| nx <| cf_ H76 rfl <| wp_skip <| bn <| nx <| sq_ <| ?_
  clear H68 H75
  exact absurd (mm_0 hb8 hc19 (by omega) (by omega)) hE
theorem mmake_own (F : Nat → Prop) (g gv n c k : Nat) (cb : Array Value) (X : List Mv) (q : List (BitVec 8)) (w : World) (HS : St w F [⟨g, 58, #[.slice (some ⟨gv, 0, none⟩) n c]⟩, ⟨gv, 61, cb⟩] w) (O : OwnC cb c n 2 (mvL X)) (hq : q.length ≤ maxLen) (hE : mmE X q k = 0) :
    Calls Try.prog 9 #[.pointer (some ⟨g, 0, none⟩), .string (strB q), .int .i64 k] w fun x w' => ∃ gv' c' cb' gb, x = .returned (.int .i64 0) ∧ OwnC cb' c' (n + 1) 2 (mvL (X ++ [(q, gb, k)])) ∧ St w F [⟨g, 58, #[.slice (some ⟨gv', 0, none⟩) (n + 1) c']⟩, ⟨gv', 61, cb'⟩, ⟨gb, 32, bs (zer (k * 32))⟩] w' := by
  obtain ⟨hGd, hFd, h1, h4, h2, hN⟩ := mm_of0 hE
  have hl : X.length = n := by have := O.len; rw [len_mvL] at this; omega
  refine enter_en Try.func9 rfl Try.ntmps9 (Nat.le_of_ble_eq_true rfl) fun a0 (HA0 : En 53 [(0, .pointer (some ⟨g, 0, none⟩)), (1, .string (strB q)), (2, .int .i64 k)] a0) => ?_
  refine sq_ <| rl_ <| wl_ <| p_ HA0 rfl rfl fun _ H1 => ln_ <| nx <| sq_ <| wp_block <| sq_ <| rl_ <| wl_ <| p_ H1 rfl rfl fun _ H2 => wl_ <| i_ H2 rfl (v := .bool false) (dd_eqp rfl (H2.ev 8 rfl) rfl Try.underlying25 rfl) fun _ H3 => wl_ <| p_ H3 rfl rfl fun _ H4 => ln_ <| nx <| cf_ H4 rfl <| sq_ <| rl_ <| wl_ <| p_ H4 rfl rfl fun _ H5 => wl_ <| n_ H5 rfl (fun _ h => dd_lits HS #[.string (strB q)] rfl (ps := [(0, .string (strB q))]) (pr1 (H5.ev 11 rfl) (pr0)) (z := .string (⟨#[]⟩)) (sz := 1) Try.underlying49 (by kernel_rfl) rfl rfl (by kernel_rfl) h) fun g12 W6 HS6 _ H6 => wl_ <| c_ H6 rfl HS6 (v := .bool true) (dc_ Try.func23 rfl (args1 (H6.ev 12 rfl)) (good_any [q] _ W6 (strs_row (HS6.row 2 rfl) hq) (by unfold maxLen; simp)) (fun _ w9 h9 => ⟨_, h9.1, by rw [goodNs_1, hGd], h9.2⟩)) fun W7 HS7 _ H7 => wl_ <| i_ H7 rfl (v := .bool false) (dd_nt rfl (H7.ev 13 rfl) rfl) fun _ H8 => ?_
  clear HA0 H1 H2 H3 H4 HS H5 H6 HS6
  refine wl_ <| p_ H8 rfl rfl fun a9 H9 => ln_ <| nx <| cf_ H9 rfl <| sq_ <| rl_ <| q_ H9 2 rfl fun _ H10 => wl_ <| c_ H10 rfl HS7 (dcs Try.func24 rfl (args2 (H10.ev 16 rfl) (H10.ev 17 rfl)) (mfind_any g _ _ _ X q W7 (HS7.row 0 rfl) (mvat_own (HS7.row 1 rfl) O) (by omega)) (.int .i64 (findI q (tvs X)))) fun W11 HS11 _ H11 => wl_ <| i_ H11 rfl (dd_cmp rfl (H11.ev 18 rfl) rfl (ge_f hFd)) fun _ H12 => wl_ <| p_ H12 rfl rfl fun _ H13 => ln_ <| nx <| cf_ H13 rfl <| sq_ <| rl_ <| wl_ <| p_ H13 rfl rfl fun _ H14 => wl_ <| i_ H14 rfl (dd_cmp rfl (H14.ev 21 rfl) rfl (lt_f (by omega))) fun _ H15 => wl_ <| p_ H15 rfl rfl fun _ H16 => ?_
  clear H7 H8 H9 H10 HS7 H11 H12 H13 H14
  refine wl_ <| ig H16 (wg_ H16 rfl rfl rfl rfl) rfl (dd_mv rfl (H16.ev 2 rfl)) fun _ H17 => wl_ <| ig H17 (wg_ H17 rfl rfl rfl rfl) rfl (dd_cmp rfl (H17.ev 24 rfl) rfl (gt_f (by omega))) fun _ H18 => q_ H18 2 rfl fun _ H19 => ln_ <| ?_
  clear H15 H16 H17 H18
  have H20 := H19.sel [2, 1, 0, 20] rfl
  refine nx <| cf_ H20 rfl <| sq_ <| rl_ <| wl_ <| p_ H20 rfl rfl fun _ H21 => wl_ <| i_ H21 rfl (dd_nilc rfl (H21.ev 28 rfl)) fun _ H22 => wl_ <| i_ H22 rfl (xf 0 0 rfl (H22.ev 29 rfl)) fun _ H23 => wl_ <| i_ H23 rfl (dd_get HS11 0 0 rfl rfl (H23.ev 30 rfl) rfl Try.underlying56 rfl) fun _ H24 => wl_ <| i_ H24 rfl (v := .int .i64 n) (dd_len rfl (H24.ev 31 rfl) Try.underlying56) fun _ H25 => wl_ <| i_ H25 rfl (dd_cmp rfl (H25.ev 32 rfl) rfl (ge_f (by omega))) fun _ H26 => wl_ <| p_ H26 rfl rfl fun _ H27 => wl_ <| ig H27 (wg_ H27 rfl rfl rfl rfl) rfl (dd_mv rfl (H27.ev 2 rfl)) fun _ H28 => ?_
  clear H19 H20 H21 H22 H23 H24 H25 H26
  refine wl_ <| ig H28 (wg_ H28 rfl rfl rfl rfl) rfl (dd_mv rfl (H28.ev 0 rfl)) fun _ H29 => wl_ <| cg H29 (wg_ H29 rfl rfl rfl rfl) rfl HS11 (dcs Try.func19 rfl (args1 (H29.ev 36 rfl)) (mfree_any g _ _ _ X W11 (HS11.row 0 rfl) (mvat_own (HS11.row 1 rfl) O) (by omega) (by omega)) (.int .i64 (11 - (numM X : Int)))) fun _ HS30 _ H30 => wl_ <| ig H30 (wg_ H30 rfl rfl rfl rfl) rfl (dd_cmp rfl (H30.ev 35 rfl) (H30.ev 37 rfl) (gt_f (by omega))) fun _ H31 => q_ H31 2 rfl fun _ H32 => ln_ <| nx <| cf_ H32 rfl <| wp_skip <| bn <| nx <| sq_ <| ?_
  clear H27 H28 H29 HS11 H30 H31
  refine wp_cut (fun a9 w9 => ∃ g50_48 : Nat, ∃ c50_48 : Nat, ∃ g47 : Nat, ∃ g49 : Nat, ∃ cb50_48 : Array Value, OwnC cb50_48 c50_48 (n + 1) 2 ((mvL X) ++ [.string (strB q), .slice (some ⟨g47, 0, none⟩) k k]) ∧ En 53 [] a9 ∧ St w F [⟨g, 58, #[.slice (some ⟨g50_48, 0, none⟩) (n + 1) c50_48]⟩, ⟨g12, 9, #[.string (strB q)]⟩, ⟨g47, 32, bs (zer (k * 32))⟩, ⟨g49, 61, #[.string (strB q), .slice (some ⟨g47, 0, none⟩) k k]⟩, ⟨g50_48, 61, cb50_48⟩] w9) ?_ ?_
  ·
   refine wi_ HS30 [2] rfl [2, 0, 1] rfl fun HSh33 hx33 => hp_ H32 0 hx33 rfl rfl rfl fun _ H34 => hp_ H34 1 hx33 rfl rfl rfl fun _ H35 => ht_ H35 2 hx33 rfl rfl (fun _ _ _ => dd_nilc rfl (H35.ev 41 rfl)) fun _ H36 => ht_ H36 3 hx33 rfl rfl (fun _ _ _ => xf 0 0 rfl (H36.ev 42 rfl)) fun _ H37 => hp_ H37 5 hx33 rfl rfl rfl fun _ H38 => hp_ H38 6 hx33 rfl rfl rfl fun _ H39 => ?_
   clear HS30 H32 H34 H35 H36 H37 H38
   refine wpAnyH_all (rs := [4, 7]) (by kernel_rfl) (by decide) (hm_cons ?_ (hm_cons ?_ hm_nil))
   ·
    refine ho_ rfl <| i_ H39 rfl (dd_get HSh33 0 0 rfl rfl (H39.ev 43 rfl) rfl Try.underlying56 rfl) fun _ H40 => sx_ (sxi HSh33 [2, 0, 1] rfl) fun hx41 => h1_ 7 rfl <| n_ H40 rfl (A := fun g47 => .slice (some ⟨g47, 0, none⟩) k k) (fun _ h => dd_mk HSh33 rfl (H40.ev 46 rfl) (H40.ev 46 rfl) (z := .agg (bs (zer 32))) (sz := 32) (bytes := 32) (cs := bs (zer (k * 32))) Try.underlying43 (by kernel_rfl) (Nat.le_refl _) (by omega) (by omega) (made_blk k (by omega)) h) fun g47 _ HS42 _ H42 => sx_ (sxi HS42 [2, 0, 1, 3] rfl) fun hx43 => ht_ H42 8 hx43 rfl rfl (v := .agg #[.string (strB q), .slice (some ⟨g47, 0, none⟩) k k]) (fun _ _ _ => dd_bld rfl (ps := [(0, .string (strB q)), (1, .slice (some ⟨g47, 0, none⟩) k k)]) (pr1 (H42.ev 45 rfl) (pr1 (H42.ev 47 rfl) (pr0))) (Lz := [[.string (⟨#[]⟩)], [.slice none 0 0]]) (by kernel_rfl) (lens_cons rfl (lens_cons rfl (lens_nil))) (fit_cons (i := 0) rfl rfl (fit_cons (i := 1) rfl rfl (fit_nil))) (cs := #[.string (strB q), .slice (some ⟨g47, 0, none⟩) k k]) rfl) fun _ H44 => h1_ 9 rfl <| n_ H44 rfl (fun _ h => dd_lits HS42 #[.string (strB q), .slice (some ⟨g47, 0, none⟩) k k] rfl (ps := [(0, .agg #[.string (strB q), .slice (some ⟨g47, 0, none⟩) k k])]) (pr1 (H44.ev 48 rfl) (pr0)) (z := .agg #[.string (⟨#[]⟩), .slice none 0 0]) (sz := 2) Try.underlying56 (by kernel_rfl) rfl rfl (by kernel_rfl) h) fun g49 _ HS45 _ H45 => sx_ (sxi HS45 [2, 0, 1, 3, 4] rfl) fun hx46 => h1_ 10 rfl <| a_ H45 rfl (S := fun g50_48 cb50_48 => [⟨g, 58, #[.slice (some ⟨gv, 0, none⟩) n c]⟩, ⟨g12, 9, #[.string (strB q)]⟩, ⟨g47, 32, bs (zer (k * 32))⟩, ⟨g49, 61, #[.string (strB q), .slice (some ⟨g47, 0, none⟩) k k]⟩, ⟨g50_48, 61, cb50_48⟩]) (fun g50_48 c50_48 => .slice (some ⟨g50_48, 0, none⟩) (n + 1) c50_48) (T := fun _ c50_48 cb50_48 => OwnC cb50_48 c50_48 (n + 1) 2 ((mvL X) ++ [.string (strB q), .slice (some ⟨g47, 0, none⟩) k k])) (fun _ h => dd_app HS45 1 rfl O rfl (H45.ev 44 rfl) (z := .agg #[.string (⟨#[]⟩), .slice none 0 0]) (bytes := 40) Try.underlying56 (by kernel_rfl) rfl (by decide) ([.string (strB q), .slice (some ⟨g47, 0, none⟩) k k]) (H45.ev 49 rfl) rfl (row_news (HS45.row 4 rfl) 0 (slab_whole _)) (ao_cons rfl (ao_cons rfl ao_nil)) (by unfold maxLen; omega) (by omega) h) fun g50_48 c50_48 cb50_48 _ O50_48 HS47 _ H47 => ?_
    clear H39 HSh33 H40 hx41 H42 HS42 H44 hx43
    refine sx_ (sxi HS47 [1, 0, 2, 3, 4] rfl) fun hx49 => ht_ H47 11 hx49 rfl rfl (fun _ _ _ => dd_nilc rfl (H47.ev 40 rfl)) fun _ H50 => ht_ H50 12 hx49 rfl rfl (fun _ _ _ => xf 0 0 rfl (H50.ev 51 rfl)) fun _ H51 => h1_ 13 rfl <| t_ rfl (fun _ h => dd_put (cs := #[.slice (some ⟨g50_48, 0, none⟩) (n + 1) c50_48]) HS47 0 0 rfl rfl (H51.ev 52 rfl) (H51.ev 50 rfl) (by kernel_rfl) rfl rfl rfl rfl h) fun _ HS52 => sx_ (sxi HS52 [1, 0, 2, 3, 4] rfl) fun hx53 => ?_
    clear HS45 H45 hx46 H47 H50 HS47 hx49
    refine wpAnyH_done (by kernel_rfl) ?_ _
    clear hx53
    exact nx ⟨g50_48, c50_48, g47, _, cb50_48, O50_48, H51.sel [] rfl, ss HS52 [0, 1, 2, 3, 4]⟩
   refine ho_ rfl <| n_ H39 rfl (A := fun g47 => .slice (some ⟨g47, 0, none⟩) k k) (fun _ h => dd_mk HSh33 rfl (H39.ev 46 rfl) (H39.ev 46 rfl) (z := .agg (bs (zer 32))) (sz := 32) (bytes := 32) (cs := bs (zer (k * 32))) Try.underlying43 (by kernel_rfl) (Nat.le_refl _) (by omega) (by omega) (made_blk k (by omega)) h) fun g47 _ HS54 _ H54 => sx_ (sxi HS54 [2, 0, 1, 3] rfl) fun hx55 => ht_ H54 8 hx55 rfl rfl (v := .agg #[.string (strB q), .slice (some ⟨g47, 0, none⟩) k k]) (fun _ _ _ => dd_bld rfl (ps := [(0, .string (strB q)), (1, .slice (some ⟨g47, 0, none⟩) k k)]) (pr1 (H54.ev 45 rfl) (pr1 (H54.ev 47 rfl) (pr0))) (Lz := [[.string (⟨#[]⟩)], [.slice none 0 0]]) (by kernel_rfl) (lens_cons rfl (lens_cons rfl (lens_nil))) (fit_cons (i := 0) rfl rfl (fit_cons (i := 1) rfl rfl (fit_nil))) (cs := #[.string (strB q), .slice (some ⟨g47, 0, none⟩) k k]) rfl) fun _ H56 => ?_
   clear HSh33 H39 H54
   refine wpAnyH_all (rs := [4, 9]) (by kernel_rfl) (by decide) (hm_cons ?_ (hm_cons ?_ hm_nil))
   ·
    refine ho_ rfl <| i_ H56 rfl (dd_get HS54 0 0 rfl rfl (H56.ev 43 rfl) rfl Try.underlying56 rfl) fun _ H57 => sx_ (sxi HS54 [2, 0, 1, 3] rfl) fun hx58 => h1_ 9 rfl <| n_ H57 rfl (fun _ h => dd_lits HS54 #[.string (strB q), .slice (some ⟨g47, 0, none⟩) k k] rfl (ps := [(0, .agg #[.string (strB q), .slice (some ⟨g47, 0, none⟩) k k])]) (pr1 (H57.ev 48 rfl) (pr0)) (z := .agg #[.string (⟨#[]⟩), .slice none 0 0]) (sz := 2) Try.underlying56 (by kernel_rfl) rfl rfl (by kernel_rfl) h) fun g49 _ HS59 _ H59 => sx_ (sxi HS59 [2, 0, 1, 3, 4] rfl) fun hx60 => h1_ 10 rfl <| a_ H59 rfl (S := fun g50_62 cb50_62 => [⟨g, 58, #[.slice (some ⟨gv, 0, none⟩) n c]⟩, ⟨g12, 9, #[.string (strB q)]⟩, ⟨g47, 32, bs (zer (k * 32))⟩, ⟨g49, 61, #[.string (strB q), .slice (some ⟨g47, 0, none⟩) k k]⟩, ⟨g50_62, 61, cb50_62⟩]) (fun g50_62 c50_62 => .slice (some ⟨g50_62, 0, none⟩) (n + 1) c50_62) (T := fun _ c50_62 cb50_62 => OwnC cb50_62 c50_62 (n + 1) 2 ((mvL X) ++ [.string (strB q), .slice (some ⟨g47, 0, none⟩) k k])) (fun _ h => dd_app HS59 1 rfl O rfl (H59.ev 44 rfl) (z := .agg #[.string (⟨#[]⟩), .slice none 0 0]) (bytes := 40) Try.underlying56 (by kernel_rfl) rfl (by decide) ([.string (strB q), .slice (some ⟨g47, 0, none⟩) k k]) (H59.ev 49 rfl) rfl (row_news (HS59.row 4 rfl) 0 (slab_whole _)) (ao_cons rfl (ao_cons rfl ao_nil)) (by unfold maxLen; omega) (by omega) h) fun g50_62 c50_62 cb50_62 _ O50_62 HS61 _ H61 => sx_ (sxi HS61 [1, 0, 2, 3, 4] rfl) fun hx63 => ht_ H61 11 hx63 rfl rfl (fun _ _ _ => dd_nilc rfl (H61.ev 40 rfl)) fun _ H64 => ht_ H64 12 hx63 rfl rfl (fun _ _ _ => xf 0 0 rfl (H64.ev 51 rfl)) fun _ H65 => ?_
    clear H56 HS54 H57 hx58 HS59 H59 hx60 H61
    refine h1_ 13 rfl <| t_ rfl (fun _ h => dd_put (cs := #[.slice (some ⟨g50_62, 0, none⟩) (n + 1) c50_62]) HS61 0 0 rfl rfl (H65.ev 52 rfl) (H65.ev 50 rfl) (by kernel_rfl) rfl rfl rfl rfl h) fun _ HS66 => sx_ (sxi HS66 [1, 0, 2, 3, 4] rfl) fun hx67 => ?_
    clear H64 HS61 hx63
    refine wpAnyH_done (by kernel_rfl) ?_ _
    clear hx67
    exact nx ⟨g50_62, c50_62, g47, _, cb50_62, O50_62, H65.sel [] rfl, ss HS66 [0, 1, 2, 3, 4]⟩
   refine ho_ rfl <| n_ H56 rfl (fun _ h => dd_lits HS54 #[.string (strB q), .slice (some ⟨g47, 0, none⟩) k k] rfl (ps := [(0, .agg #[.string (strB q), .slice (some ⟨g47, 0, none⟩) k k])]) (pr1 (H56.ev 48 rfl) (pr0)) (z := .agg #[.string (⟨#[]⟩), .slice none 0 0]) (sz := 2) Try.underlying56 (by kernel_rfl) rfl rfl (by kernel_rfl) h) fun g49 _ HS68 _ H68 => sx_ (sxi HS68 [2, 0, 1, 3, 4] rfl) fun hx69 => h1_ 4 rfl <| i_ H68 rfl (dd_get HS68 0 0 rfl rfl (H68.ev 43 rfl) rfl Try.underlying56 rfl) fun _ H70 => sx_ (sxi HS68 [2, 0, 1, 3, 4] rfl) fun hx71 => h1_ 10 rfl <| a_ H70 rfl (S := fun g50_73 cb50_73 => [⟨g, 58, #[.slice (some ⟨gv, 0, none⟩) n c]⟩, ⟨g12, 9, #[.string (strB q)]⟩, ⟨g47, 32, bs (zer (k * 32))⟩, ⟨g49, 61, #[.string (strB q), .slice (some ⟨g47, 0, none⟩) k k]⟩, ⟨g50_73, 61, cb50_73⟩]) (fun g50_73 c50_73 => .slice (some ⟨g50_73, 0, none⟩) (n + 1) c50_73) (T := fun _ c50_73 cb50_73 => OwnC cb50_73 c50_73 (n + 1) 2 ((mvL X) ++ [.string (strB q), .slice (some ⟨g47, 0, none⟩) k k])) (fun _ h => dd_app HS68 1 rfl O rfl (H70.ev 44 rfl) (z := .agg #[.string (⟨#[]⟩), .slice none 0 0]) (bytes := 40) Try.underlying56 (by kernel_rfl) rfl (by decide) ([.string (strB q), .slice (some ⟨g47, 0, none⟩) k k]) (H70.ev 49 rfl) rfl (row_news (HS68.row 4 rfl) 0 (slab_whole _)) (ao_cons rfl (ao_cons rfl ao_nil)) (by unfold maxLen; omega) (by omega) h) fun g50_73 c50_73 cb50_73 _ O50_73 HS72 _ H72 => sx_ (sxi HS72 [1, 0, 2, 3, 4] rfl) fun hx74 => ht_ H72 11 hx74 rfl rfl (fun _ _ _ => dd_nilc rfl (H72.ev 40 rfl)) fun _ H75 => ht_ H75 12 hx74 rfl rfl (fun _ _ _ => xf 0 0 rfl (H75.ev 51 rfl)) fun _ H76 => ?_
   clear HS54 H56 H68 hx69 HS68 H70 hx71 H72
   refine h1_ 13 rfl <| t_ rfl (fun _ h => dd_put (cs := #[.slice (some ⟨g50_73, 0, none⟩) (n + 1) c50_73]) HS72 0 0 rfl rfl (H76.ev 52 rfl) (H76.ev 50 rfl) (by kernel_rfl) rfl rfl rfl rfl h) fun _ HS77 => sx_ (sxi HS77 [1, 0, 2, 3, 4] rfl) fun hx78 => ?_
   clear H75 HS72 hx74
   refine wpAnyH_done (by kernel_rfl) ?_ _
   clear hx78
   exact nx ⟨g50_73, c50_73, g47, _, cb50_73, O50_73, H76.sel [] rfl, ss HS77 [0, 1, 2, 3, 4]⟩
  rintro aj33 wj33 ⟨g50_48, c50_48, g47, g49, cb50_48, O50_48, Hj33, HSj33⟩
  refine nx <| sq_ <| rl_ <| wl_ <| p_ Hj33 rfl rfl fun _ H80 => ln_ <| nx <| wp_ret <| ret_run H80.env0 (res_t Try.results9 (H80.get 6 rfl)) <| ?_
  clear Hj33
  exact ⟨g50_48, c50_48, cb50_48, g47, rfl, mv_put O50_48, ss HSj33 [0, 4, 2]⟩
theorem mmake_first (F : Nat → Prop) (g k : Nat) (q : List (BitVec 8)) (w : World) (HS : St w F [⟨g, 58, #[.slice none 0 0]⟩] w) (hq : q.length ≤ maxLen) (hE : mmE [] q k = 0) :
    Calls Try.prog 9 #[.pointer (some ⟨g, 0, none⟩), .string (strB q), .int .i64 k] w fun x w' => ∃ gv' c' cb' gb, x = .returned (.int .i64 0) ∧ OwnC cb' c' (1) 2 (mvL ([] ++ [(q, gb, k)])) ∧ St w F [⟨g, 58, #[.slice (some ⟨gv', 0, none⟩) (1) c']⟩, ⟨gv', 61, cb'⟩, ⟨gb, 32, bs (zer (k * 32))⟩] w' := by
  obtain ⟨hGd, hFd, h1, h4, _, hN⟩ := mm_of0 hE
  refine enter_en Try.func9 rfl Try.ntmps9 (Nat.le_of_ble_eq_true rfl) fun a0 (HA0 : En 53 [(0, .pointer (some ⟨g, 0, none⟩)), (1, .string (strB q)), (2, .int .i64 k)] a0) => ?_
  refine sq_ <| rl_ <| wl_ <| p_ HA0 rfl rfl fun _ H1 => ln_ <| nx <| sq_ <| wp_block <| sq_ <| rl_ <| wl_ <| p_ H1 rfl rfl fun _ H2 => wl_ <| i_ H2 rfl (v := .bool false) (dd_eqp rfl (H2.ev 8 rfl) rfl Try.underlying25 rfl) fun _ H3 => wl_ <| p_ H3 rfl rfl fun _ H4 => ln_ <| nx <| cf_ H4 rfl <| sq_ <| rl_ <| wl_ <| p_ H4 rfl rfl fun _ H5 => wl_ <| n_ H5 rfl (fun _ h => dd_lits HS #[.string (strB q)] rfl (ps := [(0, .string (strB q))]) (pr1 (H5.ev 11 rfl) (pr0)) (z := .string (⟨#[]⟩)) (sz := 1) Try.underlying49 (by kernel_rfl) rfl rfl (by kernel_rfl) h) fun g12 W6 HS6 _ H6 => wl_ <| c_ H6 rfl HS6 (v := .bool true) (dc_ Try.func23 rfl (args1 (H6.ev 12 rfl)) (good_any [q] _ W6 (strs_row (HS6.row 1 rfl) hq) (by unfold maxLen; simp)) (fun _ w9 h9 => ⟨_, h9.1, by rw [goodNs_1, hGd], h9.2⟩)) fun W7 HS7 _ H7 => wl_ <| i_ H7 rfl (v := .bool false) (dd_nt rfl (H7.ev 13 rfl) rfl) fun _ H8 => ?_
  clear HA0 H1 H2 H3 H4 HS H5 H6 HS6
  refine wl_ <| p_ H8 rfl rfl fun a9 H9 => ln_ <| nx <| cf_ H9 rfl <| sq_ <| rl_ <| q_ H9 2 rfl fun _ H10 => wl_ <| c_ H10 rfl HS7 (dcs Try.func24 rfl (args2 (H10.ev 16 rfl) (H10.ev 17 rfl)) (mfind_any g _ _ _ ([]) q W7 (HS7.row 0 rfl) (mvat_nil _ none) (by omega)) (.int .i64 (findI q (tvs ([]))))) fun W11 HS11 _ H11 => wl_ <| i_ H11 rfl (dd_cmp rfl (H11.ev 18 rfl) rfl (ge_f (by omega))) fun _ H12 => wl_ <| p_ H12 rfl rfl fun _ H13 => ln_ <| nx <| cf_ H13 rfl <| sq_ <| rl_ <| wl_ <| p_ H13 rfl rfl fun _ H14 => wl_ <| i_ H14 rfl (dd_cmp rfl (H14.ev 21 rfl) rfl (lt_f (by omega))) fun _ H15 => wl_ <| p_ H15 rfl rfl fun _ H16 => ?_
  clear H7 H8 H9 H10 HS7 H11 H12 H13 H14
  refine wl_ <| ig H16 (wg_ H16 rfl rfl rfl rfl) rfl (dd_mv rfl (H16.ev 2 rfl)) fun _ H17 => wl_ <| ig H17 (wg_ H17 rfl rfl rfl rfl) rfl (dd_cmp rfl (H17.ev 24 rfl) rfl (gt_f (by omega))) fun _ H18 => q_ H18 2 rfl fun _ H19 => ln_ <| ?_
  clear H15 H16 H17 H18
  have H20 := H19.sel [2, 1, 0, 20] rfl
  refine nx <| cf_ H20 rfl <| sq_ <| rl_ <| wl_ <| p_ H20 rfl rfl fun _ H21 => wl_ <| i_ H21 rfl (dd_nilc rfl (H21.ev 28 rfl)) fun _ H22 => wl_ <| i_ H22 rfl (xf 0 0 rfl (H22.ev 29 rfl)) fun _ H23 => wl_ <| i_ H23 rfl (dd_get HS11 0 0 rfl rfl (H23.ev 30 rfl) rfl Try.underlying56 rfl) fun _ H24 => wl_ <| i_ H24 rfl (v := .int .i64 0) (dd_len rfl (H24.ev 31 rfl) Try.underlying56) fun _ H25 => wl_ <| i_ H25 rfl (dd_cmp rfl (H25.ev 32 rfl) rfl (ge_f (by decide))) fun _ H26 => wl_ <| p_ H26 rfl rfl fun _ H27 => wl_ <| ig H27 (wg_ H27 rfl rfl rfl rfl) rfl (dd_mv rfl (H27.ev 2 rfl)) fun _ H28 => ?_
  clear H19 H20 H21 H22 H23 H24 H25 H26
  refine wl_ <| ig H28 (wg_ H28 rfl rfl rfl rfl) rfl (dd_mv rfl (H28.ev 0 rfl)) fun _ H29 => wl_ <| cg H29 (wg_ H29 rfl rfl rfl rfl) rfl HS11 (dcs Try.func19 rfl (args1 (H29.ev 36 rfl)) (mfree_any g _ _ _ ([]) W11 (HS11.row 0 rfl) (mvat_nil _ none) (by omega) (by omega)) (.int .i64 (11 - (numM ([]) : Int)))) fun _ HS30 _ H30 => wl_ <| ig H30 (wg_ H30 rfl rfl rfl rfl) rfl (dd_cmp rfl (H30.ev 35 rfl) (H30.ev 37 rfl) (gt_f (by omega))) fun _ H31 => q_ H31 2 rfl fun _ H32 => ln_ <| nx <| cf_ H32 rfl <| wp_skip <| bn <| nx <| sq_ <| ?_
  clear H27 H28 H29 HS11 H30 H31
  refine wp_cut (fun a9 w9 => ∃ g50_48 : Nat, ∃ c50_48 : Nat, ∃ g47 : Nat, ∃ g49 : Nat, ∃ cb50_48 : Array Value, OwnC cb50_48 c50_48 1 2 ([.string (strB q), .slice (some ⟨g47, 0, none⟩) k k]) ∧ En 53 [] a9 ∧ St w F [⟨g, 58, #[.slice (some ⟨g50_48, 0, none⟩) 1 c50_48]⟩, ⟨g12, 9, #[.string (strB q)]⟩, ⟨g47, 32, bs (zer (k * 32))⟩, ⟨g49, 61, #[.string (strB q), .slice (some ⟨g47, 0, none⟩) k k]⟩, ⟨g50_48, 61, cb50_48⟩] w9) ?_ ?_
  ·
   refine wi_ HS30 [1] rfl [1, 0] rfl fun HSh33 hx33 => hp_ H32 0 hx33 rfl rfl rfl fun _ H34 => hp_ H34 1 hx33 rfl rfl rfl fun _ H35 => ht_ H35 2 hx33 rfl rfl (fun _ _ _ => dd_nilc rfl (H35.ev 41 rfl)) fun _ H36 => ht_ H36 3 hx33 rfl rfl (fun _ _ _ => xf 0 0 rfl (H36.ev 42 rfl)) fun _ H37 => hp_ H37 5 hx33 rfl rfl rfl fun _ H38 => hp_ H38 6 hx33 rfl rfl rfl fun _ H39 => ?_
   clear HS30 H32 H34 H35 H36 H37 H38
   refine wpAnyH_all (rs := [4, 7]) (by kernel_rfl) (by decide) (hm_cons ?_ (hm_cons ?_ hm_nil))
   ·
    refine ho_ rfl <| i_ H39 rfl (dd_get HSh33 0 0 rfl rfl (H39.ev 43 rfl) rfl Try.underlying56 rfl) fun _ H40 => sx_ (sxi HSh33 [1, 0] rfl) fun hx41 => h1_ 7 rfl <| n_ H40 rfl (A := fun g47 => .slice (some ⟨g47, 0, none⟩) k k) (fun _ h => dd_mk HSh33 rfl (H40.ev 46 rfl) (H40.ev 46 rfl) (z := .agg (bs (zer 32))) (sz := 32) (bytes := 32) (cs := bs (zer (k * 32))) Try.underlying43 (by kernel_rfl) (Nat.le_refl _) (by omega) (by omega) (made_blk k (by omega)) h) fun g47 _ HS42 _ H42 => sx_ (sxi HS42 [1, 0, 2] rfl) fun hx43 => ht_ H42 8 hx43 rfl rfl (v := .agg #[.string (strB q), .slice (some ⟨g47, 0, none⟩) k k]) (fun _ _ _ => dd_bld rfl (ps := [(0, .string (strB q)), (1, .slice (some ⟨g47, 0, none⟩) k k)]) (pr1 (H42.ev 45 rfl) (pr1 (H42.ev 47 rfl) (pr0))) (Lz := [[.string (⟨#[]⟩)], [.slice none 0 0]]) (by kernel_rfl) (lens_cons rfl (lens_cons rfl (lens_nil))) (fit_cons (i := 0) rfl rfl (fit_cons (i := 1) rfl rfl (fit_nil))) (cs := #[.string (strB q), .slice (some ⟨g47, 0, none⟩) k k]) rfl) fun _ H44 => h1_ 9 rfl <| n_ H44 rfl (fun _ h => dd_lits HS42 #[.string (strB q), .slice (some ⟨g47, 0, none⟩) k k] rfl (ps := [(0, .agg #[.string (strB q), .slice (some ⟨g47, 0, none⟩) k k])]) (pr1 (H44.ev 48 rfl) (pr0)) (z := .agg #[.string (⟨#[]⟩), .slice none 0 0]) (sz := 2) Try.underlying56 (by kernel_rfl) rfl rfl (by kernel_rfl) h) fun g49 _ HS45 _ H45 => sx_ (sxi HS45 [1, 0, 2, 3] rfl) fun hx46 => h1_ 10 rfl <| a_ H45 rfl (S := fun g50_48 cb50_48 => [⟨g, 58, #[.slice none 0 0]⟩, ⟨g12, 9, #[.string (strB q)]⟩, ⟨g47, 32, bs (zer (k * 32))⟩, ⟨g49, 61, #[.string (strB q), .slice (some ⟨g47, 0, none⟩) k k]⟩, ⟨g50_48, 61, cb50_48⟩]) (fun g50_48 c50_48 => .slice (some ⟨g50_48, 0, none⟩) 1 c50_48) (T := fun _ c50_48 cb50_48 => OwnC cb50_48 c50_48 1 2 ([.string (strB q), .slice (some ⟨g47, 0, none⟩) k k])) (fun _ h => dd_app0 HS45 rfl (H45.ev 44 rfl) (z := .agg #[.string (⟨#[]⟩), .slice none 0 0]) (bytes := 40) (sz := 2) Try.underlying56 (by kernel_rfl) rfl (by decide) ([.string (strB q), .slice (some ⟨g47, 0, none⟩) k k]) (H45.ev 49 rfl) rfl (row_news (HS45.row 3 rfl) 0 (slab_whole _)) (ao_cons rfl (ao_cons rfl ao_nil)) (by unfold maxLen; omega) (by omega) h) fun g50_48 c50_48 cb50_48 _ O50_48 HS47 _ H47 => ?_
    clear H39 HSh33 H40 hx41 H42 HS42 H44 hx43
    refine sx_ (sxi HS47 [1, 0, 2, 3, 4] rfl) fun hx49 => ht_ H47 11 hx49 rfl rfl (fun _ _ _ => dd_nilc rfl (H47.ev 40 rfl)) fun _ H50 => ht_ H50 12 hx49 rfl rfl (fun _ _ _ => xf 0 0 rfl (H50.ev 51 rfl)) fun _ H51 => h1_ 13 rfl <| t_ rfl (fun _ h => dd_put (cs := #[.slice (some ⟨g50_48, 0, none⟩) 1 c50_48]) HS47 0 0 rfl rfl (H51.ev 52 rfl) (H51.ev 50 rfl) (by kernel_rfl) rfl rfl rfl rfl h) fun _ HS52 => sx_ (sxi HS52 [1, 0, 2, 3, 4] rfl) fun hx53 => ?_
    clear HS45 H45 hx46 H47 H50 HS47 hx49
    refine wpAnyH_done (by kernel_rfl) ?_ _
    clear hx53
    exact nx ⟨g50_48, c50_48, g47, _, cb50_48, O50_48, H51.sel [] rfl, ss HS52 [0, 1, 2, 3, 4]⟩
   refine ho_ rfl <| n_ H39 rfl (A := fun g47 => .slice (some ⟨g47, 0, none⟩) k k) (fun _ h => dd_mk HSh33 rfl (H39.ev 46 rfl) (H39.ev 46 rfl) (z := .agg (bs (zer 32))) (sz := 32) (bytes := 32) (cs := bs (zer (k * 32))) Try.underlying43 (by kernel_rfl) (Nat.le_refl _) (by omega) (by omega) (made_blk k (by omega)) h) fun g47 _ HS54 _ H54 => sx_ (sxi HS54 [1, 0, 2] rfl) fun hx55 => ht_ H54 8 hx55 rfl rfl (v := .agg #[.string (strB q), .slice (some ⟨g47, 0, none⟩) k k]) (fun _ _ _ => dd_bld rfl (ps := [(0, .string (strB q)), (1, .slice (some ⟨g47, 0, none⟩) k k)]) (pr1 (H54.ev 45 rfl) (pr1 (H54.ev 47 rfl) (pr0))) (Lz := [[.string (⟨#[]⟩)], [.slice none 0 0]]) (by kernel_rfl) (lens_cons rfl (lens_cons rfl (lens_nil))) (fit_cons (i := 0) rfl rfl (fit_cons (i := 1) rfl rfl (fit_nil))) (cs := #[.string (strB q), .slice (some ⟨g47, 0, none⟩) k k]) rfl) fun _ H56 => ?_
   clear HSh33 H39 H54
   refine wpAnyH_all (rs := [4, 9]) (by kernel_rfl) (by decide) (hm_cons ?_ (hm_cons ?_ hm_nil))
   ·
    refine ho_ rfl <| i_ H56 rfl (dd_get HS54 0 0 rfl rfl (H56.ev 43 rfl) rfl Try.underlying56 rfl) fun _ H57 => sx_ (sxi HS54 [1, 0, 2] rfl) fun hx58 => h1_ 9 rfl <| n_ H57 rfl (fun _ h => dd_lits HS54 #[.string (strB q), .slice (some ⟨g47, 0, none⟩) k k] rfl (ps := [(0, .agg #[.string (strB q), .slice (some ⟨g47, 0, none⟩) k k])]) (pr1 (H57.ev 48 rfl) (pr0)) (z := .agg #[.string (⟨#[]⟩), .slice none 0 0]) (sz := 2) Try.underlying56 (by kernel_rfl) rfl rfl (by kernel_rfl) h) fun g49 _ HS59 _ H59 => sx_ (sxi HS59 [1, 0, 2, 3] rfl) fun hx60 => h1_ 10 rfl <| a_ H59 rfl (S := fun g50_62 cb50_62 => [⟨g, 58, #[.slice none 0 0]⟩, ⟨g12, 9, #[.string (strB q)]⟩, ⟨g47, 32, bs (zer (k * 32))⟩, ⟨g49, 61, #[.string (strB q), .slice (some ⟨g47, 0, none⟩) k k]⟩, ⟨g50_62, 61, cb50_62⟩]) (fun g50_62 c50_62 => .slice (some ⟨g50_62, 0, none⟩) 1 c50_62) (T := fun _ c50_62 cb50_62 => OwnC cb50_62 c50_62 1 2 ([.string (strB q), .slice (some ⟨g47, 0, none⟩) k k])) (fun _ h => dd_app0 HS59 rfl (H59.ev 44 rfl) (z := .agg #[.string (⟨#[]⟩), .slice none 0 0]) (bytes := 40) (sz := 2) Try.underlying56 (by kernel_rfl) rfl (by decide) ([.string (strB q), .slice (some ⟨g47, 0, none⟩) k k]) (H59.ev 49 rfl) rfl (row_news (HS59.row 3 rfl) 0 (slab_whole _)) (ao_cons rfl (ao_cons rfl ao_nil)) (by unfold maxLen; omega) (by omega) h) fun g50_62 c50_62 cb50_62 _ O50_62 HS61 _ H61 => sx_ (sxi HS61 [1, 0, 2, 3, 4] rfl) fun hx63 => ht_ H61 11 hx63 rfl rfl (fun _ _ _ => dd_nilc rfl (H61.ev 40 rfl)) fun _ H64 => ht_ H64 12 hx63 rfl rfl (fun _ _ _ => xf 0 0 rfl (H64.ev 51 rfl)) fun _ H65 => ?_
    clear H56 HS54 H57 hx58 HS59 H59 hx60 H61
    refine h1_ 13 rfl <| t_ rfl (fun _ h => dd_put (cs := #[.slice (some ⟨g50_62, 0, none⟩) 1 c50_62]) HS61 0 0 rfl rfl (H65.ev 52 rfl) (H65.ev 50 rfl) (by kernel_rfl) rfl rfl rfl rfl h) fun _ HS66 => sx_ (sxi HS66 [1, 0, 2, 3, 4] rfl) fun hx67 => ?_
    clear H64 HS61 hx63
    refine wpAnyH_done (by kernel_rfl) ?_ _
    clear hx67
    exact nx ⟨g50_62, c50_62, g47, _, cb50_62, O50_62, H65.sel [] rfl, ss HS66 [0, 1, 2, 3, 4]⟩
   refine ho_ rfl <| n_ H56 rfl (fun _ h => dd_lits HS54 #[.string (strB q), .slice (some ⟨g47, 0, none⟩) k k] rfl (ps := [(0, .agg #[.string (strB q), .slice (some ⟨g47, 0, none⟩) k k])]) (pr1 (H56.ev 48 rfl) (pr0)) (z := .agg #[.string (⟨#[]⟩), .slice none 0 0]) (sz := 2) Try.underlying56 (by kernel_rfl) rfl rfl (by kernel_rfl) h) fun g49 _ HS68 _ H68 => sx_ (sxi HS68 [1, 0, 2, 3] rfl) fun hx69 => h1_ 4 rfl <| i_ H68 rfl (dd_get HS68 0 0 rfl rfl (H68.ev 43 rfl) rfl Try.underlying56 rfl) fun _ H70 => sx_ (sxi HS68 [1, 0, 2, 3] rfl) fun hx71 => h1_ 10 rfl <| a_ H70 rfl (S := fun g50_73 cb50_73 => [⟨g, 58, #[.slice none 0 0]⟩, ⟨g12, 9, #[.string (strB q)]⟩, ⟨g47, 32, bs (zer (k * 32))⟩, ⟨g49, 61, #[.string (strB q), .slice (some ⟨g47, 0, none⟩) k k]⟩, ⟨g50_73, 61, cb50_73⟩]) (fun g50_73 c50_73 => .slice (some ⟨g50_73, 0, none⟩) 1 c50_73) (T := fun _ c50_73 cb50_73 => OwnC cb50_73 c50_73 1 2 ([.string (strB q), .slice (some ⟨g47, 0, none⟩) k k])) (fun _ h => dd_app0 HS68 rfl (H70.ev 44 rfl) (z := .agg #[.string (⟨#[]⟩), .slice none 0 0]) (bytes := 40) (sz := 2) Try.underlying56 (by kernel_rfl) rfl (by decide) ([.string (strB q), .slice (some ⟨g47, 0, none⟩) k k]) (H70.ev 49 rfl) rfl (row_news (HS68.row 3 rfl) 0 (slab_whole _)) (ao_cons rfl (ao_cons rfl ao_nil)) (by unfold maxLen; omega) (by omega) h) fun g50_73 c50_73 cb50_73 _ O50_73 HS72 _ H72 => sx_ (sxi HS72 [1, 0, 2, 3, 4] rfl) fun hx74 => ht_ H72 11 hx74 rfl rfl (fun _ _ _ => dd_nilc rfl (H72.ev 40 rfl)) fun _ H75 => ht_ H75 12 hx74 rfl rfl (fun _ _ _ => xf 0 0 rfl (H75.ev 51 rfl)) fun _ H76 => ?_
   clear HS54 H56 H68 hx69 HS68 H70 hx71 H72
   refine h1_ 13 rfl <| t_ rfl (fun _ h => dd_put (cs := #[.slice (some ⟨g50_73, 0, none⟩) 1 c50_73]) HS72 0 0 rfl rfl (H76.ev 52 rfl) (H76.ev 50 rfl) (by kernel_rfl) rfl rfl rfl rfl h) fun _ HS77 => sx_ (sxi HS77 [1, 0, 2, 3, 4] rfl) fun hx78 => ?_
   clear H75 HS72 hx74
   refine wpAnyH_done (by kernel_rfl) ?_ _
   clear hx78
   exact nx ⟨g50_73, c50_73, g47, _, cb50_73, O50_73, H76.sel [] rfl, ss HS77 [0, 1, 2, 3, 4]⟩
  rintro aj33 wj33 ⟨g50_48, c50_48, g47, g49, cb50_48, O50_48, Hj33, HSj33⟩
  refine nx <| sq_ <| rl_ <| wl_ <| p_ Hj33 rfl rfl fun _ H80 => ln_ <| nx <| wp_ret <| ret_run H80.env0 (res_t Try.results9 (H80.get 6 rfl)) <| ?_
  clear Hj33
  exact ⟨g50_48, c50_48, cb50_48, g47, rfl, mv_put0 O50_48, ss HSj33 [0, 4, 2]⟩
theorem mgone_no (g : Nat) (A : Option Addr) (n c : Nat) (X : List Mv) (q : List (BitVec 8)) (w : World) (hr : Row w g 58 #[.slice A n c]) (h0 : MvAt w A n X) (hm : n ≤ 1000000) (hf : findI q (tvs X) < 0) : Calls Try.prog 11 #[.pointer (some ⟨g, 0, none⟩), .string (strB q)] w fun x w' => x = .returned (.int .i64 16) ∧ Below w.heap.size w w' := by
  have HS := St.nil w noF
  have HB : ∀ W, Below w.heap.size w W → Row W g 58 #[.slice A n c] := fun W hb => hr.call hb
  have HX : ∀ W, Below w.heap.size w W → MvAt W A n X := fun W hb => h0.call hb
  refine enter_en Try.func11 rfl Try.ntmps11 (Nat.le_of_ble_eq_true rfl) fun a0 (HA0 : En 24 [(0, .pointer (some ⟨g, 0, none⟩)), (1, .string (strB q))] a0) => ?_
  refine sq_ <| rl_ <| wl_ <| p_ HA0 rfl rfl fun _ H1 => ln_ <| nx <| sq_ <| sq_ <| rl_ <| wl_ <| p_ H1 rfl rfl fun _ H2 => wl_ <| i_ H2 rfl (v := .bool false) (dd_eqp rfl (H2.ev 6 rfl) rfl Try.underlying25 rfl) fun _ H3 => ln_ <| nx <| cf_ H3 rfl <| wp_skip <| nx <| sq_ <| rl_ <| q_ H3 2 rfl fun _ H4 => wl_ <| c_ H4 rfl HS (dcs Try.func24 rfl (args2 (H4.ev 8 rfl) (H4.ev 9 rfl)) (mfind_any g _ _ _ X q w (HB _ HS.below) (HX _ HS.below) (by omega)) (.int .i64 (findI q (tvs X)))) fun _ HS5 _ H5 => wl_ <| p_ H5 rfl rfl fun _ H6 => ln_ <| nx <| sq_ <| sq_ <| rl_ <| wl_ <| p_ H6 rfl rfl fun _ H7 => wl_ <| i_ H7 rfl (dd_cmp rfl (H7.ev 11 rfl) rfl (lt_t hf)) fun _ H8 => ?_
  clear HA0 H1 H2 H3 H4 HS H5 H6
  refine ln_ <| nx <| ct_ H8 rfl <| sq_ <| rl_ <| wl_ <| p_ H8 rfl rfl fun _ H9 => ln_ <| nx <| wp_ret <| tr <| ret_run H9.env0 (res_t Try.results11 (H9.get 4 rfl)) <| ?_
  clear H7 H8
  exact ⟨rfl, HS5.below⟩
theorem mgone_at (F : Nat → Prop) (g gv M c i : Nat) (cb : Array Value) (X : List Mv) (q : List (BitVec 8)) (w : World) (HS : St w F [⟨g, 58, #[.slice (some ⟨gv, 0, none⟩) (M + 1) c]⟩, ⟨gv, 61, cb⟩] w) (O : OwnC cb c (M + 1) 2 (mvL X)) (hm : M ≤ 1000) (hk : findI q (tvs X) = (i : Int)) (hi : i < M + 1) :
    Calls Try.prog 11 #[.pointer (some ⟨g, 0, none⟩), .string (strB q)] w fun x w' => ∃ cb', x = .returned (.int .i64 0) ∧ OwnC cb' c M 2 (mvL (X.eraseIdx i)) ∧ St w F [⟨g, 58, #[.slice (some ⟨gv, 0, none⟩) M c]⟩, ⟨gv, 61, cb'⟩] w' := by
  refine enter_en Try.func11 rfl Try.ntmps11 (Nat.le_of_ble_eq_true rfl) fun a0 (HA0 : En 24 [(0, .pointer (some ⟨g, 0, none⟩)), (1, .string (strB q))] a0) => ?_
  refine sq_ <| rl_ <| wl_ <| p_ HA0 rfl rfl fun _ H1 => ln_ <| nx <| sq_ <| sq_ <| rl_ <| wl_ <| p_ H1 rfl rfl fun _ H2 => wl_ <| i_ H2 rfl (v := .bool false) (dd_eqp rfl (H2.ev 6 rfl) rfl Try.underlying25 rfl) fun _ H3 => ln_ <| nx <| cf_ H3 rfl <| wp_skip <| nx <| sq_ <| rl_ <| q_ H3 2 rfl fun _ H4 => wl_ <| c_ H4 rfl HS (v := .int .i64 i) (dc_ Try.func24 rfl (args2 (H4.ev 8 rfl) (H4.ev 9 rfl)) (mfind_any g _ _ _ X q w (HS.row 0 rfl) (mvat_own (HS.row 1 rfl) O) (by omega)) (fun _ w9 h9 => ⟨_, h9.1, by rw [hk], h9.2⟩)) fun W5 HS5 _ H5 => wl_ <| p_ H5 rfl rfl fun _ H6 => ln_ <| nx <| sq_ <| sq_ <| rl_ <| wl_ <| p_ H6 rfl rfl fun _ H7 => wl_ <| i_ H7 rfl (dd_cmp rfl (H7.ev 11 rfl) rfl (lt_f (by omega))) fun _ H8 => ?_
  clear HA0 H1 H2 H3 H4 HS H5 H6
  refine ln_ <| nx <| cf_ H8 rfl <| wp_skip <| nx <| sq_ <| rl_ <| q_ H8 2 rfl fun _ H9 => wl_ <| i_ H9 rfl (dd_nilc rfl (H9.ev 14 rfl)) fun _ H10 => wl_ <| i_ H10 rfl (xf 0 0 rfl (H10.ev 15 rfl)) fun _ H11 => wl_ <| i_ H11 rfl (dd_get HS5 0 0 rfl rfl (H11.ev 16 rfl) rfl Try.underlying56 rfl) fun _ H12 => q_ H12 2 rfl fun _ H13 => wl_ <| i_ H13 rfl (v := .int .i64 (i + 1)) (dd_ari rfl (H13.ev 19 rfl) rfl rfl (i64_of (by first | omega | (have := bd_lo; omega)) (by omega))) fun _ H14 => ?_
  clear H7 H8 H9 H10 H11 H12 H13
  refine wl_ <| d_ H14 rfl (R := fun v9 w9 => ∃ cbD : Array Value, v9 = .slice (some ⟨gv, 0, none⟩) M c ∧ (OwnC cbD c M 2 (mvL (X.eraseIdx i))) ∧ St w F [⟨gv, 61, cbD⟩, ⟨g, 58, #[.slice (some ⟨gv, 0, none⟩) (M + 1) c]⟩] w9) (dc_ Try.func27 rfl (args3 (H14.ev 17 rfl) (H14.ev 18 rfl) (H14.ev 20 rfl)) (delete_stM gv M c i cb (mvL X) _ W5 (ss HS5 [1]).frame O (one_mvL X) (by omega)) (fun _ w9 ⟨cb9, he, hO, hS⟩ => ⟨_, he, cb9, rfl, mvL_erase X i ▸ hO, St.reframeF (ss HS5 [1, 0]) hS⟩)) ?_
  rintro _ W15 ⟨cbD, rfl, OD, HS15⟩ a15 H15
  clear H14 HS5
  refine wl_ <| i_ H15 rfl (dd_nilc rfl (H15.ev 13 rfl)) fun _ H16 => wl_ <| i_ H16 rfl (xf 0 0 rfl (H16.ev 22 rfl)) fun _ H17 => wl_ <| t_ rfl (fun _ h => dd_put (cs := #[.slice (some ⟨gv, 0, none⟩) M c]) HS15 1 0 rfl rfl (H17.ev 23 rfl) (H17.ev 21 rfl) (by kernel_rfl) rfl rfl rfl rfl h) fun _ HS18 => ln_ <| ?_
  clear H15 H16 HS15
  have H19 := H17.sel [] rfl
  refine nx <| sq_ <| rl_ <| wl_ <| p_ H19 rfl rfl fun _ H20 => ln_ <| nx <| wp_ret <| ret_run H20.env0 (res_t Try.results11 (H20.get 4 rfl)) <| ?_
  clear H17 H19
  exact ⟨cbD, rfl, OD, ss HS18 [1, 0]⟩
end Go.Proofs.Ytefhenkdakokeaa

/- Are two lists of texts alike? -/
set_option maxRecDepth 4000
namespace Go.Proofs.Ytefhenkdakokeaa
open Go Go.RowKit
theorem tx_same {l m : List (List (BitVec 8))} {n : Nat} (hl : l.length = n) (hm : m.length = n) (h : ∀ j, j < n → l[j]? = m[j]?) : l = m := List.ext_getElem? fun j => by
  by_cases hj : j < n
  · exact h j hj
  · rw [List.getElem?_eq_none (by omega), List.getElem?_eq_none (by omega)]
theorem keeptx_pos (g1 o1 g2 o2 n c d : Nat) (l m : List (List (BitVec 8))) (w : World) (h1 : CAt w g1 o1 (strsV l)) (h2 : CAt w g2 o2 (strsV m)) (hl : l.length = n) (hm : m.length = n) (hn : n ≤ 1000000) :
    Calls Try.prog 16 #[.slice (some ⟨g1, o1, none⟩) n c, .slice (some ⟨g2, o2, none⟩) n d] w fun x w' => x = .returned (.bool (decide (l = m))) ∧ Below w.heap.size w w' := by
  have HS := St.nil w noF
  have H1 : ∀ W, Below w.heap.size w W → CAt W g1 o1 (strsV l) := fun W hb => h1.call hb
  have H2 : ∀ W, Below w.heap.size w W → CAt W g2 o2 (strsV m) := fun W hb => h2.call hb
  refine enter_en Try.func16 rfl Try.ntmps16 (Nat.le_of_ble_eq_true rfl) fun a0 (HA0 : En 26 [(0, .slice (some ⟨g1, o1, none⟩) n c), (1, .slice (some ⟨g2, o2, none⟩) n d)] a0) => ?_
  refine sq_ <| rl_ <| wl_ <| p_ HA0 rfl rfl fun _ H1 => ln_ <| nx <| sq_ <| sq_ <| rl_ <| wl_ <| p_ H1 rfl rfl fun _ H2 => wl_ <| i_ H2 rfl (v := .int .i64 n) (dd_len rfl (H2.ev 6 rfl) Try.underlying49) fun _ H3 => wl_ <| p_ H3 rfl rfl fun _ H4 => wl_ <| i_ H4 rfl (v := .int .i64 n) (dd_len rfl (H4.ev 8 rfl) Try.underlying49) fun _ H5 => wl_ <| i_ H5 rfl (dd_cmp rfl (H5.ev 7 rfl) (H5.ev 9 rfl) (ne_f rfl)) fun _ H6 => ln_ <| nx <| cf_ H6 rfl <| wp_skip <| nx <| sq_ <| sq_ <| rl_ <| wl_ <| p_ H6 rfl rfl fun _ H7 => ln_ <| nx <| wp_block <| ?_
  clear HA0 H1 H2 H3 H4 H5 H6
  refine wp_loopG (ι := Nat) (fun i a9 w9 => (i ≤ n) ∧ (∀ j, j < i → l[j]? = m[j]?) ∧ En 26 [(5, .int .i64 i), (0, .slice (some ⟨g1, o1, none⟩) n c), (1, .slice (some ⟨g2, o2, none⟩) n d)] a9 ∧ St w noF [] w9) (fun i => n - i) (0) ⟨(Nat.zero_le _), (fun j hj => absurd hj (Nat.not_lt_zero _)), H7.sel [1, 0, 5] rfl, ss HS []⟩ ?_
  clear H7 HS
  rintro i aL8 wL8 ⟨hi, hok, HL8, HSL8⟩
  refine sq_ <| sq_ <| rl_ <| q_ HL8 2 rfl fun a9 H9 => wl_ <| i_ H9 rfl (v := .int .i64 n) (dd_len rfl (H9.ev 12 rfl) Try.underlying49) fun _ H10 => ?_
  clear HL8 H9
  by_cases hc12 : (i : Int) < n
  ·
   refine wl_ <| i_ H10 rfl (dd_cmp rfl (H10.ev 11 rfl) (H10.ev 13 rfl) (lt_t hc12)) fun _ H13 => ln_ <| nx <| ct_ H13 rfl <| wp_skip <| nx <| sq_ <| wp_block <| sq_ <| ?_
   clear H10
   obtain ⟨x, hx⟩ : ∃ x, l[i]? = some x := ⟨_, List.getElem?_eq_getElem (by rw [hl]; omega)⟩
   obtain ⟨y, hy⟩ : ∃ x, m[i]? = some x := ⟨_, List.getElem?_eq_getElem (by rw [hm]; omega)⟩
   by_cases hc23 : x = y
   ·
    refine wi_ HSL8 [] rfl [] rfl fun HSh24 hx24 => hp_ H13 0 hx24 rfl rfl rfl fun _ H25 => hp_ H25 1 hx24 rfl rfl rfl fun _ H26 => ht_ H26 2 hx24 rfl rfl (fun _ _ _ => xSo 1 (o1 + i) rfl (H26.ev 17 rfl) (H26.ev 18 rfl)) fun _ H27 => ht_ H27 3 hx24 rfl rfl (fun _ _ HS9 => dd_at rfl (H27.ev 19 rfl) (tx_cell (H1 _ HS9.below) hx) Try.underlying9 rfl) fun _ H28 => hp_ H28 4 hx24 rfl rfl rfl fun _ H29 => hp_ H29 5 hx24 rfl rfl rfl fun _ H30 => ht_ H30 6 hx24 rfl rfl (fun _ _ _ => xSo 1 (o2 + i) rfl (H30.ev 21 rfl) (H30.ev 22 rfl)) fun _ H31 => ?_
    clear HSL8 H13 H25 H26 H27 H28 H29
    refine ht_ H31 7 hx24 rfl rfl (fun _ _ HS9 => dd_at rfl (H31.ev 23 rfl) (tx_cell (H2 _ HS9.below) hy) Try.underlying9 rfl) fun _ H32 => ht_ H32 8 hx24 rfl rfl (v := .bool false) (fun _ _ _ => dd_nes rfl (H32.ev 20 rfl) (H32.ev 24 rfl) (by rw [bne, (sbeq_t hc23)]; rfl)) fun _ H33 => ?_
    clear H30 H31 H32
    refine wpAnyH_done (by kernel_rfl) ?_ _
    clear hx24
    refine nx <| cf_ H33 rfl <| wp_skip <| bn <| nx <| rl_ <| wl_ <| p_ H33 rfl rfl fun _ H34 => wl_ <| i_ H34 rfl (v := .int .i64 (i + 1)) (dd_ari rfl (H34.ev 15 rfl) rfl rfl (i64_of (by first | omega | (have := bd_lo; omega)) (by omega))) fun _ H35 => wl_ <| p_ H35 rfl rfl fun _ H36 => ln_ <| ?_
    clear H33 H34 H35
    refine nx ⟨i + 1, ⟨(by omega), (fun j hj => (Nat.lt_succ_iff_lt_or_eq.1 hj).elim (hok j) (fun h8 => by rw [h8, hx, hy, hc23])), H36.sel [1, 0, 5] rfl, ss HSh24 []⟩, (by omega)⟩
   refine wi_ HSL8 [] rfl [] rfl fun HSh37 hx37 => hp_ H13 0 hx37 rfl rfl rfl fun _ H38 => hp_ H38 1 hx37 rfl rfl rfl fun _ H39 => ht_ H39 2 hx37 rfl rfl (fun _ _ _ => xSo 1 (o1 + i) rfl (H39.ev 17 rfl) (H39.ev 18 rfl)) fun _ H40 => ht_ H40 3 hx37 rfl rfl (fun _ _ HS9 => dd_at rfl (H40.ev 19 rfl) (tx_cell (H1 _ HS9.below) hx) Try.underlying9 rfl) fun _ H41 => hp_ H41 4 hx37 rfl rfl rfl fun _ H42 => hp_ H42 5 hx37 rfl rfl rfl fun _ H43 => ht_ H43 6 hx37 rfl rfl (fun _ _ _ => xSo 1 (o2 + i) rfl (H43.ev 21 rfl) (H43.ev 22 rfl)) fun _ H44 => ?_
   clear HSL8 H13 H38 H39 H40 H41 H42
   refine ht_ H44 7 hx37 rfl rfl (fun _ _ HS9 => dd_at rfl (H44.ev 23 rfl) (tx_cell (H2 _ HS9.below) hy) Try.underlying9 rfl) fun _ H45 => ht_ H45 8 hx37 rfl rfl (v := .bool true) (fun _ _ _ => dd_nes rfl (H45.ev 20 rfl) (H45.ev 24 rfl) (by rw [bne, (sbeq_f hc23)]; rfl)) fun _ H46 => ?_
   clear H43 H44 H45
   refine wpAnyH_done (by kernel_rfl) ?_ _
   clear hx37
   refine nx <| ct_ H46 rfl <| sq_ <| rl_ <| wl_ <| p_ H46 rfl rfl fun _ H47 => ln_ <| ?_
   clear H46
   have H48 := H47.sel [4] rfl
   refine nx <| wp_ret <| br_ <| tr <| tr <| br_ <| tr <| ret_run H48.env0 (res_t Try.results16 (H48.get 4 rfl)) <| ?_
   clear H47
   exact ⟨by rw [decide_eq_false (fun e => hc23 (Option.some.inj (hx.symm.trans ((congrArg (fun z => z[i]?) e).trans hy))))], HSh37.below⟩
  refine wl_ <| i_ H10 rfl (dd_cmp rfl (H10.ev 11 rfl) (H10.ev 13 rfl) (lt_f hc12)) fun _ H49 => ln_ <| nx <| cf_ H49 rfl <| wp_exit <| tx <| tx <| bx <| nx <| sq_ <| rl_ <| wl_ <| p_ H49 rfl rfl fun _ H50 => ln_ <| nx <| wp_ret <| ret_run H50.env0 (res_t Try.results16 (H50.get 4 rfl)) <| ?_
  clear H10 H49
  exact ⟨by rw [decide_eq_true (tx_same hl hm (fun j hj => hok j (by omega)))], HSL8.below⟩
theorem keeptx_zero (A B : Option Addr) (c d : Nat) (w : World) : Calls Try.prog 16 #[.slice A 0 c, .slice B 0 d] w fun x w' => x = .returned (.bool true) ∧ Below w.heap.size w w' := by
  have HS := St.nil w noF
  refine enter_en Try.func16 rfl Try.ntmps16 (Nat.le_of_ble_eq_true rfl) fun a0 (HA0 : En 26 [(0, .slice A 0 c), (1, .slice B 0 d)] a0) => ?_
  refine sq_ <| rl_ <| wl_ <| p_ HA0 rfl rfl fun _ H1 => ln_ <| nx <| sq_ <| sq_ <| rl_ <| wl_ <| p_ H1 rfl rfl fun _ H2 => wl_ <| i_ H2 rfl (v := .int .i64 0) (dd_len rfl (H2.ev 6 rfl) Try.underlying49) fun _ H3 => wl_ <| p_ H3 rfl rfl fun _ H4 => wl_ <| i_ H4 rfl (v := .int .i64 0) (dd_len rfl (H4.ev 8 rfl) Try.underlying49) fun _ H5 => wl_ <| i_ H5 rfl (dd_cmp rfl (H5.ev 7 rfl) (H5.ev 9 rfl) (ne_f (by decide))) fun _ H6 => ln_ <| nx <| cf_ H6 rfl <| wp_skip <| nx <| sq_ <| sq_ <| rl_ <| wl_ <| p_ H6 rfl rfl fun _ H7 => ln_ <| nx <| wp_block <| wp_unr 1 <| unr_go <| sq_ <| sq_ <| rl_ <| q_ H7 2 rfl fun _ H8 => ?_
  clear HA0 H1 H2 H3 H4 H5 H6
  refine wl_ <| i_ H8 rfl (v := .int .i64 0) (dd_len rfl (H8.ev 12 rfl) Try.underlying49) fun _ H9 => wl_ <| i_ H9 rfl (dd_cmp rfl (H9.ev 11 rfl) (H9.ev 13 rfl) (lt_f (by decide))) fun _ H10 => ln_ <| nx <| cf_ H10 rfl <| wp_exit <| tx <| tx <| bx <| nx <| sq_ <| rl_ <| wl_ <| p_ H10 rfl rfl fun _ H11 => ln_ <| nx <| wp_ret <| ret_run H11.env0 (res_t Try.results16 (H11.get 4 rfl)) <| ?_
  clear H7 H8 H9 H10
  exact ⟨rfl, HS.below⟩
theorem keeptx_ne (A B : Option Addr) (n m c d : Nat) (w : World) (hne : ¬ n = m) : Calls Try.prog 16 #[.slice A n c, .slice B m d] w fun x w' => x = .returned (.bool false) ∧ Below w.heap.size w w' := by
  have HS := St.nil w noF
  refine enter_en Try.func16 rfl Try.ntmps16 (Nat.le_of_ble_eq_true rfl) fun a0 (HA0 : En 26 [(0, .slice A n c), (1, .slice B m d)] a0) => ?_
  refine sq_ <| rl_ <| wl_ <| p_ HA0 rfl rfl fun _ H1 => ln_ <| nx <| sq_ <| sq_ <| rl_ <| wl_ <| p_ H1 rfl rfl fun _ H2 => wl_ <| i_ H2 rfl (v := .int .i64 n) (dd_len rfl (H2.ev 6 rfl) Try.underlying49) fun _ H3 => wl_ <| p_ H3 rfl rfl fun _ H4 => wl_ <| i_ H4 rfl (v := .int .i64 m) (dd_len rfl (H4.ev 8 rfl) Try.underlying49) fun _ H5 => wl_ <| i_ H5 rfl (dd_cmp rfl (H5.ev 7 rfl) (H5.ev 9 rfl) (ne_t (by omega))) fun _ H6 => ln_ <| nx <| ct_ H6 rfl <| sq_ <| rl_ <| wl_ <| p_ H6 rfl rfl fun _ H7 => ln_ <| nx <| wp_ret <| tr <| ret_run H7.env0 (res_t Try.results16 (H7.get 4 rfl)) <| ?_
  clear HA0 H1 H2 H3 H4 H5 H6
  exact ⟨rfl, HS.below⟩
theorem keeptx_any (A B : Option Addr) (n k c d : Nat) (l m : List (List (BitVec 8))) (w : World) (h1 : TxAt w A n l) (h2 : TxAt w B k m) (hn : n ≤ 1000000) : Calls Try.prog 16 #[.slice A n c, .slice B k d] w fun x w' => x = .returned (.bool (decide (l = m))) ∧ Below w.heap.size w w' := by
  by_cases e : n = k
  · subst e
    by_cases h0 : n = 0
    · subst h0
      rw [List.length_eq_zero_iff.1 h1.len, List.length_eq_zero_iff.1 h2.len]
      exact keeptx_zero A B c d w
    · obtain ⟨g1, o1, rfl, k1⟩ := h1.at_ (by omega)
      obtain ⟨g2, o2, rfl, k2⟩ := h2.at_ (by omega)
      exact keeptx_pos g1 o1 g2 o2 n c d l m w k1 k2 h1.len h2.len hn
  · rw [decide_eq_false (fun h => e (by rw [← h1.len, ← h2.len, h]))]
    exact keeptx_ne A B n k c d w e
end Go.Proofs.Ytefhenkdakokeaa

/- The statements' own wakes. -/
set_option maxRecDepth 4000
namespace Go.Proofs.Ytefhenkdakokeaa
open Go Go.RowKit
theorem mfill7 (w : World) : Calls Try.prog 22 #[.int .u8 7] w fun e w' => e = .returned (.agg (bs (blk 7#8))) ∧ Below w.heap.size w w' := by
  have h := fill_any 7#8 w
  rwa [show bd 7#8 = 7 from by decide] at h
theorem wk_rd1 : ((spl (zer (2 * 32)) (1 * 32) (blk 7#8)).drop (1 * 32)).take 32 = blk 7#8 := by kernel_rfl
theorem wk_rd0 : ((spl (zer (2 * 32)) (1 * 32) (blk 7#8)).drop (0 * 32)).take 32 = zer 32 := by kernel_rfl
theorem wk_none (gb : Nat) : findI [99#8] (tvs ([] ++ [([97#8, 98#8], gb, 2)])) < 0 := by
  rw [show findI [99#8] (tvs ([] ++ [([97#8, 98#8], gb, 2)])) = -1 from rfl]; decide
theorem wk_some (gb : Nat) : findI [97#8, 98#8] (tvs ([] ++ [([97#8, 98#8], gb, 2)])) = ((0 : Nat) : Int) := rfl
theorem wk_gone (w : World) (g : Nat) (A : Option Addr) (n c gb : Nat) (hr : Row w g 58 #[.slice A n c]) (h0 : MvAt w A n ([] ++ [([97#8, 98#8], gb, 2)])) (hm : n ≤ 1000000) : Calls Try.prog 11 #[.pointer (some ⟨g, 0, none⟩), .string ⟨#[99]⟩] w fun x w' => x = .returned (.int .i64 16) ∧ Below w.heap.size w w' :=
  mgone_no g A n c _ [99#8] w hr h0 hm (wk_none gb)
attribute [local irreducible] blk zer spl
set_option maxHeartbeats 800000 in
theorem mwakes_any (w : World) : Calls Try.prog 7 #[] w fun x w' => x = .returned (.bool true) ∧ Below w.heap.size w w' := by
  have HS := St.nil w noF
  refine enter_en Try.func7 rfl Try.ntmps7 (Nat.le_of_ble_eq_true rfl) fun a0 (HA0 : En 88 [] a0) => ?_
  refine sq_ <| rl_ <| wl_ <| p_ HA0 rfl rfl fun _ H1 => ln_ <| nx <| sq_ <| rl_ <| ?_
  clear HA0
  refine wl_ <| d_ H1 rfl (R := fun v w9 => ∃ gm3, v = .pointer (some ⟨gm3, 0, none⟩) ∧ (w.heap.size ≤ gm3) ∧ (Row w9 gm3 58 #[.slice none 0 0]) ∧ Below w.heap.size w w9) (dc_ Try.func8 rfl (args0 ) (mnew_any w) (fun _ w9 ⟨g9, he, h1, h2, hb⟩ => ⟨_, he, g9, rfl, h1, h2, hb⟩)) ?_
  rintro _ W2 ⟨gm3, rfl, hg3, hr3, hb2⟩ a2 H2
  have HS2 := HS.same hb2
  clear H1
  have HS2j : St w noF [⟨gm3, 58, #[.slice none 0 0]⟩] W2 := HS.joins hb2 hr3 hg3
  clear HS2 hr3 hg3
  clear HS hb2
  refine wl_ <| p_ H2 rfl rfl fun _ H4 => ln_ <| nx <| sq_ <| sq_ <| rl_ <| wl_ <| p_ H4 rfl rfl fun _ H5 => wl_ <| i_ H5 rfl (v := .bool false) (dd_eqp rfl (H5.ev 7 rfl) rfl Try.underlying25 rfl) fun _ H6 => wl_ <| p_ H6 rfl rfl fun _ H7 => wl_ <| ig H7 (wg_ H7 rfl rfl rfl rfl) rfl (dd_mv rfl (H7.ev 1 rfl)) fun _ H8 => ?_
  clear H2 H4 H5 H6 H7
  refine wl_ <| dr_ H8 (wg_ H8 rfl rfl rfl rfl) rfl (R := fun v9 w9 => ∃ gv10 : Nat, ∃ cv10 : Nat, ∃ cbv10 : Array Value, ∃ gb10 : Nat, v9 = .int .i64 0 ∧ (OwnC cbv10 cv10 (1) 2 (mvL ([] ++ [([97#8, 98#8], gb10, 2)]))) ∧ St w noF [⟨gm3, 58, #[.slice (some ⟨gv10, 0, none⟩) 1 cv10]⟩, ⟨gv10, 61, cbv10⟩, ⟨gb10, 32, bs (zer (2 * 32))⟩] w9) (dc_ Try.func9 rfl (args3 (H8.ev 10 rfl) rfl rfl) (mmake_first _ gm3 2 [97#8, 98#8] W2 (ss HS2j [0]).frame (by unfold maxLen; simp) (by kernel_rfl)) (fun _ w9 ⟨v9, c9, b9, g9, he, hO, hS⟩ => ⟨_, he, v9, c9, b9, g9, rfl, hO, St.reframeF (ss HS2j [0]) hS⟩)) ?_
  rintro _ W9 ⟨gv10, cv10, cbv10, gb10, rfl, Ov10, HS9⟩ a9 H9
  clear H8 HS2j
  refine wl_ <| ig H9 (wg_ H9 rfl rfl rfl rfl) rfl (dd_cmp rfl (H9.ev 11 rfl) rfl (ne_f (by decide))) fun _ H11 => q_ H11 2 rfl fun _ H12 => wl_ <| ig H12 (wg_ H12 rfl rfl rfl rfl) rfl (dd_mv rfl (H12.ev 1 rfl)) fun _ H13 => wl_ <| cg H13 (wg_ H13 rfl rfl rfl rfl) rfl HS9 (v := .int .i64 16) (dc_ Try.func9 rfl (args3 (H13.ev 15 rfl) rfl rfl) (mmake_no gm3 _ _ _ ([] ++ [([97#8, 98#8], gb10, 2)]) [97#8, 98#8] 2 W9 (HS9.row 0 rfl) (mvat_own (HS9.row 1 rfl) Ov10) (by decide) (Nat.le_of_ble_eq_true rfl) (by unfold maxLen; simp) (by rw [show mmE ([] ++ [([97#8, 98#8], gb10, 2)]) [97#8, 98#8] 2 = 16 from rfl]; decide)) (fun _ w9 h9 => ⟨_, h9.1, rfl, h9.2⟩)) fun W14 HS14 _ H14 => wl_ <| ig H14 (wg_ H14 rfl rfl rfl rfl) rfl (dd_cmp rfl (H14.ev 16 rfl) rfl (ne_f (by decide))) fun _ H15 => q_ H15 2 rfl fun _ H16 => wl_ <| ig H16 (wg_ H16 rfl rfl rfl rfl) rfl (dd_mv rfl (H16.ev 1 rfl)) fun _ H17 => wl_ <| cg H17 (wg_ H17 rfl rfl rfl rfl) rfl HS14 (v := .int .i64 17) (dc_ Try.func9 rfl (args3 (H17.ev 20 rfl) rfl rfl) (mmake_no gm3 _ _ _ ([] ++ [([97#8, 98#8], gb10, 2)]) [99#8] 5 W14 (HS14.row 0 rfl) (mvat_own (HS14.row 1 rfl) Ov10) (by decide) (Nat.le_of_ble_eq_true rfl) (by unfold maxLen; simp) (by rw [show mmE ([] ++ [([97#8, 98#8], gb10, 2)]) [99#8] 5 = 17 from rfl]; decide)) (fun _ w9 h9 => ⟨_, h9.1, rfl, h9.2⟩)) fun W18 HS18 _ H18 => ?_
  clear H9 H11 H12 H13 HS9 H14 H15 H16
  refine wl_ <| ig H18 (wg_ H18 rfl rfl rfl rfl) rfl (dd_cmp rfl (H18.ev 21 rfl) rfl (ne_f (by decide))) fun _ H19 => q_ H19 2 rfl fun _ H20 => wl_ <| ig H20 (wg_ H20 rfl rfl rfl rfl) rfl (dd_mv rfl (H20.ev 1 rfl)) fun _ H21 => wl_ <| cg H21 (wg_ H21 rfl rfl rfl rfl) rfl HS18 (v := .agg (bs (blk 7#8))) (dc_ Try.func22 rfl (args1 rfl) (mfill7 W18) (fun _ w9 h9 => ⟨_, h9.1, rfl, h9.2⟩)) fun W22 HS22 _ H22 => ?_
  clear H17 HS14 H18 H19 H20 H21 HS18
  refine wl_ <| dr_ H22 (wg_ H22 rfl rfl rfl rfl) rfl (R := fun v9 w9 => v9 = .int .i64 0 ∧ St w noF [⟨gb10, 32, bs (spl (zer (2 * 32)) (1 * 32) (blk 7#8))⟩, ⟨gm3, 58, #[.slice (some ⟨gv10, 0, none⟩) 1 cv10]⟩, ⟨gv10, 61, cbv10⟩] w9) (dc_ Try.func14 rfl (args4 (H22.ev 25 rfl) rfl rfl (H22.ev 26 rfl)) (mwrite_at _ gm3 _ 1 _ 0 ([] ++ [([97#8, 98#8], gb10, 2)]) ([97#8, 98#8], gb10, 2) [97#8, 98#8] 1 (blk 7#8) (zer (2 * 32)) W22 (ss HS22 [2]).frame (fun W9 k9 => (HS22.row 0 rfl).chg k9 (nin_row (S1 := selB [⟨gm3, 58, #[.slice (some ⟨gv10, 0, none⟩) 1 cv10]⟩, ⟨gv10, 61, cbv10⟩, ⟨gb10, 32, bs (zer (2 * 32))⟩] [2]) (ss HS22 [2, 0, 1]) 0 rfl)) (fun W9 k9 => cat_own ((HS22.row 1 rfl).chg k9 (nin_row (S1 := selB [⟨gm3, 58, #[.slice (some ⟨gv10, 0, none⟩) 1 cv10]⟩, ⟨gv10, 61, cbv10⟩, ⟨gb10, 32, bs (zer (2 * 32))⟩] [2]) (ss HS22 [2, 0, 1]) 1 rfl)) Ov10) rfl (by decide) (wk_some _) rfl (by show 1 < 2; decide) (length_zer (2 * 32)) (length_blk _)) (fun _ w9 ⟨he, hS⟩ => ⟨_, he, rfl, St.reframeF (ss HS22 [2, 0, 1]) hS⟩)) ?_
  rintro _ W23 ⟨rfl, HS23⟩ a23 H23
  clear H22 HS22
  refine wl_ <| ig H23 (wg_ H23 rfl rfl rfl rfl) rfl (dd_cmp rfl (H23.ev 27 rfl) rfl (ne_f (by decide))) fun _ H24 => q_ H24 2 rfl fun _ H25 => wl_ <| ig H25 (wg_ H25 rfl rfl rfl rfl) rfl (dd_mv rfl (H25.ev 1 rfl)) fun _ H26 => wl_ <| cg H26 (wg_ H26 rfl rfl rfl rfl) rfl HS23 (v := .agg (bs (blk 7#8))) (dc_ Try.func22 rfl (args1 rfl) (mfill7 W23) (fun _ w9 h9 => ⟨_, h9.1, rfl, h9.2⟩)) fun W27 HS27 _ H27 => wl_ <| cg H27 (wg_ H27 rfl rfl rfl rfl) rfl HS27 (v := .int .i64 17) (dc_ Try.func14 rfl (args4 (H27.ev 31 rfl) rfl rfl (H27.ev 32 rfl)) (mwrite_out gm3 _ 1 _ 0 ([] ++ [([97#8, 98#8], gb10, 2)]) ([97#8, 98#8], gb10, 2) [97#8, 98#8] 2 (blk 7#8) W27 (HS27.row 1 rfl) (cat_own (HS27.row 2 rfl) Ov10) rfl (by decide) (wk_some _) rfl (.inr (by show (2 : Int) ≤ 2; decide))) (fun _ w9 h9 => ⟨_, h9.1, rfl, h9.2⟩)) fun W28 HS28 _ H28 => wl_ <| ig H28 (wg_ H28 rfl rfl rfl rfl) rfl (dd_cmp rfl (H28.ev 33 rfl) rfl (ne_f (by decide))) fun _ H29 => wl_ <| p_ H29 rfl rfl fun _ H30 => ln_ <| ?_
  clear H23 H24 H25 H26 HS23 H27 HS27 H28 H29
  have H31 := H30.sel [1, 35] rfl
  refine nx <| cf_ H31 rfl <| wp_skip <| nx <| sq_ <| rl_ <| wl_ <| p_ H31 rfl rfl fun _ H32 => wl_ <| c_ H32 rfl HS28 (v := .tuple #[.agg (bs (((spl (zer (2 * 32)) (1 * 32) (blk 7#8)).drop (1 * 32)).take 32)), .int .i64 0]) (dc_ Try.func15 rfl (args3 (H32.ev 37 rfl) rfl rfl) (mread_at gm3 _ 1 _ 0 ([] ++ [([97#8, 98#8], gb10, 2)]) ([97#8, 98#8], gb10, 2) [97#8, 98#8] 1 (spl (zer (2 * 32)) (1 * 32) (blk 7#8)) W28 (HS28.row 1 rfl) (cat_own (HS28.row 2 rfl) Ov10) rfl (by decide) (wk_some _) rfl (by show 1 < 2; decide) (HS28.row 0 rfl) (len_spl (length_zer (2 * 32)) (length_blk _) (by show 1 * 32 + 32 ≤ 64; decide))) (fun _ w9 h9 => ⟨_, h9.1, rfl, h9.2⟩)) fun _ HS33 _ H33 => wl_ <| p_ H33 rfl rfl fun _ H34 => wl_ <| i_ H34 rfl (v := .agg (bs (((spl (zer (2 * 32)) (1 * 32) (blk 7#8)).drop (1 * 32)).take 32))) (dd_ext rfl (H34.ev 36 rfl) rfl) fun _ H35 => wl_ <| i_ H35 rfl (v := .int .i64 0) (dd_ext rfl (H35.ev 36 rfl) rfl) fun _ H36 => wl_ <| n_ H36 rfl (fun _ h => dd_new HS33 (bs (zer 32)) rfl (z := .agg (bs (zer 32))) (by kernel_rfl) rfl h) fun g2 _ HS37 _ H37 => wl_ <| t_ rfl (fun _ h => dd_setrow HS37 3 rfl rfl (H37.ev 2 rfl) (H37.ev 39 rfl) (by kernel_rfl) (((size_bs _).trans (len_take (n := 64 - 1 * 32) (len_drop (n := 64) (len_spl (length_zer (2 * 32)) (length_blk _) (by show 1 * 32 + 32 ≤ 64; decide)) rfl) (by decide))) : (bs (((spl (zer (2 * 32)) (1 * 32) (blk 7#8)).drop (1 * 32)).take 32)).size = 32) (((size_bs _).trans (length_zer 32)) : (bs (zer 32)).size = 32) (one_bs _) h) fun W38 HS38 => wl_ <| p_ H37 rfl rfl fun _ H39 => ?_
  clear H30 H31 H32 HS28 H33 H34 H35 HS33 H36 HS37
  refine ln_ <| nx <| sq_ <| rl_ <| wl_ <| p_ H39 rfl rfl fun _ H40 => wl_ <| c_ H40 rfl HS38 (v := .tuple #[.agg (bs (((spl (zer (2 * 32)) (1 * 32) (blk 7#8)).drop (0 * 32)).take 32)), .int .i64 0]) (dc_ Try.func15 rfl (args3 (H40.ev 42 rfl) rfl rfl) (mread_at gm3 _ 1 _ 0 ([] ++ [([97#8, 98#8], gb10, 2)]) ([97#8, 98#8], gb10, 2) [97#8, 98#8] 0 (spl (zer (2 * 32)) (1 * 32) (blk 7#8)) W38 (HS38.row 1 rfl) (cat_own (HS38.row 2 rfl) Ov10) rfl (by decide) (wk_some _) rfl (by show 0 < 2; decide) (HS38.row 0 rfl) (len_spl (length_zer (2 * 32)) (length_blk _) (by show 1 * 32 + 32 ≤ 64; decide))) (fun _ w9 h9 => ⟨_, h9.1, rfl, h9.2⟩)) fun _ HS41 _ H41 => wl_ <| p_ H41 rfl rfl fun _ H42 => wl_ <| i_ H42 rfl (v := .agg (bs (((spl (zer (2 * 32)) (1 * 32) (blk 7#8)).drop (0 * 32)).take 32))) (dd_ext rfl (H42.ev 41 rfl) rfl) fun _ H43 => wl_ <| i_ H43 rfl (v := .int .i64 0) (dd_ext rfl (H43.ev 41 rfl) rfl) fun _ H44 => wl_ <| n_ H44 rfl (fun _ h => dd_new HS41 (bs (zer 32)) rfl (z := .agg (bs (zer 32))) (by kernel_rfl) rfl h) fun g4 _ HS45 _ H45 => wl_ <| t_ rfl (fun _ h => dd_setrow HS45 4 rfl rfl (H45.ev 4 rfl) (H45.ev 44 rfl) (by kernel_rfl) (((size_bs _).trans (len_take (n := 64 - 0 * 32) (len_drop (n := 64) (len_spl (length_zer (2 * 32)) (length_blk _) (by show 1 * 32 + 32 ≤ 64; decide)) rfl) (by decide))) : (bs (((spl (zer (2 * 32)) (1 * 32) (blk 7#8)).drop (0 * 32)).take 32)).size = 32) (((size_bs _).trans (length_zer 32)) : (bs (zer 32)).size = 32) (one_bs _) h) fun W46 HS46 => wl_ <| p_ H45 rfl rfl fun _ H47 => ?_
  clear H37 H39 H40 HS38 H41 H42 H43 HS41 H44 HS45
  refine ln_ <| nx <| sq_ <| ?_
  clear H45
  refine wp_cut (fun a9 w9 => ∃ cbv91 : Array Value, En 88 [(0, .bool true)] a9 ∧ St w noF [⟨gm3, 58, #[.slice (some ⟨gv10, 0, none⟩) 0 cv10]⟩, ⟨gv10, 61, cbv91⟩, ⟨gb10, 32, bs (spl (zer (2 * 32)) (1 * 32) (blk 7#8))⟩, ⟨g2, 32, bs (((spl (zer (2 * 32)) (1 * 32) (blk 7#8)).drop (1 * 32)).take 32)⟩, ⟨g4, 32, bs (((spl (zer (2 * 32)) (1 * 32) (blk 7#8)).drop (0 * 32)).take 32)⟩] w9) ?_ ?_
  ·
   refine wi_ HS46 [0, 3, 4] rfl [0, 3, 4, 1, 2] rfl fun HSh48 hx48 => hp_ H47 0 hx48 rfl rfl rfl fun _ H49 => ht_ H49 1 hx48 rfl rfl (fun _ _ _ => dd_cmp rfl (H49.ev 46 rfl) rfl (eq_t (by decide))) fun _ H50 => hp_ H50 2 hx48 rfl rfl rfl fun _ H51 => htg H51 3 hx48 rfl (wg_ H51 rfl rfl rfl rfl) rfl (fun _ _ _ => dd_mv rfl (H51.ev 5 rfl)) fun _ H52 => htg H52 4 hx48 rfl (wg_ H52 rfl rfl rfl rfl) rfl (fun _ _ _ => dd_cmp rfl (H52.ev 49 rfl) rfl (eq_t (by decide))) fun _ H53 => hp_ H53 5 hx48 rfl rfl rfl fun _ H54 => hp_ H54 6 hx48 rfl rfl rfl fun _ H55 => ?_
   clear HS46 H47 H49 H50 H51 H52 H53
   refine htg H55 7 hx48 rfl (wg_ H55 rfl rfl rfl rfl) rfl (v := .agg (bs (((spl (zer (2 * 32)) (1 * 32) (blk 7#8)).drop (1 * 32)).take 32))) (fun _ _ HS9 => dd_load HS9 1 0 rfl rfl (H55.ev 2 rfl) (slab_whole _) Try.underlying32 rfl (by rw [show (bs (((spl (zer (2 * 32)) (1 * 32) (blk 7#8)).drop (1 * 32)).take 32)).size = 32 from ((size_bs _).trans (len_take (n := 64 - 1 * 32) (len_drop (n := 64) (len_spl (length_zer (2 * 32)) (length_blk _) (by show 1 * 32 + 32 ≤ 64; decide)) rfl) (by decide)))]; kernel_rfl)) fun _ H56 => h1_ 8 rfl <| cg H56 (wg_ H56 rfl rfl rfl rfl) rfl HSh48 (v := .agg (bs (blk 7#8))) (dc_ Try.func22 rfl (args1 rfl) (mfill7 W46.drew) (fun _ w9 h9 => ⟨_, h9.1, rfl, h9.2⟩)) fun W57 HS57 _ H57 => sx_ (sxi HS57 [0, 3, 4, 1, 2] rfl) fun hx58 => htg H57 9 hx58 rfl (wg_ H57 rfl rfl rfl rfl) rfl (v := .bool true) (fun _ _ _ => dd_eqa (b := true) rfl (H57.ev 53 rfl) (H57.ev 54 rfl) (by kernel_rfl) (fun w => by have h9 := eql_blk (((spl (zer (2 * 32)) (1 * 32) (blk 7#8)).drop (1 * 32)).take 32) (blk 7#8) (len_take (n := 64 - 1 * 32) (len_drop (n := 64) (len_spl (length_zer (2 * 32)) (length_blk _) (by show 1 * 32 + 32 ≤ 64; decide)) rfl) (by decide)) (length_blk _) w; rw [decide_eq_true wk_rd1] at h9; exact h9)) fun _ H59 => hp_ H59 10 hx58 rfl rfl rfl fun _ H60 => hp_ H60 11 hx58 rfl rfl rfl fun _ H61 => htg H61 12 hx58 rfl (wg_ H61 rfl rfl rfl rfl) rfl (v := .agg (bs (((spl (zer (2 * 32)) (1 * 32) (blk 7#8)).drop (0 * 32)).take 32))) (fun _ _ HS9 => dd_load HS9 2 0 rfl rfl (H61.ev 4 rfl) (slab_whole _) Try.underlying32 rfl (by rw [show (bs (((spl (zer (2 * 32)) (1 * 32) (blk 7#8)).drop (0 * 32)).take 32)).size = 32 from ((size_bs _).trans (len_take (n := 64 - 0 * 32) (len_drop (n := 64) (len_spl (length_zer (2 * 32)) (length_blk _) (by show 1 * 32 + 32 ≤ 64; decide)) rfl) (by decide)))]; kernel_rfl)) fun _ H62 => htg H62 13 hx58 rfl (wg_ H62 rfl rfl rfl rfl) rfl (v := .agg (bs (zer 32))) (fun _ _ _ => dd_bldk rfl (ps := []) (pr0) (cs := bs (zer 32)) (by kernel_rfl)) fun _ H63 => ?_
   clear H54 H55 H56 HSh48 hx48 H57 H59 H60 H61
   refine htg H63 14 hx58 rfl (wg_ H63 rfl rfl rfl rfl) rfl (v := .bool true) (fun _ _ _ => dd_eqa (b := true) rfl (H63.ev 58 rfl) (H63.ev 59 rfl) (by kernel_rfl) (fun w => by have h9 := eql_blk (((spl (zer (2 * 32)) (1 * 32) (blk 7#8)).drop (0 * 32)).take 32) (zer 32) (len_take (n := 64 - 0 * 32) (len_drop (n := 64) (len_spl (length_zer (2 * 32)) (length_blk _) (by show 1 * 32 + 32 ≤ 64; decide)) rfl) (by decide)) (length_zer 32) w; rw [decide_eq_true wk_rd0] at h9; exact h9)) fun _ H64 => hp_ H64 15 hx58 rfl rfl rfl fun _ H65 => hp_ H65 16 hx58 rfl rfl rfl fun _ H66 => htg H66 17 hx58 rfl (wg_ H66 rfl rfl rfl rfl) rfl (fun _ _ _ => dd_mv rfl (H66.ev 1 rfl)) fun _ H67 => h1_ 18 rfl <| cg H67 (wg_ H67 rfl rfl rfl rfl) rfl HS57 (v := .int .i64 9) (dc_ Try.func19 rfl (args1 (H67.ev 63 rfl)) (mfree_any gm3 _ _ _ ([] ++ [([97#8, 98#8], gb10, 2)]) W57 (HS57.row 1 rfl) (mvat_own (HS57.row 2 rfl) Ov10) (by decide) (Nat.le_of_ble_eq_true rfl)) (fun _ w9 h9 => ⟨_, h9.1, rfl, h9.2⟩)) fun W68 HS68 _ H68 => sx_ (sxi HS68 [0, 3, 4, 1, 2] rfl) fun hx69 => htg H68 19 hx69 rfl (wg_ H68 rfl rfl rfl rfl) rfl (fun _ _ _ => dd_cmp rfl (H68.ev 64 rfl) rfl (eq_t (by decide))) fun _ H70 => hp_ H70 20 hx69 rfl rfl rfl fun _ H71 => ?_
   clear H62 H63 H64 H65 H66 H67 HS57 hx58 H68
   refine hp_ H71 21 hx69 rfl rfl rfl fun _ H72 => htg H72 22 hx69 rfl (wg_ H72 rfl rfl rfl rfl) rfl (fun _ _ _ => dd_mv rfl (H72.ev 1 rfl)) fun _ H73 => ?_
   clear H70 H71 H72
   refine wpAnyH_all (rs := [23, 24]) (by kernel_rfl) (by decide) (hm_cons ?_ (hm_cons ?_ hm_nil))
   ·
    refine ho_ rfl <| dr_ H73 (wg_ H73 rfl rfl rfl rfl) rfl (R := fun v w9 => ∃ gc75 cc75 cbc75, v = .slice (some ⟨gc75, 0, none⟩) 1 cc75 ∧ (W68.heap.size ≤ gc75) ∧ (Row w9 gc75 9 cbc75) ∧ (OwnC cbc75 cc75 1 1 (strsV (([] ++ [([97#8, 98#8], gb10, 2)] : List Mv).map (·.1)))) ∧ Below W68.heap.size W68 w9) (dc_ Try.func17 rfl (args1 (H73.ev 68 rfl)) (mnames_pos gm3 _ 1 _ ([] ++ [([97#8, 98#8], gb10, 2)]) W68 (HS68.row 1 rfl) (cat_own (HS68.row 2 rfl) Ov10) rfl (by decide) (by decide)) (fun _ w9 ⟨g9, c9, cb9, he, h1, h2, h3, hb⟩ => ⟨_, he, g9, c9, cb9, rfl, h1, h2, h3, hb⟩)) ?_
    rintro _ W74 ⟨gc75, cc75, cbc75, rfl, hg75, hr75, Oc75, hb74⟩ a74 H74
    have HS74 := HS68.same hb74
    clear H73
    have HS74j : St w noF [⟨gb10, 32, bs (spl (zer (2 * 32)) (1 * 32) (blk 7#8))⟩, ⟨gm3, 58, #[.slice (some ⟨gv10, 0, none⟩) 1 cv10]⟩, ⟨gv10, 61, cbv10⟩, ⟨g2, 32, bs (((spl (zer (2 * 32)) (1 * 32) (blk 7#8)).drop (1 * 32)).take 32)⟩, ⟨g4, 32, bs (((spl (zer (2 * 32)) (1 * 32) (blk 7#8)).drop (0 * 32)).take 32)⟩, ⟨gc75, 9, cbc75⟩] W74 := HS68.joins hb74 hr75 hg75
    clear HS74 hr75 hg75
    clear HS68 hb74
    refine sx_ (sxi HS74j [0, 3, 4, 1, 2, 5] rfl) fun hx76 => h1_ 24 rfl <| ng H74 (wg_ H74 rfl rfl rfl rfl) rfl (S := fun g70 => [⟨gb10, 32, bs (spl (zer (2 * 32)) (1 * 32) (blk 7#8))⟩, ⟨gm3, 58, #[.slice (some ⟨gv10, 0, none⟩) 1 cv10]⟩, ⟨gv10, 61, cbv10⟩, ⟨g2, 32, bs (((spl (zer (2 * 32)) (1 * 32) (blk 7#8)).drop (1 * 32)).take 32)⟩, ⟨g4, 32, bs (((spl (zer (2 * 32)) (1 * 32) (blk 7#8)).drop (0 * 32)).take 32)⟩, ⟨gc75, 9, cbc75⟩, ⟨g70, 9, #[.string (⟨#[97, 98]⟩)]⟩]) (fun _ h => dd_lits HS74j #[.string (⟨#[97, 98]⟩)] rfl (ps := [(0, .string (⟨#[97, 98]⟩))]) (pr1 rfl (pr0)) (z := .string (⟨#[]⟩)) (sz := 1) Try.underlying49 (by kernel_rfl) rfl rfl (by kernel_rfl) h) fun g70 W77 HS77 _ H77 => sx_ (sxi HS77 [0, 3, 4, 1, 2, 5, 6] rfl) fun hx78 => h1_ 25 rfl <| cg H77 (wg_ H77 rfl rfl rfl rfl) rfl HS77 (v := .bool true) (dc_ Try.func16 rfl (args2 (H77.ev 69 rfl) (H77.ev 70 rfl)) (keeptx_any _ _ _ _ _ _ (([] ++ [([97#8, 98#8], gb10, 2)] : List Mv).map (·.1)) ([[97#8, 98#8]]) W77 (tx_own (HS77.row 5 rfl) Oc75) (tx_row (l := [[97#8, 98#8]]) (HS77.row 6 rfl) rfl rfl) (by decide)) (fun _ w9 h9 => ⟨_, h9.1, by rw [decide_eq_true (by rfl)], h9.2⟩)) fun W79 HS79 _ H79 => sx_ (sxi HS79 [0, 3, 4, 1, 2, 5, 6] rfl) fun hx80 => hp_ H79 26 hx80 rfl rfl rfl fun _ H81 => hp_ H81 27 hx80 rfl rfl rfl fun _ H82 => htg H82 28 hx80 rfl (wg_ H82 rfl rfl rfl rfl) rfl (fun _ _ _ => dd_mv rfl (H82.ev 1 rfl)) fun _ H83 => ?_
    clear HS74j H74 hx76 H77 HS77 hx78 H79 H81
    refine h1_ 29 rfl <| cg H83 (wg_ H83 rfl rfl rfl rfl) rfl HS79 (v := .int .i64 16) (dc_ Try.func11 rfl (args2 (H83.ev 74 rfl) rfl) (wk_gone W79 gm3 _ _ _ _ (HS79.row 1 rfl) (mvat_own (HS79.row 2 rfl) Ov10) (by decide)) (fun _ w9 h9 => ⟨_, h9.1, rfl, h9.2⟩)) fun W84 HS84 _ H84 => sx_ (sxi HS84 [0, 3, 4, 1, 2, 5, 6] rfl) fun hx85 => htg H84 30 hx85 rfl (wg_ H84 rfl rfl rfl rfl) rfl (fun _ _ _ => dd_cmp rfl (H84.ev 75 rfl) rfl (eq_t (by decide))) fun _ H86 => hp_ H86 31 hx85 rfl rfl rfl fun _ H87 => hp_ H87 32 hx85 rfl rfl rfl fun _ H88 => htg H88 33 hx85 rfl (wg_ H88 rfl rfl rfl rfl) rfl (fun _ _ _ => dd_mv rfl (H88.ev 1 rfl)) fun _ H89 => ?_
    clear H82 H83 HS79 hx80 H84 H86 H87 H88
    refine h1_ 34 rfl <| dr_ H89 (wg_ H89 rfl rfl rfl rfl) rfl (R := fun v9 w9 => ∃ cbv91 : Array Value, v9 = .int .i64 0 ∧ (OwnC cbv91 cv10 0 2 (mvL (([] ++ [([97#8, 98#8], gb10, 2)]).eraseIdx 0))) ∧ St w noF [⟨gm3, 58, #[.slice (some ⟨gv10, 0, none⟩) 0 cv10]⟩, ⟨gv10, 61, cbv91⟩, ⟨gb10, 32, bs (spl (zer (2 * 32)) (1 * 32) (blk 7#8))⟩, ⟨g2, 32, bs (((spl (zer (2 * 32)) (1 * 32) (blk 7#8)).drop (1 * 32)).take 32)⟩, ⟨g4, 32, bs (((spl (zer (2 * 32)) (1 * 32) (blk 7#8)).drop (0 * 32)).take 32)⟩, ⟨gc75, 9, cbc75⟩, ⟨g70, 9, #[.string (⟨#[97, 98]⟩)]⟩] w9) (dc_ Try.func11 rfl (args2 (H89.ev 79 rfl) rfl) (mgone_at _ gm3 gv10 0 cv10 0 _ ([] ++ [([97#8, 98#8], gb10, 2)]) [97#8, 98#8] W84 (ss HS84 [1, 2]).frame Ov10 (by decide) (wk_some _) (by decide)) (fun _ w9 ⟨b9, he, hO, hS⟩ => ⟨_, he, b9, rfl, hO, St.reframeF (ss HS84 [1, 2, 0, 3, 4, 5, 6]) hS⟩)) ?_
    rintro _ W90 ⟨cbv91, rfl, Ov91, HS90⟩ a90 H90
    clear H89 HS84
    refine sx_ (sxi HS90 [2, 3, 4, 0, 1, 5, 6] rfl) fun hx92 => htg H90 35 hx92 rfl (wg_ H90 rfl rfl rfl rfl) rfl (fun _ _ _ => dd_cmp rfl (H90.ev 80 rfl) rfl (eq_t (by decide))) fun _ H93 => hp_ H93 36 hx92 rfl rfl rfl fun _ H94 => hp_ H94 37 hx92 rfl rfl rfl fun _ H95 => htg H95 38 hx92 rfl (wg_ H95 rfl rfl rfl rfl) rfl (fun _ _ _ => dd_mv rfl (H95.ev 1 rfl)) fun _ H96 => h1_ 39 rfl <| cg H96 (wg_ H96 rfl rfl rfl rfl) rfl HS90 (v := .int .i64 11) (dc_ Try.func19 rfl (args1 (H96.ev 84 rfl)) (mfree_any gm3 _ _ _ (([] ++ [([97#8, 98#8], gb10, 2)]).eraseIdx 0) W90 (HS90.row 0 rfl) (mvat_own (HS90.row 1 rfl) Ov91) (by decide) (Nat.le_of_ble_eq_true rfl)) (fun _ w9 h9 => ⟨_, h9.1, rfl, h9.2⟩)) fun _ HS97 _ H97 => sx_ (sxi HS97 [2, 3, 4, 0, 1, 5, 6] rfl) fun hx98 => htg H97 40 hx98 rfl (wg_ H97 rfl rfl rfl rfl) rfl (fun _ _ _ => dd_cmp rfl (H97.ev 85 rfl) rfl (eq_t (by decide))) fun _ H99 => ?_
    clear hx85 H90 H93 H94 H95 H96 HS90 hx92
    refine hp_ H99 41 hx98 rfl rfl rfl fun _ H100 => hp_ H100 42 hx98 rfl rfl rfl fun _ H101 => ?_
    clear H97 H99 H100
    refine wpAnyH_done (by kernel_rfl) ?_ _
    clear hx98
    exact nx ⟨cbv91, H101.sel [0] rfl, ss HS97 [0, 1, 2, 3, 4]⟩
   refine ho_ rfl <| ng H73 (wg_ H73 rfl rfl rfl rfl) rfl (S := fun g70 => [⟨gb10, 32, bs (spl (zer (2 * 32)) (1 * 32) (blk 7#8))⟩, ⟨gm3, 58, #[.slice (some ⟨gv10, 0, none⟩) 1 cv10]⟩, ⟨gv10, 61, cbv10⟩, ⟨g2, 32, bs (((spl (zer (2 * 32)) (1 * 32) (blk 7#8)).drop (1 * 32)).take 32)⟩, ⟨g4, 32, bs (((spl (zer (2 * 32)) (1 * 32) (blk 7#8)).drop (0 * 32)).take 32)⟩, ⟨g70, 9, #[.string (⟨#[97, 98]⟩)]⟩]) (fun _ h => dd_lits HS68 #[.string (⟨#[97, 98]⟩)] rfl (ps := [(0, .string (⟨#[97, 98]⟩))]) (pr1 rfl (pr0)) (z := .string (⟨#[]⟩)) (sz := 1) Try.underlying49 (by kernel_rfl) rfl rfl (by kernel_rfl) h) fun g70 W102 HS102 _ H102 => sx_ (sxi HS102 [0, 3, 4, 1, 2, 5] rfl) fun hx103 => ?_
   clear HS68 H73
   refine h1_ 23 rfl <| dr_ H102 (wg_ H102 rfl rfl rfl rfl) rfl (R := fun v w9 => ∃ gc105 cc105 cbc105, v = .slice (some ⟨gc105, 0, none⟩) 1 cc105 ∧ (W102.heap.size ≤ gc105) ∧ (Row w9 gc105 9 cbc105) ∧ (OwnC cbc105 cc105 1 1 (strsV (([] ++ [([97#8, 98#8], gb10, 2)] : List Mv).map (·.1)))) ∧ Below W102.heap.size W102 w9) (dc_ Try.func17 rfl (args1 (H102.ev 68 rfl)) (mnames_pos gm3 _ 1 _ ([] ++ [([97#8, 98#8], gb10, 2)]) W102 (HS102.row 1 rfl) (cat_own (HS102.row 2 rfl) Ov10) rfl (by decide) (by decide)) (fun _ w9 ⟨g9, c9, cb9, he, h1, h2, h3, hb⟩ => ⟨_, he, g9, c9, cb9, rfl, h1, h2, h3, hb⟩)) ?_
   rintro _ W104 ⟨gc105, cc105, cbc105, rfl, hg105, hr105, Oc105, hb104⟩ a104 H104
   have HS104 := HS102.same hb104
   clear H102
   have HS104j : St w noF [⟨gb10, 32, bs (spl (zer (2 * 32)) (1 * 32) (blk 7#8))⟩, ⟨gm3, 58, #[.slice (some ⟨gv10, 0, none⟩) 1 cv10]⟩, ⟨gv10, 61, cbv10⟩, ⟨g2, 32, bs (((spl (zer (2 * 32)) (1 * 32) (blk 7#8)).drop (1 * 32)).take 32)⟩, ⟨g4, 32, bs (((spl (zer (2 * 32)) (1 * 32) (blk 7#8)).drop (0 * 32)).take 32)⟩, ⟨g70, 9, #[.string (⟨#[97, 98]⟩)]⟩, ⟨gc105, 9, cbc105⟩] W104 := HS102.joins hb104 hr105 hg105
   clear HS104 hr105 hg105
   clear HS102 hb104
   refine sx_ (sxi HS104j [0, 3, 4, 1, 2, 5, 6] rfl) fun hx106 => h1_ 25 rfl <| cg H104 (wg_ H104 rfl rfl rfl rfl) rfl HS104j (v := .bool true) (dc_ Try.func16 rfl (args2 (H104.ev 69 rfl) (H104.ev 70 rfl)) (keeptx_any _ _ _ _ _ _ (([] ++ [([97#8, 98#8], gb10, 2)] : List Mv).map (·.1)) ([[97#8, 98#8]]) W104 (tx_own (HS104j.row 6 rfl) Oc105) (tx_row (l := [[97#8, 98#8]]) (HS104j.row 5 rfl) rfl rfl) (by decide)) (fun _ w9 h9 => ⟨_, h9.1, by rw [decide_eq_true (by rfl)], h9.2⟩)) fun W107 HS107 _ H107 => sx_ (sxi HS107 [0, 3, 4, 1, 2, 5, 6] rfl) fun hx108 => hp_ H107 26 hx108 rfl rfl rfl fun _ H109 => hp_ H109 27 hx108 rfl rfl rfl fun _ H110 => htg H110 28 hx108 rfl (wg_ H110 rfl rfl rfl rfl) rfl (fun _ _ _ => dd_mv rfl (H110.ev 1 rfl)) fun _ H111 => h1_ 29 rfl <| cg H111 (wg_ H111 rfl rfl rfl rfl) rfl HS107 (v := .int .i64 16) (dc_ Try.func11 rfl (args2 (H111.ev 74 rfl) rfl) (wk_gone W107 gm3 _ _ _ _ (HS107.row 1 rfl) (mvat_own (HS107.row 2 rfl) Ov10) (by decide)) (fun _ w9 h9 => ⟨_, h9.1, rfl, h9.2⟩)) fun W112 HS112 _ H112 => sx_ (sxi HS112 [0, 3, 4, 1, 2, 5, 6] rfl) fun hx113 => ?_
   clear hx103 H104 HS104j hx106 H107 H109 H110 H111 HS107
   refine htg H112 30 hx113 rfl (wg_ H112 rfl rfl rfl rfl) rfl (fun _ _ _ => dd_cmp rfl (H112.ev 75 rfl) rfl (eq_t (by decide))) fun _ H114 => hp_ H114 31 hx113 rfl rfl rfl fun _ H115 => hp_ H115 32 hx113 rfl rfl rfl fun _ H116 => htg H116 33 hx113 rfl (wg_ H116 rfl rfl rfl rfl) rfl (fun _ _ _ => dd_mv rfl (H116.ev 1 rfl)) fun _ H117 => ?_
   clear hx108 H112 H114 H115 H116
   refine h1_ 34 rfl <| dr_ H117 (wg_ H117 rfl rfl rfl rfl) rfl (R := fun v9 w9 => ∃ cbv119 : Array Value, v9 = .int .i64 0 ∧ (OwnC cbv119 cv10 0 2 (mvL (([] ++ [([97#8, 98#8], gb10, 2)]).eraseIdx 0))) ∧ St w noF [⟨gm3, 58, #[.slice (some ⟨gv10, 0, none⟩) 0 cv10]⟩, ⟨gv10, 61, cbv119⟩, ⟨gb10, 32, bs (spl (zer (2 * 32)) (1 * 32) (blk 7#8))⟩, ⟨g2, 32, bs (((spl (zer (2 * 32)) (1 * 32) (blk 7#8)).drop (1 * 32)).take 32)⟩, ⟨g4, 32, bs (((spl (zer (2 * 32)) (1 * 32) (blk 7#8)).drop (0 * 32)).take 32)⟩, ⟨g70, 9, #[.string (⟨#[97, 98]⟩)]⟩, ⟨gc105, 9, cbc105⟩] w9) (dc_ Try.func11 rfl (args2 (H117.ev 79 rfl) rfl) (mgone_at _ gm3 gv10 0 cv10 0 _ ([] ++ [([97#8, 98#8], gb10, 2)]) [97#8, 98#8] W112 (ss HS112 [1, 2]).frame Ov10 (by decide) (wk_some _) (by decide)) (fun _ w9 ⟨b9, he, hO, hS⟩ => ⟨_, he, b9, rfl, hO, St.reframeF (ss HS112 [1, 2, 0, 3, 4, 5, 6]) hS⟩)) ?_
   rintro _ W118 ⟨cbv119, rfl, Ov119, HS118⟩ a118 H118
   clear H117 HS112
   refine sx_ (sxi HS118 [2, 3, 4, 0, 1, 5, 6] rfl) fun hx120 => htg H118 35 hx120 rfl (wg_ H118 rfl rfl rfl rfl) rfl (fun _ _ _ => dd_cmp rfl (H118.ev 80 rfl) rfl (eq_t (by decide))) fun _ H121 => hp_ H121 36 hx120 rfl rfl rfl fun _ H122 => hp_ H122 37 hx120 rfl rfl rfl fun _ H123 => htg H123 38 hx120 rfl (wg_ H123 rfl rfl rfl rfl) rfl (fun _ _ _ => dd_mv rfl (H123.ev 1 rfl)) fun _ H124 => h1_ 39 rfl <| cg H124 (wg_ H124 rfl rfl rfl rfl) rfl HS118 (v := .int .i64 11) (dc_ Try.func19 rfl (args1 (H124.ev 84 rfl)) (mfree_any gm3 _ _ _ (([] ++ [([97#8, 98#8], gb10, 2)]).eraseIdx 0) W118 (HS118.row 0 rfl) (mvat_own (HS118.row 1 rfl) Ov119) (by decide) (Nat.le_of_ble_eq_true rfl)) (fun _ w9 h9 => ⟨_, h9.1, rfl, h9.2⟩)) fun _ HS125 _ H125 => sx_ (sxi HS125 [2, 3, 4, 0, 1, 5, 6] rfl) fun hx126 => htg H125 40 hx126 rfl (wg_ H125 rfl rfl rfl rfl) rfl (fun _ _ _ => dd_cmp rfl (H125.ev 85 rfl) rfl (eq_t (by decide))) fun _ H127 => ?_
   clear hx113 H118 H121 H122 H123 H124 HS118 hx120
   refine hp_ H127 41 hx126 rfl rfl rfl fun _ H128 => hp_ H128 42 hx126 rfl rfl rfl fun _ H129 => ?_
   clear H125 H127 H128
   refine wpAnyH_done (by kernel_rfl) ?_ _
   clear hx126
   exact nx ⟨cbv119, H129.sel [0] rfl, ss HS125 [0, 1, 2, 3, 4]⟩
  rintro aj48 wj48 ⟨cbv91, Hj48, HSj48⟩
  refine nx <| wp_ret <| ret_run Hj48.env0 (res_t Try.results7 (Hj48.get 0 rfl)) <| ?_
  exact ⟨rfl, HSj48.below⟩
end Go.Proofs.Ytefhenkdakokeaa

/- The statement ModelNone: its walk. -/
set_option maxRecDepth 4000
namespace Go.Proofs.Ytefhenkdakokeaa
open Go Go.RowKit
end Go.Proofs.Ytefhenkdakokeaa

/- Steps of a tenant's calls, as they lie in memory: kind, name, number, data. No function of the program is named here. -/
set_option maxRecDepth 4000
namespace Go.Proofs.Ytefhenkdakokeaa
open Go Go.RowKit
abbrev Sp := Int × List (BitVec 8) × Int × List (BitVec 8)
def wfS (l : List Sp) : Prop := ∀ x ∈ l, x.2.2.2.length = 32
def spcell (x : Sp) : List Value := [[.int .i64 x.1], [.string (strB x.2.1)], [.int .i64 x.2.2.1], bytesV x.2.2.2].flatten
def spL (l : List Sp) : List Value := (l.map spcell).flatten
theorem len_spcell {x : Sp} (h : x.2.2.2.length = 32) : (spcell x).length = 35 := by unfold spcell; simp [len_bytesV, h]
theorem sp_app (l m : List Sp) : spL (l ++ m) = spL l ++ spL m := by unfold spL; rw [List.map_append, List.flatten_append]
theorem sp_one (x : Sp) : spL [x] = spcell x := by unfold spL; simp
theorem len_spL {l : List Sp} {n : Nat} (hw : wfS l) (hn : l.length = n) : (spL l).length = n * 35 := by
  subst hn
  induction l with
  | nil => rfl
  | cons x l ih =>
    have h1 := hw x (List.mem_cons_self ..)
    rw [show x :: l = [x] ++ l from rfl, sp_app, List.length_append, sp_one, len_spcell h1, ih fun y hy => hw y (List.mem_cons_of_mem _ hy), List.length_append]
    simp only [List.length_singleton]; omega
/- a slice that reads as these steps -/
structure SpsAt (w : World) (A : Option Addr) (n c : Nat) (X : List Sp) : Prop where
  len : X.length = n
  cap : n ≤ c
  wf : wfS X
  at_ : n ≠ 0 → ∃ b o, A = some ⟨b, o, none⟩ ∧ CAt w b o (spL X)
theorem SpsAt.call {w w' : World} {A : Option Addr} {n c : Nat} {X : List Sp} (h : SpsAt w A n c X) (hb : Below w.heap.size w w') : SpsAt w' A n c X :=
  ⟨h.len, h.cap, h.wf, fun hn => by obtain ⟨b, o, h1, h2⟩ := h.at_ hn; exact ⟨b, o, h1, h2.call hb⟩⟩
section
variable {w : World} {b o k : Nat} {l : List Sp} {x : Sp}
theorem cat_sp (h : CAt w b o (spL l)) (hw : wfS l) (hx : l[k]? = some x) : CAt w b (o + k * 35) (spcell x) := by
  have hk := (List.getElem?_eq_some_iff.1 hx).1
  have e : spL l = spL (l.take k) ++ (spcell x ++ spL (l.drop (k + 1))) := by
    conv => lhs; rw [← List.take_append_drop k l, List.drop_eq_getElem_cons hk]
    rw [(List.getElem?_eq_some_iff.1 hx).2, sp_app, show x :: l.drop (k + 1) = [x] ++ l.drop (k + 1) from rfl, sp_app, sp_one]
  rw [e] at h
  exact (h.post (len_spL (n := k) (fun y hy => hw y (List.mem_of_mem_take hy)) (by rw [List.length_take]; omega))).pre
theorem sp_nm (h : CAt w b o (spL l)) (hw : wfS l) (hx : l[k]? = some x) : w.cell? ⟨b, o + k * 35 + 1, none⟩ = some (.string (strB x.2.1)) := (cat_sp h hw hx).at_ 1 _ rfl
theorem sp_no (h : CAt w b o (spL l)) (hw : wfS l) (hx : l[k]? = some x) : w.cell? ⟨b, o + k * 35 + 2, none⟩ = some (.int .i64 x.2.2.1) := (cat_sp h hw hx).at_ 2 _ rfl
theorem sp_dat (h : CAt w b o (spL l)) (hw : wfS l) (hx : l[k]? = some x) : w.rangeAt b (o + k * 35 + 3) (bytesV x.2.2.2) := by
  have e : spcell x = [.int .i64 x.1, .string (strB x.2.1), .int .i64 x.2.2.1] ++ bytesV x.2.2.2 := by unfold spcell; simp
  have h2 := cat_sp h hw hx
  rw [e] at h2
  exact (h2.post (n := 3) rfl).at_
end
def fairS (l : List Sp) : Bool := decide (∀ x ∈ l, x.2.1.length ≤ 100) && decide (l.length ≤ 150)
theorem fairs_no {l : List Sp} {k : Nat} {x : Sp} (hx : l[k]? = some x) (h : 100 < x.2.1.length) : fairS l = false := by
  unfold fairS
  rw [decide_eq_false (fun h9 => by have := h9 x (List.mem_of_getElem? hx); omega), Bool.false_and]
theorem fairs_all {l : List Sp} {n : Nat} (hn : l.length = n) (h : ∀ (j : Nat) (x : Sp), j < n → l[j]? = some x → x.2.1.length ≤ 100) : fairS l = decide (n ≤ 150) := by
  unfold fairS
  rw [decide_eq_true (fun x hx => by
    obtain ⟨j, hj⟩ := List.getElem?_of_mem hx
    have h9 := (List.getElem?_eq_some_iff.1 hj).1
    exact h j x (by omega) hj), hn, Bool.true_and]
end Go.Proofs.Ytefhenkdakokeaa

/- fair, of any steps. -/
set_option maxRecDepth 4000
namespace Go.Proofs.Ytefhenkdakokeaa
open Go Go.RowKit
theorem sfair_pos (b o n c : Nat) (l : List Sp) (w : World) (h0 : CAt w b o (spL l)) (hl : l.length = n) (hwf : wfS l) (hm : n ≤ 9223372036854775807) : Calls Try.prog 6 #[.slice (some ⟨b, o, none⟩) n c] w fun x w' => x = .returned (.bool (fairS l)) ∧ Below w.heap.size w w' := by
  have HS := St.nil w noF
  have HE : ∀ W, Below w.heap.size w W → CAt W b o (spL l) := fun W hb => h0.call hb
  refine enter_en Try.func6 rfl Try.ntmps6 (Nat.le_of_ble_eq_true rfl) fun a0 (HA0 : En 20 [(0, .slice (some ⟨b, o, none⟩) n c)] a0) => ?_
  refine sq_ <| rl_ <| wl_ <| p_ HA0 rfl rfl fun _ H1 => ln_ <| nx <| sq_ <| sq_ <| rl_ <| wl_ <| p_ H1 rfl rfl fun _ H2 => ln_ <| nx <| wp_block <| ?_
  clear HA0 H1
  refine wp_loopG (ι := Nat) (fun i a9 w9 => (i ≤ n) ∧ (∀ (j : Nat) (x : Sp), j < i → l[j]? = some x → x.2.1.length ≤ 100) ∧ En 20 [(3, .int .i64 i), (0, .slice (some ⟨b, o, none⟩) n c)] a9 ∧ St w noF [] w9) (fun i => n - i) (0) ⟨(Nat.zero_le _), (fun j x hj => absurd hj (Nat.not_lt_zero _)), H2.sel [0, 3] rfl, ss HS []⟩ ?_
  clear H2 HS
  rintro i aL3 wL3 ⟨hj, hok, HL3, HSL3⟩
  refine sq_ <| sq_ <| rl_ <| q_ HL3 2 rfl fun _ H4 => wl_ <| i_ H4 rfl (v := .int .i64 n) (dd_len rfl (H4.ev 5 rfl) Try.underlying22) fun _ H5 => ?_
  clear HL3 H4
  by_cases hc7 : (i : Int) < n
  ·
   refine wl_ <| i_ H5 rfl (dd_cmp rfl (H5.ev 4 rfl) (H5.ev 6 rfl) (lt_t hc7)) fun _ H8 => ln_ <| nx <| ct_ H8 rfl <| wp_skip <| nx <| sq_ <| wp_block <| sq_ <| ?_
   clear H5
   obtain ⟨yi, hyi⟩ : ∃ y, l[i]? = some y := ⟨_, List.getElem?_eq_getElem (by rw [hl]; omega)⟩
   have hwi := hwf yi (List.mem_of_getElem? hyi)
   refine rl_ <| q_ H8 2 rfl fun a9 H9 => wl_ <| i_ H9 rfl (xSo 35 (o + i * 35) rfl (H9.ev 10 rfl) (H9.ev 11 rfl)) fun _ H10 => wl_ <| i_ H10 rfl (xf 1 (o + i * 35 + 1) rfl (H10.ev 12 rfl)) fun _ H11 => wl_ <| i_ H11 rfl (dd_at rfl (H11.ev 13 rfl) (sp_nm (HE _ HSL3.below) hwf hyi) Try.underlying9 rfl) fun _ H12 => wl_ <| i_ H12 rfl (v := .int .i64 yi.2.1.length) (dd_lens rfl (H12.ev 14 rfl) Try.underlying9 (by rw [strB_size])) fun _ H13 => ?_
   clear H8 H9 H10 H11 H12
   by_cases hc15 : (100 : Int) < yi.2.1.length
   ·
    refine wl_ <| i_ H13 rfl (dd_cmp rfl (H13.ev 15 rfl) rfl (gt_t hc15)) fun _ H16 => ln_ <| nx <| ct_ H16 rfl <| sq_ <| rl_ <| wl_ <| p_ H16 rfl rfl fun _ H17 => ln_ <| nx <| wp_ret <| br_ <| tr <| tr <| br_ <| tr <| ret_run H17.env0 (res_t Try.results6 (H17.get 2 rfl)) <| ?_
    clear H13 H16
    exact ⟨by rw [fairs_no hyi (by omega)], HSL3.below⟩
   refine wl_ <| i_ H13 rfl (dd_cmp rfl (H13.ev 15 rfl) rfl (gt_f hc15)) fun _ H18 => ln_ <| nx <| cf_ H18 rfl <| wp_skip <| bn <| nx <| rl_ <| wl_ <| p_ H18 rfl rfl fun _ H19 => wl_ <| i_ H19 rfl (v := .int .i64 (i + 1)) (dd_ari rfl (H19.ev 8 rfl) rfl rfl (i64_of (by first | omega | (have := bd_lo; omega)) (by omega))) fun _ H20 => wl_ <| p_ H20 rfl rfl fun _ H21 => ln_ <| ?_
   clear H13 H18 H19 H20
   refine nx ⟨i + 1, ⟨(by omega), (fun j x hj hx => (Nat.lt_succ_iff_lt_or_eq.1 hj).elim (fun h8 => hok j x h8 hx) (fun h8 => by rw [h8, hyi] at hx; injection hx with hx; rw [← hx]; omega)), H21.sel [0, 3] rfl, ss HSL3 []⟩, (by omega)⟩
  refine wl_ <| i_ H5 rfl (dd_cmp rfl (H5.ev 4 rfl) (H5.ev 6 rfl) (lt_f hc7)) fun _ H22 => ln_ <| nx <| cf_ H22 rfl <| wp_exit <| tx <| tx <| bx <| nx <| sq_ <| rl_ <| wl_ <| p_ H22 rfl rfl fun _ H23 => wl_ <| i_ H23 rfl (v := .int .i64 n) (dd_len rfl (H23.ev 17 rfl) Try.underlying22) fun _ H24 => ?_
  clear H5 H22 H23
  by_cases hc26 : (n : Int) ≤ 150
  ·
   refine wl_ <| i_ H24 rfl (dd_cmp rfl (H24.ev 18 rfl) rfl (le_t hc26)) fun _ H27 => wl_ <| p_ H27 rfl rfl fun _ H28 => ln_ <| nx <| wp_ret <| ret_run H28.env0 (res_t Try.results6 (H28.get 2 rfl)) <| ?_
   clear H24 H27
   exact ⟨by rw [fairs_all hl (fun j x hj hx => hok j x (by omega) hx), decide_eq_true (by omega)], HSL3.below⟩
  refine wl_ <| i_ H24 rfl (dd_cmp rfl (H24.ev 18 rfl) rfl (le_f hc26)) fun _ H29 => wl_ <| p_ H29 rfl rfl fun _ H30 => ln_ <| nx <| wp_ret <| ret_run H30.env0 (res_t Try.results6 (H30.get 2 rfl)) <| ?_
  clear H24 H29
  exact ⟨by rw [fairs_all hl (fun j x hj hx => hok j x (by omega) hx), decide_eq_false (by omega)], HSL3.below⟩
theorem sfair_any (A : Option Addr) (n c : Nat) (l : List Sp) (w : World) (h : SpsAt w A n c l) (hm : n ≤ 9223372036854775807) : Calls Try.prog 6 #[.slice A n c] w fun x w' => x = .returned (.bool (fairS l)) ∧ Below w.heap.size w w' := by
  by_cases hn : n = 0
  · subst hn
    rw [List.length_eq_zero_iff.1 h.len, show fairS [] = true from rfl]
    have HS := St.nil w noF
    refine enter_en Try.func6 rfl Try.ntmps6 (Nat.le_of_ble_eq_true rfl) fun a0 (HA0 : En 20 [(0, .slice A 0 c)] a0) => ?_
    refine sq_ <| rl_ <| wl_ <| p_ HA0 rfl rfl fun _ H1 => ln_ <| nx <| sq_ <| sq_ <| rl_ <| wl_ <| p_ H1 rfl rfl fun _ H2 => ln_ <| nx <| wp_block <| wp_unr 1 <| unr_go <| sq_ <| sq_ <| rl_ <| q_ H2 2 rfl fun _ H3 => wl_ <| i_ H3 rfl (v := .int .i64 0) (dd_len rfl (H3.ev 5 rfl) Try.underlying22) fun _ H4 => wl_ <| i_ H4 rfl (dd_cmp rfl (H4.ev 4 rfl) (H4.ev 6 rfl) (lt_f (by decide))) fun _ H5 => ln_ <| nx <| cf_ H5 rfl <| wp_exit <| tx <| tx <| bx <| nx <| sq_ <| rl_ <| wl_ <| p_ H5 rfl rfl fun _ H6 => wl_ <| i_ H6 rfl (v := .int .i64 0) (dd_len rfl (H6.ev 17 rfl) Try.underlying22) fun _ H7 => wl_ <| i_ H7 rfl (dd_cmp rfl (H7.ev 18 rfl) rfl (le_t (by decide))) fun _ H8 => ?_
    clear HA0 H1 H2 H3 H4 H5 H6
    refine wl_ <| p_ H8 rfl rfl fun _ H9 => ln_ <| nx <| wp_ret <| ret_run H9.env0 (res_t Try.results6 (H9.get 2 rfl)) <| ?_
    clear H7 H8
    exact ⟨rfl, HS.below⟩
  · obtain ⟨b, o, rfl, h1⟩ := h.at_ hn
    exact sfair_pos b o n c l w h1 h.len h.wf hm
end Go.Proofs.Ytefhenkdakokeaa

/- Five blocks, three of one volume and two of another. No function of the program is named here. -/
set_option maxRecDepth 4000
namespace Go.Proofs.Ytefhenkdakokeaa
open Go Go.RowKit
section
variable {W d : List (BitVec 8)} {k : Nat}
theorem ap_take (hW : W.length = 160) (hd : d.length = 32) (hk : k < 3) : (spl W (k * 32) d).take 96 = spl (W.take 96) (k * 32) d := by
  apply List.ext_getElem?
  intro j
  unfold spl
  simp only [List.getElem?_take, List.getElem?_append, List.getElem?_drop, List.length_append, List.length_take, hW, hd]
  repeat' split
  all_goals first | rfl | (exfalso; omega) | (congr 1; omega) | skip
theorem ap_drop (hW : W.length = 160) (hd : d.length = 32) (hk : k < 3) : (spl W (k * 32) d).drop 96 = W.drop 96 := by
  apply List.ext_getElem?
  intro j
  unfold spl
  simp only [List.getElem?_take, List.getElem?_append, List.getElem?_drop, List.length_append, List.length_take, hW, hd]
  repeat' split
  all_goals first | rfl | (exfalso; omega) | (congr 1; omega) | skip
theorem ap_take2 (hW : W.length = 160) (hd : d.length = 32) (h3 : 3 ≤ k) (hk : k < 5) : (spl W (k * 32) d).take 96 = W.take 96 := by
  apply List.ext_getElem?
  intro j
  unfold spl
  simp only [List.getElem?_take, List.getElem?_append, List.getElem?_drop, List.length_append, List.length_take, hW, hd]
  repeat' split
  all_goals first | rfl | (exfalso; omega) | (congr 1; omega) | skip
theorem ap_drop2 (hW : W.length = 160) (hd : d.length = 32) (h3 : 3 ≤ k) (hk : k < 5) : (spl W (k * 32) d).drop 96 = spl (W.drop 96) ((k - 3) * 32) d := by
  apply List.ext_getElem?
  intro j
  unfold spl
  simp only [List.getElem?_take, List.getElem?_append, List.getElem?_drop, List.length_append, List.length_take, List.length_drop, hW, hd]
  repeat' split
  all_goals first | rfl | (exfalso; omega) | (congr 1; omega) | skip
theorem ap_rd (hk : k < 3) : ((W.take 96).drop (k * 32)).take 32 = (W.drop (k * 32)).take 32 := by
  rw [List.drop_take, List.take_take, Nat.min_eq_left (by omega)]
theorem ap_rd2 (h3 : 3 ≤ k) : ((W.drop 96).drop ((k - 3) * 32)).take 32 = (W.drop (k * 32)).take 32 := by
  rw [List.drop_drop, show 96 + (k - 3) * 32 = k * 32 by omega]
end
end Go.Proofs.Ytefhenkdakokeaa

/- ModelApart's two volumes, plainly. No function of the program is named here. -/
set_option maxRecDepth 4000
namespace Go.Proofs.Ytefhenkdakokeaa
open Go Go.RowKit
def apX (g h : Nat) : List Mv := [] ++ [([118#8], g, 3)] ++ [([119#8], h, 2)]
def apY (g h k : Nat) : List Mv := (apX g h).eraseIdx 0 ++ [([118#8], k, 4)]
theorem ap_m1 : mmE [] [118#8] ((3 : Nat) : Int) = 0 := rfl
theorem ap_m2 (g : Nat) : mmE ([] ++ [([118#8], g, 3)]) [119#8] ((2 : Nat) : Int) = 0 := rfl
theorem ap_m3 (g h : Nat) : mmE ((apX g h).eraseIdx 0) [118#8] ((4 : Nat) : Int) = 0 := rfl
theorem ap_fv (g h : Nat) : findI [118#8] (tvs (apX g h)) = ((0 : Nat) : Int) := rfl
theorem ap_fw (g h : Nat) : findI [119#8] (tvs (apX g h)) = ((1 : Nat) : Int) := rfl
theorem ap_gv (g h k : Nat) : findI [118#8] (tvs (apY g h k)) = ((1 : Nat) : Int) := rfl
theorem ap_gw (g h k : Nat) : findI [119#8] (tvs (apY g h k)) = ((0 : Nat) : Int) := rfl
theorem ap_xv (g h : Nat) : (apX g h)[0]? = some ([118#8], g, 3) := rfl
theorem ap_xw (g h : Nat) : (apX g h)[1]? = some ([119#8], h, 2) := rfl
theorem ap_yv (g h k : Nat) : (apY g h k)[1]? = some ([118#8], k, 4) := rfl
theorem ap_yw (g h k : Nat) : (apY g h k)[0]? = some ([119#8], h, 2) := rfl
end Go.Proofs.Ytefhenkdakokeaa

/- A step as an argument: opened. No function of the program is named here. -/
set_option maxRecDepth 4000
namespace Go.Proofs.Ytefhenkdakokeaa
open Go Go.ChangeShapes Go.WideShapes Go.ChangeAt Go.RowKit
def rdStp : Rd (Int × ByteArray × Int × List (BitVec 8)) := rdMap (fun x => (x.1, x.2.1, x.2.2.1, x.2.2.2.1)) (rdCons 1 (rdInt .i64) (rdCons 1 rdStr (rdCons 1 (rdInt .i64) (rdCons 32 (rdRow 32) rdNil))))
theorem cellsMI : Try.prog.cellsOf 3 = 1 := by kernel_rfl
theorem cellsMS : Try.prog.cellsOf 9 = 1 := by kernel_rfl
theorem cellsMB : Try.prog.cellsOf 32 = 32 := by kernel_rfl
theorem opens_stp : Opens Try.prog 34 rdStp :=
  opens_map (opens_struct Try.underlying34 (by kernel_rfl) (opensF_cons rfl cellsMI (opens_int Try.underlying3) (opensF_cons rfl cellsMS (opens_str Try.underlying9) (opensF_cons rfl cellsMI (opens_int Try.underlying3) (opensF_cons rfl cellsMB (opens_row Try.underlying32 Try.underlying5 (by kernel_rfl) cellsMB) opensF_nil)))))
end Go.Proofs.Ytefhenkdakokeaa

/- Steps as an argument: opened. No function of the program is named here. -/
set_option maxRecDepth 4000
namespace Go.Proofs.Ytefhenkdakokeaa
open Go Go.ChangeShapes Go.WideShapes Go.ChangeAt Go.RowKit
noncomputable def unBM (s : ByteArray) : List (BitVec 8) := (strB_all s).choose
theorem strB_unBM (s : ByteArray) : s = strB (unBM s) := (strB_all s).choose_spec
abbrev Rm := Int × ByteArray × Int × List (BitVec 8)
noncomputable def toSp (x : Rm) : Sp := (x.1, unBM x.2.1, x.2.2.1, x.2.2.2)
theorem bounds_i64M {n : Int} (h : (Lit.int .i64 n).wf = true) : -9223372036854775808 ≤ n ∧ n < 9223372036854775808 := by
  simp only [Lit.wf, Bool.and_eq_true, decide_eq_true_eq] at h
  have h1 : IntKind.i64.min = -9223372036854775808 := by decide
  have h2 : IntKind.i64.max = 9223372036854775807 := by decide
  omega
def bndS (l : List Sp) : Prop := ∀ x ∈ l, -9223372036854775808 ≤ x.2.2.1 ∧ x.2.2.1 < 9223372036854775808
theorem rm_cells {w : World} {ds : List Value} {x : Rm} (h : rdStp w ds x) : ds = spcell (toSp x) ∧ (toSp x).2.2.2.length = 32 ∧ -9223372036854775808 ≤ (toSp x).2.2.1 ∧ (toSp x).2.2.1 < 9223372036854775808 := by
  obtain ⟨⟨i, s, n, q, _⟩, h, rfl⟩ := h
  obtain ⟨c0, d0, rfl, _, ⟨rfl, _⟩, c1, d1, rfl, _, ⟨rfl, _⟩, c2, d2, rfl, _, ⟨rfl, hi⟩, c3, d3, rfl, _, ⟨rfl, hq⟩, h4⟩ := h
  have h4 : d3 = [] := h4
  subst h4
  refine ⟨?_, hq, bounds_i64M hi⟩
  show _ = [[Value.int .i64 i], [.string (strB (unBM s))], [.int .i64 n], bytesV q].flatten
  rw [← strB_unBM s]
  simp
theorem flat_getM {sz : Nat} : ∀ (L : List (List Value)), (∀ c ∈ L, c.length = sz) → ∀ (k m : Nat) (c : List Value), L[k]? = some c → m < sz → L.flatten[k * sz + m]? = c[m]?
  | [], _, k, m, c, h, _ => by simp at h
  | d :: L, hL, 0, m, c, h, hm => by
    obtain rfl : d = c := by simpa using h
    rw [List.flatten_cons, Nat.zero_mul, Nat.zero_add, List.getElem?_append_left (by rw [hL d (List.mem_cons_self ..)]; exact hm)]
  | d :: L, hL, k + 1, m, c, h, hm => by
    have hd := hL d (List.mem_cons_self ..)
    rw [List.flatten_cons, List.getElem?_append_right (by rw [hd, Nat.succ_mul]; omega), hd, show (k + 1) * sz + m - sz = k * sz + m by rw [Nat.succ_mul]; omega]
    exact flat_getM L (fun x hx => hL x (List.mem_cons_of_mem _ hx)) k m c (by simpa using h) hm
theorem sps_rd {w : World} {A : Option Addr} {n c : Nat} {l : List Rm} (h : rdSl 35 rdStp w [.slice A n c] l) : SpsAt w A n c (l.map toSp) ∧ bndS (l.map toSp) ∧ n ≤ maxLen := by
  obtain ⟨A', c', h1, h2, h3, hml, h5⟩ := h
  have h1 : Value.slice A n c = .slice A' l.length c' := by simpa using h1
  injection h1 with e1 e2 e3
  subst e1 e2 e3
  have key : ∀ x ∈ l, (toSp x).2.2.2.length = 32 ∧ -9223372036854775808 ≤ (toSp x).2.2.1 ∧ (toSp x).2.2.1 < 9223372036854775808 := fun x hx => by
    obtain ⟨b, o, _, _, h8⟩ := h5 (by intro e; subst e; cases hx)
    obtain ⟨k, hk⟩ := List.getElem?_of_mem hx
    obtain ⟨ds, _, _, h10⟩ := h8 k x hk
    exact (rm_cells h10).2
  have hw : wfS (l.map toSp) := fun y hy => by
    obtain ⟨x, hx, rfl⟩ := List.mem_map.1 hy
    exact (key x hx).1
  refine ⟨⟨List.length_map .., h2, hw, fun hn => ?_⟩, fun y hy => ?_, hml⟩
  · obtain ⟨b, o, h6, h7, h8⟩ := h5 (by rintro rfl; exact hn rfl)
    refine ⟨b, o, h6, h7, fun j v hv => ?_⟩
    have hj : j < l.length * 35 := by rw [← len_spL hw (List.length_map ..)]; exact (List.getElem?_eq_some_iff.1 hv).1
    obtain ⟨k, m, hm, rfl⟩ : ∃ k m, m < 35 ∧ j = k * 35 + m := ⟨j / 35, j % 35, by omega, by omega⟩
    obtain ⟨x, hxk⟩ : ∃ x, l[k]? = some x := ⟨_, List.getElem?_eq_getElem (by omega)⟩
    obtain ⟨ds, _, h9, h10⟩ := h8 k x hxk
    rw [(rm_cells h10).1] at h9
    unfold spL at hv
    rw [flat_getM (sz := 35) ((l.map toSp).map spcell) (fun c hc => by
      obtain ⟨y, hy, rfl⟩ := List.mem_map.1 hc
      exact len_spcell (hw y hy)) k m (spcell (toSp x)) (by rw [List.getElem?_map, List.getElem?_map, hxk]; rfl) hm] at hv
    rw [← Nat.add_assoc]
    exact h9 m v hv
  · obtain ⟨x, hx, rfl⟩ := List.mem_map.1 hy
    exact (key x hx).2
theorem cellsMSt : Try.prog.cellsOf 34 = 35 := by kernel_rfl
theorem open_sps {H : Type} {enc : TypeId × Value → H} {W : World} {r : Reach} {base : Nat} {v : Value} {d : DataW H} {ps : List MemPlace} (hval : Value.okWide Try.prog W r base 22 v)
    (h : DataW.Trod enc Try.prog W 0 (fun _ => true) true 22 v d ps) (hlt : ∀ x ∈ ps, x.block < W.heap.size) : ∃ A n c l, v = .slice A n c ∧ SpsAt W A n c l ∧ bndS l ∧ n ≤ maxLen := by
  obtain ⟨A, c, l, e, hx⟩ := open_argSl Try.underlying22 (opens_sl Try.underlying22 cellsMSt (by decide) opens_stp) hval h hlt
  exact ⟨A, _, c, _, e, sps_rd hx⟩
end Go.Proofs.Ytefhenkdakokeaa
