/- Merged: Aw AwS AwD AwM AwH AwL AwN AwQ AwT AwR TabFresh AwW AwX AwZ TabSpec TabFind TabBytes TabFrom TabGood. -/
import Derived.OrdersHeld
import Derived.Deep.DeepAppendWide
import Derived.Lib.SliceRun
import Derived.Test.YtnmaplgodimohaaDoorMGen0
import Derived.Test.YtnmaplgodimohaaDoorMStr0
/- Walks whose every step is one lemma: the frame as a list of slots that are known; regions in order, and regions that draw. No function of the program is named here. -/
set_option maxRecDepth 4000
namespace Go.Proofs.YtnmaplgodimohaaDoor
open Go Go.RowKit
/- the frame, as far as it is known -/
structure Env (N : Nat) (L : List (Nat × Value)) (a : Act) : Prop where
  size : a.tmps.size = N
  defers : a.defers = []
  at_ : ∀ (i k : Nat) (v : Value), L[i]? = some (k, v) → a.tmps[k]? = some v
def kp (L : List (Nat × Value)) : List Nat → List (Nat × Value)
  | [] => []
  | i :: is => match L[i]? with
    | some p => p :: kp L is
    | none => kp L is
def setd : Option Tmp → Value → List (Nat × Value) → List (Nat × Value)
  | some d, v, L => (d, v) :: L
  | none, _, L => L
def okd : Option Tmp → Nat → List (Nat × Value) → Bool
  | some d, N, L => Nat.blt d N && L.all fun p => !Nat.beq p.1 d
  | none, _, _ => true
theorem kp_at (L : List (Nat × Value)) : ∀ (is : List Nat) (i : Nat) (p : Nat × Value), (kp L is)[i]? = some p → ∃ j : Nat, L[j]? = some p
  | [], i, p, h => by simp [kp] at h
  | j :: is, i, p, h => by
    unfold kp at h
    cases hj : L[j]? with
    | none => rw [hj] at h; exact kp_at L is i p h
    | some q =>
      rw [hj] at h
      cases i with
      | zero => exact ⟨j, by rw [hj]; simpa using h⟩
      | succ i => exact kp_at L is i p (by simpa using h)
section
variable {P : Program} {N : Nat} {L : List (Nat × Value)} {a : Act}
theorem Env.ev (h : Env N L a) (i : Nat) {k : Nat} {v : Value} (hi : L[i]? = some (k, v)) : a.eval (.tmp k) = v := eval_of_get (h.at_ i k v hi)
theorem Env.get (h : Env N L a) (i : Nat) {k : Nat} {v : Value} (hi : L[i]? = some (k, v)) : a.tmps[k]? = some v := h.at_ i k v hi
theorem Env.keep (h : Env N L a) (is : List Nat) : Env N (kp L is) a := ⟨h.size, h.defers, fun i k v hi => by obtain ⟨j, hj⟩ := kp_at L is i (k, v) hi; exact h.at_ j k v hj⟩
theorem Env.put (h : Env N L a) (is : List Nat) (d : Option Tmp) (v : Value) (hk : okd d N (kp L is) = true) : Env N (setd d v (kp L is)) (a.put d v) := by
  cases d with
  | none => exact h.keep is
  | some d =>
    simp only [okd, Bool.and_eq_true, List.all_eq_true] at hk
    have hd : d < N := by have := hk.1; unfold Nat.blt at this; exact Nat.le_of_ble_eq_true this
    refine ⟨by simp [Act.put, h.size], h.defers, fun i k u hi => ?_⟩
    cases i with
    | zero =>
      have hi : (d, v) = (k, u) := by simpa [setd] using hi
      injection hi with h1 h2
      subst h1 h2
      simp [Act.put, h.size, hd]
    | succ i =>
      have hi : (kp L is)[i]? = some (k, u) := by simpa [setd] using hi
      have h1 := hk.2 _ (List.mem_of_getElem? hi)
      have hne : d ≠ k := fun e => by subst e; simp at h1
      obtain ⟨j, hj⟩ := kp_at L is i (k, u) hi
      simp only [Act.put]
      rw [Array.getElem?_setIfInBounds_ne hne]
      exact h.at_ j k u hj
theorem env_nil (hs : a.tmps.size = N) (hd : a.defers = []) : Env N [] a := ⟨hs, hd, fun i k v h => by simp at h⟩
def argL : List Value → Nat → List (Nat × Value)
  | [], _ => []
  | v :: vs, i => (i, v) :: argL vs (i + 1)
end
/- code -/
section
variable {P : Program} {Q Q' : Exit → Act → World → Prop} {K : Act → World → Prop} {a : Act} {w : World} {id j : Nat} {x y : Code}
theorem nx (h : K a w) : Exit.then K Q .normal a w := h
theorem tx (h : Q (.exit id) a w) : Exit.then K Q (.exit id) a w := h
theorem tr (h : Q .ret a w) : Exit.then K Q .ret a w := h
theorem bn (h : Q .normal a w) : Exit.inBlock id Q .normal a w := h
theorem br_ (h : Q .ret a w) : Exit.inBlock id Q .ret a w := h
theorem bx (h : Q .normal a w) : Exit.inBlock id Q (.exit id) a w := by simpa [Exit.inBlock] using h
/- a loop with what counts it down standing in no slot -/
theorem wp_loopG {ι : Type} {c : Code} (I : ι → Act → World → Prop) (μ : ι → Nat) (i0 : ι) (h0 : I i0 a w)
    (round : ∀ i a w, I i a w → c.wp P (Exit.then (fun a' w' => ∃ i', I i' a' w' ∧ μ i' < μ i) Q) a w) : (Code.loop c).wp P Q a w := by
  classical
  have key : ∀ n, ∀ i a w, μ i = n → I i a w → ∃ m, (∃ i, I i a w ∧ μ i = m) ∧ ∀ k, (∃ i, I i a w ∧ μ i = k) → m ≤ k := by
    intro n
    induction n using Nat.strongRecOn with
    | _ n ih =>
      intro i a w hn hi
      by_cases h : ∃ i', I i' a w ∧ μ i' < n
      · obtain ⟨i', h1, h2⟩ := h
        exact ih (μ i') h2 i' a w rfl h1
      · exact ⟨n, ⟨i, hi, hn⟩, fun k ⟨i', h1, h2⟩ => by
          apply Decidable.byContradiction
          intro hk
          exact h ⟨i', h1, by omega⟩⟩
  refine wp_loop (fun a w => ∃ i, I i a w) (fun a w => if h : ∃ m, (∃ i, I i a w ∧ μ i = m) ∧ ∀ k, (∃ i, I i a w ∧ μ i = k) → m ≤ k then h.choose else 0) ⟨i0, h0⟩ fun a w hI => ?_
  obtain ⟨i1, h1⟩ := hI
  have hex := key _ i1 a w rfl h1
  obtain ⟨⟨i, hi, him⟩, hmin⟩ := hex.choose_spec
  refine wp_mono (round i a w hi) fun e a' w' hq => ?_
  cases e with
  | normal =>
    obtain ⟨i', h2, h3⟩ := hq
    refine ⟨⟨i', h2⟩, ?_⟩
    have hex' := key _ i' a' w' rfl h2
    have := hex'.choose_spec.2 (μ i') ⟨i', h2, rfl⟩
    rw [dif_pos hex, dif_pos hex']
    omega
  | _ => exact hq
end
/- what a call tells when it returns -/
section
variable {P : Program} {fn : Func} {R : Ending → World → Prop} {N : Nat} {L : List (Nat × Value)} {a : Act} {w : World}
theorem ret_run (HA : Env N L a) {v : Value} (hv : (results fn a.tmps).run P w = .ok v w) (h : R (.returned v) w) : bodyPost P fn R .ret a w := ⟨HA.defers, v, hv, h⟩
theorem getD_get2 {t : Array Value} {k : Nat} {v : Value} (h : t[k]? = some v) : (t[k]?).getD undef = v := by rw [h]; rfl
theorem res_t {t : Array Value} {i : Nat} {v : Value} (hr : fn.results = #[.tmp i]) (h1 : t[i]? = some v) : (results fn t).run P w = .ok v w := by
  unfold results; simp [hr, getD_get2 h1]
theorem res_tt {t : Array Value} {i j : Nat} {v u : Value} (hr : fn.results = #[.tmp i, .tmp j]) (h1 : t[i]? = some v) (h2 : t[j]? = some u) : (results fn t).run P w = .ok (.tuple #[v, u]) w := by
  unfold results; simp [hr, getD_get2 h1, getD_get2 h2]
theorem load_cell {g : Nat} {ty t : TypeId} {cs : Array Value} {d : TypeDesc} (hg : Row w g t cs) (hu : P.underlying ty = some d) (hd : (match d with | .struct _ | .array _ _ => true | _ => false) = true) (hi : (P.info? ty).map (·.size) = some cs.size) : (loadVar ty ⟨g, 0, none⟩).run P w = .ok (.agg cs) w := run_loadVar_row w g t ty cs (0, 0) d hg hu hd hi
theorem res_c {t : Array Value} {i g : Nat} {ty ty' : TypeId} {cs : Array Value} {d : TypeDesc} (hr : fn.results = #[.cell i ty]) (h1 : t[i]? = some (.pointer (some ⟨g, 0, none⟩))) (hg : Row w g ty' cs) (hu : P.underlying ty = some d) (hd : (match d with | .struct _ | .array _ _ => true | _ => false) = true) (hi : (P.info? ty).map (·.size) = some cs.size) : (results fn t).run P w = .ok (.agg cs) w := by
  unfold results; simp [hr, getD_get2 h1, asAddr, load_cell hg hu hd hi]
theorem res_ct {t : Array Value} {i g j : Nat} {u : Value} {ty ty' : TypeId} {cs : Array Value} {d : TypeDesc} (hr : fn.results = #[.cell i ty, .tmp j]) (h1 : t[i]? = some (.pointer (some ⟨g, 0, none⟩))) (hg : Row w g ty' cs) (hu : P.underlying ty = some d) (hd : (match d with | .struct _ | .array _ _ => true | _ => false) = true) (hi : (P.info? ty).map (·.size) = some cs.size) (h2 : t[j]? = some u) : (results fn t).run P w = .ok (.tuple #[.agg cs, u]) w := by
  unfold results; simp [hr, getD_get2 h1, getD_get2 h2, asAddr, load_cell hg hu hd hi]
end
end Go.Proofs.YtnmaplgodimohaaDoor

/- The steps of a walk: one operation in a region that goes in order, or that draws. No function of the program is named here. -/
set_option maxRecDepth 4000
namespace Go.Proofs.YtnmaplgodimohaaDoor
open Go Go.RowKit
section
variable {P : Program} {Q : Exit → Act → World → Prop} {ops : Array Oper} {rest : List Oper} {o : Oper} {N : Nat} {L : List (Nat × Value)} {a : Act} {w : World}
theorem want_n (hg : o.guard = none) : Region.wanted o (yielded ops a.tmps) = true := by simp [Region.wanted, hg]
theorem want_g {j t : Nat} {b c d : Bool} (hg : o.guard = some (j, b)) (hd : dstAt ops j = some t) (ht : a.tmps[t]? = some (.bool c)) (h : (c == b) = d) : Region.wanted o (yielded ops a.tmps) = d := by
  unfold dstAt at hd
  simp only [Region.wanted, hg, yielded, hd, Option.bind_some, ht]
  rw [← h]; cases c <;> cases b <;> rfl
end
/- what a step knows of the slots -/
section
variable {ops : Array Oper} {n : Nat} {Vl : List (Value → World → Prop)} {a a0 : Act} {x : Nat → Value} {w : World} {o : Oper} {N : Nat} {L : List (Nat × Value)}
end
end Go.Proofs.YtnmaplgodimohaaDoor

/- What the operations yield, one by one. No function of the program is named here. -/
set_option maxRecDepth 4000
namespace Go.Proofs.YtnmaplgodimohaaDoor
open Go Go.RowKit
theorem i64_bdA (x : BitVec 8) : IntKind.i64.wrap (bd x) = bd x := by rw [IntKind.wrap_i64]; have := bd_lo x; have := bd_hi x; omega
def fieldOff (P : Program) (s : TypeId) (f : Nat) : Option Nat :=
  match P.underlying s with
  | some (.struct fields) => match fields[f]? with
    | some fd => match (P.info? fd.type).map (·.size) with
      | some (_ + 1) => some fd.offset
      | _ => none
    | none => none
  | _ => none
def arrOf (P : Program) (t : TypeId) : Option (Nat × Nat) :=
  match P.underlying t with
  | some (.array n e) => (P.info? e).map fun i => (n, i.size)
  | _ => none
def slOf (P : Program) (t : TypeId) : Option Nat :=
  match P.underlying t with
  | some (.slice e) => (P.info? e).map fun i => i.size
  | _ => none
def intOfT (P : Program) (t : TypeId) : Option IntKind :=
  match P.underlying t with
  | some (.int k) => some k
  | _ => none
def cmpI : BinOp → Int → Int → Option Bool
  | .eql, x, y => some (x == y)
  | .neq, x, y => some (x != y)
  | .lss, x, y => some (decide (x < y))
  | .leq, x, y => some (decide (x ≤ y))
  | .gtr, x, y => some (decide (x > y))
  | .geq, x, y => some (decide (x ≥ y))
  | _, _, _ => none
def ariI : BinOp → Int → Int → Option Int
  | .add, x, y => some (x + y)
  | .sub, x, y => some (x - y)
  | .mul, x, y => some (x * y)
  | _, _, _ => none
section
variable {P : Program} {o : Oper} {a : Act} {w : World} {R : Value → World → Prop}
theorem dd_mv {x : Operand} {v : Value} (ho : o.op = .move x) (hx : a.eval x = v) : (execOp a.eval o).run P w = .ok (.value v) w :=
  by simp only [execOp, ho, hx, Sem.run_pure]
theorem dd_as {x : Operand} {v : Value} (ho : o.op = .assign x) (hx : a.eval x = v) : (execOp a.eval o).run P w = .ok (.value v) w :=
  by simp only [execOp, ho, hx, Sem.run_pure]
theorem dd_pickT {c x y : Operand} {v : Value} (ho : o.op = .pick c x y) (hc : a.eval c = .bool true) (hx : a.eval x = v) : (execOp a.eval o).run P w = .ok (.value v) w :=
  by simp [execOp, ho, hc, hx, asBool]
theorem dd_pickF {c x y : Operand} {v : Value} (ho : o.op = .pick c x y) (hc : a.eval c = .bool false) (hy : a.eval y = v) : (execOp a.eval o).run P w = .ok (.value v) w :=
  by simp [execOp, ho, hc, hy, asBool]
theorem dd_nt {ty : TypeId} {x : Operand} {b c : Bool} (ho : o.op = .unOp .not ty x) (hx : a.eval x = .bool b) (hc : (!b) = c) : (execOp a.eval o).run P w = .ok (.value (.bool c)) w :=
  by simp [execOp, ho, hx, Op.unary, ← hc]
theorem dd_ext {x : Operand} {i : Nat} {vs : Array Value} {v : Value} (ho : o.op = .extract x i) (hx : a.eval x = .tuple vs) (hv : vs[i]? = some v) : (execOp a.eval o).run P w = .ok (.value v) w :=
  by simp [execOp, ho, hx, Instr.extract, hv]
theorem dd_cmp {op : BinOp} {ty ty2 : TypeId} {x y : Operand} {k : IntKind} {m n : Int} {b : Bool} (ho : o.op = .binOp op ty x y ty2) (hx : a.eval x = .int k m) (hy : a.eval y = .int k n) (hb : cmpI op m n = some b) : (execOp a.eval o).run P w = .ok (.value (.bool b)) w := by
  cases op <;> simp [cmpI] at hb <;> simp [execOp, ho, hx, hy, eqGuard, binOp, Op.intCmp, ← hb]
theorem dd_ari {op : BinOp} {ty ty2 : TypeId} {x y : Operand} {k : IntKind} {m n z z' : Int} (ho : o.op = .binOp op ty x y ty2) (hx : a.eval x = .int k m) (hy : a.eval y = .int k n) (hz : ariI op m n = some z') (hk : k.wrap z' = z) : (execOp a.eval o).run P w = .ok (.value (.int k z)) w := by
  cases op <;> simp [ariI] at hz <;> simp [execOp, ho, hx, hy, eqGuard, binOp, Op.intArith, hz, hk]
theorem dd_eqs {ty ty2 : TypeId} {x y : Operand} {s t : ByteArray} {b : Bool} (ho : o.op = .binOp .eql ty x y ty2) (hx : a.eval x = .string s) (hy : a.eval y = .string t) (hb : (s.toList == t.toList) = b) : (execOp a.eval o).run P w = .ok (.value (.bool b)) w := by
  simp [execOp, ho, hx, hy, eqGuard, binOp, Op.stringOp, hb]
theorem dd_eqa {ty ty2 : TypeId} {x y : Operand} {cs ds : Array Value} {b : Bool} (ho : o.op = .binOp .eql ty x y ty2) (hx : a.eval x = .agg cs) (hy : a.eval y = .agg ds) (hg : P.eqGuardType P.depth ty = false) (hb : ∀ w, (Op.equalIn 10000 ty (.agg cs) (.agg ds)).run P w = .ok b w) : (execOp a.eval o).run P w = .ok (.value (.bool b)) w := by
  have e : (Op.equal ty (.agg cs) (.agg ds)).run P w = .ok b w := hb w
  simp [execOp, ho, hx, hy, eqGuard, binOp, e, hg]
theorem dd_nea {ty ty2 : TypeId} {x y : Operand} {cs ds : Array Value} {b c : Bool} (ho : o.op = .binOp .neq ty x y ty2) (hx : a.eval x = .agg cs) (hy : a.eval y = .agg ds) (hg : P.eqGuardType P.depth ty = false) (hb : ∀ w, (Op.equalIn 10000 ty (.agg cs) (.agg ds)).run P w = .ok b w) (hc : (!b) = c) : (execOp a.eval o).run P w = .ok (.value (.bool c)) w := by
  have e : (Op.equal ty (.agg cs) (.agg ds)).run P w = .ok b w := hb w
  simp [execOp, ho, hx, hy, eqGuard, binOp, e, hg, ← hc]
theorem dd_conv {src dst : TypeId} {x : Operand} {k k' : IntKind} {n z : Int} {d : TypeDesc} (ho : o.op = .convert src dst x) (hx : a.eval x = .int k' n) (hs : P.underlying src = some d) (hd : intOfT P dst = some k) (hz : k.wrap n = z) : (execOp a.eval o).run P w = .ok (.value (.int k z)) w := by
  have hu : P.underlying dst = some (.int k) := by
    unfold intOfT at hd
    cases hq : P.underlying dst with
    | none => rw [hq] at hd; cases hd
    | some q => rw [hq] at hd; cases q <;> simp_all
  simp [execOp, ho, hx, Go.convert, run_underlying hu, run_underlying hs, Conv.intToInt, hz]
theorem dd_field {s : TypeId} {x : Operand} {f g i off j : Nat} (ho : o.op = .fieldAddr s x f) (hx : a.eval x = .pointer (some ⟨g, i, none⟩)) (hf : fieldOff P s f = some off) (hj : i + off = j) : (execOp a.eval o).run P w = .ok (.value (.pointer (some ⟨g, j, none⟩))) w := by
  subst hj
  unfold fieldOff at hf
  cases hu : P.underlying s with
  | none => rw [hu] at hf; cases hf
  | some d =>
    rw [hu] at hf
    cases d with
    | struct fields =>
      simp only at hf
      cases hfd : fields[f]? with
      | none => rw [hfd] at hf; cases hf
      | some fd =>
        rw [hfd] at hf
        simp only at hf
        cases hi : P.info? fd.type with
        | none => rw [hi] at hf; cases hf
        | some inf =>
          rw [hi] at hf
          simp only [Option.map_some] at hf
          cases hs : inf.size with
          | zero => rw [hs] at hf; cases hf
          | succ m =>
            rw [hs] at hf
            simp only [Option.some.injEq] at hf
            simp [execOp, ho, hx, Instr.fieldAt, Instr.sureAddr, run_underlying hu, hfd, fieldPlace, sizeOf, typeInfo, hi, hs, Addr.add_mid, hf]
    | _ => simp only at hf; cases hf
theorem dd_idxA {t : TypeId} {x ix : Operand} {g i n sz j : Nat} {k : IntKind} {m : Int} (ho : o.op = .indexAddr t x ix) (hx : a.eval x = .pointer (some ⟨g, i, none⟩)) (hi : a.eval ix = .int k m) (ht : arrOf P t = some (n, sz)) (h0 : 0 ≤ m) (hn : m < (n : Int)) (hj : i + m.toNat * sz = j) : (execOp a.eval o).run P w = .ok (.value (.pointer (some ⟨g, j, none⟩))) w := by
  subst hj
  unfold arrOf at ht
  cases hu : P.underlying t with
  | none => rw [hu] at ht; cases ht
  | some d =>
    rw [hu] at ht
    cases d with
    | array n' e =>
      simp only at ht
      cases hq : P.info? e with
      | none => rw [hq] at ht; cases ht
      | some inf =>
        rw [hq] at ht
        simp only [Option.map_some, Option.some.injEq, Prod.mk.injEq] at ht
        obtain ⟨rfl, rfl⟩ := ht
        simp [execOp, ho, hx, hi, Instr.indexAt, Instr.sureAddr, asIntOf, run_underlying hu, sizeOf, typeInfo, hq, h0, hn, Addr.add_mid]
    | _ => simp only at ht; cases ht
theorem dd_idxS {t : TypeId} {x ix : Operand} {g i n c sz j : Nat} {k : IntKind} {m : Int} (ho : o.op = .indexAddr t x ix) (hx : a.eval x = .slice (some ⟨g, i, none⟩) n c) (hi : a.eval ix = .int k m) (ht : slOf P t = some sz) (h0 : 0 ≤ m) (hn : m < (n : Int)) (hj : i + m.toNat * sz = j) : (execOp a.eval o).run P w = .ok (.value (.pointer (some ⟨g, j, none⟩))) w := by
  subst hj
  unfold slOf at ht
  cases hu : P.underlying t with
  | none => rw [hu] at ht; cases ht
  | some d =>
    rw [hu] at ht
    cases d with
    | slice e =>
      simp only at ht
      cases hq : P.info? e with
      | none => rw [hq] at ht; cases ht
      | some inf =>
        rw [hq] at ht
        simp only [Option.map_some, Option.some.injEq] at ht
        subst ht
        simp [execOp, ho, hx, hi, Instr.indexAt, asIntOf, run_underlying hu, sizeOf, typeInfo, hq, h0, hn, Addr.add_mid]
    | _ => simp only at ht; cases ht
theorem dd_nilc {x : Operand} {p : Addr} (ho : o.op = .nilCheck x) (hx : a.eval x = .pointer (some p)) : (execOp a.eval o).run P w = .ok (.value (.pointer (some p))) w :=
  by simp [execOp, ho, hx]
theorem dd_len {x : Operand} {t : TypeId} {A : Option Addr} {n c : Nat} {e : TypeId} (ho : o.op = .call { callee := .builtin .len, args := #[x], argTypes := #[t] }) (hx : a.eval x = .slice A n c) (hu : P.underlying t = some (.slice e)) : (execOp a.eval o).run P w = .ok (.value (.int .i64 (n : Int))) w :=
  by simp [execOp, ho, resolve, invoke, builtin, Builtin.len_, hx, run_underlying hu, goInt]
theorem dd_lens {x : Operand} {t : TypeId} {s : ByteArray} {n : Int} (ho : o.op = .call { callee := .builtin .len, args := #[x], argTypes := #[t] }) (hx : a.eval x = .string s) (hu : P.underlying t = some .string) (hn : (s.size : Int) = n) : (execOp a.eval o).run P w = .ok (.value (.int .i64 n)) w :=
  by simp [execOp, ho, resolve, invoke, builtin, Builtin.len_, hx, run_underlying hu, goInt, hn]
theorem dd_rn {v : Value} (hr : (execOp a.eval o).run P w = .ok (.value v) w) (h : R v w) : Does P o a w R := does_run hr h
theorem dd_at {ty : TypeId} {x : Operand} (ho : o.op = .load ty x) {p : Addr} (hx : a.eval x = .pointer (some p)) {v : Value} (hc : w.cell? p = some v) {d : TypeDesc} (hu : P.underlying ty = some d) (hd : d.isRow = false) : (execOp a.eval o).run P w = .ok (.value v) w := by
  have hagg : (isAgg ty).run P w = .ok false w := by
    unfold isAgg
    rw [Sem.run_bind, run_underlying hu w]
    cases d <;> simp_all
  simp [execOp, ho, hx, Instr.loadAt, Instr.sureAddr, loadVar, Sem.run_bind, hagg, hc]
/- memory that is known as a list of blocks -/
variable {w0 : World} {F : Nat → Prop} {S : List Blk}
theorem dd_get (HS : St w0 F S w) (k i : Nat) {ty : TypeId} {x : Operand} (ho : o.op = .load ty x) {r : Blk} (hk : S[k]? = some r) (hx : a.eval x = .pointer (some ⟨r.g, i, none⟩)) {v : Value} (hv : r.cs[i]? = some v) {d : TypeDesc} (hu : P.underlying ty = some d) (hd : d.isRow = false) : (execOp a.eval o).run P w = .ok (.value v) w :=
  dd_at ho hx ((HS.row k hk).get hv) hu hd
theorem dd_load (HS : St w0 F S w) (k i : Nat) {ty : TypeId} {x : Operand} (ho : o.op = .load ty x) {r : Blk} (hk : S[k]? = some r) (hx : a.eval x = .pointer (some ⟨r.g, i, none⟩)) {cs : Array Value} (hv : (r.cs.toList.drop i).take cs.size = cs.toList) {d : TypeDesc} (hu : P.underlying ty = some d) (hd : d.isRow = true) (hi : (P.info? ty).map (·.size) = some cs.size) : (execOp a.eval o).run P w = .ok (.value (.agg cs)) w := by
  have hc := (HS.row k hk).slab i cs.toList (by simpa using hv)
  unfold execOp
  simp only [ho, hx, Instr.loadAt, Instr.sureAddr, Sem.run_bind, Sem.run_pure, Result.andThen_ok, run_loadVar_mid w r.g i ty cs.toList d hc hu hd (by simpa using hi)]
theorem dd_atN {ty : TypeId} {x : Operand} (ho : o.op = .load ty x) {g i : Nat} (hx : a.eval x = .pointer (some ⟨g, i, none⟩)) {L : List Value} (hc : w.rangeAt g i L) {d : TypeDesc} (hu : P.underlying ty = some d) (hd : d.isRow = true) (hi : (P.info? ty).map (·.size) = some L.length) : (execOp a.eval o).run P w = .ok (.value (.agg L.toArray)) w := by
  unfold execOp
  simp only [ho, hx, Instr.loadAt, Instr.sureAddr, Sem.run_bind, Sem.run_pure, Result.andThen_ok, run_loadVar_mid w g i ty L d hc hu hd hi]
theorem dd_new (HS : St w0 F S w) {e : TypeId} (cs : Array Value) (ho : o.op = .alloc e) {z : Value} (hz : (P.info? e).bind (·.zero) = some z) (hc : z.cells = cs) (h : ∀ g w', St w0 F (S ++ [⟨g, e, cs⟩]) w' → R (.pointer (some ⟨g, 0, none⟩)) w') : Does P o a w R := fun _ _ hK =>
  wp_st_alloc HS e cs ho z hz hc fun g w' h1 => hK _ _ (h g w' h1)
theorem dd_box (HS : St w0 F S w) {e : TypeId} {x : Operand} (ho : o.op = .box e x) {v : Value} (hx : a.eval x = v) {cs : Array Value} (hc : v.cells = cs) (h : ∀ g w', St w0 F (S ++ [⟨g, e, cs⟩]) w' → R (.pointer (some ⟨g, 0, none⟩)) w') : Does P o a w R := fun _ _ hK =>
  wp_st_box HS e x ho v hx cs hc fun g w' h1 => hK _ _ (h g w' h1)
theorem dd_store (HS : St w0 F S w) (k i : Nat) {ty : TypeId} {x y : Operand} (ho : o.op = .store ty x y) {r : Blk} (hk : S[k]? = some r) (hx : a.eval x = .pointer (some ⟨r.g, i, none⟩)) {v : Value} (hy : a.eval y = v) (hi : (P.info? ty).map (·.size) = some v.cells.size) (hfit : i + v.cells.size ≤ r.cs.size) (h1 : v.cells.all (·.oneCell') = true)
    {cs : Array Value} (hcs : (spl r.cs.toList i v.cells.toList).toArray = cs) (h : ∀ w', St w0 F (S.set k ⟨r.g, r.t, cs⟩) w' → R undef w') : Does P o a w R := fun _ _ hK =>
  wp_st_store HS k i ty x y ho hk hx v hy hi hfit h1 cs hcs fun w' h1 => hK _ _ (h w' h1)
theorem dd_put (HS : St w0 F S w) (k i : Nat) {ty : TypeId} {x y : Operand} (ho : o.op = .store ty x y) {r : Blk} (hk : S[k]? = some r) (hx : a.eval x = .pointer (some ⟨r.g, i, none⟩)) {v : Value} (hy : a.eval y = v) (hi : (P.info? ty).map (·.size) = some 1) (hv : v.cells = #[v]) (h1 : v.oneCell' = true) (hfit : Nat.blt i r.cs.size = true)
    {cs : Array Value} (hcs : r.cs.setIfInBounds i v = cs) (h : ∀ w', St w0 F (S.set k ⟨r.g, r.t, cs⟩) w' → R undef w') : Does P o a w R := fun _ _ hK =>
  wp_st_put HS k i ty x y ho hk hx v hy hi hv h1 (Nat.le_of_ble_eq_true hfit) cs hcs fun w' h1 => hK _ _ (h w' h1)
/- calls -/
theorem dd_call {f : FuncId} {fn : Func} {xs : Array Operand} {ts : Array TypeId} {l : List Value} {R' : Ending → World → Prop} (hf : P.funcs[f]? = some fn) (hn : (fn.name == "runtime.NumGoroutine") = false) (hb : fn.body.isNone = false) (ho : o.op = .call { callee := .value (.func f), args := xs, argTypes := ts }) (hx : (xs.map a.eval) = l.toArray) (C : Calls P f l.toArray w R')
    (h : ∀ e w', R' e w' → ∃ v, e = .returned v ∧ R v w') : Does P o a w R := fun K Q hK => by
  have hcf : (callFunc f (#[] ++ l.toArray ++ #[])).run P w = .ok (.enter f l.toArray) w := by
    have hn' : ¬ fn.name = "runtime.NumGoroutine" := by simpa using hn
    have hb' : ¬ fn.body = none := fun e => by rw [e] at hb; cases hb
    simp [callFunc, hf, hn', hb']
  have he : execOp a.eval o = callFunc f (#[] ++ l.toArray ++ #[]) := by
    unfold execOp
    rw [ho]
    simp only [resolve, Act.eval, Deferred.ofValue]
    rw [← hx]
    rfl
  unfold Oper.wp
  rw [he, hcf]
  refine Calls.mono C fun e w' hr => ?_
  obtain ⟨v, rfl, hv⟩ := h e w' hr
  exact hK v w' hv
end
/- comparisons -/
theorem lt_t {m n : Int} (h : m < n) : cmpI .lss m n = some true := by simp [cmpI, h]
theorem lt_f {m n : Int} (h : ¬ m < n) : cmpI .lss m n = some false := by simp [cmpI]; omega
theorem le_t {m n : Int} (h : m ≤ n) : cmpI .leq m n = some true := by simp [cmpI, h]
theorem le_f {m n : Int} (h : ¬ m ≤ n) : cmpI .leq m n = some false := by simp [cmpI]; omega
theorem gt_t {m n : Int} (h : n < m) : cmpI .gtr m n = some true := by simp [cmpI, h]
theorem gt_f {m n : Int} (h : ¬ n < m) : cmpI .gtr m n = some false := by simp [cmpI]; omega
theorem ge_t {m n : Int} (h : n ≤ m) : cmpI .geq m n = some true := by simp [cmpI, h]
theorem ge_f {m n : Int} (h : ¬ n ≤ m) : cmpI .geq m n = some false := by simp [cmpI]; omega
theorem eq_t {m n : Int} (h : m = n) : cmpI .eql m n = some true := by simp [cmpI, h]
theorem eq_f {m n : Int} (h : ¬ m = n) : cmpI .eql m n = some false := by simp [cmpI, h]
theorem ne_t {m n : Int} (h : ¬ m = n) : cmpI .neq m n = some true := by simp [cmpI, h]
theorem ne_f {m n : Int} (h : m = n) : cmpI .neq m n = some false := by simp [cmpI, h]
end Go.Proofs.YtnmaplgodimohaaDoor

/- Memory in a walk: rows side by side, literals, slices of the call's own that grow. No function of the program is named here. -/
set_option maxRecDepth 4000
namespace Go.Proofs.YtnmaplgodimohaaDoor
open Go Go.RowKit
/- cells as pieces, one behind the other -/
def catA (L : List (List Value)) : Array Value := L.flatten.toArray
theorem lens_nil : ([] : List (List Value)).map List.length = [] := rfl
theorem lens_cons {l : List Value} {L : List (List Value)} {n : Nat} {ns : List Nat} (h : l.length = n) (t : L.map List.length = ns) : (l :: L).map List.length = n :: ns := by rw [List.map_cons, h, t]
theorem len_bv {q : List (BitVec 8)} {n : Nat} (h : q.length = n) : (bytesV q).length = n := by rw [len_bytesV, h]
section
variable {L M : List (List Value)} {ns : List Nat}
theorem cat_size (h : L.map List.length = ns) : (catA L).size = ns.sum := by unfold catA; rw [List.size_toArray, List.length_flatten, h]
theorem take_sum (h : L.map List.length = ns) (j : Nat) : (L.take j).flatten.length = (ns.take j).sum := by rw [List.length_flatten, List.map_take, h]
theorem cat_split (L : List (List Value)) (j : Nat) : L.flatten = (L.take j).flatten ++ (L.drop j).flatten := by rw [← List.flatten_append, List.take_append_drop]
theorem cat_slab (h : L.map List.length = ns) (j m : Nat) {off : Nat} (ho : (ns.take j).sum = off) : ((catA L).toList.drop off).take (catA ((L.drop j).take m)).size = (catA ((L.drop j).take m)).toList := by
  show (L.flatten.drop off).take _ = ((L.drop j).take m).flatten
  rw [cat_split L j, List.drop_left' (by rw [take_sum h j, ho]), cat_split (L.drop j) m]
  exact List.take_left' (by unfold catA; simp)
theorem cat_slab1 (h : L.map List.length = ns) (j : Nat) {off : Nat} {l : List Value} (ho : (ns.take j).sum = off) (hl : L[j]? = some l) : ((catA L).toList.drop off).take l.toArray.size = l.toArray.toList := by
  have e := cat_slab h j 1 ho
  have e1 : (L.drop j).take 1 = [l] := by
    have hj := (List.getElem?_eq_some_iff.1 hl)
    obtain ⟨hj, hjl⟩ := hj
    rw [List.drop_eq_getElem_cons hj, List.take_succ_cons, List.take_zero, hjl]
  rw [e1] at e
  have e2 : catA [l] = l.toArray := by unfold catA; simp
  rwa [e2] at e
theorem cat_get (h : L.map List.length = ns) (j : Nat) {off : Nat} {v : Value} (ho : (ns.take j).sum = off) (hl : L[j]? = some [v]) : (catA L)[off]? = some v := by
  have hj := (List.getElem?_eq_some_iff.1 hl)
  obtain ⟨hj, hjl⟩ := hj
  unfold catA
  rw [List.getElem?_toArray, cat_split L j, List.getElem?_append_right (by rw [take_sum h j, ho]; exact Nat.le_refl _), take_sum h j, ho, Nat.sub_self, List.drop_eq_getElem_cons hj, hjl]
  rfl
theorem cat_store (h : L.map List.length = ns) (j m : Nat) {off : Nat} (ho : (ns.take j).sum = off) (hm : M.flatten.length = ((ns.drop j).take m).sum) : (spl (catA L).toList off M.flatten).toArray = catA (L.take j ++ M ++ L.drop (j + m)) := by
  unfold catA spl
  have e1 : (L.take j).flatten.length = off := by rw [take_sum h j, ho]
  have e2 : ((L.drop j).take m).flatten.length = M.flatten.length := by rw [hm, List.length_flatten, List.map_take, List.map_drop, h]
  rw [List.flatten_append, List.flatten_append]
  congr 1
  rw [cat_split L j, List.take_left' e1, List.append_assoc, List.append_assoc]
  congr 2
  rw [← List.drop_drop, List.drop_left' e1, cat_split (L.drop j) m, List.drop_left' e2, List.drop_drop]
theorem cat_store1 (h : L.map List.length = ns) (j : Nat) {off n : Nat} {cs : Array Value} (ho : (ns.take j).sum = off) (hm : cs.size = n) (hn : ns[j]? = some n) : (spl (catA L).toList off (Value.agg cs).cells.toList).toArray = catA (L.set j cs.toList) := by
  have hj : j < ns.length := (List.getElem?_eq_some_iff.1 hn).1
  have hjL : j < L.length := by rw [← h] at hj; simpa using hj
  have e := cat_store (M := [cs.toList]) h j 1 ho (by
    rw [List.drop_eq_getElem_cons hj, List.take_succ_cons, List.take_zero]
    have := (List.getElem?_eq_some_iff.1 hn).2
    simp [this, hm])
  have e3 : (Value.agg cs).cells.toList = [cs.toList].flatten := by simp [Value.cells]
  rw [e3, e, List.set_eq_take_append_cons_drop, if_pos hjL]
  simp
theorem cat_put (h : L.map List.length = ns) (j : Nat) {off : Nat} {v : Value} (ho : (ns.take j).sum = off) (hn : ns[j]? = some 1) : (catA L).setIfInBounds off v = catA (L.set j [v]) := by
  have hj : j < ns.length := (List.getElem?_eq_some_iff.1 hn).1
  have hjL : j < L.length := by rw [← h] at hj; simpa using hj
  have hlt : off < (catA L).size := by
    rw [cat_size h, ← ho]
    have e := List.take_append_drop j ns
    rw [← e, List.sum_append]
    rw [List.take_left' (by simp; omega), List.drop_eq_getElem_cons hj]
    have := (List.getElem?_eq_some_iff.1 hn).2
    simp [this]; omega
  rw [← spl_at _ _ _ hlt]
  have e := cat_store (M := [[v]]) h j 1 ho (by
    rw [List.drop_eq_getElem_cons hj, List.take_succ_cons, List.take_zero]
    have := (List.getElem?_eq_some_iff.1 hn).2
    simp [this])
  simp only [List.flatten_cons, List.flatten_nil, List.append_nil] at e
  rw [e, List.set_eq_take_append_cons_drop, if_pos hjL]
  simp
theorem cat_one (h : ∀ l ∈ L, ∀ v ∈ l, Value.oneCell' v = true) : (Value.agg (catA L)).cells.all (·.oneCell') = true := by
  show (catA L).all _ = true
  unfold catA
  simp only [List.all_toArray, List.all_eq_true, List.mem_flatten]
  rintro v ⟨l, hl, hv⟩
  exact h l hl v hv
end
/- literals of structs and arrays, field by field; what is not given is zero -/
def setSegs : List (List Value) → List (Nat × Value) → List (List Value)
  | L, [] => L
  | L, (i, v) :: r => setSegs (L.set i v.cells.toList) r
def zsegs (P : Program) (t : TypeId) : Option (List (List Value)) :=
  match P.info? t, P.underlying t with
  | some it, some (.struct fields) => match it.zero, fields.toList.mapM (fun f => (P.info? f.type).map fun i => (f.offset, i.size)) with
    | some z, some places => if fits 0 (places.map (·.2)) places && ((places.map (·.2)).sum == z.cells.size) then some (places.map fun p => (z.cells.toList.drop p.1).take p.2) else none
    | _, _ => none
  | _, _ => none
theorem set_same {l : List Nat} {i : Nat} {x : Nat} (h : l[i]? = some x) : l.set i x = l := by
  apply List.ext_getElem?
  intro k
  by_cases hk : i = k
  · subst hk
    rw [List.getElem?_set_self (List.getElem?_eq_some_iff.1 h).1, h]
  · rw [List.getElem?_set_ne hk]
theorem fill_segs (place : Nat → Option (Nat × Nat)) : ∀ (ps : List (Nat × Value)) (L : List (List Value)) (ns : List Nat), L.map List.length = ns → (∀ i s, ns[i]? = some s → place i = some ((ns.take i).sum, s)) → (∀ p ∈ ps, ns[p.1]? = some p.2.cells.size) →
    Instr.fill place (catA L) ps = some (catA (setSegs L ps))
  | [], L, ns, _, _, _ => by simp [Instr.fill, setSegs]
  | (i, v) :: ps, L, ns, h, hp, hf => by
    have h1 := hf (i, v) (by simp)
    have hplace := hp i _ h1
    simp only at h1 hplace
    have hi : i < ns.length := (List.getElem?_eq_some_iff.1 h1).1
    have hv : v.cells.toList.length = v.cells.size := Array.length_toList
    have hle : (ns.take i).sum + v.cells.size ≤ (catA L).size := by
      rw [cat_size h]
      have e := congrArg List.sum (List.take_append_drop i ns)
      rw [List.sum_append, List.drop_eq_getElem_cons hi, List.sum_cons, (List.getElem?_eq_some_iff.1 h1).2] at e
      omega
    have e := fill_set (ns.take i).sum v.cells (catA L) hle
    have e2 := cat_store1 (L := L) (cs := v.cells) h i rfl rfl h1
    have e3 : (Value.agg v.cells).cells.toList = v.cells.toList := rfl
    rw [e3] at e2
    simp only [Instr.fill, hplace]
    rw [if_neg (by simp; omega), e, e2, setSegs]
    refine fill_segs place ps _ ns ?_ hp fun p hp => hf p (by simp [hp])
    rw [List.map_set, h, hv]
    exact set_same h1
theorem zsegs_flat {P : Program} {t : TypeId} {Lz : List (List Value)} (hz : zsegs P t = some Lz) (ps : List (Nat × Value)) (hf : ∀ p ∈ ps, (Lz.map List.length)[p.1]? = some p.2.cells.size) : P.built t ps = some (catA (setSegs Lz ps)) := by
  unfold zsegs at hz
  unfold Program.built
  cases hit : P.info? t with
  | none => simp [hit] at hz
  | some it =>
    cases hu : P.underlying t with
    | none => simp [hit, hu] at hz
    | some d =>
      cases d <;> try (simp [hit, hu] at hz; done)
      case struct fields =>
        simp only [hit, hu] at hz ⊢
        cases hzz : it.zero with
        | none => simp [hzz] at hz
        | some z =>
          cases hm : fields.toList.mapM (fun f => (P.info? f.type).map fun i => (f.offset, i.size)) with
          | none => simp [hzz, hm] at hz
          | some pl =>
            simp only [hzz, hm] at hz ⊢
            split at hz
            · rename_i hc
              simp only [Bool.and_eq_true, beq_iff_eq] at hc
              obtain ⟨hfit, hsum⟩ := hc
              injection hz with hz
              have hzl : z.cells.toList.length = z.cells.size := Array.length_toList
              have hat := fits_at _ 0 pl hfit
              have hlens : Lz.map List.length = pl.map (·.2) := by
                rw [← hz, List.map_map]
                refine List.map_congr_left fun p hp => ?_
                obtain ⟨k, hk⟩ := List.getElem?_of_mem hp
                have h2 := hat k p.2 (by simp [hk])
                rw [hk] at h2
                injection h2 with h2
                have h3 : p.1 = ((pl.map (·.2)).take k).sum := by rw [h2]; simp
                have hlt : k < (pl.map (·.2)).length := by have := (List.getElem?_eq_some_iff.1 hk).1; simpa using this
                have e := congrArg List.sum (List.take_append_drop k (pl.map (·.2)))
                rw [List.sum_append, List.drop_eq_getElem_cons hlt, List.sum_cons] at e
                have h4 : (pl.map (·.2))[k] = p.2 := by have := (List.getElem?_eq_some_iff.1 hk).2; simp [this]
                simp only [Function.comp, List.length_take, List.length_drop]
                omega
              have hflat : ∀ (ss : List Nat) (o : Nat) (pl : List (Nat × Nat)) (l : List Value), fits o ss pl = true → (pl.map fun p => (l.drop p.1).take p.2).flatten = (l.drop o).take ss.sum := by
                intro ss
                induction ss with
                | nil => intro o pl l h
                         cases pl with
                         | nil => simp
                         | cons => simp [fits] at h
                | cons s ss ih =>
                  intro o pl l h
                  cases pl with
                  | nil => simp [fits] at h
                  | cons p pl =>
                    obtain ⟨o', s'⟩ := p
                    simp only [fits, Bool.and_eq_true, beq_iff_eq] at h
                    obtain ⟨⟨rfl, rfl⟩, h⟩ := h
                    simp only [List.map_cons, List.flatten_cons, List.sum_cons]
                    rw [ih _ _ _ h, List.take_add, List.drop_drop]
              have hcat : catA Lz = z.cells := by
                unfold catA
                rw [← hz, hflat _ 0 pl _ hfit, List.drop_zero, hsum, List.take_of_length_le (by omega)]
              rw [← hcat]
              refine fill_segs _ ps Lz _ rfl (fun i s hs => ?_) hf
              rw [hlens] at hs ⊢
              rw [List.getElem?_toArray, hat i s hs, Nat.zero_add]
            · cases hz
section
variable {P : Program} {o : Oper} {a : Act} {w : World} {R : Value → World → Prop}
theorem fit_nil {ns : List Nat} : ∀ p ∈ ([] : List (Nat × Value)), ns[p.1]? = some p.2.cells.size := fun p h => by cases h
theorem fit_cons {ns : List Nat} {i n : Nat} {v : Value} {ps : List (Nat × Value)} (h : ns[i]? = some n) (hv : v.cells.size = n) (t : ∀ p ∈ ps, ns[p.1]? = some p.2.cells.size) : ∀ p ∈ (i, v) :: ps, ns[p.1]? = some p.2.cells.size := fun p hp => by
  cases hp with
  | head => rw [h, hv]
  | tail _ hp => exact t p hp
theorem dd_bld {t : TypeId} {parts : Array (Nat × Operand)} {ps : List (Nat × Value)} {Lz : List (List Value)} {ns : List Nat} {cs : Array Value} (ho : o.op = .build t parts) (hp : (parts.map fun (i, x) => (i, a.eval x)).toList = ps) (hz : zsegs P t = some Lz) (hL : Lz.map List.length = ns) (hf : ∀ p ∈ ps, ns[p.1]? = some p.2.cells.size)
    (hc : catA (setSegs Lz ps) = cs) : (execOp a.eval o).run P w = .ok (.value (.agg cs)) w := by
  subst hL hc
  have hb := zsegs_flat hz ps hf
  rw [← hp] at hb ⊢
  unfold execOp
  simp only [ho, Sem.run_bind, run_build w t _ _ hb, Result.andThen_ok, Sem.run_pure]
end
theorem dd_bldk {P : Program} {o : Oper} {a : Act} {w : World} {t : TypeId} {parts : Array (Nat × Operand)} {ps : List (Nat × Value)} {cs : Array Value} (ho : o.op = .build t parts) (hp : (parts.map fun (i, x) => (i, a.eval x)).toList = ps) (hb : P.built t ps = some cs) : (execOp a.eval o).run P w = .ok (.value (.agg cs)) w := by
  rw [← hp] at hb
  unfold execOp
  simp only [ho, Sem.run_bind, run_build w t _ cs hb, Result.andThen_ok, Sem.run_pure]
/- slices of the call's own: the block that they lie in -/
structure OwnC (cb : Array Value) (c n sz : Nat) (L : List Value) : Prop where
  le : n ≤ c
  cap : c ≤ maxLen
  size : cb.size = c * sz
  len : L.length = n * sz
  take : cb.toList.take (n * sz) = L
theorem ownc_to {w : World} {g e c n sz b : Nat} {cb : Array Value} {L : List Value} (h : Row w g e cb) (O : OwnC cb c n sz L) (hb : b ≤ g) : w.ownsRow b e sz (.slice (some ⟨g, 0, none⟩) n c) n L :=
  ⟨O.len, .inr ⟨g, c, cb, rfl, hb, h, O.le, O.cap, O.size, O.take⟩⟩
theorem ownc_of {w : World} {b e n sz : Nat} {v : Value} {L : List Value} (h : w.ownsRow b e sz v n L) (h0 : v ≠ .slice none 0 0) : ∃ g c cb, v = .slice (some ⟨g, 0, none⟩) n c ∧ b ≤ g ∧ Row w g e cb ∧ OwnC cb c n sz L := by
  obtain ⟨hl, h | ⟨g, cap, cur, h1, h2, h3, h4, h5, h6, h7⟩⟩ := h
  · exact absurd h.1 h0
  · exact ⟨g, cap, cur, h1, h2, h3, h4, h5, h6, hl, h7⟩
theorem ownc_pos {w : World} {b e n sz : Nat} {v : Value} {L : List Value} (h : w.ownsRow b e sz v n L) (h0 : 0 < n) : ∃ g c cb, v = .slice (some ⟨g, 0, none⟩) n c ∧ b ≤ g ∧ Row w g e cb ∧ OwnC cb c n sz L := by
  refine ownc_of h fun e => ?_
  rcases h.2 with h | ⟨g, cap, cur, h1, _⟩
  · omega
  · rw [e] at h1; cases h1
/- memory as a list of blocks: one goes, one comes -/
theorem st_erase {w0 w : World} {F : Nat → Prop} {S : List Blk} (h : St w0 F S w) (k : Nat) : St w0 F (S.eraseIdx k) w := by
  have at_ : ∀ j r, (S.eraseIdx k)[j]? = some r → ∃ i, S[i]? = some r ∧ i = (if j < k then j else j + 1) := fun j r hj => by
    rw [List.getElem?_eraseIdx] at hj
    split at hj
    · exact ⟨j, hj, by rw [if_pos (by assumption)]⟩
    · exact ⟨j + 1, hj, by rw [if_neg (by assumption)]⟩
  refine ⟨h.chg, fun j r hj => ?_, fun i j r s hij hi hj => ?_, fun j r hj => ?_⟩
  · obtain ⟨i, hi, _⟩ := at_ j r hj; exact h.rows i r hi
  · obtain ⟨i', hi', ei⟩ := at_ i r hi
    obtain ⟨j', hj', ej⟩ := at_ j s hj
    refine h.apart i' j' r s (fun e => hij ?_) hi' hj'
    rw [ei, ej] at e
    split at e <;> split at e <;> omega
  · obtain ⟨i, hi, _⟩ := at_ j r hj; exact h.own i r hi
theorem St.joins {w0 W W' : World} {F : Nat → Prop} {S : List Blk} (h : St w0 F S W) (hb : Below W.heap.size W W') {g : Nat} {t : TypeId} {cs : Array Value} (hr : Row W' g t cs) (hg : W.heap.size ≤ g) : St w0 F (S ++ [⟨g, t, cs⟩]) W' :=
  (h.same hb).join hr (Nat.le_trans h.chg.size hg) fun b hm e => by have := h.lt hm; omega
theorem st_snoc {w0 w : World} {F : Nat → Prop} {S : List Blk} (h : St w0 F S w) {g : Nat} {t : TypeId} {cs : Array Value} (hr : Row w g t cs) (hg : F g ∨ w0.heap.size ≤ g) (hne : ∀ b ∈ S, b.g ≠ g) : St w0 F (S ++ [⟨g, t, cs⟩]) w := by
  have at_ : ∀ (j : Nat) (s : Blk), (S ++ [(⟨g, t, cs⟩ : Blk)])[j]? = some s → (j < S.length ∧ S[j]? = some s) ∨ (j = S.length ∧ s = ⟨g, t, cs⟩) := fun j s hj => by
    by_cases e : j < S.length
    · rw [List.getElem?_append_left e] at hj; exact .inl ⟨e, hj⟩
    · rw [List.getElem?_append_right (by omega)] at hj
      have e2 : j - S.length = 0 := by
        rcases Nat.eq_zero_or_pos (j - S.length) with h0 | h0
        · exact h0
        · rw [List.getElem?_eq_none (by simp; omega)] at hj; cases hj
      rw [e2] at hj
      exact .inr ⟨by omega, (Option.some.inj hj).symm⟩
  refine ⟨h.chg, fun j s hj => ?_, fun i j s u hij hi hj => ?_, fun j s hj => ?_⟩
  · rcases at_ j s hj with ⟨_, hk⟩ | ⟨_, rfl⟩
    · exact h.rows j s hk
    · exact hr
  · rcases at_ i s hi with ⟨_, hk⟩ | ⟨e1, rfl⟩ <;> rcases at_ j u hj with ⟨_, hu⟩ | ⟨e2, rfl⟩
    · exact h.apart _ _ _ _ hij hk hu
    · exact hne s (List.mem_of_getElem? hk)
    · exact fun e => hne u (List.mem_of_getElem? hu) e.symm
    · omega
  · rcases at_ j s hj with ⟨_, hk⟩ | ⟨_, rfl⟩
    · exact h.own j s hk
    · exact hg
section
variable {P : Program} {o : Oper} {a : Act} {w w0 : World} {R : Value → World → Prop} {F : Nat → Prop} {S : List Blk}
/- a literal slice -/
theorem dd_lits (HS : St w0 F S w) {t e : TypeId} {len : Nat} {parts : Array (Nat × Operand)} (cells : Array Value) (ho : o.op = .buildSlice t len parts) {ps : List (Nat × Value)} (hp : (parts.map fun (i, x) => (i, a.eval x)).toList = ps) {z : Value} {sz : Nat}
    (hu : P.underlying t = some (.slice e)) (hie : (P.info? e).map (fun i => (i.zero, i.size)) = some (some z, sz)) (hpos : Nat.blt 0 (len * sz) = true) (hsmall : Nat.ble (len * sz) 16777216 = true)
    (hf : Instr.fill (fun i => some (i * sz, sz)) ((Array.range (len * sz)).map (z.cells[· % z.cells.size]!)) ps = some cells)
    (h : ∀ g w', St w0 F (S ++ [⟨g, e, cells⟩]) w' → R (.slice (some ⟨g, 0, none⟩) len len) w') : Does P o a w R := fun _ _ hK => by
  obtain ⟨ie, hi, he⟩ := Option.map_eq_some_iff.1 hie
  injection he with hz hsz
  subst hsz
  have h1 := Nat.le_of_ble_eq_true hsmall
  have h2 : 0 < len * ie.size := Nat.le_of_ble_eq_true hpos
  exact wp_buildSlice t e len parts ho cells ie z hu hi hz (by omega) (by omega) (by rw [hp]; exact hf) (hK _ _ (h _ _ (HS.snoc e cells)))
/- append to a slice whose block is known -/
theorem dd_app (HS : St w0 F S w) (k : Nat) {g c n sz : Nat} {cb : Array Value} {e t : TypeId} {L : List Value} (hk : S[k]? = some ⟨g, e, cb⟩) (O : OwnC cb c n sz L) {s x : Operand} (ho : o.op = .call { callee := .builtin .append, args := #[s, x], argTypes := #[t, t] })
    (hs : a.eval s = .slice (some ⟨g, 0, none⟩) n c) {z : Value} {bytes : Nat} (ht : P.underlying t = some (.slice e)) (hi : (P.info? e).map (fun i => (i.zero, i.size, i.bytes)) = some (some z, sz, bytes)) (hzs : z.cells.size = sz) (hsz : 0 < sz)
    {ad : Addr} {m c2 : Nat} (news : List Value) (hx : a.eval x = .slice (some ad) m c2) (hl : news.length = m * sz) (hnews : ∀ j u, news[j]? = some u → w.cell? (ad.add j) = some u) (h1 : ∀ u ∈ news, u.oneCell' = true)
    (h63 : n + m ≤ maxLen) (hbytes : (n + m) * bytes ≤ 140737488355328)
    (h : ∀ g' c' cb' w', OwnC cb' c' (n + m) sz (L ++ news) → St w0 F (S.eraseIdx k ++ [⟨g', e, cb'⟩]) w' → R (.slice (some ⟨g', 0, none⟩) (n + m) c') w') : Does P o a w R := fun _ _ hK => by
  have hrow := HS.row k hk
  have hown := ownc_to hrow O (Nat.zero_le g)
  obtain ⟨i, hi1, hz1, hz2, hz3⟩ := info_parts hi
  obtain ⟨v', w', hr, h2, h3, h4⟩ := run_append_where (P := P) w 0 t o.type e i z sz bytes ht hi1 hz1 hz2 hz3 hzs hsz _ n L hown ad m c2 news hl hnews h1 h63 hbytes (Nat.zero_le _)
  obtain ⟨v3, w3, hr3, _, _, h6⟩ := run_append_own (P := P) w 0 t o.type e i z sz bytes ht hi1 hz1 hz2 hz3 hzs hsz _ n L hown ad m c2 news hl hnews h1 h63 hbytes (Nat.zero_le _)
  rw [hr] at hr3
  injection hr3 with hr3 _
  subst hr3
  obtain ⟨g', c', cb', rfl, _, hrow', O'⟩ := ownc_of h2 (fun ev => by have := (h6.1 ev).1; cases this)
  have hne : ∀ j r, S[j]? = some r → j ≠ k → r.g ≠ g' := fun j r hj hjk e' => by
    have hjr := HS.rows j r hj
    rcases h4.cases (k := g') rfl with h5 | h5
    · injection h5 with h5
      have h5 : g = g' := h5
      exact HS.apart j k r _ hjk hj hk (by rw [e', ← h5])
    · have := hjr.lt; omega
  have hS1 : St w0 F (S.eraseIdx k) w' := by
    have hE := st_erase HS k
    have hg : F g ∨ w0.heap.size ≤ g := HS.own k _ hk
    have hrows : ∀ b ∈ S.eraseIdx k, b.g ≠ g := fun b hb e' => by
      obtain ⟨j, hj⟩ := List.getElem?_of_mem hb
      rw [List.getElem?_eraseIdx] at hj
      split at hj
      · exact HS.apart j k b _ (by omega) hj hk e'
      · exact HS.apart (j + 1) k b _ (by omega) hj hk e'
    exact ⟨hE.chg.grown h3 (fun j e' => by injection e' with e'; have e' : g = j := e'; subst e'; exact hg), fun j r hj => (hE.rows j r hj).only h3 (hrows r (List.mem_of_getElem? hj)), hE.apart, hE.own⟩
  have hg' : F g' ∨ w0.heap.size ≤ g' := by
    rcases h4.cases (k := g') rfl with h5 | h5
    · injection h5 with h5
      have h5 : g = g' := h5
      rw [← h5]; exact HS.own k _ hk
    · exact .inr (Nat.le_trans HS.chg.size h5)
  have hS2 := st_snoc hS1 hrow' hg' (fun b hb => by
    obtain ⟨j, hj⟩ := List.getElem?_of_mem hb
    rw [List.getElem?_eraseIdx] at hj
    split at hj
    · exact hne j b hj (by omega)
    · exact hne (j + 1) b hj (by omega))
  unfold Oper.wp execOp
  simp only [ho, resolve, invoke, builtin, Sem.run_bind, Sem.run_pure, Result.andThen_ok, List.map_toArray, List.map_cons, List.map_nil, hs, hx, hr]
  exact hK _ _ (h g' c' cb' w' O' hS2)
theorem dd_setrow (HS : St w0 F S w) (k : Nat) {ty : TypeId} {x y : Operand} (ho : o.op = .store ty x y) {g n : Nat} {t : TypeId} {old cs : Array Value} (hk : S[k]? = some ⟨g, t, old⟩) (hx : a.eval x = .pointer (some ⟨g, 0, none⟩)) (hy : a.eval y = .agg cs) (hi : (P.info? ty).map (·.size) = some n) (hn : cs.size = n) (hn2 : old.size = n) (h1 : (Value.agg cs).cells.all (·.oneCell') = true)
    (h : ∀ w', St w0 F (S.set k ⟨g, t, cs⟩) w' → R undef w') : Does P o a w R :=
  dd_store HS k 0 ho hk hx hy (by rw [hi, show (Value.agg cs).cells.size = n from hn]) (by show 0 + cs.size ≤ old.size; omega) h1 (spl_agg _ _ _ rfl (by show old.size = cs.size; omega)) h
end
def Ones (L : List (List Value)) : Prop := ∀ l ∈ L, ∀ v ∈ l, Value.oneCell' v = true
theorem ones_nil : Ones [] := fun l h => by cases h
theorem ones_cons {l : List Value} {L : List (List Value)} (h : ∀ v ∈ l, Value.oneCell' v = true) (t : Ones L) : Ones (l :: L) := fun m hm => by
  cases hm with
  | head => exact h
  | tail _ hm => exact t m hm
theorem ones_c {v : Value} (h : Value.oneCell' v = true) : ∀ u ∈ [v], Value.oneCell' u = true := fun u hu => by
  cases hu with
  | head => exact h
  | tail _ hu => cases hu
theorem all_one {cs : Array Value} (h : (Value.agg cs).cells.all (·.oneCell') = true) : ∀ v ∈ cs.toList, Value.oneCell' v = true := fun v hv => (Array.all_eq_true_iff_forall_mem.1 h) v (by simpa [Value.cells] using hv)
theorem ao_nil : ∀ v ∈ ([] : List Value), Value.oneCell' v = true := fun v h => by cases h
theorem ao_cons {v : Value} {l : List Value} (h : Value.oneCell' v = true) (t : ∀ v ∈ l, Value.oneCell' v = true) : ∀ u ∈ v :: l, Value.oneCell' u = true := fun u hu => by
  cases hu with
  | head => exact h
  | tail _ hu => exact t u hu
theorem one_l {l : List Value} (h : ∀ v ∈ l, Value.oneCell' v = true) : (Value.agg l.toArray).cells.all (·.oneCell') = true := by
  show l.toArray.all _ = true
  simpa using h
theorem args0 {f : Operand → Value} : (#[] : Array Operand).map f = ([] : List Value).toArray := by simp
theorem args1 {f : Operand → Value} {x1 : Operand} {v1 : Value} (h1 : f x1 = v1) : (#[x1] : Array Operand).map f = [v1].toArray := by simp [h1]
theorem args2 {f : Operand → Value} {x1 x2 : Operand} {v1 v2 : Value} (h1 : f x1 = v1) (h2 : f x2 = v2) : (#[x1, x2] : Array Operand).map f = [v1, v2].toArray := by simp [h1, h2]
theorem args3 {f : Operand → Value} {x1 x2 x3 : Operand} {v1 v2 v3 : Value} (h1 : f x1 = v1) (h2 : f x2 = v2) (h3 : f x3 = v3) : (#[x1, x2, x3] : Array Operand).map f = [v1, v2, v3].toArray := by simp [h1, h2, h3]
theorem args4 {f : Operand → Value} {x1 x2 x3 x4 : Operand} {v1 v2 v3 v4 : Value} (h1 : f x1 = v1) (h2 : f x2 = v2) (h3 : f x3 = v3) (h4 : f x4 = v4) : (#[x1, x2, x3, x4] : Array Operand).map f = [v1, v2, v3, v4].toArray := by simp [h1, h2, h3, h4]
theorem pr1 {i : Nat} {f : Operand → Value} {x : Operand} {v : Value} {l : List (Nat × Operand)} {ps : List (Nat × Value)} (h : f x = v) (t : (l.toArray.map fun (i, x) => (i, f x)).toList = ps) : (((i, x) :: l).toArray.map fun (i, x) => (i, f x)).toList = (i, v) :: ps := by
  simp only [List.map_toArray, List.map_cons, h] at *
  simpa using t
theorem pr0 {f : Operand → Value} : (([] : List (Nat × Operand)).toArray.map fun (i, x) => (i, f x)).toList = [] := by simp
theorem bytes_slab {cs : Array Value} {o : Nat} {q : List (BitVec 8)} (h : (cs.toList.drop o).take (bs q).size = (bs q).toList) : (cs.toList.drop o).take (bytesV q).length = bytesV q := by
  rw [bs_toList, size_bs] at h; rw [len_bytesV]; exact h
theorem len_drop {q : List (BitVec 8)} {n k m : Nat} (h : q.length = n) (hm : n - k = m) : (q.drop k).length = m := by rw [List.length_drop, h, hm]
theorem len_take {q : List (BitVec 8)} {n k : Nat} (h : q.length = n) (hk : k ≤ n) : (q.take k).length = k := by rw [List.length_take, h]; omega
theorem slice_part {w : World} {g : Nat} {t : TypeId} {cs : Array Value} {q : List (BitVec 8)} {n c : Nat} (h : Row w g t cs) (o : Nat) (hL : (cs.toList.drop o).take (bytesV q).length = bytesV q) (hq : q.length = n) (hc : n ≤ c) : Slice w (.slice (some ⟨g, o, none⟩) n c) q := by
  subst hq
  refine ⟨_, c, rfl, hc, fun _ => ⟨g, o, rfl, h.lt, fun j x hx => ?_⟩⟩
  have hj : j < (bytesV q).length := by rw [len_bytesV]; exact (List.getElem?_eq_some_iff.1 hx).1
  refine h.get ?_
  have h2 := congrArg (fun l : List Value => l[j]?) hL
  simp only [List.getElem?_take_of_lt hj, List.getElem?_drop] at h2
  rw [← Array.getElem?_toList, h2]
  simp [bytesV, hx]
theorem row_news {w : World} {g : Nat} {t : TypeId} {cs : Array Value} (h : Row w g t cs) (o : Nat) {L : List Value} (hL : (cs.toList.drop o).take L.length = L) : ∀ (j : Nat) (u : Value), L[j]? = some u → w.cell? ((⟨g, o, none⟩ : Addr).add j) = some u := fun j u hu => by
  rw [Addr.add_mid]; exact h.slab o L hL j u hu
section
variable {P : Program} {o : Oper} {a : Act} {w : World} {R : Value → World → Prop}
theorem dd_slA {t : TypeId} {x : Operand} {g i n sz : Nat} (ho : o.op = .slice t x none none none) (hx : a.eval x = .pointer (some ⟨g, i, none⟩)) (ht : arrOf P t = some (n, sz)) : (execOp a.eval o).run P w = .ok (.value (.slice (some ⟨g, i, none⟩) n n)) w := by
  unfold arrOf at ht
  cases hu : P.underlying t with
  | none => rw [hu] at ht; cases ht
  | some d =>
    rw [hu] at ht
    cases d with
    | array n' e =>
      simp only at ht
      cases hq : P.info? e with
      | none => rw [hq] at ht; cases ht
      | some inf =>
        rw [hq] at ht
        simp only [Option.map_some, Option.some.injEq, Prod.mk.injEq] at ht
        obtain ⟨rfl, rfl⟩ := ht
        simp [execOp, ho, hx, Instr.sliceAt, Instr.sureAddr, run_underlying hu, sizeOf, typeInfo, hq, Instr.sliceBounds, Addr.add_mid]
    | _ => simp only at ht; cases ht
theorem dd_sllh {t : TypeId} {x lo hi : Operand} {g i n c sz j : Nat} {k k' : IntKind} {l u : Nat} (ho : o.op = .slice t x (some lo) (some hi) none) (hx : a.eval x = .slice (some ⟨g, i, none⟩) n c) (hl : a.eval lo = .int k (l : Int)) (hh : a.eval hi = .int k' (u : Int)) (ht : slOf P t = some sz) (h1 : l ≤ u) (h2 : u ≤ c) (h3 : l < c) (hj : i + l * sz = j) {n' c' : Nat} (hn : u - l = n') (hc : c - l = c')
    : (execOp a.eval o).run P w = .ok (.value (.slice (some ⟨g, j, none⟩) n' c')) w := by
  subst hj hn hc
  unfold slOf at ht
  cases hu : P.underlying t with
  | none => rw [hu] at ht; cases ht
  | some d =>
    rw [hu] at ht
    cases d with
    | slice e =>
      simp only at ht
      cases hq : P.info? e with
      | none => rw [hq] at ht; cases ht
      | some inf =>
        rw [hq] at ht
        simp only [Option.map_some, Option.some.injEq] at ht
        subst ht
        have e3 : ¬ c = l := by omega
        simp [execOp, ho, hx, hl, hh, Instr.sliceAt, run_underlying hu, Instr.slice, Instr.sliceBounds, Instr.sliceBound, asIntOf, sizeOf, typeInfo, hq, h1, h2, e3, Addr.add_mid]
    | _ => simp only at ht; cases ht
theorem dd_sll {t : TypeId} {x lo : Operand} {g i n c sz j : Nat} {k : IntKind} {l : Nat} (ho : o.op = .slice t x (some lo) none none) (hx : a.eval x = .slice (some ⟨g, i, none⟩) n c) (hl : a.eval lo = .int k (l : Int)) (ht : slOf P t = some sz) (h1 : l ≤ n) (h3 : l < c) (hj : i + l * sz = j) {n' c' : Nat} (hn : n - l = n') (hc : c - l = c')
    : (execOp a.eval o).run P w = .ok (.value (.slice (some ⟨g, j, none⟩) n' c')) w := by
  subst hj hn hc
  unfold slOf at ht
  cases hu : P.underlying t with
  | none => rw [hu] at ht; cases ht
  | some d =>
    rw [hu] at ht
    cases d with
    | slice e =>
      simp only at ht
      cases hq : P.info? e with
      | none => rw [hq] at ht; cases ht
      | some inf =>
        rw [hq] at ht
        simp only [Option.map_some, Option.some.injEq] at ht
        subst ht
        have e3 : ¬ c = l := by omega
        have e1 : l ≤ n := h1
        simp [execOp, ho, hx, hl, Instr.sliceAt, run_underlying hu, Instr.slice, Instr.sliceBounds, Instr.sliceBound, asIntOf, sizeOf, typeInfo, hq, e1, e3, Addr.add_mid]
    | _ => simp only at ht; cases ht
theorem dd_slh {t : TypeId} {x hi : Operand} {A : Option Addr} {n c sz : Nat} {k' : IntKind} {u : Int} (ho : o.op = .slice t x none (some hi) none) (hx : a.eval x = .slice A n c) (hh : a.eval hi = .int k' u) (ht : slOf P t = some sz) (h1 : 0 ≤ u) (h2 : u ≤ (c : Int)) {n' : Nat} (hn : u.toNat = n')
    : (execOp a.eval o).run P w = .ok (.value (.slice A n' c)) w := by
  subst hn
  unfold slOf at ht
  cases hu : P.underlying t with
  | none => rw [hu] at ht; cases ht
  | some d =>
    rw [hu] at ht
    cases d with
    | slice e =>
      simp only at ht
      cases hq : P.info? e with
      | none => rw [hq] at ht; cases ht
      | some inf =>
        have e4 : (A.map fun x => x.add 0) = A := by cases A <;> simp [Addr.add]
        simp [execOp, ho, hx, hh, Instr.sliceAt, run_underlying hu, Instr.slice, Instr.sliceBounds, Instr.sliceBound, asIntOf, sizeOf, typeInfo, hq, h1, h2, e4]
    | _ => simp only at ht; cases ht
end
end Go.Proofs.YtnmaplgodimohaaDoor

/- Regions that draw, order by order, what only reads taken first; ways that meet again. No function of the program is named here. -/
set_option maxRecDepth 4000
namespace Go.Proofs.YtnmaplgodimohaaDoor
open Go Go.RowKit
def PQ (Q : Exit → Act → World → Prop) : Prop := ∀ c (a : Act) (d : Option Tmp) (v : Value) (w : World), Q (.panic c) (a.put d v) w → Q (.panic c) a w
theorem pq_then {K : Act → World → Prop} {Q : Exit → Act → World → Prop} (h : PQ Q) : PQ (Exit.then K Q) := h
theorem pq_block {id : Nat} {Q : Exit → Act → World → Prop} (h : PQ Q) : PQ (Exit.inBlock id Q) := h
theorem pq_body {P : Program} {fn : Func} {R : Ending → World → Prop} : PQ (bodyPost P fn R) := fun c a d v w h => by
  cases d <;> exact h
section
variable {P : Program} {Q : Exit → Act → World → Prop} {ops : Array Oper} {o : Oper} {N i fuel : Nat} {L : List (Nat × Value)} {a : Act} {w : World} {listed : Array Bool} {S : World → Prop}
theorem wp_held {id : Nat} {l : List Oper} {M : Nat} (S : World → Prop) (hm : P.follows .mixedOrders = true) (hM : l.length = M) (h : wpAnyH P .any l.toArray Q S M (Array.replicate M false) a w.drew) : (Code.region id l.toArray true).wp P Q a w := by
  subst hM
  refine wp_region_held (S := S) hm ?_
  have e : l.toArray.size = l.length := by simp
  rw [e]; exact h
end
theorem wp_cut {P : Program} {Q : Exit → Act → World → Prop} {c : Code} {a : Act} {w : World} (I : Act → World → Prop) (h : c.wp P (Exit.then I Q) a w) (k : ∀ a w, I a w → Q .normal a w) : c.wp P Q a w :=
  wp_mono h fun e a w q => by
    cases e with
    | normal => exact k a w q
    | _ => exact q
/- some of the blocks, in whatever order -/
def selB (S : List Blk) : List Nat → List Blk
  | [] => []
  | i :: is => match S[i]? with
    | some r => r :: selB S is
    | none => selB S is
theorem sel_at (S : List Blk) : ∀ (is : List Nat), is.Nodup → ∀ (i j : Nat) (r s : Blk), (selB S is)[i]? = some r → (selB S is)[j]? = some s → ∃ i' j', i' ∈ is ∧ j' ∈ is ∧ S[i']? = some r ∧ S[j']? = some s ∧ (i ≠ j → i' ≠ j')
  | [], _, i, j, r, s, h, _ => by simp [selB] at h
  | k :: is, hn, i, j, r, s, hi, hj => by
    obtain ⟨hk, hn⟩ := List.nodup_cons.1 hn
    unfold selB at hi hj
    cases hs : S[k]? with
    | none =>
      rw [hs] at hi hj
      obtain ⟨i', j', h1, h2, h3⟩ := sel_at S is hn i j r s hi hj
      exact ⟨i', j', by simp [h1], by simp [h2], h3⟩
    | some u =>
      rw [hs] at hi hj
      cases i with
      | zero =>
        obtain rfl : u = r := by simpa using hi
        cases j with
        | zero => obtain rfl : u = s := by simpa using hj
                  exact ⟨k, k, by simp, by simp, hs, hs, fun h => absurd rfl h⟩
        | succ j =>
          obtain ⟨j', _, h1, _, h3, _, _⟩ := sel_at S is hn j j s s (by simpa using hj) (by simpa using hj)
          exact ⟨k, j', by simp, by simp [h1], hs, h3, fun _ e => hk (e ▸ h1)⟩
      | succ i =>
        cases j with
        | zero =>
          obtain rfl : u = s := by simpa using hj
          obtain ⟨i', _, h1, _, h3, _, _⟩ := sel_at S is hn i i r r (by simpa using hi) (by simpa using hi)
          exact ⟨i', k, by simp [h1], by simp, h3, hs, fun _ e => hk (e ▸ h1)⟩
        | succ j =>
          obtain ⟨i', j', h1, h2, h3, h4, h5⟩ := sel_at S is hn i j r s (by simpa using hi) (by simpa using hj)
          exact ⟨i', j', by simp [h1], by simp [h2], h3, h4, fun h => h5 (by omega)⟩
theorem st_sel {w0 w : World} {F : Nat → Prop} {S : List Blk} (h : St w0 F S w) (is : List Nat) (hn : is.Nodup) : St w0 F (selB S is) w :=
  ⟨h.chg, fun j r hj => by obtain ⟨i', _, _, _, h1, _⟩ := sel_at S is hn j j r r hj hj; exact h.rows i' r h1,
    fun i j r s hij hi hj => by obtain ⟨i', j', _, _, h1, h2, h3⟩ := sel_at S is hn i j r s hi hj; exact h.apart i' j' r s (h3 hij) h1 h2,
    fun j r hj => by obtain ⟨i', _, _, _, h1, _⟩ := sel_at S is hn j j r r hj hj; exact h.own i' r h1⟩
end Go.Proofs.YtnmaplgodimohaaDoor

/- Loops in a walk; rows of bytes, cell by cell; slices that are made. No function of the program is named here. -/
set_option maxRecDepth 4000
namespace Go.Proofs.YtnmaplgodimohaaDoor
open Go Go.RowKit
/- a loop of at most so many rounds -/
def unr (P : Program) (c : Code) (Q : Exit → Act → World → Prop) : Nat → Act → World → Prop
  | 0, _, _ => False
  | n + 1, a, w => c.wp P (Exit.then (unr P c Q n) Q) a w
theorem wp_unr {P : Program} {c : Code} {Q : Exit → Act → World → Prop} {a : Act} {w : World} (n : Nat) (h : unr P c Q n a w) : (Code.loop c).wp P Q a w :=
  wp_loopG (ι := Nat) (fun i a w => unr P c Q i a w) id n h fun i a w hI => by
    cases i with
    | zero => exact hI.elim
    | succ i =>
      refine wp_mono hI (fun e a w q => ?_)
      cases e with
      | normal => exact ⟨i, q, Nat.lt_succ_self _⟩
      | _ => exact q
theorem unr_go {P : Program} {c : Code} {Q : Exit → Act → World → Prop} {a : Act} {w : World} {n : Nat} (h : c.wp P (Exit.then (unr P c Q n) Q) a w) : unr P c Q (n + 1) a w := h
theorem i64_of {z : Int} (h0 : -9223372036854775808 ≤ z) (h1 : z < 9223372036854775808) : IntKind.i64.wrap z = z := by rw [IntKind.wrap_i64]; omega
/- rows of bytes -/
theorem bs_get {q : List (BitVec 8)} {n : Nat} (hq : q.length = n) (i : Nat) (hi : i < n) : (bs q)[i]? = some (.int .u8 (bd (q.getD i 0#8))) := get_bs q i (by omega)
theorem bs_slab {q : List (BitVec 8)} {n : Nat} (hq : q.length = n) (off m : Nat) (h : off + m ≤ n) : ((bs q).toList.drop off).take (bs ((q.drop off).take m)).size = (bs ((q.drop off).take m)).toList := by
  rw [size_bs, List.length_take, List.length_drop, hq, Nat.min_eq_left (by omega), bs_toList, bs_toList]
  simp [bytesV, List.map_take, List.map_drop]
theorem bs_slab0 {q : List (BitVec 8)} {n : Nat} (hq : q.length = n) (m : Nat) (h : m ≤ n) : ((bs q).toList.drop 0).take (bs (q.take m)).size = (bs (q.take m)).toList := bs_slab hq 0 m (by omega)
theorem len_set {q : List (BitVec 8)} {n i : Nat} {x : BitVec 8} (hq : q.length = n) : (q.set i x).length = n := by rw [List.length_set, hq]
theorem len_spl {q r : List (BitVec 8)} {n m off : Nat} (hq : q.length = n) (hr : r.length = m) (h : off + m ≤ n) : (spl q off r).length = n := by rw [length_spl q off r (by omega), hq]
section
variable {P : Program} {o : Oper} {a : Act} {w w0 : World} {R : Value → World → Prop} {F : Nat → Prop} {S : List Blk}
theorem dd_mk (HS : St w0 F S w) {t e : TypeId} {x y : Operand} (ho : o.op = .makeSlice t x y) {k k' : IntKind} {l c : Nat} (hx : a.eval x = .int k (l : Int)) (hy : a.eval y = .int k' (c : Int)) {z : Value} {sz bytes : Nat} {cs : Array Value}
    (hu : P.underlying t = some (.slice e)) (hie : (P.info? e).map (fun i => (i.zero, i.size, i.bytes)) = some (some z, sz, bytes)) (hlc : l ≤ c) (hb : bytes * c ≤ 281474976710656) (h63 : c ≤ 9223372036854775807) (hcs : madeCells z.cells (c * sz) = cs)
    (h : ∀ g w', St w0 F (S ++ [⟨g, e, cs⟩]) w' → R (.slice (some ⟨g, 0, none⟩) l c) w') : Does P o a w R := fun _ _ hK => by
  obtain ⟨i, hi, hz1, hz2, hz3⟩ := info_parts hie
  subst hz2 hz3 hcs
  have hr := run_make (P := P) w t e i z hu hi hz1 k k' l c (by omega) (by omega) (by rw [← Int.natCast_mul]; omega) (by omega)
  simp only [Int.toNat_natCast] at hr
  have hrun : (execOp a.eval o).run P w = .ok (.value (.slice (some ⟨w.heap.size, 0, none⟩) l c)) (w.alloc (.cells (madeCells z.cells (c * i.size)) e)) := by
    unfold execOp
    simp only [ho, hx, hy, Sem.run_bind, hr, Result.andThen_ok, Sem.run_pure]
  unfold Oper.wp
  rw [hrun]
  exact hK _ _ (h _ _ (HS.snoc e _))
theorem dd_s2a {t : TypeId} {x : Operand} {A : Option Addr} {n c m sz : Nat} (ho : o.op = .sliceToArrayPointer t x) (hx : a.eval x = .slice A n c) (ht : arrOf P t = some (m, sz)) (h : m ≤ n) : (execOp a.eval o).run P w = .ok (.value (.pointer A)) w := by
  unfold arrOf at ht
  cases hu : P.underlying t with
  | none => rw [hu] at ht; cases ht
  | some d =>
    rw [hu] at ht
    cases d with
    | array n' e =>
      simp only at ht
      cases hq : P.info? e with
      | none => rw [hq] at ht; cases ht
      | some inf =>
        rw [hq] at ht
        simp only [Option.map_some, Option.some.injEq, Prod.mk.injEq] at ht
        obtain ⟨rfl, rfl⟩ := ht
        have e3 : ¬ n < n' := by omega
        simp [execOp, ho, hx, Instr.arrayAt, run_underlying hu, e3]
    | _ => simp only at ht; cases ht
theorem dd_minF {x y : Operand} {ts : Array TypeId} {k k' : IntKind} {m n : Int} (ho : o.op = .call { callee := .builtin .min, args := #[x, y], argTypes := ts }) (hx : a.eval x = .int k m) (hy : a.eval y = .int k' n) (h : ¬ n < m) : (execOp a.eval o).run P w = .ok (.value (.int k m)) w := by
  simp [execOp, ho, resolve, invoke, builtin, Builtin.min_, Builtin.min2, hx, hy, h]
theorem dd_minT {x y : Operand} {ts : Array TypeId} {k k' : IntKind} {m n : Int} (ho : o.op = .call { callee := .builtin .min, args := #[x, y], argTypes := ts }) (hx : a.eval x = .int k m) (hy : a.eval y = .int k' n) (h : n < m) : (execOp a.eval o).run P w = .ok (.value (.int k n)) w := by
  simp [execOp, ho, resolve, invoke, builtin, Builtin.min_, Builtin.min2, hx, hy, h]
/- a piece of an array, by pointer -/
theorem dd_slAl {t : TypeId} {x lo : Operand} {g i n sz j : Nat} {k : IntKind} {l : Nat} (ho : o.op = .slice t x (some lo) none none) (hx : a.eval x = .pointer (some ⟨g, i, none⟩)) (hl : a.eval lo = .int k (l : Int)) (ht : arrOf P t = some (n, sz)) (h1 : l < n) (hj : i + l * sz = j) {n' : Nat} (hn : n - l = n') : (execOp a.eval o).run P w = .ok (.value (.slice (some ⟨g, j, none⟩) n' n')) w := by
  subst hj hn
  unfold arrOf at ht
  cases hu : P.underlying t with
  | none => rw [hu] at ht; cases ht
  | some d =>
    rw [hu] at ht
    cases d with
    | array n' e =>
      simp only at ht
      cases hq : P.info? e with
      | none => rw [hq] at ht; cases ht
      | some inf =>
        rw [hq] at ht
        simp only [Option.map_some, Option.some.injEq, Prod.mk.injEq] at ht
        obtain ⟨rfl, rfl⟩ := ht
        have e3 : ¬ n' = l := by omega
        have e1 : l ≤ n' := by omega
        simp [execOp, ho, hx, hl, Instr.sliceAt, Instr.sureAddr, run_underlying hu, sizeOf, typeInfo, hq, Instr.sliceBounds, Instr.sliceBound, asIntOf, e1, e3, Addr.add_mid]
    | _ => simp only at ht; cases ht
end
section
variable {o : Oper} {a : Act} {w w0 : World} {R : Value → World → Prop} {F : Nat → Prop} {S : List Blk}
/- copy into a row of bytes -/
theorem dd_copyR (HS : St w0 F S w) (k : Nat) {d s : Operand} (ho : o.op = .call { callee := .builtin .copy, args := #[d, s], argTypes := #[106, 106] }) {g off n m l r : Nat} {t : TypeId} {v : Value} {p q : List (BitVec 8)} (hp : p.length = l) (hk : S[k]? = some ⟨g, t, bs p⟩) (hd : a.eval d = .slice (some ⟨g, off, none⟩) n m) (hs : a.eval s = v) (hq : Slice w v q) (hn : q.length = r) (hle : r ≤ n) (hfit : off + r ≤ l)
    (h : ∀ w', St w0 F (S.set k ⟨g, t, bs (spl p off q)⟩) w' → R (.int .i64 (r : Int)) w') : Does Tryd.prog o a w R := fun _ _ hK => by
  have hrow := HS.row k hk
  refine wp_copy_any d s ho g off n m hd v hs q hq t (bs p) hrow (by rw [size_bs]; omega) (by omega) fun w' h1 h2 => ?_
  rw [spl_bs] at h1
  have := hK _ _ (h w' (HS.upd k hk h1 h2))
  rw [← hn] at this
  exact this
end
end Go.Proofs.YtnmaplgodimohaaDoor

/- More operations of a walk: rows that are far, appends to nothing. No function of the program is named here. -/
set_option maxRecDepth 4000
namespace Go.Proofs.YtnmaplgodimohaaDoor
open Go Go.RowKit
theorem sl_at {x : Value} {A : Option Addr} {p : Addr} {n c : Nat} (h : x = .slice A n c) (hA : A = some p) : x = .slice (some p) n c := hA ▸ h
theorem lenA {cs : Array Value} {n : Nat} (h : cs.size = n) : cs.toList.length = n := by rw [Array.length_toList, h]
theorem slabA {cs ds : Array Value} {o : Nat} (h : (cs.toList.drop o).take ds.size = ds.toList) : (cs.toList.drop o).take ds.toList.length = ds.toList := by rw [Array.length_toList]; exact h
theorem wp_loop1 {P : Program} {Q : Exit → Act → World → Prop} {a : Act} {w : World} {ι : Type} {c : Code} (I : ι → Act → World → Prop) (μ : ι → Nat) (i1 : ι) (h0 : c.wp P (Exit.then (I i1) Q) a w)
    (round : ∀ i a w, I i a w → c.wp P (Exit.then (fun a' w' => ∃ i', I i' a' w' ∧ μ i' < μ i) Q) a w) : (Code.loop c).wp P Q a w :=
  wp_loopG (ι := Option ι) (fun i a w => match i with | none => c.wp P (Exit.then (I i1) Q) a w | some i => I i a w) (fun i => match i with | none => μ i1 + 1 | some i => μ i) none h0 fun i a w hI => by
    cases i with
    | none =>
      refine wp_mono hI (fun e a w q => ?_)
      cases e with
      | normal => exact ⟨some i1, q, Nat.lt_succ_self _⟩
      | _ => exact q
    | some i =>
      refine wp_mono (round i a w hI) (fun e a w q => ?_)
      cases e with
      | normal => obtain ⟨i', h1, h2⟩ := q; exact ⟨some i', h1, h2⟩
      | _ => exact q
section
variable {P : Program} {o : Oper} {a : Act} {w w0 : World} {R : Value → World → Prop} {F : Nat → Prop} {S : List Blk}
theorem run_eqB {P : Program} (ty : TypeId) (w : World) (p q : Bool) (hu : P.underlying ty = some .bool) : (Op.equal ty (.bool p) (.bool q)).run P w = .ok (p == q) w := by
  show (Op.equalIn 10000 ty (.bool p) (.bool q)).run P w = .ok (p == q) w
  rw [show (10000 : Nat) = 9999 + 1 from rfl]
  unfold Op.equalIn
  simp [Sem.run_bind, run_underlying hu]
theorem dd_neb {ty ty2 : TypeId} {x y : Operand} {p q b : Bool} (ho : o.op = .binOp .neq ty x y ty2) (hx : a.eval x = .bool p) (hy : a.eval y = .bool q) (hu : P.underlying ty = some .bool) (hb : (p != q) = b) : (execOp a.eval o).run P w = .ok (.value (.bool b)) w := by
  subst hb
  simp [execOp, ho, hx, hy, eqGuard, binOp, run_eqB ty w p q hu, bne]
theorem dd_getR {g : Nat} {t : TypeId} {cs : Array Value} (hr : Row w g t cs) {i : Nat} {ty : TypeId} {x : Operand} (ho : o.op = .load ty x) (hx : a.eval x = .pointer (some ⟨g, i, none⟩)) {v : Value} (hv : cs[i]? = some v) {d : TypeDesc} (hu : P.underlying ty = some d) (hd : d.isRow = false) : (execOp a.eval o).run P w = .ok (.value v) w :=
  dd_at ho hx (hr.get hv) hu hd
theorem dd_app0 (HS : St w0 F S w) {e t : TypeId} {s x : Operand} (ho : o.op = .call { callee := .builtin .append, args := #[s, x], argTypes := #[t, t] })
    (hs : a.eval s = .slice none 0 0) {z : Value} {bytes sz : Nat} (ht : P.underlying t = some (.slice e)) (hi : (P.info? e).map (fun i => (i.zero, i.size, i.bytes)) = some (some z, sz, bytes)) (hzs : z.cells.size = sz) (hsz : 0 < sz)
    {ad : Addr} {m c2 : Nat} (news : List Value) (hx : a.eval x = .slice (some ad) m c2) (hl : news.length = m * sz) (hnews : ∀ j u, news[j]? = some u → w.cell? (ad.add j) = some u) (h1 : ∀ u ∈ news, u.oneCell' = true)
    (h63 : m ≤ maxLen) (hbytes : m * bytes ≤ 140737488355328)
    (h : ∀ g' c' cb' w', OwnC cb' c' m sz news → St w0 F (S ++ [⟨g', e, cb'⟩]) w' → R (.slice (some ⟨g', 0, none⟩) m c') w') (hm : Nat.blt 0 m = true := by rfl) : Does P o a w R := fun _ _ hK => by
  have hm := Nat.le_of_ble_eq_true hm
  have hown : w.ownsRow 0 e sz (.slice none 0 0) 0 [] := ⟨by simp, .inl ⟨rfl, rfl⟩⟩
  obtain ⟨i, hi1, hz1, hz2, hz3⟩ := info_parts hi
  obtain ⟨v', w', hr, h2, h3, h4⟩ := run_append_where (P := P) w 0 t o.type e i z sz bytes ht hi1 hz1 hz2 hz3 hzs hsz _ 0 [] hown ad m c2 news hl hnews h1 (by omega) (by rw [Nat.zero_add]; exact hbytes) (Nat.zero_le _)
  rw [Nat.zero_add, List.nil_append] at h2
  obtain ⟨g', c', cb', rfl, _, hrow', O'⟩ := ownc_pos h2 (by omega)
  have hg' : w.heap.size ≤ g' := by
    rcases h4.cases (k := g') rfl with h5 | h5
    · cases h5
    · exact h5
  have hS1 : St w0 F S w' := HS.same (by
    have := h3
    exact below_of_grown h3 (fun g e => by cases e) (Nat.le_refl _))
  have hS2 := st_snoc hS1 hrow' (.inr (Nat.le_trans HS.chg.size hg')) (fun b hb e => by have := HS.lt hb; omega)
  unfold Oper.wp execOp
  simp only [ho, resolve, invoke, builtin, Sem.run_bind, Sem.run_pure, Result.andThen_ok, List.map_toArray, List.map_cons, List.map_nil, hs, hx, hr]
  exact hK _ _ (h g' c' cb' w' O' hS2)
end
end Go.Proofs.YtnmaplgodimohaaDoor

/- Short steps of a walk: the frame by its slots' numbers, an operation apart from where it stands. No function of the program is named here. -/
set_option maxRecDepth 4000
namespace Go.Proofs.YtnmaplgodimohaaDoor
open Go Go.RowKit
def look : List (Nat × Value) → Nat → Option Value
  | [], _ => none
  | (j, v) :: L, k => bif Nat.beq j k then some v else look L k
def sels (L : List (Nat × Value)) : List Nat → List (Nat × Value) → Option (List (Nat × Value))
  | [], acc => some acc
  | k :: ks, acc => match look L k with
    | some v => sels L ks ((k, v) :: acc)
    | none => none
structure En (N : Nat) (L : List (Nat × Value)) (a : Act) : Prop where
  size : a.tmps.size = N
  defers : a.defers = []
  at_ : ∀ (k : Nat) (v : Value), look L k = some v → a.tmps[k]? = some v
def dq (N : Nat) (o : Oper) : Option Nat := match o.dst with
  | some d => bif Nat.blt d N then some d else none
  | none => none
def dg (N : Nat) (o : Oper) : Option Nat := match o.guard with
  | none => dq N o
  | some _ => none
def dn (o : Oper) : Bool := match o.guard, o.dst with
  | none, none => true
  | _, _ => false
theorem dq_is {N : Nat} {o : Oper} {d : Nat} (h : dq N o = some d) : o.dst = some d ∧ d < N := by
  unfold dq at h
  split at h
  · rename_i e he
    cases hb : Nat.blt e N with
    | false => rw [hb] at h; cases h
    | true =>
      rw [hb] at h
      injection h with h
      subst h
      exact ⟨he, Nat.le_of_ble_eq_true hb⟩
  · cases h
theorem dg_is {N : Nat} {o : Oper} {d : Nat} (h : dg N o = some d) : o.guard = none ∧ dq N o = some d := by
  unfold dg at h
  split at h
  · exact ⟨by assumption, h⟩
  · cases h
theorem dn_is {o : Oper} (h : dn o = true) : o.guard = none ∧ o.dst = none := by
  unfold dn at h
  split at h
  · exact ⟨by assumption, by assumption⟩
  · cases h
section
variable {P : Program} {N : Nat} {L : List (Nat × Value)} {a : Act}
theorem En.ev (h : En N L a) (k : Nat) {v : Value} (hi : look L k = some v) : a.eval (.tmp k) = v := eval_of_get (h.at_ k v hi)
theorem En.get (h : En N L a) (k : Nat) {v : Value} (hi : look L k = some v) : a.tmps[k]? = some v := h.at_ k v hi
theorem En.sub (h : En N L a) {L2 : List (Nat × Value)} (hs : ∀ k v, look L2 k = some v → look L k = some v) : En N L2 a := ⟨h.size, h.defers, fun k v hi => h.at_ k v (hs k v hi)⟩
theorem sels_sub {L : List (Nat × Value)} : ∀ (ks : List Nat) (acc L2 : List (Nat × Value)), (∀ k v, look acc k = some v → look L k = some v) → sels L ks acc = some L2 → ∀ k v, look L2 k = some v → look L k = some v
  | [], acc, L2, h, e => by
    injection e with e
    subst e; exact h
  | j :: ks, acc, L2, h, e => by
    unfold sels at e
    cases hj : look L j with
    | none => rw [hj] at e; cases e
    | some u =>
      rw [hj] at e
      refine sels_sub ks _ L2 (fun k v hk => ?_) e
      unfold look at hk
      cases hb : Nat.beq j k with
      | false => simp only [hb] at hk; exact h k v hk
      | true =>
        simp only [hb] at hk
        have := Nat.eq_of_beq_eq_true hb
        subst this
        rw [hj]; exact hk
theorem En.sel (h : En N L a) (ks : List Nat) {L2 : List (Nat × Value)} (e : sels L ks [] = some L2) : En N L2 a := h.sub (sels_sub ks [] L2 (fun k v hk => by cases hk) e)
theorem En.env0 (h : En N L a) : Env N [] a := env_nil h.size h.defers
theorem En.put (h : En N L a) {d : Nat} (hd : d < N) (v : Value) : En N ((d, v) :: L) (a.put (some d) v) := by
  refine ⟨by simp [Act.put, h.size], h.defers, fun k u hi => ?_⟩
  unfold look at hi
  simp only [Act.put]
  cases hb : Nat.beq d k with
  | true =>
    simp only [hb] at hi
    have := Nat.eq_of_beq_eq_true hb
    subst this
    have hi : v = u := Option.some.inj hi
    subst hi
    simp [h.size, hd]
  | false =>
    simp only [hb] at hi
    have hne : d ≠ k := fun e => by subst e; simp at hb
    rw [Array.getElem?_setIfInBounds_ne hne]
    exact h.at_ k u hi
theorem look_arg : ∀ (vs : List Value) (i k : Nat) (v : Value), look (argL vs i) k = some v → i ≤ k ∧ vs[k - i]? = some v
  | [], i, k, v, h => by cases h
  | u :: vs, i, k, v, h => by
    unfold argL look at h
    cases hb : Nat.beq i k with
    | true =>
      simp only [hb] at h
      have := Nat.eq_of_beq_eq_true hb
      subst this
      simpa using h
    | false =>
      simp only [hb] at h
      have hne : i ≠ k := fun e => by subst e; simp at hb
      obtain ⟨h1, h2⟩ := look_arg vs (i + 1) k v h
      refine ⟨by omega, ?_⟩
      have e : k - i = (k - (i + 1)) + 1 := by omega
      rw [e]; simpa using h2
theorem enter_en {f : FuncId} {fn : Func} {c : Code} {l : List Value} {w : World} {R : Ending → World → Prop} (hf : P.funcs[f]? = some fn) (hb : fn.body = some c) (hN : fn.ntmps = N) (hl : l.length ≤ N)
    (h : ∀ a, En N (argL l 0) a → c.wp P (bodyPost P fn R) a w) : Calls P f l.toArray w R := by
  refine calls_of_wp hf hb (h _ ⟨by simp [hN]; omega, rfl, fun k v hi => ?_⟩)
  obtain ⟨_, h2⟩ := look_arg l 0 k v hi
  have hlt := (List.getElem?_eq_some_iff.1 h2).1
  simp only
  rw [Array.getElem?_append_left (by simpa using hlt)]
  simpa using h2
end
/- an operation, wherever it stands: K is what must hold behind it -/
def Og (P : Program) (ops : Array Oper) (Q : Exit → Act → World → Prop) (o : Oper) (K : Act → World → Prop) (a : Act) (w : World) : Prop :=
  ∀ K' : Act → World → Prop, (∀ a w, K a w → K' a w) → if Region.wanted o (yielded ops a.tmps) = true then Oper.wp P o a w K' Q else K' (a.put o.dst undef) w
section
variable {P : Program} {ops : Array Oper} {Q : Exit → Act → World → Prop} {rest : List Oper} {o : Oper} {K : Act → World → Prop} {N i fuel : Nat} {L : List (Nat × Value)} {a : Act} {w w0 : World} {listed : Array Bool} {S : World → Prop} {F : Nat → Prop} {B : List Blk} {d : Nat}
theorem wl_ (h : Og P ops Q o (wpList P ops Q rest) a w) : wpList P ops Q (o :: rest) a w := wpList_step h
theorem h1_ (i : Nat) {o : Oper} (ho : ops[i]? = some o) (h : Og P ops Q o (fun a' w' => S w' ∧ wpAnyH P .any ops Q S fuel (listed.setIfInBounds i true) a' w') a w) (hr : Region.ready .any ops listed = [i] := by kernel_rfl) : wpAnyH P .any ops Q S (fuel + 1) listed a w :=
  wpAnyH_all hr (by simp) fun j hj => by
    obtain rfl : j = i := by simpa using hj
    exact wpOp_step ho h
theorem wg_ (H : En N L a) {j t : Nat} {b c e : Bool} (hg : o.guard = some (j, b)) (hd : dstAt ops j = some t) (ht : look L t = some (.bool c)) (h : (c == b) = e) : Region.wanted o (yielded ops a.tmps) = e := want_g hg hd (H.get t ht) h
theorem dr_ (H : En N L a) (hw : Region.wanted o (yielded ops a.tmps) = true) (hd : dq N o = some d) {R : Value → World → Prop} (hD : Does P o a w R) (h : ∀ v w', R v w' → ∀ a', En N ((d, v) :: L) a' → K a' w') : Og P ops Q o K a w := fun K' hK => by
  obtain ⟨h1, h2⟩ := dq_is hd
  rw [if_pos hw]
  exact hD K' Q fun v w' hR => by rw [h1]; exact hK _ _ (h v w' hR _ (H.put h2 v))
theorem d_ (H : En N L a) (hd : dg N o = some d) {R : Value → World → Prop} (hD : Does P o a w R) (h : ∀ v w', R v w' → ∀ a', En N ((d, v) :: L) a' → K a' w') : Og P ops Q o K a w := dr_ H (want_n (dg_is hd).1) (dg_is hd).2 hD h
theorem k_ (H : En N L a) (hw : Region.wanted o (yielded ops a.tmps) = false) (hd : dq N o = some d) (h : ∀ a', En N ((d, undef) :: L) a' → K a' w) : Og P ops Q o K a w := fun K' hK => by
  obtain ⟨h1, h2⟩ := dq_is hd
  rw [hw, if_neg (by decide), h1]
  exact hK _ _ (h _ (H.put h2 undef))
theorem i_ (H : En N L a) (hd : dg N o = some d) {v : Value} (hD : (execOp a.eval o).run P w = .ok (.value v) w) (h : ∀ a', En N ((d, v) :: L) a' → K a' w) : Og P ops Q o K a w :=
  d_ H hd (R := fun u w' => u = v ∧ w' = w) (dd_rn hD ⟨rfl, rfl⟩) fun v' w' hR a' HA' => by obtain ⟨rfl, rfl⟩ := hR; exact h a' HA'
theorem ig (H : En N L a) (hw : Region.wanted o (yielded ops a.tmps) = true) (hd : dq N o = some d) {v : Value} (hD : (execOp a.eval o).run P w = .ok (.value v) w) (h : ∀ a', En N ((d, v) :: L) a' → K a' w) : Og P ops Q o K a w :=
  dr_ H hw hd (R := fun u w' => u = v ∧ w' = w) (dd_rn hD ⟨rfl, rfl⟩) fun v' w' hR a' HA' => by obtain ⟨rfl, rfl⟩ := hR; exact h a' HA'
theorem i0 (hd : dn o = true) {v : Value} (hD : (execOp a.eval o).run P w = .ok (.value v) w) (h : K a w) : Og P ops Q o K a w := fun K' hK => by
  rw [if_pos (want_n (dn_is hd).1)]
  exact dd_rn (R := fun u w' => u = v ∧ w' = w) hD ⟨rfl, rfl⟩ K' Q fun v' w' hR => by
    obtain ⟨rfl, rfl⟩ := hR
    rw [(dn_is hd).2]; exact hK _ _ h
/- a new block -/
theorem n_ (H : En N L a) (hd : dg N o = some d) {S : Nat → List Blk} {A : Nat → Value} (hD : ∀ R : Value → World → Prop, (∀ g w', St w0 F (S g) w' → R (A g) w') → Does P o a w R) (h : ∀ g w', St w0 F (S g) w' → ∀ a', En N ((d, A g) :: L) a' → K a' w') : Og P ops Q o K a w :=
  d_ H hd (hD (fun v w' => ∃ g, v = A g ∧ St w0 F (S g) w') fun g w' k => ⟨g, rfl, k⟩) fun v w' hR a' HA' => by
    obtain ⟨g, rfl, k⟩ := hR; exact h g w' k a' HA'
theorem ng (H : En N L a) (hw : Region.wanted o (yielded ops a.tmps) = true) (hd : dq N o = some d) {S : Nat → List Blk} {A : Nat → Value} (hD : ∀ R : Value → World → Prop, (∀ g w', St w0 F (S g) w' → R (A g) w') → Does P o a w R) (h : ∀ g w', St w0 F (S g) w' → ∀ a', En N ((d, A g) :: L) a' → K a' w') : Og P ops Q o K a w :=
  dr_ H hw hd (hD (fun v w' => ∃ g, v = A g ∧ St w0 F (S g) w') fun g w' k => ⟨g, rfl, k⟩) fun v w' hR a' HA' => by
    obtain ⟨g, rfl, k⟩ := hR; exact h g w' k a' HA'
/- a store -/
theorem t_ (hd : dn o = true) {S : List Blk} (hD : ∀ R : Value → World → Prop, (∀ w', St w0 F S w' → R undef w') → Does P o a w R) (h : ∀ w', St w0 F S w' → K a w') : Og P ops Q o K a w := fun K' hK => by
  rw [if_pos (want_n (dn_is hd).1)]
  refine hD (fun _ w' => St w0 F S w') (fun _ k => k) K' Q fun v w' k => ?_
  rw [(dn_is hd).2]; exact hK _ _ (h w' k)
theorem tq (hd : dn o = true) {S : List Blk} {v : Value} (hD : ∀ R : Value → World → Prop, (∀ w', St w0 F S w' → R v w') → Does P o a w R) (h : ∀ w', St w0 F S w' → K a w') : Og P ops Q o K a w := fun K' hK => by
  rw [if_pos (want_n (dn_is hd).1)]
  refine hD (fun _ w' => St w0 F S w') (fun _ k => k) K' Q fun v w' k => ?_
  rw [(dn_is hd).2]; exact hK _ _ (h w' k)
theorem tv (H : En N L a) (hd : dg N o = some d) {S : List Blk} {v : Value} (hD : ∀ R : Value → World → Prop, (∀ w', St w0 F S w' → R v w') → Does P o a w R) (h : ∀ w', St w0 F S w' → ∀ a', En N ((d, v) :: L) a' → K a' w') : Og P ops Q o K a w :=
  d_ H hd (hD (fun u w' => u = v ∧ St w0 F S w') fun w' k => ⟨rfl, k⟩) fun u w' hR a' HA' => by
    obtain ⟨rfl, k⟩ := hR; exact h w' k a' HA'
/- bytes or values behind a slice of the call's own -/
theorem a_ (H : En N L a) (hd : dg N o = some d) {S : Nat → Array Value → List Blk} (A : Nat → Nat → Value) {T : Nat → Nat → Array Value → Prop} (hD : ∀ R : Value → World → Prop, (∀ g c cb w', T g c cb → St w0 F (S g cb) w' → R (A g c) w') → Does P o a w R) (h : ∀ g c cb w', T g c cb → St w0 F (S g cb) w' → ∀ a', En N ((d, A g c) :: L) a' → K a' w') : Og P ops Q o K a w :=
  d_ H hd (hD (fun v w' => ∃ g c cb, v = A g c ∧ T g c cb ∧ St w0 F (S g cb) w') fun g c cb w' k1 k2 => ⟨g, c, cb, rfl, k1, k2⟩) fun v w' hR a' HA' => by
    obtain ⟨g, c, cb, rfl, k1, k2⟩ := hR; exact h g c cb w' k1 k2 a' HA'
/- a call that leaves what was there -/
theorem c_ (H : En N L a) (hd : dg N o = some d) (HS : St w0 F B w) {v : Value} (hD : Does P o a w fun u w' => u = v ∧ Below w.heap.size w w') (h : ∀ w', St w0 F B w' → ∀ a', En N ((d, v) :: L) a' → K a' w') : Og P ops Q o K a w :=
  d_ H hd hD fun u w' hR a' HA' => by obtain ⟨rfl, k⟩ := hR; exact h w' (HS.same k) a' HA'
theorem cg (H : En N L a) (hw : Region.wanted o (yielded ops a.tmps) = true) (hd : dq N o = some d) (HS : St w0 F B w) {v : Value} (hD : Does P o a w fun u w' => u = v ∧ Below w.heap.size w w') (h : ∀ w', St w0 F B w' → ∀ a', En N ((d, v) :: L) a' → K a' w') : Og P ops Q o K a w :=
  dr_ H hw hd hD fun u w' hR a' HA' => by obtain ⟨rfl, k⟩ := hR; exact h w' (HS.same k) a' HA'
theorem dc_ {f : FuncId} {fn : Func} {xs : Array Operand} {ts : Array TypeId} {l : List Value} {R' : Ending → World → Prop} {R : Value → World → Prop} (hf : P.funcs[f]? = some fn) (ho : o.op = .call { callee := .value (.func f), args := xs, argTypes := ts }) (hx : (xs.map a.eval) = l.toArray) (C : Calls P f l.toArray w R')
    (h : ∀ e w', R' e w' → ∃ v, e = .returned v ∧ R v w') (hn : (fn.name == "runtime.NumGoroutine") = false := by kernel_rfl) (hb : fn.body.isNone = false := by kernel_rfl) : Does P o a w R := dd_call hf hn hb ho hx C h
theorem dcs {f : FuncId} {fn : Func} {xs : Array Operand} {ts : Array TypeId} {l : List Value} (hf : P.funcs[f]? = some fn) (ho : o.op = .call { callee := .value (.func f), args := xs, argTypes := ts }) (hx : (xs.map a.eval) = l.toArray) {v : Value} (C : Calls P f l.toArray w fun e w' => e = .returned v ∧ Below w.heap.size w w') (v' : Value)
    (hv : v = v' := by rfl) (hn : (fn.name == "runtime.NumGoroutine") = false := by kernel_rfl) (hb : fn.body.isNone = false := by kernel_rfl) : Does P o a w fun u w' => u = v' ∧ Below w.heap.size w w' := dd_call hf hn hb ho hx C fun _ _ h => ⟨v, h.1, hv, h.2⟩
/- several operations that only move values, in order -/
def opv (L : List (Nat × Value)) : Operand → Option Value
  | .tmp k => look L k
  | .const v => some v
  | _ => none
theorem opv_is (H : En N L a) {x : Operand} {v : Value} (h : opv L x = some v) : a.eval x = v := by
  cases x with
  | tmp k => exact H.ev k h
  | const u => exact Option.some.inj h
  | _ => cases h
def pur (L : List (Nat × Value)) (o : Oper) : Option Value := match o.op with
  | .move x => opv L x
  | .assign x => opv L x
  | .pick c x y => match opv L c with
    | some (.bool true) => opv L x
    | some (.bool false) => opv L y
    | _ => none
  | _ => none
theorem pur_is (H : En N L a) {v : Value} (h : pur L o = some v) : (execOp a.eval o).run P w = .ok (.value v) w := by
  unfold pur at h
  split at h
  · exact dd_mv (by assumption) (opv_is H h)
  · exact dd_as (by assumption) (opv_is H h)
  · split at h
    · exact dd_pickT (by assumption) (opv_is H (by assumption)) (opv_is H h)
    · exact dd_pickF (by assumption) (opv_is H (by assumption)) (opv_is H h)
    · cases h
  · cases h
def purs (N : Nat) : Nat → List (Nat × Value) → List Oper → Option (List (Nat × Value) × List Oper)
  | 0, L, l => some (L, l)
  | _ + 1, _, [] => none
  | n + 1, L, o :: l => match dg N o with
    | none => none
    | some d => match pur L o with
      | none => none
      | some v => purs N n ((d, v) :: L) l
theorem purs_is : ∀ (n : Nat) {L L' : List (Nat × Value)} {l l' : List Oper} {a : Act}, En N L a → purs N n L l = some (L', l') → (∀ a', En N L' a' → wpList P ops Q l' a' w) → wpList P ops Q l a w
  | 0, L, L', l, l', a, H, e, h => by
    injection e with e
    injection e with e1 e2
    subst e1 e2
    exact h a H
  | n + 1, L, L', [], l', a, H, e, h => by cases e
  | n + 1, L, L', o :: l, l', a, H, e, h => by
    unfold purs at e
    split at e
    · cases e
    · split at e
      · cases e
      · rename_i d hd _ v hv
        exact wl_ (i_ H hd (pur_is H hv) fun a' H' => purs_is n H' e h)
theorem q_ (H : En N L a) (n : Nat) {l l' : List Oper} {L' : List (Nat × Value)} (e : purs N n L l = some (L', l')) (h : ∀ a', En N L' a' → wpList P ops Q l' a' w) : wpList P ops Q l a w := purs_is n H e h
theorem p_ (H : En N L a) (hd : dg N o = some d) {v : Value} (hp : pur L o = some v) (h : ∀ a', En N ((d, v) :: L) a' → K a' w) : Og P ops Q o K a w := i_ H hd (pur_is H hp) h
/- regions that draw -/
class PQc (Q : Exit → Act → World → Prop) : Prop where
  pq : PQ Q
instance {K : Act → World → Prop} {Q : Exit → Act → World → Prop} [h : PQc Q] : PQc (Exit.then K Q) := ⟨pq_then h.pq⟩
instance {id : Nat} {Q : Exit → Act → World → Prop} [h : PQc Q] : PQc (Exit.inBlock id Q) := ⟨pq_block h.pq⟩
instance {fn : Func} {R : Ending → World → Prop} : PQc (bodyPost P fn R) := ⟨pq_body⟩
def Sx (w0 : World) (F : Nat → Prop) (B : List Blk) (w : World) : Prop := ∃ R9, St w0 F (B ++ R9) w
theorem sxi {S R9 : List Blk} (h : St w0 F S w) (is : List Nat) (e : selB S is = B ++ R9) (hn : is.Nodup := by decide) : Sx w0 F B w := ⟨R9, e ▸ st_sel h is hn⟩
theorem ss {S : List Blk} (h : St w0 F S w) (is : List Nat) (hn : is.Nodup := by decide) : St w0 F (selB S is) w := st_sel h is hn
def hck (ops : Array Oper) (listed : Array Bool) (i : Nat) : Bool := Region.noSelect ops && Region.free .any ops listed i && (Region.ready .any ops listed).contains i
theorem hck_is (h : hck ops listed i = true) : Region.noSelect ops = true ∧ Region.free .any ops listed i = true ∧ (Region.ready .any ops listed).contains i = true := by
  unfold hck at h
  simp only [Bool.and_eq_true] at h
  exact ⟨h.1.1, h.1.2, h.2⟩
theorem htg [hq : PQc Q] (H : En N L a) (i : Nat) {o : Oper} (hS : Sx w0 F B w) (hi : ops[i]? = some o) (hw : Region.wanted o (yielded ops a.tmps) = true) (hd : dq N o = some d) {v : Value} (hy : ∀ w R9, St w0 F (B ++ R9) w → (execOp a.eval o).run P w = .ok (.value v) w)
    (h : ∀ a', En N ((d, v) :: L) a' → wpAnyH P .any ops Q (Sx w0 F B) fuel (listed.setIfInBounds i true) a' w) (hc : hck ops listed i = true := by kernel_rfl) : wpAnyH P .any ops Q (Sx w0 F B) (fuel + 1) listed a w := by
  obtain ⟨h1, h2, h3⟩ := hck_is hc
  refine wpAnyH_take hi h1 h2 h3 (fun c a w => hq.pq c a o.dst v w) (.inl ⟨hw, fun w ⟨R9, k⟩ => hy w R9 k⟩) hS ?_
  rw [(dq_is hd).1]
  exact h _ (H.put (dq_is hd).2 v)
theorem ht_ [PQc Q] (H : En N L a) (i : Nat) {o : Oper} (hS : Sx w0 F B w) (hi : ops[i]? = some o) (hd : dg N o = some d) {v : Value} (hy : ∀ w R9, St w0 F (B ++ R9) w → (execOp a.eval o).run P w = .ok (.value v) w)
    (h : ∀ a', En N ((d, v) :: L) a' → wpAnyH P .any ops Q (Sx w0 F B) fuel (listed.setIfInBounds i true) a' w) (hc : hck ops listed i = true := by kernel_rfl) : wpAnyH P .any ops Q (Sx w0 F B) (fuel + 1) listed a w :=
  htg H i hS hi (want_n (dg_is hd).1) (dg_is hd).2 hy h hc
theorem hp_ [PQc Q] (H : En N L a) (i : Nat) {o : Oper} (hS : Sx w0 F B w) (hi : ops[i]? = some o) (hd : dg N o = some d) {v : Value} (hp : pur L o = some v)
    (h : ∀ a', En N ((d, v) :: L) a' → wpAnyH P .any ops Q (Sx w0 F B) fuel (listed.setIfInBounds i true) a' w) (hc : hck ops listed i = true := by kernel_rfl) : wpAnyH P .any ops Q (Sx w0 F B) (fuel + 1) listed a w :=
  ht_ H i hS hi hd (fun _ _ _ => pur_is H hp) h hc
theorem hk_ [hq : PQc Q] (H : En N L a) (i : Nat) {o : Oper} (hS : Sx w0 F B w) (hi : ops[i]? = some o) (hw : Region.wanted o (yielded ops a.tmps) = false) (hd : dq N o = some d)
    (h : ∀ a', En N ((d, undef) :: L) a' → wpAnyH P .any ops Q (Sx w0 F B) fuel (listed.setIfInBounds i true) a' w) (hc : hck ops listed i = true := by kernel_rfl) : wpAnyH P .any ops Q (Sx w0 F B) (fuel + 1) listed a w := by
  obtain ⟨h1, h2, h3⟩ := hck_is hc
  refine wpAnyH_take hi h1 h2 h3 (fun c a w => hq.pq c a o.dst undef w) (.inr ⟨hw, rfl⟩) hS ?_
  rw [(dq_is hd).1]
  exact h _ (H.put (dq_is hd).2 undef)
theorem sx_ {A B : Prop} (h : A) (k : A → B) : A ∧ B := ⟨h, k h⟩
theorem wh_ {S : List Blk} (HS : St w0 F S w) (B : List Blk) {id : Nat} {l : List Oper} {M : Nat} (hM : l.length = M) (hx : Sx w0 F B w) (h : St w0 F S w.drew → Sx w0 F B w.drew → wpAnyH P .any l.toArray Q (Sx w0 F B) M (Array.replicate M false) a w.drew) (hm : P.follows .mixedOrders = true := by kernel_rfl) : (Code.region id l.toArray true).wp P Q a w :=
  wp_held _ hm hM (h HS.drew (let ⟨R9, k⟩ := hx; ⟨R9, k.drew⟩))
theorem wi_ {S : List Blk} (HS : St w0 F S w) (is : List Nat) {id : Nat} {l : List Oper} {M : Nat} (hM : l.length = M) {R9 : List Blk} (js : List Nat) (e : selB S js = selB S is ++ R9) (h : St w0 F S w.drew → Sx w0 F (selB S is) w.drew → wpAnyH P .any l.toArray Q (Sx w0 F (selB S is)) M (Array.replicate M false) a w.drew) (hn : js.Nodup := by decide) (hm : P.follows .mixedOrders = true := by kernel_rfl) : (Code.region id l.toArray true).wp P Q a w :=
  wh_ HS (selB S is) hM (sxi HS js e hn) h hm
end
/- shorter names -/
section
variable {P : Program} {o : Oper} {a : Act} {w : World}
theorem xA (n sz j : Nat) {t : TypeId} {x y : Operand} {g i : Nat} {k : IntKind} {m : Int} (ho : o.op = .indexAddr t x y) (hx : a.eval x = .pointer (some ⟨g, i, none⟩)) (hy : a.eval y = .int k m) (ht : arrOf P t = some (n, sz) := by kernel_rfl) (h0 : 0 ≤ m := by decide) (hn : m < (n : Int) := by decide) (hj : i + m.toNat * sz = j := by rfl) : (execOp a.eval o).run P w = .ok (.value (.pointer (some ⟨g, j, none⟩))) w := dd_idxA ho hx hy ht h0 hn hj
theorem xS (sz j : Nat) {t : TypeId} {x y : Operand} {g i n c : Nat} {k : IntKind} {m : Int} (ho : o.op = .indexAddr t x y) (hx : a.eval x = .slice (some ⟨g, i, none⟩) n c) (hy : a.eval y = .int k m) (ht : slOf P t = some sz := by kernel_rfl) (h0 : 0 ≤ m := by decide) (hn : m < (n : Int) := by decide) (hj : i + m.toNat * sz = j := by rfl) : (execOp a.eval o).run P w = .ok (.value (.pointer (some ⟨g, j, none⟩))) w := dd_idxS ho hx hy ht h0 hn hj
theorem xSo (sz j : Nat) {t : TypeId} {x y : Operand} {g i n c : Nat} {k : IntKind} {m : Int} (ho : o.op = .indexAddr t x y) (hx : a.eval x = .slice (some ⟨g, i, none⟩) n c) (hy : a.eval y = .int k m) (ht : slOf P t = some sz := by kernel_rfl) (h0 : 0 ≤ m := by omega) (hn : m < (n : Int) := by omega) (hj : i + m.toNat * sz = j := by omega) : (execOp a.eval o).run P w = .ok (.value (.pointer (some ⟨g, j, none⟩))) w := dd_idxS ho hx hy ht h0 hn hj
theorem xf (off j : Nat) {s : TypeId} {x : Operand} {f g i : Nat} (ho : o.op = .fieldAddr s x f) (hx : a.eval x = .pointer (some ⟨g, i, none⟩)) (hf : fieldOff P s f = some off := by kernel_rfl) (hj : i + off = j := by rfl) : (execOp a.eval o).run P w = .ok (.value (.pointer (some ⟨g, j, none⟩))) w := dd_field ho hx hf hj
end
/- code -/
section
variable {P : Program} {Q : Exit → Act → World → Prop} {a : Act} {w : World} {N : Nat} {L : List (Nat × Value)} {x y : Code} {id : Nat}
theorem sq_ (h : x.wp P (Exit.then (y.wp P Q) Q) a w) : (Code.seq x y).wp P Q a w := wp_seq h
theorem rl_ {l : List Oper} (h : wpList P l.toArray Q l a w) : (Code.region id l.toArray false).wp P Q a w := wp_region_lit h
theorem ln_ {ops : Array Oper} (h : Q .normal a w) : wpList P ops Q [] a w := h
theorem ct_ (H : En N L a) {k : Nat} (hk : look L k = some (.bool true)) (h : x.wp P Q a w) : (Code.cond (.tmp k) x y).wp P Q a w := wp_cond_true (H.ev k hk) h
theorem cf_ (H : En N L a) {k : Nat} (hk : look L k = some (.bool false)) (h : y.wp P Q a w) : (Code.cond (.tmp k) x y).wp P Q a w := wp_cond_false (H.ev k hk) h
end
end Go.Proofs.YtnmaplgodimohaaDoor

/- Strings and copies in a walk. No function of the program is named here. -/
set_option maxRecDepth 4000
namespace Go.Proofs.YtnmaplgodimohaaDoor
open Go Go.RowKit
section
variable {o : Oper} {a : Act} {w w0 : World} {R : Value → World → Prop} {F : Nat → Prop} {S : List Blk}
end
theorem strs_row {w : World} {g : Nat} {t : TypeId} {q : List (BitVec 8)} (h : Row w g t #[.string (strB q)]) (hm : q.length ≤ maxLen) : Strs w (.slice (some ⟨g, 0, none⟩) 1 1) [q] :=
  ⟨_, 1, rfl, by simp, (fun h => by cases h), by simpa using hm, fun _ => ⟨g, 0, rfl, h.lt, fun k p hp => by
    cases k with
    | zero => obtain rfl : q = p := by simpa using hp
              exact h.get rfl
    | succ k => simp at hp⟩⟩
theorem sbeq_t {p q : List (BitVec 8)} (h : p = q) : ((strB p).toList == (strB q).toList) = true := by rw [str_beq, decide_eq_true h]
theorem sbeq_f {p q : List (BitVec 8)} (h : ¬ p = q) : ((strB p).toList == (strB q).toList) = false := by rw [str_beq, decide_eq_false h]
section
variable {o : Oper} {a : Act} {w w0 : World} {R : Value → World → Prop} {F : Nat → Prop} {S : List Blk}
theorem dd_lit0 {P : Program} (HS : St w0 F S w) {t e : TypeId} {parts : Array (Nat × Operand)} (ho : o.op = .buildSlice t 0 parts) (hp : parts = #[]) (hu : P.underlying t = some (.slice e)) {sz : Nat} (hie : (P.info? e).map (fun i => i.size) = some sz)
    (h : ∀ g w', St w0 F (S ++ [⟨g, e, #[]⟩]) w' → R (.slice (some ⟨g, 0, none⟩) 0 0) w') : Does P o a w R := fun _ _ hK => by
  obtain ⟨ie, hi, _⟩ := Option.map_eq_some_iff.1 hie
  have hrun : (execOp a.eval o).run P w = .ok (.value (.slice (some ⟨w.heap.size, 0, none⟩) 0 0)) (w.alloc (.cells #[] e)) := by
    unfold execOp
    have e0 : (Array.range 0).map (fun _ : Nat => (default : Value)) = #[] := by simp [Array.range]
    simp [ho, hp, Instr.buildSlice, run_underlying hu, sizeOf, typeInfo, hi, Instr.fill, newRow, e0]
  unfold Oper.wp
  rw [hrun]
  exact hK _ _ (h _ _ (HS.snoc e #[]))
end
end Go.Proofs.YtnmaplgodimohaaDoor

/- Bytes of a constant text, made a slice: their block bears a mark, so it is no row; what is told of it stays. No function of the program is named here. -/
set_option maxRecDepth 4000
namespace Go.Proofs.YtnmaplgodimohaaDoor
open Go Go.RowKit
def MarkAt (w : World) (g : Nat) (q : List (BitVec 8)) : Prop := ∃ fr, w.heap[g]? = some (.cells (bs q) 5 fr)
theorem MarkAt.lt {w : World} {g : Nat} {q : List (BitVec 8)} (h : MarkAt w g q) : g < w.heap.size := by
  obtain ⟨fr, h⟩ := h
  exact (Array.getElem?_eq_some_iff.1 h).1
theorem MarkAt.of {w w' : World} {g : Nat} {q : List (BitVec 8)} (h : MarkAt w g q) (e : w'.heap[g]? = w.heap[g]?) : MarkAt w' g q := by
  obtain ⟨fr, h⟩ := h
  exact ⟨fr, e.trans h⟩
theorem MarkAt.call {w w' : World} {g : Nat} {q : List (BitVec 8)} (h : MarkAt w g q) (hb : Below w.heap.size w w') : MarkAt w' g q := h.of (hb.block g h.lt)
theorem MarkAt.slice {w : World} {g n : Nat} {q : List (BitVec 8)} (h : MarkAt w g q) (hn : q.length = n) : Slice w (.slice (some ⟨g, 0, none⟩) n n) q := by
  obtain ⟨fr, h⟩ := h
  subst hn
  refine ⟨_, _, rfl, Nat.le_refl _, fun _ => ⟨g, 0, rfl, (Array.getElem?_eq_some_iff.1 h).1, fun j x hx => ?_⟩⟩
  rw [Nat.zero_add, cell_of_row w g j (bs q) 5 fr h, ← Array.getElem?_toList, bs_toList]
  simp [bytesV, hx]
def inS (S : List Blk) (k : Nat) : Prop := ∃ r ∈ S, r.g = k
theorem MarkAt.chg {w w' : World} {g : Nat} {q : List (BitVec 8)} {S S' : List Blk} (h : MarkAt w g q) (HS : St w (inS S) S' w') (hg : ∀ r ∈ S, r.g ≠ g) : MarkAt w' g q := h.of (HS.chg.block g h.lt fun ⟨r, h1, h2⟩ => hg r h1 h2)
/- the rows' own frame: what lies elsewhere stays, for a while -/
theorem St.frame {w0 w : World} {F : Nat → Prop} {S : List Blk} (h : St w0 F S w) : St w (inS S) S w :=
  ⟨Chg.refl _ _, h.rows, h.apart, fun _ r hk => .inl ⟨r, List.mem_of_getElem? hk, rfl⟩⟩
theorem St.unframe {w0 w w' : World} {S S' : List Blk} (h : St w0 noF S w) (k : St w (inS S) S' w') : St w0 noF S' w' := by
  have hw : ∀ j, inS S j → w0.heap.size ≤ j := fun j ⟨r, h1, h2⟩ => by
    obtain ⟨i, hi⟩ := List.getElem?_of_mem h1
    rcases h.own i r hi with hf | hf
    · exact hf.elim
    · omega
  refine ⟨⟨k.chg.os.trans h.chg.os, k.chg.tape.trans h.chg.tape, k.chg.output.trans h.chg.output, Nat.le_trans h.chg.size k.chg.size, fun j hj hn => ?_⟩, k.rows, k.apart, fun i r hi => .inr ?_⟩
  · exact (k.chg.block j (Nat.lt_of_lt_of_le hj h.chg.size) fun hf => by have := hw j hf; omega).trans (h.chg.block j hj hn)
  · rcases k.own i r hi with hf | hf
    · exact hw _ hf
    · exact Nat.le_trans h.chg.size hf
end Go.Proofs.YtnmaplgodimohaaDoor

/- A block of the call's own is new. No function of the program is named here. -/
set_option maxRecDepth 4000
namespace Go.Proofs.YtnmaplgodimohaaDoor
open Go Go.RowKit
theorem st_fresh2 {w0 w : World} {S : List Blk} (h : St w0 noF S w) (k : Nat) {r : Blk} (hk : S[k]? = some r) : w0.heap.size ≤ r.g := (h.own k r hk).resolve_left fun e => e
end Go.Proofs.YtnmaplgodimohaaDoor

/- More of memory in a walk: cells that are far, rows that come back from a call, slices of slices of one's own. No function of the program is named here. -/
set_option maxRecDepth 4000
namespace Go.Proofs.YtnmaplgodimohaaDoor
open Go Go.RowKit
/- block b has these cells from o on -/
structure CAt (w : World) (b o : Nat) (L : List Value) : Prop where
  lt : b < w.heap.size
  at_ : w.rangeAt b o L
theorem CAt.call {w w' : World} {b o : Nat} {L : List Value} (h : CAt w b o L) (hb : Below w.heap.size w w') : CAt w' b o L :=
  ⟨Nat.lt_of_lt_of_le h.lt hb.size, fun j v hv => (hb.cell (p := ⟨b, o + j, none⟩) h.lt).trans (h.at_ j v hv)⟩
theorem CAt.pre {w : World} {b o : Nat} {L M : List Value} (h : CAt w b o (L ++ M)) : CAt w b o L :=
  ⟨h.lt, fun j v hv => h.at_ j v (by rw [List.getElem?_append_left (List.getElem?_eq_some_iff.1 hv).1]; exact hv)⟩
theorem CAt.post {w : World} {b o n : Nat} {L M : List Value} (h : CAt w b o (L ++ M)) (hn : L.length = n) : CAt w b (o + n) M := by
  subst hn
  exact ⟨h.lt, fun j v hv => by
    have := h.at_ (L.length + j) v (by rw [List.getElem?_append_right (by omega), Nat.add_sub_cancel_left]; exact hv)
    rwa [← Nat.add_assoc] at this⟩
theorem CAt.news {w : World} {b o : Nat} {L : List Value} (h : CAt w b o L) : ∀ (j : Nat) (u : Value), L[j]? = some u → w.cell? ((⟨b, o, none⟩ : Addr).add j) = some u := fun j u hu => by
  rw [Addr.add_mid]; exact h.at_ j u hu
theorem cat_row {w : World} {g : Nat} {t : TypeId} {cs : Array Value} (h : Row w g t cs) : CAt w g 0 cs.toList :=
  ⟨h.lt, fun j v hv => by rw [Nat.zero_add]; exact h.get (by rw [← Array.getElem?_toList]; exact hv)⟩
theorem cat_own {w : World} {g c n sz : Nat} {t : TypeId} {cb : Array Value} {L : List Value} (h : Row w g t cb) (O : OwnC cb c n sz L) : CAt w g 0 L :=
  ⟨h.lt, fun j v hv => by
    rw [Nat.zero_add]
    refine h.get ?_
    have hj := (List.getElem?_eq_some_iff.1 hv).1
    rw [← O.take, List.getElem?_take_of_lt (by rw [← O.len]; exact hj), Array.getElem?_toList] at hv
    exact hv⟩
/- rows handed to a call, the others staying -/
theorem St.reframe {w0 w w' : World} {S1 S2 S1' : List Blk} (h : St w0 noF (S1 ++ S2) w) (k : St w (inS S1) S1' w') : St w0 noF (S1' ++ S2) w' := by
  have hw : ∀ j, inS S1 j → w0.heap.size ≤ j := fun j ⟨r, h1, h2⟩ => by
    obtain ⟨i, hi⟩ := List.getElem?_of_mem (List.mem_append_left S2 h1)
    rcases h.own i r hi with hf | hf
    · exact hf.elim
    · omega
  have hap : ∀ (r s : Blk), r ∈ S1 → ∀ (j : Nat), S2[j]? = some s → r.g ≠ s.g := fun r s hr j hj => by
    obtain ⟨i, hi⟩ := List.getElem?_of_mem hr
    have hlt := (List.getElem?_eq_some_iff.1 hi).1
    exact h.apart i (S1.length + j) r s (by omega) (by rw [List.getElem?_append_left hlt]; exact hi) (by rw [List.getElem?_append_right (by omega), Nat.add_sub_cancel_left]; exact hj)
  have hS2 : ∀ (j : Nat) (s : Blk), S2[j]? = some s → ¬ inS S1 s.g ∧ s.g < w.heap.size ∧ w0.heap.size ≤ s.g ∧ Row w s.g s.t s.cs := fun j s hj => by
    have hi : (S1 ++ S2)[S1.length + j]? = some s := by rw [List.getElem?_append_right (by omega), Nat.add_sub_cancel_left]; exact hj
    exact ⟨fun ⟨r, h1, h2⟩ => hap r s h1 j hj h2, (h.rows _ _ hi).lt, (h.own _ _ hi).resolve_left fun e => e, h.rows _ _ hi⟩
  have hx : ∀ (i j : Nat) (r s : Blk), S1'[i]? = some r → S2[j]? = some s → r.g ≠ s.g := fun i j r s hi hj e => by
    obtain ⟨h1, h2, _⟩ := hS2 j s hj
    rcases k.own i r hi with hf | hf
    · exact h1 (e ▸ hf)
    · omega
  refine ⟨⟨k.chg.os.trans h.chg.os, k.chg.tape.trans h.chg.tape, k.chg.output.trans h.chg.output, Nat.le_trans h.chg.size k.chg.size, fun j hj hn => ?_⟩, fun i r hi => ?_, fun i j r s hij hi hj => ?_, fun i r hi => .inr ?_⟩
  · exact (k.chg.block j (Nat.lt_of_lt_of_le hj h.chg.size) fun hf => by have := hw j hf; omega).trans (h.chg.block j hj hn)
  · by_cases hlt : i < S1'.length
    · rw [List.getElem?_append_left hlt] at hi; exact k.rows i r hi
    · rw [List.getElem?_append_right (by omega)] at hi
      obtain ⟨h1, h2, _, h4⟩ := hS2 _ _ hi
      exact (k.chg.block r.g h2 h1).trans h4
  · by_cases hli : i < S1'.length <;> by_cases hlj : j < S1'.length
    · rw [List.getElem?_append_left hli] at hi; rw [List.getElem?_append_left hlj] at hj; exact k.apart i j r s hij hi hj
    · rw [List.getElem?_append_left hli] at hi; rw [List.getElem?_append_right (by omega)] at hj; exact hx _ _ _ _ hi hj
    · rw [List.getElem?_append_right (by omega)] at hi; rw [List.getElem?_append_left hlj] at hj; exact fun e => hx _ _ _ _ hj hi e.symm
    · rw [List.getElem?_append_right (by omega)] at hi hj
      exact h.apart (S1.length + (i - S1'.length)) (S1.length + (j - S1'.length)) r s (by omega) (by rw [List.getElem?_append_right (by omega), Nat.add_sub_cancel_left]; exact hi) (by rw [List.getElem?_append_right (by omega), Nat.add_sub_cancel_left]; exact hj)
  · by_cases hlt : i < S1'.length
    · rw [List.getElem?_append_left hlt] at hi
      rcases k.own i r hi with hf | hf
      · exact hw _ hf
      · exact Nat.le_trans h.chg.size hf
    · rw [List.getElem?_append_right (by omega)] at hi
      exact (hS2 _ _ hi).2.2.1
theorem Owns.nil (w : World) : Owns w w (.slice none 0 0) [] := ⟨[], World.ownsRow_nil _ _ _ _, Below.refl _ _, fun j q h => by simp at h⟩
theorem Owns.call {w wr w' : World} {v : Value} {ps : List (List (BitVec 8))} (h : Owns w wr v ps) (hb : Below wr.heap.size wr w') : Owns w w' v ps := by
  obtain ⟨vs, h1, h2, h3⟩ := h
  exact ⟨vs, owns_call h1 hb, h2.trans (hb.mono h2.size), fun j q hq => by obtain ⟨u, h4, h5⟩ := h3 j q hq; exact ⟨u, h4, owns_call h5 hb⟩⟩
theorem Owns.form {w wr : World} {v : Value} {ps : List (List (BitVec 8))} (h : Owns w wr v ps) : ∃ A c, v = .slice A ps.length c ∧ ps.length ≤ c := by
  obtain ⟨vs, h1, _⟩ := h
  rcases h1.2 with ⟨rfl, h0⟩ | ⟨g, cap, cur, rfl, _, _, hc, _⟩
  · exact ⟨none, 0, by rw [h0], by omega⟩
  · exact ⟨_, cap, rfl, hc⟩
section
variable {o : Oper} {a : Act} {w w0 w1 : World} {R : Value → World → Prop} {S : List Blk}
theorem dd_cap {P : Program} {x : Operand} {t : TypeId} {A : Option Addr} {n c : Nat} {e : TypeId} (ho : o.op = .call { callee := .builtin .cap, args := #[x], argTypes := #[t] }) (hx : a.eval x = .slice A n c) (hu : P.underlying t = some (.slice e)) : (execOp a.eval o).run P w = .ok (.value (.int .i64 (c : Int))) w :=
  by simp [execOp, ho, resolve, invoke, builtin, Builtin.cap_, hx, run_underlying hu, goInt]
end
end Go.Proofs.YtnmaplgodimohaaDoor

/- Comparisons with nil; what stays while rows that were handed over are written. No function of the program is named here. -/
set_option maxRecDepth 4000
namespace Go.Proofs.YtnmaplgodimohaaDoor
open Go Go.RowKit
section
variable {P : Program} {o : Oper} {a : Act} {w : World}
theorem run_eqP (ty e : TypeId) (w : World) (p : Option Addr) (hu : P.underlying ty = some (.pointer e)) : (Op.equal ty (.pointer p) (.pointer none)).run P w = .ok p.isNone w := by
  show (Op.equalIn 10000 ty (.pointer p) (.pointer none)).run P w = .ok p.isNone w
  rw [show (10000 : Nat) = 9999 + 1 from rfl]
  unfold Op.equalIn
  cases p <;> simp [Sem.run_bind, run_underlying hu]
theorem dd_eqp {ty ty2 e : TypeId} {x y : Operand} {p : Option Addr} {b : Bool} (ho : o.op = .binOp .eql ty x y ty2) (hx : a.eval x = .pointer p) (hy : a.eval y = .pointer none) (hu : P.underlying ty = some (.pointer e)) (hb : p.isNone = b) : (execOp a.eval o).run P w = .ok (.value (.bool b)) w := by
  subst hb
  simp [execOp, ho, hx, hy, eqGuard, binOp, run_eqP ty e w p hu]
end
theorem dd_lit1 {P : Program} {o : Oper} {a : Act} {w w0 : World} {R : Value → World → Prop} {F : Nat → Prop} {S : List Blk} (HS : St w0 F S w) {t e : TypeId} {x : Operand} {cells : Array Value} {z : Value} {sz : Nat} (ho : o.op = .buildSlice t 1 #[(0, x)]) (hx : a.eval x = .agg cells)
    (hu : P.underlying t = some (.slice e)) (hie : (P.info? e).map (fun i => (i.zero, i.size)) = some (some z, sz)) (hc : cells.size = sz) (hp : Nat.blt 0 sz = true) (hs : Nat.ble sz 16777216 = true) (h : ∀ g w', St w0 F (S ++ [⟨g, e, cells⟩]) w' → R (.slice (some ⟨g, 0, none⟩) 1 1) w') : Does P o a w R := fun _ _ hK =>
  wp_buildOne t e x ho cells z sz hx hu hie hc (Nat.le_of_ble_eq_true hp) (Nat.le_of_ble_eq_true hs) (hK _ _ (h _ _ (HS.snoc e cells)))
theorem Chg.cellF {F : Nat → Prop} {w w' : World} (h : Chg F w w') {p : Addr} (hp : p.block < w.heap.size) (hF : ¬ F p.block) : w'.cell? p = w.cell? p := World.cell?_of_block (w := w) (h.block p.block hp hF)
theorem Slice.chg {F : Nat → Prop} {w w' : World} {A : Option Addr} {n c : Nat} {q : List (BitVec 8)} (h : Slice w (.slice A n c) q) (k : Chg F w w') (hF : ∀ ad, A = some ad → ¬ F ad.block) : Slice w' (.slice A n c) q := by
  obtain ⟨A', c', e, h2, h3⟩ := h
  injection e with e1 e2 e3
  subst e1 e2 e3
  refine ⟨_, _, rfl, h2, fun hne => ?_⟩
  obtain ⟨b, o, rfl, h5, h6⟩ := h3 hne
  exact ⟨b, o, rfl, Nat.lt_of_lt_of_le h5 k.size, fun j x hx => (k.cellF (p := ⟨b, o + j, none⟩) h5 (hF ⟨b, o, none⟩ rfl)).trans (h6 j x hx)⟩
theorem nin_row {w0 w : World} {S1 S2 : List Blk} (h : St w0 noF (S1 ++ S2) w) (k : Nat) {s : Blk} (hk : S2[k]? = some s) : ¬ inS S1 s.g := fun ⟨r, h1, h2⟩ => by
  obtain ⟨i, hi⟩ := List.getElem?_of_mem h1
  have hlt := (List.getElem?_eq_some_iff.1 hi).1
  exact h.apart i (S1.length + k) r s (by omega) (by rw [List.getElem?_append_left hlt]; exact hi) (by rw [List.getElem?_append_right (by omega), Nat.add_sub_cancel_left]; exact hk) h2
theorem ownc_nil0 (sz : Nat) : OwnC #[] 0 0 sz [] := ⟨Nat.le_refl _, by decide, by simp, by simp, by simp⟩
end Go.Proofs.YtnmaplgodimohaaDoor

/- Appends of whatever slice, be it of none. No function of the program is named here. -/
set_option maxRecDepth 4000
namespace Go.Proofs.YtnmaplgodimohaaDoor
open Go Go.RowKit
section
variable {P : Program} {o : Oper} {a : Act} {w w0 : World} {R : Value → World → Prop} {F : Nat → Prop} {S : List Blk}
theorem dd_appE {e t : TypeId} {s x : Operand} {A : Option Addr} {n c n2 sz : Nat} (ho : o.op = .call { callee := .builtin .append, args := #[s, x], argTypes := #[t, t] }) (hs : a.eval s = .slice A n c) (hx : a.eval x = .slice none 0 n2) (hc : n ≤ c) (ht : P.underlying t = some (.slice e)) (hi : (P.info? e).map (fun i => i.size) = some sz) : (execOp a.eval o).run P w = .ok (.value (.slice A n c)) w := by
  obtain ⟨i, hi1, hi2⟩ := Option.map_eq_some_iff.1 hi
  cases A <;> simp [execOp, ho, resolve, invoke, builtin, hs, hx, Builtin.append_, run_underlying ht, sizeOf, typeInfo, hi1, Builtin.lenOf, Builtin.firstCells, storeCells, hc]
theorem st_move (h : St w0 F S w) (k : Nat) {r : Blk} (hk : S[k]? = some r) : St w0 F (S.eraseIdx k ++ [r]) w := by
  refine st_snoc (st_erase h k) (h.row k hk) (h.own k r hk) fun b hb e => ?_
  obtain ⟨j, hj⟩ := List.getElem?_of_mem hb
  rw [List.getElem?_eraseIdx] at hj
  split at hj
  · exact h.apart j k b r (by omega) hj hk e
  · exact h.apart (j + 1) k b r (by omega) hj hk e
theorem dd_appX (HS : St w0 F S w) (k : Nat) {g c n sz : Nat} {cb : Array Value} {e t : TypeId} {L : List Value} (hk : S[k]? = some ⟨g, e, cb⟩) (O : OwnC cb c n sz L) {s x : Operand} (ho : o.op = .call { callee := .builtin .append, args := #[s, x], argTypes := #[t, t] })
    (hs : a.eval s = .slice (some ⟨g, 0, none⟩) n c) {z : Value} {bytes : Nat} (ht : P.underlying t = some (.slice e)) (hi : (P.info? e).map (fun i => (i.zero, i.size, i.bytes)) = some (some z, sz, bytes)) (hzs : z.cells.size = sz) (hsz : 0 < sz)
    {A : Option Addr} {m c2 : Nat} (news : List Value) (hx : a.eval x = .slice A m c2) (hl : news.length = m * sz) (hA : m ≠ 0 → ∃ b o, A = some ⟨b, o, none⟩ ∧ CAt w b o news) (h1 : ∀ u ∈ news, u.oneCell' = true)
    (h63 : n + m ≤ maxLen) (hbytes : (n + m) * bytes ≤ 140737488355328)
    (h : ∀ g' c' cb' w', OwnC cb' c' (n + m) sz (L ++ news) → St w0 F (S.eraseIdx k ++ [⟨g', e, cb'⟩]) w' → R (.slice (some ⟨g', 0, none⟩) (n + m) c') w') : Does P o a w R := by
  cases A with
  | some ad =>
    refine dd_app HS k hk O ho hs ht hi hzs hsz news hx hl (fun j u hu => ?_) h1 h63 hbytes h
    have hm : m ≠ 0 := fun e => by
      subst e
      rw [Nat.zero_mul] at hl
      rw [List.eq_nil_of_length_eq_zero hl] at hu; simp at hu
    obtain ⟨b, o2, e2, h2⟩ := hA hm
    injection e2 with e2
    subst e2; exact h2.news j u hu
  | none =>
    obtain rfl : m = 0 := Decidable.byContradiction fun hm => by obtain ⟨_, _, e2, _⟩ := hA hm; cases e2
    rw [Nat.zero_mul] at hl
    obtain rfl := List.eq_nil_of_length_eq_zero hl
    have hi' : (P.info? e).map (fun i => i.size) = some sz := by
      obtain ⟨i, k1, k2⟩ := Option.map_eq_some_iff.1 hi
      rw [k1]; injection k2 with _ k2; injection k2 with k2 _; rw [← k2]; rfl
    refine dd_rn (dd_appE ho hs hx O.le ht hi') ?_
    have h2 := h g c cb w (by rw [List.append_nil]; exact O) (st_move HS k hk)
    rwa [Nat.add_zero] at h2
end
end Go.Proofs.YtnmaplgodimohaaDoor

/- Volumes by their names as bytes: what a table is, plainly. -/
set_option maxRecDepth 4000
namespace Go.Proofs.YtnmaplgodimohaaDoor
open Go Go.RowKit
abbrev Tv := List (BitVec 8) × List Int
def volL (l : List Tv) : List Vl := l.map fun x => (strB x.1, x.2)
theorem len_volL (l : List Tv) : (volL l).length = l.length := by simp [volL]
theorem volL_get {l : List Tv} {k : Nat} {s : ByteArray} {L : List Int} (h : (volL l)[k]? = some (s, L)) : ∃ p, l[k]? = some (p, L) ∧ s = strB p := by
  simp only [volL, List.getElem?_map, Option.map_eq_some_iff] at h
  obtain ⟨⟨p, L'⟩, h1, h2⟩ := h
  injection h2 with h2 h3
  subst h3
  exact ⟨p, h1, h2.symm⟩
theorem vols_getB {w : World} {b o n c : Nat} {l : List Tv} (h : VolsAt w (.slice (some ⟨b, o, none⟩) n c) (volL l)) {k : Nat} (hk : k < n) :
    ∃ p L B m c', l[k]? = some (p, L) ∧ w.rangeAt b (o + k * 2) [.string (strB p), .slice B m c'] ∧ IntsAt w (.slice B m c') L ∧ L.length = m ∧ p.length ≤ maxLen := by
  obtain ⟨b', o', s, L, B, m, c', h1, h2, _, h3, h4, h5, h6⟩ := vols_get h (k := k) (by rw [vols_len h]; exact hk)
  injection h2 with h2
  injection h2 with h2 h7
  subst h2 h7
  obtain ⟨p, h8, rfl⟩ := volL_get h1
  exact ⟨p, L, B, m, c', h8, h3, h4, h5, by rw [strB_size] at h6; exact h6⟩
theorem vols_some {w : World} {A : Option Addr} {n c : Nat} {l : List Tv} (h : VolsAt w (.slice A n c) (volL l)) (hn : 0 < n) : ∃ b o, A = some ⟨b, o, none⟩ := by
  obtain ⟨b, o, _, _, _, _, _, _, h2, _⟩ := vols_get h (k := 0) (by rw [vols_len h]; exact hn)
  exact ⟨b, o, h2⟩
/- which volume has that name first -/
def findT (q : List (BitVec 8)) (l : List Tv) : Option Nat := l.findIdx? fun x => decide (x.1 = q)
def findI (q : List (BitVec 8)) (l : List Tv) : Int := match findT q l with
  | some i => (i : Int)
  | none => -1
theorem findI_some {q : List (BitVec 8)} {l : List Tv} {k : Nat} {p : List (BitVec 8)} {L : List Int} (h : l[k]? = some (p, L)) (hp : p = q) (hno : ∀ j, j < k → ∀ x, l[j]? = some x → x.1 ≠ q) : findI q l = k := by
  have hk := (List.getElem?_eq_some_iff.1 h).1
  have e : findT q l = some k := by
    unfold findT
    rw [List.findIdx?_eq_some_iff_getElem]
    refine ⟨hk, ?_, fun j hj => ?_⟩
    · have := (List.getElem?_eq_some_iff.1 h).2
      rw [this]; exact decide_eq_true hp
    · have := hno j hj _ (List.getElem?_eq_getElem (by omega))
      simpa using this
  unfold findI; rw [e]
theorem findI_none {q : List (BitVec 8)} {l : List Tv} (hno : ∀ j, j < l.length → ∀ x, l[j]? = some x → x.1 ≠ q) : findI q l = -1 := by
  have e : findT q l = none := by
    unfold findT
    rw [List.findIdx?_eq_none_iff]
    intro x hx
    obtain ⟨j, hj⟩ := List.getElem?_of_mem hx
    have := hno j (List.getElem?_eq_some_iff.1 hj).1 x hj
    simpa using this
  unfold findI; rw [e]
end Go.Proofs.YtnmaplgodimohaaDoor

/- Which volume has a name: the program's. -/
set_option maxRecDepth 4000
namespace Go.Proofs.YtnmaplgodimohaaDoor
open Go Go.RowKit
theorem step_no {l : List Tv} {q p : List (BitVec 8)} {L : List Int} {k : Nat} (h : ∀ j, j < k → ∀ x, l[j]? = some x → x.1 ≠ q) (hg : l[k]? = some (p, L)) (hp : ¬ p = q) : ∀ j, j < k + 1 → ∀ x, l[j]? = some x → x.1 ≠ q := fun j hj x hx => by
  by_cases hjk : j = k
  · subst hjk
    rw [hg] at hx
    injection hx with hx
    subst hx
    exact hp
  · exact h j (by omega) x hx
set_option maxHeartbeats 800000 in
theorem find_pos (b o n c : Nat) (q : List (BitVec 8)) (l : List Tv) (w : World) (hv : VolsAt w (.slice (some ⟨b, o, none⟩) n c) (volL l)) (hn : n ≤ 1000000) :
    Calls Tryd.prog 36 #[.string (strB q), .slice (some ⟨b, o, none⟩) n c] w fun e w' => e = .returned (.int .i64 (findI q l)) ∧ Below w.heap.size w w' := by
  have HS := St.nil w noF
  have HV : ∀ W, Below w.heap.size w W → VolsAt W (.slice (some ⟨b, o, none⟩) n c) (volL l) := fun W hb => hv.below hb (Nat.le_refl _)
  have hln : l.length = n := by rw [← len_volL]; exact vols_len hv
  refine enter_en Tryd.func36 rfl Tryd.ntmps36 (Nat.le_of_ble_eq_true rfl) fun a0 (HA0 : En 20 [(0, .string (strB q)), (1, .slice (some ⟨b, o, none⟩) n c)] a0) => ?_
  refine sq_ <| rl_ <| wl_ <| p_ HA0 rfl rfl fun a1 H1 => ln_ <| nx <| sq_ <| sq_ <| rl_ <| wl_ <| p_ H1 rfl rfl fun a2 H2 => wl_ <| i_ H2 rfl (v := .int .i64 n) (dd_len rfl (H2.ev 7 rfl) Tryd.underlying75) fun a3 H3 => wl_ <| p_ H3 rfl rfl fun a4 H4 => ln_ <| nx <| wp_block <| ?_
  clear HA0 a0 H1 a1 H2 a2 H3 a3
  refine wp_loopG (ι := Nat) (fun k a9 w9 => (k ≤ n) ∧ (∀ j, j < k → ∀ x, l[j]? = some x → x.1 ≠ q) ∧ En 20 [(9, .int .i64 k), (8, .int .i64 n), (7, .slice (some ⟨b, o, none⟩) n c), (0, .string (strB q))] a9 ∧ St w noF [] w9) (fun k => n - k) (0) ⟨Nat.zero_le _, (fun j hj => absurd hj (Nat.not_lt_zero _)), H4.sel [0, 7, 8, 9] rfl, ss HS []⟩ ?_
  clear H4 a4 HS
  rintro k aL5 wL5 ⟨hk, hno, HL5, HSL5⟩
  refine sq_ <| rl_ <| ?_
  by_cases hc7 : (k : Int) < n
  ·
   refine wl_ <| i_ HL5 rfl (dd_cmp rfl (HL5.ev 9 rfl) (HL5.ev 8 rfl) (lt_t hc7)) fun a8 H8 => ln_ <| nx <| sq_ <| ct_ H8 rfl <| wp_skip <| nx <| sq_ <| wp_block <| sq_ <| rl_ <| wl_ <| p_ H8 rfl rfl fun a9 H9 => wl_ <| i_ H9 rfl (xSo 2 (o + k * 2) rfl (H9.ev 7 rfl) (H9.ev 9 rfl)) fun a10 H10 => ?_
   clear HL5 aL5 H8 a8 H9 a9
   obtain ⟨p12, L12, B12, m12, c12, hg12, hr12, hi12, hm12, hp12⟩ := vols_getB (HV _ HSL5.below) (k := k) (by omega)
   refine wl_ <| i_ H10 rfl (v := .agg #[.string (strB p12), .slice B12 m12 c12]) (dd_atN rfl (H10.ev 12 rfl) hr12 Tryd.underlying81 rfl (by kernel_rfl)) fun a11 H11 => wl_ <| n_ H11 rfl (fun _ h => dd_new HSL5 #[.string (⟨#[]⟩), .slice none 0 0] rfl (z := .agg #[.string (⟨#[]⟩), .slice none 0 0]) (by kernel_rfl) rfl h) fun g6 W13 HS13 a13 H13 => wl_ <| p_ H13 rfl rfl fun a14 H14 => wl_ <| t_ rfl (fun _ h => dd_setrow HS13 0 rfl rfl (H14.ev 6 rfl) (H14.ev 13 rfl) (by kernel_rfl) (rfl : #[.string (strB p12), .slice B12 m12 c12].size = 2) (rfl : #[.string (⟨#[]⟩), .slice none 0 0].size = 2) (one_l (ao_cons rfl (ao_cons rfl ao_nil))) h) fun W15 HS15 => ln_ <| nx <| sq_ <| rl_ <| wl_ <| i_ H14 rfl (xf 0 0 rfl (H14.ev 6 rfl)) fun a16 H16 => wl_ <| i_ H16 rfl (dd_get HS15 0 0 rfl rfl (H16.ev 14 rfl) rfl Tryd.underlying9 rfl) fun a17 H17 => wl_ <| p_ H17 rfl rfl fun a18 H18 => ?_
   clear H10 a10 HSL5 H11 a11 H13 a13 HS13 H14 a14 H16 a16 H17 a17
   by_cases hc20 : p12 = q
   ·
    refine wl_ <| i_ H18 rfl (v := .bool true) (dd_eqs rfl (H18.ev 15 rfl) (H18.ev 16 rfl) (sbeq_t hc20)) fun a21 H21 => ln_ <| nx <| ct_ H21 rfl <| sq_ <| rl_ <| q_ H21 2 rfl fun a22 H22 => ln_ <| nx <| wp_ret <| br_ <| tr <| tr <| br_ <| tr <| ret_run H22.env0 (res_t Tryd.results36 (H22.get 4 rfl)) <| ?_
    clear H18 a18 H21 a21
    exact ⟨by rw [findI_some hg12 hc20 hno], HS15.below⟩
   ·
    refine wl_ <| i_ H18 rfl (v := .bool false) (dd_eqs rfl (H18.ev 15 rfl) (H18.ev 16 rfl) (sbeq_f hc20)) fun a23 H23 => ln_ <| nx <| cf_ H23 rfl <| wp_skip <| bn <| nx <| rl_ <| wl_ <| i_ H23 rfl (v := .int .i64 (k + 1)) (dd_ari rfl (H23.ev 9 rfl) rfl rfl (i64_of (by first | omega | (have := bd_lo; omega)) (by omega))) fun a24 H24 => wl_ <| p_ H24 rfl rfl fun a25 H25 => ln_ <| ?_
    clear H18 a18 H23 a23 H24 a24
    refine nx ⟨k + 1, ⟨(by omega), (step_no hno hg12 hc20), H25.sel [0, 7, 8, 9] rfl, ss HS15 []⟩, (by omega)⟩
  ·
   refine wl_ <| i_ HL5 rfl (dd_cmp rfl (HL5.ev 9 rfl) (HL5.ev 8 rfl) (lt_f hc7)) fun a26 H26 => ln_ <| nx <| sq_ <| cf_ H26 rfl <| wp_exit <| tx <| tx <| bx <| nx <| sq_ <| rl_ <| wl_ <| p_ H26 rfl rfl fun a27 H27 => ln_ <| nx <| wp_ret <| ret_run H27.env0 (res_t Tryd.results36 (H27.get 4 rfl)) <| ?_
   clear HL5 aL5 H26 a26
   exact ⟨by rw [findI_none (fun j hj => hno j (by omega))], HSL5.below⟩
end Go.Proofs.YtnmaplgodimohaaDoor

/- A volume's bytes, and the volume of bytes: the program's. -/
set_option maxRecDepth 4000
namespace Go.Proofs.YtnmaplgodimohaaDoor
open Go Go.RowKit
/- a volume's bytes -/
def blk4 (L : List Int) : List (BitVec 8) := [byteI (L.getD 0 0), byteI (L.getD 1 0), byteI (L.getD 2 0), byteI (L.getD 3 0)]
def volE (x : Tv) : List (BitVec 8) := padN x.1 ++ (byteI x.2.length :: blk4 x.2)
theorem length_volE (x : Tv) : (volE x).length = 9 := by unfold volE blk4; simp [length_padN]
theorem ints_at {w : World} {b o n c : Nat} {L : List Int} (h : IntsAt w (.slice (some ⟨b, o, none⟩) n c) L) (k : Nat) (hk : k < n) : w.cell? ⟨b, o + k, none⟩ = some (.int .i64 (L.getD k 0)) := by
  obtain ⟨b', o', x, h1, h2, _, h3, _⟩ := ints_get h (k := k) (by rw [ints_len h]; exact hk)
  injection h2 with h2
  injection h2 with h2 h4
  subst h2 h4
  rw [h3, List.getD_eq_getElem?_getD, h1]; rfl
theorem ints_addr {w : World} {A : Option Addr} {n c : Nat} {L : List Int} (h : IntsAt w (.slice A n c) L) (hn : 0 < n) : ∃ b o, A = some ⟨b, o, none⟩ := by
  obtain ⟨b, o, _, _, h2, _⟩ := ints_get h (k := 0) (by rw [ints_len h]; exact hn)
  exact ⟨b, o, h2⟩
theorem list_4 {α : Type} {l : List α} (h : l.length = 4) : ∃ a b c d, l = [a, b, c, d] := by
  match l, h with
  | [a, b, c, d], _ => exact ⟨a, b, c, d, rfl⟩
theorem list_3 {α : Type} {l : List α} (h : l.length = 3) : ∃ a b c, l = [a, b, c] := by
  match l, h with
  | [a, b, c], _ => exact ⟨a, b, c, rfl⟩
theorem list_2 {α : Type} {l : List α} (h : l.length = 2) : ∃ a b, l = [a, b] := by
  match l, h with
  | [a, b], _ => exact ⟨a, b, rfl⟩
theorem list_1 {α : Type} {l : List α} (h : l.length = 1) : ∃ a, l = [a] := by
  match l, h with
  | [a], _ => exact ⟨a, rfl⟩
theorem list_0 {α : Type} {l : List α} (h : l.length = 0) : l = [] := List.length_eq_zero_iff.1 h
theorem tb_eq0 (p : List (BitVec 8)) (L : List Int) (hL : L.length = 0) : (spl (zer 9) 0 (padN p)).set 4 (0#8) = volE (p, L) := by
  have hP := length_padN p
  unfold volE
  simp only
  generalize padN p = P at *
  obtain ⟨a, b, c, d, rfl⟩ := list_4 hP
  obtain rfl := list_0 hL
  rfl
set_option maxHeartbeats 800000 in
theorem tobytes0 (ci : Nat) (B : Option Addr) (p : List (BitVec 8)) (L : List Int) (w : World) (hi : IntsAt w (.slice B 0 ci) L) :
    Calls Tryd.prog 57 #[.agg #[.string (strB p), .slice B 0 ci]] w fun e w' => e = .returned (.agg (bs (volE (p, L)))) ∧ Below w.heap.size w w' := by
  have HS := St.nil w noF
  have HI : ∀ W, Below w.heap.size w W → IntsAt W (.slice B 0 ci) L := fun W hb => hi.below hb (Nat.le_refl _)
  have hL : L.length = 0 := ints_len hi
  refine enter_en Tryd.func57 rfl Tryd.ntmps57 (Nat.le_of_ble_eq_true rfl) fun a0 (HA0 : En 33 [(0, .agg #[.string (strB p), .slice B 0 ci])] a0) => ?_
  refine sq_ <| rl_ <| wl_ <| n_ HA0 rfl (fun _ h => dd_box HS rfl (HA0.ev 0 rfl) (cs := #[.string (strB p), .slice B 0 ci]) rfl h) fun g1 W1 HS1 a1 H1 => wl_ <| n_ H1 rfl (fun _ h => dd_new HS1 (bs (zer 9)) rfl (z := .agg (bs (zer 9))) (by kernel_rfl) rfl h) fun g2 W2 HS2 a2 H2 => ln_ <| nx <| sq_ <| rl_ <| wl_ <| n_ H2 rfl (fun _ h => dd_new HS2 (bs (zer 9)) rfl (z := .agg (bs (zer 9))) (by kernel_rfl) rfl h) fun g3 W3 HS3 a3 H3 => ln_ <| nx <| sq_ <| rl_ <| wl_ <| i_ H3 rfl (xf 0 0 rfl (H3.ev 1 rfl)) fun a4 H4 => wl_ <| i_ H4 rfl (dd_get HS3 0 0 rfl rfl (H4.ev 7 rfl) rfl Tryd.underlying9 rfl) fun a5 H5 => wl_ <| c_ H5 rfl HS3 (dcs Tryd.func61 rfl (args1 (H5.ev 8 rfl)) (pad_any p W3) (.agg (bs (padN p)))) fun W6 HS6 a6 H6 => wl_ <| n_ H6 rfl (fun _ h => dd_new HS6 (bs (zer 4)) rfl (z := .agg (bs (zer 4))) (by kernel_rfl) rfl h) fun g4 W7 HS7 a7 H7 => wl_ <| t_ rfl (fun _ h => dd_setrow HS7 3 rfl rfl (H7.ev 4 rfl) (H7.ev 9 rfl) (by kernel_rfl) (((size_bs _).trans (length_padN _)) : (bs (padN p)).size = 4) (((size_bs _).trans (length_zer 4)) : (bs (zer 4)).size = 4) (one_bs _) h) fun W8 HS8 => ?_
  clear HS HA0 a0 HS1 H1 a1 HS2 H2 a2 H3 a3 H4 a4 H5 a5 HS3 HS6 H6 a6
  refine ln_ <| nx <| sq_ <| ?_
  clear HS7
  refine wi_ HS8 [0, 1, 3] rfl [0, 1, 3, 2] rfl fun HSh9 hx9 => ht_ H7 0 hx9 rfl rfl (v := .slice (some ⟨g3, 0, none⟩) 9 9) (fun _ _ _ => dd_slAl (l := 0) (n := 9) (sz := 1) (j := 0) rfl (H7.ev 3 rfl) rfl (by kernel_rfl) (by decide) (by rfl) rfl) fun a10 H10 => ht_ H10 1 hx9 rfl rfl (v := .slice (some ⟨g4, 0, none⟩) 4 4) (fun _ _ _ => dd_slA (n := 4) (sz := 1) rfl (H10.ev 4 rfl) (by kernel_rfl)) fun a11 H11 => h1_ 2 rfl <| tv H11 rfl (S := [⟨g1, 81, #[.string (strB p), .slice B 0 ci]⟩, ⟨g2, 110, bs (zer 9)⟩, ⟨g3, 110, bs (spl (zer 9) 0 (padN p))⟩, ⟨g4, 107, bs (padN p)⟩]) (v := .int .i64 4) (fun _ h => dd_copyR HSh9 2 rfl (length_zer 9) rfl (H11.ev 10 rfl) (H11.ev 11 rfl) (slice_part (HSh9.row 3 rfl) 0 (bytes_slab (slab_whole _)) (length_padN _) (by decide)) (length_padN _) (by decide) (by decide) h) fun W12 HS12 a12 H12 => sx_ (sxi HS12 [0, 1, 3, 2] rfl) fun hx13 => ?_
  clear HS8 H7 a7 H10 a10 HSh9 H11 a11 hx9
  refine wpAnyH_done (by kernel_rfl) ?_ _
  clear hx13
  refine nx <| sq_ <| rl_ <| wl_ <| i_ H12 rfl (xf 1 1 rfl (H12.ev 1 rfl)) fun a14 H14 => wl_ <| i_ H14 rfl (dd_get HS12 0 1 rfl rfl (H14.ev 13 rfl) rfl Tryd.underlying45 rfl) fun a15 H15 => wl_ <| i_ H15 rfl (v := .int .i64 0) (dd_len rfl (H15.ev 14 rfl) Tryd.underlying45) fun a16 H16 => wl_ <| i_ H16 rfl (v := .int .u8 0) (dd_conv (k := .u8) rfl (H16.ev 15 rfl) Tryd.underlying3 (by kernel_rfl) (by decide)) fun a17 H17 => wl_ <| i_ H17 rfl (xA 9 1 4 rfl (H17.ev 3 rfl) rfl) fun a18 H18 => wl_ <| t_ rfl (S := [⟨g1, 81, #[.string (strB p), .slice B 0 ci]⟩, ⟨g2, 110, bs (zer 9)⟩, ⟨g3, 110, bs ((spl (zer 9) 0 (padN p)).set 4 (0#8))⟩, ⟨g4, 107, bs (padN p)⟩]) (fun _ h => dd_put HS12 2 4 rfl rfl (H18.ev 17 rfl) (H18.ev 16 rfl) (by kernel_rfl) rfl rfl (by rw [((size_bs _).trans (len_spl (length_zer 9) (length_padN _) (by decide)))]; rfl) (set_bs _ _ (0#8)) h) fun W19 HS19 => ln_ <| nx <| sq_ <| sq_ <| rl_ <| wl_ <| i_ H18 rfl (xf 1 1 rfl (H18.ev 1 rfl)) fun a20 H20 => wl_ <| i_ H20 rfl (dd_get HS19 0 1 rfl rfl (H20.ev 18 rfl) rfl Tryd.underlying45 rfl) fun a21 H21 => ?_
  clear H12 a12 H14 a14 H15 a15 H16 a16 H17 a17 HS12 H18 a18
  refine wl_ <| i_ H21 rfl (v := .int .i64 0) (dd_len rfl (H21.ev 19 rfl) Tryd.underlying45) fun a22 H22 => wl_ <| p_ H22 rfl rfl fun a23 H23 => ln_ <| nx <| wp_block <| wp_unr 1 <| unr_go <| sq_ <| rl_ <| wl_ <| i_ H23 rfl (dd_cmp rfl (H23.ev 21 rfl) (H23.ev 20 rfl) (lt_f (by decide))) fun a24 H24 => ln_ <| nx <| sq_ <| cf_ H24 rfl <| wp_exit <| tx <| tx <| bx <| nx <| sq_ <| rl_ <| wl_ <| i_ H24 rfl (v := .agg (bs ((spl (zer 9) 0 (padN p)).set 4 (0#8)))) (dd_load HS19 2 0 rfl rfl (H24.ev 3 rfl) (slab_whole _) Tryd.underlying110 rfl (by rw [show (bs ((spl (zer 9) 0 (padN p)).set 4 (0#8))).size = 9 from ((size_bs _).trans (len_set (len_spl (length_zer 9) (length_padN _) (by decide))))]; kernel_rfl)) fun a25 H25 => wl_ <| t_ rfl (fun _ h => dd_setrow HS19 1 rfl rfl (H25.ev 2 rfl) (H25.ev 32 rfl) (by kernel_rfl) (((size_bs _).trans (len_set (len_spl (length_zer 9) (length_padN _) (by decide)))) : (bs ((spl (zer 9) 0 (padN p)).set 4 (0#8))).size = 9) (((size_bs _).trans (length_zer 9)) : (bs (zer 9)).size = 9) (one_bs _) h) fun W26 HS26 => ln_ <| ?_
  clear H20 a20 H21 a21 H22 a22 H23 a23 H24 a24 HS19
  have H27 := H25.sel [2] rfl
  refine nx <| wp_ret <| ret_run H27.env0 (res_c Tryd.results57 (H27.get 2 rfl) (HS26.row 1 rfl) Tryd.underlying110 rfl (by rw [show (bs ((spl (zer 9) 0 (padN p)).set 4 (0#8))).size = 9 from ((size_bs _).trans (len_set (len_spl (length_zer 9) (length_padN _) (by decide))))]; kernel_rfl)) <| ?_
  clear H25
  exact ⟨by rw [tb_eq0 p L hL], HS26.below⟩
theorem tb_eq1 (p : List (BitVec 8)) (L : List Int) (hL : L.length = 1) : ((spl (zer 9) 0 (padN p)).set 4 (1#8)).set 5 (byteI (L.getD 0 0)) = volE (p, L) := by
  have hP := length_padN p
  unfold volE
  simp only
  generalize padN p = P at *
  obtain ⟨a, b, c, d, rfl⟩ := list_4 hP
  obtain ⟨x0, rfl⟩ := list_1 hL
  rfl
set_option maxHeartbeats 800000 in
theorem tobytes1 (bi oi ci : Nat) (p : List (BitVec 8)) (L : List Int) (w : World) (hi : IntsAt w (.slice (some ⟨bi, oi, none⟩) 1 ci) L) :
    Calls Tryd.prog 57 #[.agg #[.string (strB p), .slice (some ⟨bi, oi, none⟩) 1 ci]] w fun e w' => e = .returned (.agg (bs (volE (p, L)))) ∧ Below w.heap.size w w' := by
  have HS := St.nil w noF
  have HI : ∀ W, Below w.heap.size w W → IntsAt W (.slice (some ⟨bi, oi, none⟩) 1 ci) L := fun W hb => hi.below hb (Nat.le_refl _)
  have hL : L.length = 1 := ints_len hi
  refine enter_en Tryd.func57 rfl Tryd.ntmps57 (Nat.le_of_ble_eq_true rfl) fun a0 (HA0 : En 33 [(0, .agg #[.string (strB p), .slice (some ⟨bi, oi, none⟩) 1 ci])] a0) => ?_
  refine sq_ <| rl_ <| wl_ <| n_ HA0 rfl (fun _ h => dd_box HS rfl (HA0.ev 0 rfl) (cs := #[.string (strB p), .slice (some ⟨bi, oi, none⟩) 1 ci]) rfl h) fun g1 W1 HS1 a1 H1 => wl_ <| n_ H1 rfl (fun _ h => dd_new HS1 (bs (zer 9)) rfl (z := .agg (bs (zer 9))) (by kernel_rfl) rfl h) fun g2 W2 HS2 a2 H2 => ln_ <| nx <| sq_ <| rl_ <| wl_ <| n_ H2 rfl (fun _ h => dd_new HS2 (bs (zer 9)) rfl (z := .agg (bs (zer 9))) (by kernel_rfl) rfl h) fun g3 W3 HS3 a3 H3 => ln_ <| nx <| sq_ <| rl_ <| wl_ <| i_ H3 rfl (xf 0 0 rfl (H3.ev 1 rfl)) fun a4 H4 => wl_ <| i_ H4 rfl (dd_get HS3 0 0 rfl rfl (H4.ev 7 rfl) rfl Tryd.underlying9 rfl) fun a5 H5 => wl_ <| c_ H5 rfl HS3 (dcs Tryd.func61 rfl (args1 (H5.ev 8 rfl)) (pad_any p W3) (.agg (bs (padN p)))) fun W6 HS6 a6 H6 => wl_ <| n_ H6 rfl (fun _ h => dd_new HS6 (bs (zer 4)) rfl (z := .agg (bs (zer 4))) (by kernel_rfl) rfl h) fun g4 W7 HS7 a7 H7 => wl_ <| t_ rfl (fun _ h => dd_setrow HS7 3 rfl rfl (H7.ev 4 rfl) (H7.ev 9 rfl) (by kernel_rfl) (((size_bs _).trans (length_padN _)) : (bs (padN p)).size = 4) (((size_bs _).trans (length_zer 4)) : (bs (zer 4)).size = 4) (one_bs _) h) fun W8 HS8 => ?_
  clear HS HA0 a0 HS1 H1 a1 HS2 H2 a2 H3 a3 H4 a4 H5 a5 HS3 HS6 H6 a6
  refine ln_ <| nx <| sq_ <| ?_
  clear HS7
  refine wi_ HS8 [0, 1, 3] rfl [0, 1, 3, 2] rfl fun HSh9 hx9 => ht_ H7 0 hx9 rfl rfl (v := .slice (some ⟨g3, 0, none⟩) 9 9) (fun _ _ _ => dd_slAl (l := 0) (n := 9) (sz := 1) (j := 0) rfl (H7.ev 3 rfl) rfl (by kernel_rfl) (by decide) (by rfl) rfl) fun a10 H10 => ht_ H10 1 hx9 rfl rfl (v := .slice (some ⟨g4, 0, none⟩) 4 4) (fun _ _ _ => dd_slA (n := 4) (sz := 1) rfl (H10.ev 4 rfl) (by kernel_rfl)) fun a11 H11 => h1_ 2 rfl <| tv H11 rfl (S := [⟨g1, 81, #[.string (strB p), .slice (some ⟨bi, oi, none⟩) 1 ci]⟩, ⟨g2, 110, bs (zer 9)⟩, ⟨g3, 110, bs (spl (zer 9) 0 (padN p))⟩, ⟨g4, 107, bs (padN p)⟩]) (v := .int .i64 4) (fun _ h => dd_copyR HSh9 2 rfl (length_zer 9) rfl (H11.ev 10 rfl) (H11.ev 11 rfl) (slice_part (HSh9.row 3 rfl) 0 (bytes_slab (slab_whole _)) (length_padN _) (by decide)) (length_padN _) (by decide) (by decide) h) fun W12 HS12 a12 H12 => sx_ (sxi HS12 [0, 1, 3, 2] rfl) fun hx13 => ?_
  clear HS8 H7 a7 H10 a10 HSh9 H11 a11 hx9
  refine wpAnyH_done (by kernel_rfl) ?_ _
  clear hx13
  refine nx <| sq_ <| rl_ <| wl_ <| i_ H12 rfl (xf 1 1 rfl (H12.ev 1 rfl)) fun a14 H14 => wl_ <| i_ H14 rfl (dd_get HS12 0 1 rfl rfl (H14.ev 13 rfl) rfl Tryd.underlying45 rfl) fun a15 H15 => wl_ <| i_ H15 rfl (v := .int .i64 1) (dd_len rfl (H15.ev 14 rfl) Tryd.underlying45) fun a16 H16 => wl_ <| i_ H16 rfl (v := .int .u8 1) (dd_conv (k := .u8) rfl (H16.ev 15 rfl) Tryd.underlying3 (by kernel_rfl) (by decide)) fun a17 H17 => wl_ <| i_ H17 rfl (xA 9 1 4 rfl (H17.ev 3 rfl) rfl) fun a18 H18 => wl_ <| t_ rfl (S := [⟨g1, 81, #[.string (strB p), .slice (some ⟨bi, oi, none⟩) 1 ci]⟩, ⟨g2, 110, bs (zer 9)⟩, ⟨g3, 110, bs ((spl (zer 9) 0 (padN p)).set 4 (1#8))⟩, ⟨g4, 107, bs (padN p)⟩]) (fun _ h => dd_put HS12 2 4 rfl rfl (H18.ev 17 rfl) (H18.ev 16 rfl) (by kernel_rfl) rfl rfl (by rw [((size_bs _).trans (len_spl (length_zer 9) (length_padN _) (by decide)))]; rfl) (set_bs _ _ (1#8)) h) fun W19 HS19 => ln_ <| nx <| sq_ <| sq_ <| rl_ <| wl_ <| i_ H18 rfl (xf 1 1 rfl (H18.ev 1 rfl)) fun a20 H20 => wl_ <| i_ H20 rfl (dd_get HS19 0 1 rfl rfl (H20.ev 18 rfl) rfl Tryd.underlying45 rfl) fun a21 H21 => ?_
  clear H12 a12 H14 a14 H15 a15 H16 a16 H17 a17 HS12 H18 a18
  refine wl_ <| i_ H21 rfl (v := .int .i64 1) (dd_len rfl (H21.ev 19 rfl) Tryd.underlying45) fun a22 H22 => wl_ <| p_ H22 rfl rfl fun a23 H23 => ln_ <| nx <| wp_block <| wp_unr 2 <| unr_go <| sq_ <| rl_ <| wl_ <| i_ H23 rfl (dd_cmp rfl (H23.ev 21 rfl) (H23.ev 20 rfl) (lt_t (by decide))) fun a24 H24 => ln_ <| nx <| sq_ <| ct_ H24 rfl <| wp_skip <| nx <| sq_ <| wp_block <| sq_ <| rl_ <| wl_ <| p_ H24 rfl rfl fun a25 H25 => wl_ <| i_ H25 rfl (xS 1 (oi + 0) rfl (H25.ev 19 rfl) (H25.ev 21 rfl)) fun a26 H26 => wl_ <| i_ H26 rfl (dd_at rfl (H26.ev 24 rfl) (ints_at (HI _ HS19.below) 0 (by decide)) Tryd.underlying3 rfl) fun a27 H27 => q_ H27 2 rfl fun a28 H28 => ln_ <| ?_
  clear H20 a20 H21 a21 H22 a22 H23 a23 H24 a24 H25 a25 H26 a26 H27 a27
  have H29 := H28.sel [2, 3, 19, 20, 21, 5, 6] rfl
  refine nx <| rl_ <| wl_ <| p_ H29 rfl rfl fun a30 H30 => wl_ <| i_ H30 rfl (v := .int .i64 5) (dd_ari rfl rfl (H30.ev 26 rfl) rfl (by decide)) fun a31 H31 => wl_ <| p_ H31 rfl rfl fun a32 H32 => wl_ <| i_ H32 rfl (v := .int .u8 (bd (byteI (L.getD 0 0)))) (dd_conv (k := .u8) rfl (H32.ev 28 rfl) Tryd.underlying3 (by kernel_rfl) (wrap_u8_bd _)) fun a33 H33 => wl_ <| i_ H33 rfl (xA 9 1 5 rfl (H33.ev 3 rfl) (H33.ev 27 rfl)) fun a34 H34 => wl_ <| t_ rfl (S := [⟨g1, 81, #[.string (strB p), .slice (some ⟨bi, oi, none⟩) 1 ci]⟩, ⟨g2, 110, bs (zer 9)⟩, ⟨g3, 110, bs (((spl (zer 9) 0 (padN p)).set 4 (1#8)).set 5 (byteI (L.getD 0 0)))⟩, ⟨g4, 107, bs (padN p)⟩]) (fun _ h => dd_put HS19 2 5 rfl rfl (H34.ev 30 rfl) (H34.ev 29 rfl) (by kernel_rfl) rfl rfl (by rw [((size_bs _).trans (len_set (len_spl (length_zer 9) (length_padN _) (by decide))))]; rfl) (set_bs _ _ (byteI (L.getD 0 0))) h) fun W35 HS35 => ln_ <| bn <| nx <| rl_ <| wl_ <| i_ H34 rfl (v := .int .i64 1) (dd_ari rfl (H34.ev 21 rfl) rfl rfl (by decide)) fun a36 H36 => wl_ <| p_ H36 rfl rfl fun a37 H37 => ?_
  clear H28 H29 a28 H30 a30 H31 a31 H32 a32 H33 a33 HS19 H34 a34
  refine ln_ <| nx <| unr_go <| sq_ <| rl_ <| wl_ <| i_ H37 rfl (dd_cmp rfl (H37.ev 21 rfl) (H37.ev 20 rfl) (lt_f (by decide))) fun a38 H38 => ln_ <| nx <| sq_ <| cf_ H38 rfl <| wp_exit <| tx <| tx <| bx <| nx <| sq_ <| rl_ <| wl_ <| i_ H38 rfl (v := .agg (bs (((spl (zer 9) 0 (padN p)).set 4 (1#8)).set 5 (byteI (L.getD 0 0))))) (dd_load HS35 2 0 rfl rfl (H38.ev 3 rfl) (slab_whole _) Tryd.underlying110 rfl (by rw [show (bs (((spl (zer 9) 0 (padN p)).set 4 (1#8)).set 5 (byteI (L.getD 0 0)))).size = 9 from ((size_bs _).trans (len_set (len_set (len_spl (length_zer 9) (length_padN _) (by decide)))))]; kernel_rfl)) fun a39 H39 => wl_ <| t_ rfl (fun _ h => dd_setrow HS35 1 rfl rfl (H39.ev 2 rfl) (H39.ev 32 rfl) (by kernel_rfl) (((size_bs _).trans (len_set (len_set (len_spl (length_zer 9) (length_padN _) (by decide))))) : (bs (((spl (zer 9) 0 (padN p)).set 4 (1#8)).set 5 (byteI (L.getD 0 0)))).size = 9) (((size_bs _).trans (length_zer 9)) : (bs (zer 9)).size = 9) (one_bs _) h) fun W40 HS40 => ln_ <| nx <| wp_ret <| ret_run H39.env0 (res_c Tryd.results57 (H39.get 2 rfl) (HS40.row 1 rfl) Tryd.underlying110 rfl (by rw [show (bs (((spl (zer 9) 0 (padN p)).set 4 (1#8)).set 5 (byteI (L.getD 0 0)))).size = 9 from ((size_bs _).trans (len_set (len_set (len_spl (length_zer 9) (length_padN _) (by decide)))))]; kernel_rfl)) <| ?_
  clear H36 a36 H37 a37 H38 a38 HS35
  exact ⟨by rw [tb_eq1 p L hL], HS40.below⟩
theorem tb_eq2 (p : List (BitVec 8)) (L : List Int) (hL : L.length = 2) : (((spl (zer 9) 0 (padN p)).set 4 (2#8)).set 5 (byteI (L.getD 0 0))).set 6 (byteI (L.getD 1 0)) = volE (p, L) := by
  have hP := length_padN p
  unfold volE
  simp only
  generalize padN p = P at *
  obtain ⟨a, b, c, d, rfl⟩ := list_4 hP
  obtain ⟨x0, x1, rfl⟩ := list_2 hL
  rfl
set_option maxHeartbeats 800000 in
theorem tobytes2 (bi oi ci : Nat) (p : List (BitVec 8)) (L : List Int) (w : World) (hi : IntsAt w (.slice (some ⟨bi, oi, none⟩) 2 ci) L) :
    Calls Tryd.prog 57 #[.agg #[.string (strB p), .slice (some ⟨bi, oi, none⟩) 2 ci]] w fun e w' => e = .returned (.agg (bs (volE (p, L)))) ∧ Below w.heap.size w w' := by
  have HS := St.nil w noF
  have HI : ∀ W, Below w.heap.size w W → IntsAt W (.slice (some ⟨bi, oi, none⟩) 2 ci) L := fun W hb => hi.below hb (Nat.le_refl _)
  have hL : L.length = 2 := ints_len hi
  refine enter_en Tryd.func57 rfl Tryd.ntmps57 (Nat.le_of_ble_eq_true rfl) fun a0 (HA0 : En 33 [(0, .agg #[.string (strB p), .slice (some ⟨bi, oi, none⟩) 2 ci])] a0) => ?_
  refine sq_ <| rl_ <| wl_ <| n_ HA0 rfl (fun _ h => dd_box HS rfl (HA0.ev 0 rfl) (cs := #[.string (strB p), .slice (some ⟨bi, oi, none⟩) 2 ci]) rfl h) fun g1 W1 HS1 a1 H1 => wl_ <| n_ H1 rfl (fun _ h => dd_new HS1 (bs (zer 9)) rfl (z := .agg (bs (zer 9))) (by kernel_rfl) rfl h) fun g2 W2 HS2 a2 H2 => ln_ <| nx <| sq_ <| rl_ <| wl_ <| n_ H2 rfl (fun _ h => dd_new HS2 (bs (zer 9)) rfl (z := .agg (bs (zer 9))) (by kernel_rfl) rfl h) fun g3 W3 HS3 a3 H3 => ln_ <| nx <| sq_ <| rl_ <| wl_ <| i_ H3 rfl (xf 0 0 rfl (H3.ev 1 rfl)) fun a4 H4 => wl_ <| i_ H4 rfl (dd_get HS3 0 0 rfl rfl (H4.ev 7 rfl) rfl Tryd.underlying9 rfl) fun a5 H5 => wl_ <| c_ H5 rfl HS3 (dcs Tryd.func61 rfl (args1 (H5.ev 8 rfl)) (pad_any p W3) (.agg (bs (padN p)))) fun W6 HS6 a6 H6 => wl_ <| n_ H6 rfl (fun _ h => dd_new HS6 (bs (zer 4)) rfl (z := .agg (bs (zer 4))) (by kernel_rfl) rfl h) fun g4 W7 HS7 a7 H7 => wl_ <| t_ rfl (fun _ h => dd_setrow HS7 3 rfl rfl (H7.ev 4 rfl) (H7.ev 9 rfl) (by kernel_rfl) (((size_bs _).trans (length_padN _)) : (bs (padN p)).size = 4) (((size_bs _).trans (length_zer 4)) : (bs (zer 4)).size = 4) (one_bs _) h) fun W8 HS8 => ?_
  clear HS HA0 a0 HS1 H1 a1 HS2 H2 a2 H3 a3 H4 a4 H5 a5 HS3 HS6 H6 a6
  refine ln_ <| nx <| sq_ <| ?_
  clear HS7
  refine wi_ HS8 [0, 1, 3] rfl [0, 1, 3, 2] rfl fun HSh9 hx9 => ht_ H7 0 hx9 rfl rfl (v := .slice (some ⟨g3, 0, none⟩) 9 9) (fun _ _ _ => dd_slAl (l := 0) (n := 9) (sz := 1) (j := 0) rfl (H7.ev 3 rfl) rfl (by kernel_rfl) (by decide) (by rfl) rfl) fun a10 H10 => ht_ H10 1 hx9 rfl rfl (v := .slice (some ⟨g4, 0, none⟩) 4 4) (fun _ _ _ => dd_slA (n := 4) (sz := 1) rfl (H10.ev 4 rfl) (by kernel_rfl)) fun a11 H11 => h1_ 2 rfl <| tv H11 rfl (S := [⟨g1, 81, #[.string (strB p), .slice (some ⟨bi, oi, none⟩) 2 ci]⟩, ⟨g2, 110, bs (zer 9)⟩, ⟨g3, 110, bs (spl (zer 9) 0 (padN p))⟩, ⟨g4, 107, bs (padN p)⟩]) (v := .int .i64 4) (fun _ h => dd_copyR HSh9 2 rfl (length_zer 9) rfl (H11.ev 10 rfl) (H11.ev 11 rfl) (slice_part (HSh9.row 3 rfl) 0 (bytes_slab (slab_whole _)) (length_padN _) (by decide)) (length_padN _) (by decide) (by decide) h) fun W12 HS12 a12 H12 => sx_ (sxi HS12 [0, 1, 3, 2] rfl) fun hx13 => ?_
  clear HS8 H7 a7 H10 a10 HSh9 H11 a11 hx9
  refine wpAnyH_done (by kernel_rfl) ?_ _
  clear hx13
  refine nx <| sq_ <| rl_ <| wl_ <| i_ H12 rfl (xf 1 1 rfl (H12.ev 1 rfl)) fun a14 H14 => wl_ <| i_ H14 rfl (dd_get HS12 0 1 rfl rfl (H14.ev 13 rfl) rfl Tryd.underlying45 rfl) fun a15 H15 => wl_ <| i_ H15 rfl (v := .int .i64 2) (dd_len rfl (H15.ev 14 rfl) Tryd.underlying45) fun a16 H16 => wl_ <| i_ H16 rfl (v := .int .u8 2) (dd_conv (k := .u8) rfl (H16.ev 15 rfl) Tryd.underlying3 (by kernel_rfl) (by decide)) fun a17 H17 => wl_ <| i_ H17 rfl (xA 9 1 4 rfl (H17.ev 3 rfl) rfl) fun a18 H18 => wl_ <| t_ rfl (S := [⟨g1, 81, #[.string (strB p), .slice (some ⟨bi, oi, none⟩) 2 ci]⟩, ⟨g2, 110, bs (zer 9)⟩, ⟨g3, 110, bs ((spl (zer 9) 0 (padN p)).set 4 (2#8))⟩, ⟨g4, 107, bs (padN p)⟩]) (fun _ h => dd_put HS12 2 4 rfl rfl (H18.ev 17 rfl) (H18.ev 16 rfl) (by kernel_rfl) rfl rfl (by rw [((size_bs _).trans (len_spl (length_zer 9) (length_padN _) (by decide)))]; rfl) (set_bs _ _ (2#8)) h) fun W19 HS19 => ln_ <| nx <| sq_ <| sq_ <| rl_ <| wl_ <| i_ H18 rfl (xf 1 1 rfl (H18.ev 1 rfl)) fun a20 H20 => wl_ <| i_ H20 rfl (dd_get HS19 0 1 rfl rfl (H20.ev 18 rfl) rfl Tryd.underlying45 rfl) fun a21 H21 => ?_
  clear H12 a12 H14 a14 H15 a15 H16 a16 H17 a17 HS12 H18 a18
  refine wl_ <| i_ H21 rfl (v := .int .i64 2) (dd_len rfl (H21.ev 19 rfl) Tryd.underlying45) fun a22 H22 => wl_ <| p_ H22 rfl rfl fun a23 H23 => ln_ <| nx <| wp_block <| wp_unr 3 <| unr_go <| sq_ <| rl_ <| wl_ <| i_ H23 rfl (dd_cmp rfl (H23.ev 21 rfl) (H23.ev 20 rfl) (lt_t (by decide))) fun a24 H24 => ln_ <| nx <| sq_ <| ct_ H24 rfl <| wp_skip <| nx <| sq_ <| wp_block <| sq_ <| rl_ <| wl_ <| p_ H24 rfl rfl fun a25 H25 => wl_ <| i_ H25 rfl (xS 1 (oi + 0) rfl (H25.ev 19 rfl) (H25.ev 21 rfl)) fun a26 H26 => wl_ <| i_ H26 rfl (dd_at rfl (H26.ev 24 rfl) (ints_at (HI _ HS19.below) 0 (by decide)) Tryd.underlying3 rfl) fun a27 H27 => q_ H27 2 rfl fun a28 H28 => ln_ <| ?_
  clear H20 a20 H21 a21 H22 a22 H23 a23 H24 a24 H25 a25 H26 a26 H27 a27
  have H29 := H28.sel [2, 3, 19, 20, 21, 5, 6] rfl
  refine nx <| rl_ <| wl_ <| p_ H29 rfl rfl fun a30 H30 => wl_ <| i_ H30 rfl (v := .int .i64 5) (dd_ari rfl rfl (H30.ev 26 rfl) rfl (by decide)) fun a31 H31 => wl_ <| p_ H31 rfl rfl fun a32 H32 => wl_ <| i_ H32 rfl (v := .int .u8 (bd (byteI (L.getD 0 0)))) (dd_conv (k := .u8) rfl (H32.ev 28 rfl) Tryd.underlying3 (by kernel_rfl) (wrap_u8_bd _)) fun a33 H33 => wl_ <| i_ H33 rfl (xA 9 1 5 rfl (H33.ev 3 rfl) (H33.ev 27 rfl)) fun a34 H34 => wl_ <| t_ rfl (S := [⟨g1, 81, #[.string (strB p), .slice (some ⟨bi, oi, none⟩) 2 ci]⟩, ⟨g2, 110, bs (zer 9)⟩, ⟨g3, 110, bs (((spl (zer 9) 0 (padN p)).set 4 (2#8)).set 5 (byteI (L.getD 0 0)))⟩, ⟨g4, 107, bs (padN p)⟩]) (fun _ h => dd_put HS19 2 5 rfl rfl (H34.ev 30 rfl) (H34.ev 29 rfl) (by kernel_rfl) rfl rfl (by rw [((size_bs _).trans (len_set (len_spl (length_zer 9) (length_padN _) (by decide))))]; rfl) (set_bs _ _ (byteI (L.getD 0 0))) h) fun W35 HS35 => ln_ <| bn <| nx <| rl_ <| wl_ <| i_ H34 rfl (v := .int .i64 1) (dd_ari rfl (H34.ev 21 rfl) rfl rfl (by decide)) fun a36 H36 => wl_ <| p_ H36 rfl rfl fun a37 H37 => ?_
  clear H28 H29 a28 H30 a30 H31 a31 H32 a32 H33 a33 HS19 H34 a34
  refine ln_ <| nx <| unr_go <| sq_ <| rl_ <| wl_ <| i_ H37 rfl (dd_cmp rfl (H37.ev 21 rfl) (H37.ev 20 rfl) (lt_t (by decide))) fun a38 H38 => ln_ <| nx <| sq_ <| ct_ H38 rfl <| wp_skip <| nx <| sq_ <| wp_block <| sq_ <| rl_ <| wl_ <| p_ H38 rfl rfl fun a39 H39 => wl_ <| i_ H39 rfl (xS 1 (oi + 1) rfl (H39.ev 19 rfl) (H39.ev 21 rfl)) fun a40 H40 => wl_ <| i_ H40 rfl (dd_at rfl (H40.ev 24 rfl) (ints_at (HI _ HS35.below) 1 (by decide)) Tryd.underlying3 rfl) fun a41 H41 => q_ H41 2 rfl fun a42 H42 => ln_ <| nx <| rl_ <| wl_ <| p_ H42 rfl rfl fun a43 H43 => wl_ <| i_ H43 rfl (v := .int .i64 6) (dd_ari rfl rfl (H43.ev 26 rfl) rfl (by decide)) fun a44 H44 => wl_ <| p_ H44 rfl rfl fun a45 H45 => ?_
  clear H36 a36 H37 a37 H38 a38 H39 a39 H40 a40 H41 a41 H42 a42 H43 a43
  refine wl_ <| i_ H45 rfl (v := .int .u8 (bd (byteI (L.getD 1 0)))) (dd_conv (k := .u8) rfl (H45.ev 28 rfl) Tryd.underlying3 (by kernel_rfl) (wrap_u8_bd _)) fun a46 H46 => wl_ <| i_ H46 rfl (xA 9 1 6 rfl (H46.ev 3 rfl) (H46.ev 27 rfl)) fun a47 H47 => wl_ <| t_ rfl (S := [⟨g1, 81, #[.string (strB p), .slice (some ⟨bi, oi, none⟩) 2 ci]⟩, ⟨g2, 110, bs (zer 9)⟩, ⟨g3, 110, bs ((((spl (zer 9) 0 (padN p)).set 4 (2#8)).set 5 (byteI (L.getD 0 0))).set 6 (byteI (L.getD 1 0)))⟩, ⟨g4, 107, bs (padN p)⟩]) (fun _ h => dd_put HS35 2 6 rfl rfl (H47.ev 30 rfl) (H47.ev 29 rfl) (by kernel_rfl) rfl rfl (by rw [((size_bs _).trans (len_set (len_set (len_spl (length_zer 9) (length_padN _) (by decide)))))]; rfl) (set_bs _ _ (byteI (L.getD 1 0))) h) fun W48 HS48 => ln_ <| bn <| nx <| rl_ <| wl_ <| i_ H47 rfl (v := .int .i64 2) (dd_ari rfl (H47.ev 21 rfl) rfl rfl (by decide)) fun a49 H49 => wl_ <| p_ H49 rfl rfl fun a50 H50 => ln_ <| nx <| unr_go <| sq_ <| rl_ <| wl_ <| i_ H50 rfl (dd_cmp rfl (H50.ev 21 rfl) (H50.ev 20 rfl) (lt_f (by decide))) fun a51 H51 => ln_ <| nx <| sq_ <| cf_ H51 rfl <| wp_exit <| tx <| tx <| bx <| nx <| sq_ <| rl_ <| wl_ <| i_ H51 rfl (v := .agg (bs ((((spl (zer 9) 0 (padN p)).set 4 (2#8)).set 5 (byteI (L.getD 0 0))).set 6 (byteI (L.getD 1 0))))) (dd_load HS48 2 0 rfl rfl (H51.ev 3 rfl) (slab_whole _) Tryd.underlying110 rfl (by rw [show (bs ((((spl (zer 9) 0 (padN p)).set 4 (2#8)).set 5 (byteI (L.getD 0 0))).set 6 (byteI (L.getD 1 0)))).size = 9 from ((size_bs _).trans (len_set (len_set (len_set (len_spl (length_zer 9) (length_padN _) (by decide))))))]; kernel_rfl)) fun a52 H52 => wl_ <| t_ rfl (fun _ h => dd_setrow HS48 1 rfl rfl (H52.ev 2 rfl) (H52.ev 32 rfl) (by kernel_rfl) (((size_bs _).trans (len_set (len_set (len_set (len_spl (length_zer 9) (length_padN _) (by decide)))))) : (bs ((((spl (zer 9) 0 (padN p)).set 4 (2#8)).set 5 (byteI (L.getD 0 0))).set 6 (byteI (L.getD 1 0)))).size = 9) (((size_bs _).trans (length_zer 9)) : (bs (zer 9)).size = 9) (one_bs _) h) fun W53 HS53 => ?_
  clear H44 a44 H45 a45 H46 a46 HS35 H47 a47 H49 a49 H50 a50 H51 a51
  refine ln_ <| ?_
  clear HS48
  have H54 := H52.sel [2] rfl
  refine nx <| wp_ret <| ret_run H54.env0 (res_c Tryd.results57 (H54.get 2 rfl) (HS53.row 1 rfl) Tryd.underlying110 rfl (by rw [show (bs ((((spl (zer 9) 0 (padN p)).set 4 (2#8)).set 5 (byteI (L.getD 0 0))).set 6 (byteI (L.getD 1 0)))).size = 9 from ((size_bs _).trans (len_set (len_set (len_set (len_spl (length_zer 9) (length_padN _) (by decide))))))]; kernel_rfl)) <| ?_
  clear H52
  exact ⟨by rw [tb_eq2 p L hL], HS53.below⟩
theorem tb_eq3 (p : List (BitVec 8)) (L : List Int) (hL : L.length = 3) : ((((spl (zer 9) 0 (padN p)).set 4 (3#8)).set 5 (byteI (L.getD 0 0))).set 6 (byteI (L.getD 1 0))).set 7 (byteI (L.getD 2 0)) = volE (p, L) := by
  have hP := length_padN p
  unfold volE
  simp only
  generalize padN p = P at *
  obtain ⟨a, b, c, d, rfl⟩ := list_4 hP
  obtain ⟨x0, x1, x2, rfl⟩ := list_3 hL
  rfl
set_option maxHeartbeats 800000 in
theorem tobytes3 (bi oi ci : Nat) (p : List (BitVec 8)) (L : List Int) (w : World) (hi : IntsAt w (.slice (some ⟨bi, oi, none⟩) 3 ci) L) :
    Calls Tryd.prog 57 #[.agg #[.string (strB p), .slice (some ⟨bi, oi, none⟩) 3 ci]] w fun e w' => e = .returned (.agg (bs (volE (p, L)))) ∧ Below w.heap.size w w' := by
  have HS := St.nil w noF
  have HI : ∀ W, Below w.heap.size w W → IntsAt W (.slice (some ⟨bi, oi, none⟩) 3 ci) L := fun W hb => hi.below hb (Nat.le_refl _)
  have hL : L.length = 3 := ints_len hi
  refine enter_en Tryd.func57 rfl Tryd.ntmps57 (Nat.le_of_ble_eq_true rfl) fun a0 (HA0 : En 33 [(0, .agg #[.string (strB p), .slice (some ⟨bi, oi, none⟩) 3 ci])] a0) => ?_
  refine sq_ <| rl_ <| wl_ <| n_ HA0 rfl (fun _ h => dd_box HS rfl (HA0.ev 0 rfl) (cs := #[.string (strB p), .slice (some ⟨bi, oi, none⟩) 3 ci]) rfl h) fun g1 W1 HS1 a1 H1 => wl_ <| n_ H1 rfl (fun _ h => dd_new HS1 (bs (zer 9)) rfl (z := .agg (bs (zer 9))) (by kernel_rfl) rfl h) fun g2 W2 HS2 a2 H2 => ln_ <| nx <| sq_ <| rl_ <| wl_ <| n_ H2 rfl (fun _ h => dd_new HS2 (bs (zer 9)) rfl (z := .agg (bs (zer 9))) (by kernel_rfl) rfl h) fun g3 W3 HS3 a3 H3 => ln_ <| nx <| sq_ <| rl_ <| wl_ <| i_ H3 rfl (xf 0 0 rfl (H3.ev 1 rfl)) fun a4 H4 => wl_ <| i_ H4 rfl (dd_get HS3 0 0 rfl rfl (H4.ev 7 rfl) rfl Tryd.underlying9 rfl) fun a5 H5 => wl_ <| c_ H5 rfl HS3 (dcs Tryd.func61 rfl (args1 (H5.ev 8 rfl)) (pad_any p W3) (.agg (bs (padN p)))) fun W6 HS6 a6 H6 => wl_ <| n_ H6 rfl (fun _ h => dd_new HS6 (bs (zer 4)) rfl (z := .agg (bs (zer 4))) (by kernel_rfl) rfl h) fun g4 W7 HS7 a7 H7 => wl_ <| t_ rfl (fun _ h => dd_setrow HS7 3 rfl rfl (H7.ev 4 rfl) (H7.ev 9 rfl) (by kernel_rfl) (((size_bs _).trans (length_padN _)) : (bs (padN p)).size = 4) (((size_bs _).trans (length_zer 4)) : (bs (zer 4)).size = 4) (one_bs _) h) fun W8 HS8 => ?_
  clear HS HA0 a0 HS1 H1 a1 HS2 H2 a2 H3 a3 H4 a4 H5 a5 HS3 HS6 H6 a6
  refine ln_ <| nx <| sq_ <| ?_
  clear HS7
  refine wi_ HS8 [0, 1, 3] rfl [0, 1, 3, 2] rfl fun HSh9 hx9 => ht_ H7 0 hx9 rfl rfl (v := .slice (some ⟨g3, 0, none⟩) 9 9) (fun _ _ _ => dd_slAl (l := 0) (n := 9) (sz := 1) (j := 0) rfl (H7.ev 3 rfl) rfl (by kernel_rfl) (by decide) (by rfl) rfl) fun a10 H10 => ht_ H10 1 hx9 rfl rfl (v := .slice (some ⟨g4, 0, none⟩) 4 4) (fun _ _ _ => dd_slA (n := 4) (sz := 1) rfl (H10.ev 4 rfl) (by kernel_rfl)) fun a11 H11 => h1_ 2 rfl <| tv H11 rfl (S := [⟨g1, 81, #[.string (strB p), .slice (some ⟨bi, oi, none⟩) 3 ci]⟩, ⟨g2, 110, bs (zer 9)⟩, ⟨g3, 110, bs (spl (zer 9) 0 (padN p))⟩, ⟨g4, 107, bs (padN p)⟩]) (v := .int .i64 4) (fun _ h => dd_copyR HSh9 2 rfl (length_zer 9) rfl (H11.ev 10 rfl) (H11.ev 11 rfl) (slice_part (HSh9.row 3 rfl) 0 (bytes_slab (slab_whole _)) (length_padN _) (by decide)) (length_padN _) (by decide) (by decide) h) fun W12 HS12 a12 H12 => sx_ (sxi HS12 [0, 1, 3, 2] rfl) fun hx13 => ?_
  clear HS8 H7 a7 H10 a10 HSh9 H11 a11 hx9
  refine wpAnyH_done (by kernel_rfl) ?_ _
  clear hx13
  refine nx <| sq_ <| rl_ <| wl_ <| i_ H12 rfl (xf 1 1 rfl (H12.ev 1 rfl)) fun a14 H14 => wl_ <| i_ H14 rfl (dd_get HS12 0 1 rfl rfl (H14.ev 13 rfl) rfl Tryd.underlying45 rfl) fun a15 H15 => wl_ <| i_ H15 rfl (v := .int .i64 3) (dd_len rfl (H15.ev 14 rfl) Tryd.underlying45) fun a16 H16 => wl_ <| i_ H16 rfl (v := .int .u8 3) (dd_conv (k := .u8) rfl (H16.ev 15 rfl) Tryd.underlying3 (by kernel_rfl) (by decide)) fun a17 H17 => wl_ <| i_ H17 rfl (xA 9 1 4 rfl (H17.ev 3 rfl) rfl) fun a18 H18 => wl_ <| t_ rfl (S := [⟨g1, 81, #[.string (strB p), .slice (some ⟨bi, oi, none⟩) 3 ci]⟩, ⟨g2, 110, bs (zer 9)⟩, ⟨g3, 110, bs ((spl (zer 9) 0 (padN p)).set 4 (3#8))⟩, ⟨g4, 107, bs (padN p)⟩]) (fun _ h => dd_put HS12 2 4 rfl rfl (H18.ev 17 rfl) (H18.ev 16 rfl) (by kernel_rfl) rfl rfl (by rw [((size_bs _).trans (len_spl (length_zer 9) (length_padN _) (by decide)))]; rfl) (set_bs _ _ (3#8)) h) fun W19 HS19 => ln_ <| nx <| sq_ <| sq_ <| rl_ <| wl_ <| i_ H18 rfl (xf 1 1 rfl (H18.ev 1 rfl)) fun a20 H20 => wl_ <| i_ H20 rfl (dd_get HS19 0 1 rfl rfl (H20.ev 18 rfl) rfl Tryd.underlying45 rfl) fun a21 H21 => ?_
  clear H12 a12 H14 a14 H15 a15 H16 a16 H17 a17 HS12 H18 a18
  refine wl_ <| i_ H21 rfl (v := .int .i64 3) (dd_len rfl (H21.ev 19 rfl) Tryd.underlying45) fun a22 H22 => wl_ <| p_ H22 rfl rfl fun a23 H23 => ln_ <| nx <| wp_block <| wp_unr 4 <| unr_go <| sq_ <| rl_ <| wl_ <| i_ H23 rfl (dd_cmp rfl (H23.ev 21 rfl) (H23.ev 20 rfl) (lt_t (by decide))) fun a24 H24 => ln_ <| nx <| sq_ <| ct_ H24 rfl <| wp_skip <| nx <| sq_ <| wp_block <| sq_ <| rl_ <| wl_ <| p_ H24 rfl rfl fun a25 H25 => wl_ <| i_ H25 rfl (xS 1 (oi + 0) rfl (H25.ev 19 rfl) (H25.ev 21 rfl)) fun a26 H26 => wl_ <| i_ H26 rfl (dd_at rfl (H26.ev 24 rfl) (ints_at (HI _ HS19.below) 0 (by decide)) Tryd.underlying3 rfl) fun a27 H27 => q_ H27 2 rfl fun a28 H28 => ln_ <| ?_
  clear H20 a20 H21 a21 H22 a22 H23 a23 H24 a24 H25 a25 H26 a26 H27 a27
  have H29 := H28.sel [2, 3, 19, 20, 21, 5, 6] rfl
  refine nx <| rl_ <| wl_ <| p_ H29 rfl rfl fun a30 H30 => wl_ <| i_ H30 rfl (v := .int .i64 5) (dd_ari rfl rfl (H30.ev 26 rfl) rfl (by decide)) fun a31 H31 => wl_ <| p_ H31 rfl rfl fun a32 H32 => wl_ <| i_ H32 rfl (v := .int .u8 (bd (byteI (L.getD 0 0)))) (dd_conv (k := .u8) rfl (H32.ev 28 rfl) Tryd.underlying3 (by kernel_rfl) (wrap_u8_bd _)) fun a33 H33 => wl_ <| i_ H33 rfl (xA 9 1 5 rfl (H33.ev 3 rfl) (H33.ev 27 rfl)) fun a34 H34 => wl_ <| t_ rfl (S := [⟨g1, 81, #[.string (strB p), .slice (some ⟨bi, oi, none⟩) 3 ci]⟩, ⟨g2, 110, bs (zer 9)⟩, ⟨g3, 110, bs (((spl (zer 9) 0 (padN p)).set 4 (3#8)).set 5 (byteI (L.getD 0 0)))⟩, ⟨g4, 107, bs (padN p)⟩]) (fun _ h => dd_put HS19 2 5 rfl rfl (H34.ev 30 rfl) (H34.ev 29 rfl) (by kernel_rfl) rfl rfl (by rw [((size_bs _).trans (len_set (len_spl (length_zer 9) (length_padN _) (by decide))))]; rfl) (set_bs _ _ (byteI (L.getD 0 0))) h) fun W35 HS35 => ln_ <| bn <| nx <| rl_ <| wl_ <| i_ H34 rfl (v := .int .i64 1) (dd_ari rfl (H34.ev 21 rfl) rfl rfl (by decide)) fun a36 H36 => wl_ <| p_ H36 rfl rfl fun a37 H37 => ?_
  clear H28 H29 a28 H30 a30 H31 a31 H32 a32 H33 a33 HS19 H34 a34
  refine ln_ <| nx <| unr_go <| sq_ <| rl_ <| wl_ <| i_ H37 rfl (dd_cmp rfl (H37.ev 21 rfl) (H37.ev 20 rfl) (lt_t (by decide))) fun a38 H38 => ln_ <| nx <| sq_ <| ct_ H38 rfl <| wp_skip <| nx <| sq_ <| wp_block <| sq_ <| rl_ <| wl_ <| p_ H38 rfl rfl fun a39 H39 => wl_ <| i_ H39 rfl (xS 1 (oi + 1) rfl (H39.ev 19 rfl) (H39.ev 21 rfl)) fun a40 H40 => wl_ <| i_ H40 rfl (dd_at rfl (H40.ev 24 rfl) (ints_at (HI _ HS35.below) 1 (by decide)) Tryd.underlying3 rfl) fun a41 H41 => q_ H41 2 rfl fun a42 H42 => ln_ <| nx <| rl_ <| wl_ <| p_ H42 rfl rfl fun a43 H43 => wl_ <| i_ H43 rfl (v := .int .i64 6) (dd_ari rfl rfl (H43.ev 26 rfl) rfl (by decide)) fun a44 H44 => wl_ <| p_ H44 rfl rfl fun a45 H45 => ?_
  clear H36 a36 H37 a37 H38 a38 H39 a39 H40 a40 H41 a41 H42 a42 H43 a43
  refine wl_ <| i_ H45 rfl (v := .int .u8 (bd (byteI (L.getD 1 0)))) (dd_conv (k := .u8) rfl (H45.ev 28 rfl) Tryd.underlying3 (by kernel_rfl) (wrap_u8_bd _)) fun a46 H46 => wl_ <| i_ H46 rfl (xA 9 1 6 rfl (H46.ev 3 rfl) (H46.ev 27 rfl)) fun a47 H47 => wl_ <| t_ rfl (S := [⟨g1, 81, #[.string (strB p), .slice (some ⟨bi, oi, none⟩) 3 ci]⟩, ⟨g2, 110, bs (zer 9)⟩, ⟨g3, 110, bs ((((spl (zer 9) 0 (padN p)).set 4 (3#8)).set 5 (byteI (L.getD 0 0))).set 6 (byteI (L.getD 1 0)))⟩, ⟨g4, 107, bs (padN p)⟩]) (fun _ h => dd_put HS35 2 6 rfl rfl (H47.ev 30 rfl) (H47.ev 29 rfl) (by kernel_rfl) rfl rfl (by rw [((size_bs _).trans (len_set (len_set (len_spl (length_zer 9) (length_padN _) (by decide)))))]; rfl) (set_bs _ _ (byteI (L.getD 1 0))) h) fun W48 HS48 => ln_ <| bn <| nx <| rl_ <| wl_ <| i_ H47 rfl (v := .int .i64 2) (dd_ari rfl (H47.ev 21 rfl) rfl rfl (by decide)) fun a49 H49 => wl_ <| p_ H49 rfl rfl fun a50 H50 => ln_ <| nx <| unr_go <| sq_ <| rl_ <| wl_ <| i_ H50 rfl (dd_cmp rfl (H50.ev 21 rfl) (H50.ev 20 rfl) (lt_t (by decide))) fun a51 H51 => ln_ <| nx <| sq_ <| ct_ H51 rfl <| wp_skip <| nx <| sq_ <| wp_block <| sq_ <| rl_ <| wl_ <| p_ H51 rfl rfl fun a52 H52 => wl_ <| i_ H52 rfl (xS 1 (oi + 2) rfl (H52.ev 19 rfl) (H52.ev 21 rfl)) fun a53 H53 => ?_
  clear H44 a44 H45 a45 H46 a46 HS35 H47 a47 H49 a49 H50 a50 H51 a51
  refine wl_ <| i_ H53 rfl (dd_at rfl (H53.ev 24 rfl) (ints_at (HI _ HS48.below) 2 (by decide)) Tryd.underlying3 rfl) fun a54 H54 => q_ H54 2 rfl fun a55 H55 => ln_ <| nx <| rl_ <| wl_ <| p_ H55 rfl rfl fun a56 H56 => wl_ <| i_ H56 rfl (v := .int .i64 7) (dd_ari rfl rfl (H56.ev 26 rfl) rfl (by decide)) fun a57 H57 => wl_ <| p_ H57 rfl rfl fun a58 H58 => wl_ <| i_ H58 rfl (v := .int .u8 (bd (byteI (L.getD 2 0)))) (dd_conv (k := .u8) rfl (H58.ev 28 rfl) Tryd.underlying3 (by kernel_rfl) (wrap_u8_bd _)) fun a59 H59 => wl_ <| i_ H59 rfl (xA 9 1 7 rfl (H59.ev 3 rfl) (H59.ev 27 rfl)) fun a60 H60 => wl_ <| t_ rfl (S := [⟨g1, 81, #[.string (strB p), .slice (some ⟨bi, oi, none⟩) 3 ci]⟩, ⟨g2, 110, bs (zer 9)⟩, ⟨g3, 110, bs (((((spl (zer 9) 0 (padN p)).set 4 (3#8)).set 5 (byteI (L.getD 0 0))).set 6 (byteI (L.getD 1 0))).set 7 (byteI (L.getD 2 0)))⟩, ⟨g4, 107, bs (padN p)⟩]) (fun _ h => dd_put HS48 2 7 rfl rfl (H60.ev 30 rfl) (H60.ev 29 rfl) (by kernel_rfl) rfl rfl (by rw [((size_bs _).trans (len_set (len_set (len_set (len_spl (length_zer 9) (length_padN _) (by decide))))))]; rfl) (set_bs _ _ (byteI (L.getD 2 0))) h) fun W61 HS61 => ?_
  clear H52 a52 H53 a53 H54 a54 H55 a55 H56 a56 H57 a57 H58 a58 H59 a59
  refine ln_ <| bn <| nx <| rl_ <| wl_ <| i_ H60 rfl (v := .int .i64 3) (dd_ari rfl (H60.ev 21 rfl) rfl rfl (by decide)) fun a62 H62 => wl_ <| p_ H62 rfl rfl fun a63 H63 => ln_ <| nx <| unr_go <| sq_ <| rl_ <| wl_ <| i_ H63 rfl (dd_cmp rfl (H63.ev 21 rfl) (H63.ev 20 rfl) (lt_f (by decide))) fun a64 H64 => ln_ <| nx <| sq_ <| cf_ H64 rfl <| wp_exit <| tx <| tx <| bx <| nx <| sq_ <| rl_ <| wl_ <| i_ H64 rfl (v := .agg (bs (((((spl (zer 9) 0 (padN p)).set 4 (3#8)).set 5 (byteI (L.getD 0 0))).set 6 (byteI (L.getD 1 0))).set 7 (byteI (L.getD 2 0))))) (dd_load HS61 2 0 rfl rfl (H64.ev 3 rfl) (slab_whole _) Tryd.underlying110 rfl (by rw [show (bs (((((spl (zer 9) 0 (padN p)).set 4 (3#8)).set 5 (byteI (L.getD 0 0))).set 6 (byteI (L.getD 1 0))).set 7 (byteI (L.getD 2 0)))).size = 9 from ((size_bs _).trans (len_set (len_set (len_set (len_set (len_spl (length_zer 9) (length_padN _) (by decide)))))))]; kernel_rfl)) fun a65 H65 => wl_ <| t_ rfl (fun _ h => dd_setrow HS61 1 rfl rfl (H65.ev 2 rfl) (H65.ev 32 rfl) (by kernel_rfl) (((size_bs _).trans (len_set (len_set (len_set (len_set (len_spl (length_zer 9) (length_padN _) (by decide))))))) : (bs (((((spl (zer 9) 0 (padN p)).set 4 (3#8)).set 5 (byteI (L.getD 0 0))).set 6 (byteI (L.getD 1 0))).set 7 (byteI (L.getD 2 0)))).size = 9) (((size_bs _).trans (length_zer 9)) : (bs (zer 9)).size = 9) (one_bs _) h) fun W66 HS66 => ln_ <| ?_
  clear HS48 H60 a60 H62 a62 H63 a63 H64 a64 HS61
  have H67 := H65.sel [2] rfl
  refine nx <| wp_ret <| ret_run H67.env0 (res_c Tryd.results57 (H67.get 2 rfl) (HS66.row 1 rfl) Tryd.underlying110 rfl (by rw [show (bs (((((spl (zer 9) 0 (padN p)).set 4 (3#8)).set 5 (byteI (L.getD 0 0))).set 6 (byteI (L.getD 1 0))).set 7 (byteI (L.getD 2 0)))).size = 9 from ((size_bs _).trans (len_set (len_set (len_set (len_set (len_spl (length_zer 9) (length_padN _) (by decide)))))))]; kernel_rfl)) <| ?_
  clear H65
  exact ⟨by rw [tb_eq3 p L hL], HS66.below⟩
theorem tb_eq4 (p : List (BitVec 8)) (L : List Int) (hL : L.length = 4) : (((((spl (zer 9) 0 (padN p)).set 4 (4#8)).set 5 (byteI (L.getD 0 0))).set 6 (byteI (L.getD 1 0))).set 7 (byteI (L.getD 2 0))).set 8 (byteI (L.getD 3 0)) = volE (p, L) := by
  have hP := length_padN p
  unfold volE
  simp only
  generalize padN p = P at *
  obtain ⟨a, b, c, d, rfl⟩ := list_4 hP
  obtain ⟨x0, x1, x2, x3, rfl⟩ := list_4 hL
  rfl
set_option maxHeartbeats 800000 in
theorem tobytes4 (bi oi ci : Nat) (p : List (BitVec 8)) (L : List Int) (w : World) (hi : IntsAt w (.slice (some ⟨bi, oi, none⟩) 4 ci) L) :
    Calls Tryd.prog 57 #[.agg #[.string (strB p), .slice (some ⟨bi, oi, none⟩) 4 ci]] w fun e w' => e = .returned (.agg (bs (volE (p, L)))) ∧ Below w.heap.size w w' := by
  have HS := St.nil w noF
  have HI : ∀ W, Below w.heap.size w W → IntsAt W (.slice (some ⟨bi, oi, none⟩) 4 ci) L := fun W hb => hi.below hb (Nat.le_refl _)
  have hL : L.length = 4 := ints_len hi
  refine enter_en Tryd.func57 rfl Tryd.ntmps57 (Nat.le_of_ble_eq_true rfl) fun a0 (HA0 : En 33 [(0, .agg #[.string (strB p), .slice (some ⟨bi, oi, none⟩) 4 ci])] a0) => ?_
  refine sq_ <| rl_ <| wl_ <| n_ HA0 rfl (fun _ h => dd_box HS rfl (HA0.ev 0 rfl) (cs := #[.string (strB p), .slice (some ⟨bi, oi, none⟩) 4 ci]) rfl h) fun g1 W1 HS1 a1 H1 => wl_ <| n_ H1 rfl (fun _ h => dd_new HS1 (bs (zer 9)) rfl (z := .agg (bs (zer 9))) (by kernel_rfl) rfl h) fun g2 W2 HS2 a2 H2 => ln_ <| nx <| sq_ <| rl_ <| wl_ <| n_ H2 rfl (fun _ h => dd_new HS2 (bs (zer 9)) rfl (z := .agg (bs (zer 9))) (by kernel_rfl) rfl h) fun g3 W3 HS3 a3 H3 => ln_ <| nx <| sq_ <| rl_ <| wl_ <| i_ H3 rfl (xf 0 0 rfl (H3.ev 1 rfl)) fun a4 H4 => wl_ <| i_ H4 rfl (dd_get HS3 0 0 rfl rfl (H4.ev 7 rfl) rfl Tryd.underlying9 rfl) fun a5 H5 => wl_ <| c_ H5 rfl HS3 (dcs Tryd.func61 rfl (args1 (H5.ev 8 rfl)) (pad_any p W3) (.agg (bs (padN p)))) fun W6 HS6 a6 H6 => wl_ <| n_ H6 rfl (fun _ h => dd_new HS6 (bs (zer 4)) rfl (z := .agg (bs (zer 4))) (by kernel_rfl) rfl h) fun g4 W7 HS7 a7 H7 => wl_ <| t_ rfl (fun _ h => dd_setrow HS7 3 rfl rfl (H7.ev 4 rfl) (H7.ev 9 rfl) (by kernel_rfl) (((size_bs _).trans (length_padN _)) : (bs (padN p)).size = 4) (((size_bs _).trans (length_zer 4)) : (bs (zer 4)).size = 4) (one_bs _) h) fun W8 HS8 => ?_
  clear HS HA0 a0 HS1 H1 a1 HS2 H2 a2 H3 a3 H4 a4 H5 a5 HS3 HS6 H6 a6
  refine ln_ <| nx <| sq_ <| ?_
  clear HS7
  refine wi_ HS8 [0, 1, 3] rfl [0, 1, 3, 2] rfl fun HSh9 hx9 => ht_ H7 0 hx9 rfl rfl (v := .slice (some ⟨g3, 0, none⟩) 9 9) (fun _ _ _ => dd_slAl (l := 0) (n := 9) (sz := 1) (j := 0) rfl (H7.ev 3 rfl) rfl (by kernel_rfl) (by decide) (by rfl) rfl) fun a10 H10 => ht_ H10 1 hx9 rfl rfl (v := .slice (some ⟨g4, 0, none⟩) 4 4) (fun _ _ _ => dd_slA (n := 4) (sz := 1) rfl (H10.ev 4 rfl) (by kernel_rfl)) fun a11 H11 => h1_ 2 rfl <| tv H11 rfl (S := [⟨g1, 81, #[.string (strB p), .slice (some ⟨bi, oi, none⟩) 4 ci]⟩, ⟨g2, 110, bs (zer 9)⟩, ⟨g3, 110, bs (spl (zer 9) 0 (padN p))⟩, ⟨g4, 107, bs (padN p)⟩]) (v := .int .i64 4) (fun _ h => dd_copyR HSh9 2 rfl (length_zer 9) rfl (H11.ev 10 rfl) (H11.ev 11 rfl) (slice_part (HSh9.row 3 rfl) 0 (bytes_slab (slab_whole _)) (length_padN _) (by decide)) (length_padN _) (by decide) (by decide) h) fun W12 HS12 a12 H12 => sx_ (sxi HS12 [0, 1, 3, 2] rfl) fun hx13 => ?_
  clear HS8 H7 a7 H10 a10 HSh9 H11 a11 hx9
  refine wpAnyH_done (by kernel_rfl) ?_ _
  clear hx13
  refine nx <| sq_ <| rl_ <| wl_ <| i_ H12 rfl (xf 1 1 rfl (H12.ev 1 rfl)) fun a14 H14 => wl_ <| i_ H14 rfl (dd_get HS12 0 1 rfl rfl (H14.ev 13 rfl) rfl Tryd.underlying45 rfl) fun a15 H15 => wl_ <| i_ H15 rfl (v := .int .i64 4) (dd_len rfl (H15.ev 14 rfl) Tryd.underlying45) fun a16 H16 => wl_ <| i_ H16 rfl (v := .int .u8 4) (dd_conv (k := .u8) rfl (H16.ev 15 rfl) Tryd.underlying3 (by kernel_rfl) (by decide)) fun a17 H17 => wl_ <| i_ H17 rfl (xA 9 1 4 rfl (H17.ev 3 rfl) rfl) fun a18 H18 => wl_ <| t_ rfl (S := [⟨g1, 81, #[.string (strB p), .slice (some ⟨bi, oi, none⟩) 4 ci]⟩, ⟨g2, 110, bs (zer 9)⟩, ⟨g3, 110, bs ((spl (zer 9) 0 (padN p)).set 4 (4#8))⟩, ⟨g4, 107, bs (padN p)⟩]) (fun _ h => dd_put HS12 2 4 rfl rfl (H18.ev 17 rfl) (H18.ev 16 rfl) (by kernel_rfl) rfl rfl (by rw [((size_bs _).trans (len_spl (length_zer 9) (length_padN _) (by decide)))]; rfl) (set_bs _ _ (4#8)) h) fun W19 HS19 => ln_ <| nx <| sq_ <| sq_ <| rl_ <| wl_ <| i_ H18 rfl (xf 1 1 rfl (H18.ev 1 rfl)) fun a20 H20 => wl_ <| i_ H20 rfl (dd_get HS19 0 1 rfl rfl (H20.ev 18 rfl) rfl Tryd.underlying45 rfl) fun a21 H21 => ?_
  clear H12 a12 H14 a14 H15 a15 H16 a16 H17 a17 HS12 H18 a18
  refine wl_ <| i_ H21 rfl (v := .int .i64 4) (dd_len rfl (H21.ev 19 rfl) Tryd.underlying45) fun a22 H22 => wl_ <| p_ H22 rfl rfl fun a23 H23 => ln_ <| nx <| wp_block <| wp_unr 5 <| unr_go <| sq_ <| rl_ <| wl_ <| i_ H23 rfl (dd_cmp rfl (H23.ev 21 rfl) (H23.ev 20 rfl) (lt_t (by decide))) fun a24 H24 => ln_ <| nx <| sq_ <| ct_ H24 rfl <| wp_skip <| nx <| sq_ <| wp_block <| sq_ <| rl_ <| wl_ <| p_ H24 rfl rfl fun a25 H25 => wl_ <| i_ H25 rfl (xS 1 (oi + 0) rfl (H25.ev 19 rfl) (H25.ev 21 rfl)) fun a26 H26 => wl_ <| i_ H26 rfl (dd_at rfl (H26.ev 24 rfl) (ints_at (HI _ HS19.below) 0 (by decide)) Tryd.underlying3 rfl) fun a27 H27 => q_ H27 2 rfl fun a28 H28 => ln_ <| ?_
  clear H20 a20 H21 a21 H22 a22 H23 a23 H24 a24 H25 a25 H26 a26 H27 a27
  have H29 := H28.sel [2, 3, 19, 20, 21, 5, 6] rfl
  refine nx <| rl_ <| wl_ <| p_ H29 rfl rfl fun a30 H30 => wl_ <| i_ H30 rfl (v := .int .i64 5) (dd_ari rfl rfl (H30.ev 26 rfl) rfl (by decide)) fun a31 H31 => wl_ <| p_ H31 rfl rfl fun a32 H32 => wl_ <| i_ H32 rfl (v := .int .u8 (bd (byteI (L.getD 0 0)))) (dd_conv (k := .u8) rfl (H32.ev 28 rfl) Tryd.underlying3 (by kernel_rfl) (wrap_u8_bd _)) fun a33 H33 => wl_ <| i_ H33 rfl (xA 9 1 5 rfl (H33.ev 3 rfl) (H33.ev 27 rfl)) fun a34 H34 => wl_ <| t_ rfl (S := [⟨g1, 81, #[.string (strB p), .slice (some ⟨bi, oi, none⟩) 4 ci]⟩, ⟨g2, 110, bs (zer 9)⟩, ⟨g3, 110, bs (((spl (zer 9) 0 (padN p)).set 4 (4#8)).set 5 (byteI (L.getD 0 0)))⟩, ⟨g4, 107, bs (padN p)⟩]) (fun _ h => dd_put HS19 2 5 rfl rfl (H34.ev 30 rfl) (H34.ev 29 rfl) (by kernel_rfl) rfl rfl (by rw [((size_bs _).trans (len_set (len_spl (length_zer 9) (length_padN _) (by decide))))]; rfl) (set_bs _ _ (byteI (L.getD 0 0))) h) fun W35 HS35 => ln_ <| bn <| nx <| rl_ <| wl_ <| i_ H34 rfl (v := .int .i64 1) (dd_ari rfl (H34.ev 21 rfl) rfl rfl (by decide)) fun a36 H36 => wl_ <| p_ H36 rfl rfl fun a37 H37 => ?_
  clear H28 H29 a28 H30 a30 H31 a31 H32 a32 H33 a33 HS19 H34 a34
  refine ln_ <| nx <| unr_go <| sq_ <| rl_ <| wl_ <| i_ H37 rfl (dd_cmp rfl (H37.ev 21 rfl) (H37.ev 20 rfl) (lt_t (by decide))) fun a38 H38 => ln_ <| nx <| sq_ <| ct_ H38 rfl <| wp_skip <| nx <| sq_ <| wp_block <| sq_ <| rl_ <| wl_ <| p_ H38 rfl rfl fun a39 H39 => wl_ <| i_ H39 rfl (xS 1 (oi + 1) rfl (H39.ev 19 rfl) (H39.ev 21 rfl)) fun a40 H40 => wl_ <| i_ H40 rfl (dd_at rfl (H40.ev 24 rfl) (ints_at (HI _ HS35.below) 1 (by decide)) Tryd.underlying3 rfl) fun a41 H41 => q_ H41 2 rfl fun a42 H42 => ln_ <| nx <| rl_ <| wl_ <| p_ H42 rfl rfl fun a43 H43 => wl_ <| i_ H43 rfl (v := .int .i64 6) (dd_ari rfl rfl (H43.ev 26 rfl) rfl (by decide)) fun a44 H44 => wl_ <| p_ H44 rfl rfl fun a45 H45 => ?_
  clear H36 a36 H37 a37 H38 a38 H39 a39 H40 a40 H41 a41 H42 a42 H43 a43
  refine wl_ <| i_ H45 rfl (v := .int .u8 (bd (byteI (L.getD 1 0)))) (dd_conv (k := .u8) rfl (H45.ev 28 rfl) Tryd.underlying3 (by kernel_rfl) (wrap_u8_bd _)) fun a46 H46 => wl_ <| i_ H46 rfl (xA 9 1 6 rfl (H46.ev 3 rfl) (H46.ev 27 rfl)) fun a47 H47 => wl_ <| t_ rfl (S := [⟨g1, 81, #[.string (strB p), .slice (some ⟨bi, oi, none⟩) 4 ci]⟩, ⟨g2, 110, bs (zer 9)⟩, ⟨g3, 110, bs ((((spl (zer 9) 0 (padN p)).set 4 (4#8)).set 5 (byteI (L.getD 0 0))).set 6 (byteI (L.getD 1 0)))⟩, ⟨g4, 107, bs (padN p)⟩]) (fun _ h => dd_put HS35 2 6 rfl rfl (H47.ev 30 rfl) (H47.ev 29 rfl) (by kernel_rfl) rfl rfl (by rw [((size_bs _).trans (len_set (len_set (len_spl (length_zer 9) (length_padN _) (by decide)))))]; rfl) (set_bs _ _ (byteI (L.getD 1 0))) h) fun W48 HS48 => ln_ <| bn <| nx <| rl_ <| wl_ <| i_ H47 rfl (v := .int .i64 2) (dd_ari rfl (H47.ev 21 rfl) rfl rfl (by decide)) fun a49 H49 => wl_ <| p_ H49 rfl rfl fun a50 H50 => ln_ <| nx <| unr_go <| sq_ <| rl_ <| wl_ <| i_ H50 rfl (dd_cmp rfl (H50.ev 21 rfl) (H50.ev 20 rfl) (lt_t (by decide))) fun a51 H51 => ln_ <| nx <| sq_ <| ct_ H51 rfl <| wp_skip <| nx <| sq_ <| wp_block <| sq_ <| rl_ <| wl_ <| p_ H51 rfl rfl fun a52 H52 => wl_ <| i_ H52 rfl (xS 1 (oi + 2) rfl (H52.ev 19 rfl) (H52.ev 21 rfl)) fun a53 H53 => ?_
  clear H44 a44 H45 a45 H46 a46 HS35 H47 a47 H49 a49 H50 a50 H51 a51
  refine wl_ <| i_ H53 rfl (dd_at rfl (H53.ev 24 rfl) (ints_at (HI _ HS48.below) 2 (by decide)) Tryd.underlying3 rfl) fun a54 H54 => q_ H54 2 rfl fun a55 H55 => ln_ <| nx <| rl_ <| wl_ <| p_ H55 rfl rfl fun a56 H56 => wl_ <| i_ H56 rfl (v := .int .i64 7) (dd_ari rfl rfl (H56.ev 26 rfl) rfl (by decide)) fun a57 H57 => wl_ <| p_ H57 rfl rfl fun a58 H58 => wl_ <| i_ H58 rfl (v := .int .u8 (bd (byteI (L.getD 2 0)))) (dd_conv (k := .u8) rfl (H58.ev 28 rfl) Tryd.underlying3 (by kernel_rfl) (wrap_u8_bd _)) fun a59 H59 => wl_ <| i_ H59 rfl (xA 9 1 7 rfl (H59.ev 3 rfl) (H59.ev 27 rfl)) fun a60 H60 => wl_ <| t_ rfl (S := [⟨g1, 81, #[.string (strB p), .slice (some ⟨bi, oi, none⟩) 4 ci]⟩, ⟨g2, 110, bs (zer 9)⟩, ⟨g3, 110, bs (((((spl (zer 9) 0 (padN p)).set 4 (4#8)).set 5 (byteI (L.getD 0 0))).set 6 (byteI (L.getD 1 0))).set 7 (byteI (L.getD 2 0)))⟩, ⟨g4, 107, bs (padN p)⟩]) (fun _ h => dd_put HS48 2 7 rfl rfl (H60.ev 30 rfl) (H60.ev 29 rfl) (by kernel_rfl) rfl rfl (by rw [((size_bs _).trans (len_set (len_set (len_set (len_spl (length_zer 9) (length_padN _) (by decide))))))]; rfl) (set_bs _ _ (byteI (L.getD 2 0))) h) fun W61 HS61 => ?_
  clear H52 a52 H53 a53 H54 a54 H55 a55 H56 a56 H57 a57 H58 a58 H59 a59
  refine ln_ <| bn <| nx <| rl_ <| wl_ <| i_ H60 rfl (v := .int .i64 3) (dd_ari rfl (H60.ev 21 rfl) rfl rfl (by decide)) fun a62 H62 => wl_ <| p_ H62 rfl rfl fun a63 H63 => ln_ <| nx <| unr_go <| sq_ <| rl_ <| wl_ <| i_ H63 rfl (dd_cmp rfl (H63.ev 21 rfl) (H63.ev 20 rfl) (lt_t (by decide))) fun a64 H64 => ln_ <| nx <| sq_ <| ct_ H64 rfl <| wp_skip <| nx <| sq_ <| wp_block <| sq_ <| rl_ <| wl_ <| p_ H64 rfl rfl fun a65 H65 => wl_ <| i_ H65 rfl (xS 1 (oi + 3) rfl (H65.ev 19 rfl) (H65.ev 21 rfl)) fun a66 H66 => wl_ <| i_ H66 rfl (dd_at rfl (H66.ev 24 rfl) (ints_at (HI _ HS61.below) 3 (by decide)) Tryd.underlying3 rfl) fun a67 H67 => q_ H67 2 rfl fun a68 H68 => ln_ <| nx <| rl_ <| wl_ <| p_ H68 rfl rfl fun a69 H69 => ?_
  clear HS48 H60 a60 H62 a62 H63 a63 H64 a64 H65 a65 H66 a66 H67 a67
  refine wl_ <| i_ H69 rfl (v := .int .i64 8) (dd_ari rfl rfl (H69.ev 26 rfl) rfl (by decide)) fun a70 H70 => wl_ <| p_ H70 rfl rfl fun a71 H71 => wl_ <| i_ H71 rfl (v := .int .u8 (bd (byteI (L.getD 3 0)))) (dd_conv (k := .u8) rfl (H71.ev 28 rfl) Tryd.underlying3 (by kernel_rfl) (wrap_u8_bd _)) fun a72 H72 => wl_ <| i_ H72 rfl (xA 9 1 8 rfl (H72.ev 3 rfl) (H72.ev 27 rfl)) fun a73 H73 => wl_ <| t_ rfl (S := [⟨g1, 81, #[.string (strB p), .slice (some ⟨bi, oi, none⟩) 4 ci]⟩, ⟨g2, 110, bs (zer 9)⟩, ⟨g3, 110, bs ((((((spl (zer 9) 0 (padN p)).set 4 (4#8)).set 5 (byteI (L.getD 0 0))).set 6 (byteI (L.getD 1 0))).set 7 (byteI (L.getD 2 0))).set 8 (byteI (L.getD 3 0)))⟩, ⟨g4, 107, bs (padN p)⟩]) (fun _ h => dd_put HS61 2 8 rfl rfl (H73.ev 30 rfl) (H73.ev 29 rfl) (by kernel_rfl) rfl rfl (by rw [((size_bs _).trans (len_set (len_set (len_set (len_set (len_spl (length_zer 9) (length_padN _) (by decide)))))))]; rfl) (set_bs _ _ (byteI (L.getD 3 0))) h) fun W74 HS74 => ln_ <| bn <| nx <| rl_ <| wl_ <| i_ H73 rfl (v := .int .i64 4) (dd_ari rfl (H73.ev 21 rfl) rfl rfl (by decide)) fun a75 H75 => wl_ <| p_ H75 rfl rfl fun a76 H76 => ln_ <| nx <| unr_go <| sq_ <| rl_ <| wl_ <| i_ H76 rfl (dd_cmp rfl (H76.ev 21 rfl) (H76.ev 20 rfl) (lt_f (by decide))) fun a77 H77 => ?_
  clear H68 a68 H69 a69 H70 a70 H71 a71 H72 a72 HS61 H73 a73 H75 a75
  refine ln_ <| nx <| sq_ <| cf_ H77 rfl <| wp_exit <| tx <| tx <| bx <| nx <| sq_ <| rl_ <| wl_ <| i_ H77 rfl (v := .agg (bs ((((((spl (zer 9) 0 (padN p)).set 4 (4#8)).set 5 (byteI (L.getD 0 0))).set 6 (byteI (L.getD 1 0))).set 7 (byteI (L.getD 2 0))).set 8 (byteI (L.getD 3 0))))) (dd_load HS74 2 0 rfl rfl (H77.ev 3 rfl) (slab_whole _) Tryd.underlying110 rfl (by rw [show (bs ((((((spl (zer 9) 0 (padN p)).set 4 (4#8)).set 5 (byteI (L.getD 0 0))).set 6 (byteI (L.getD 1 0))).set 7 (byteI (L.getD 2 0))).set 8 (byteI (L.getD 3 0)))).size = 9 from ((size_bs _).trans (len_set (len_set (len_set (len_set (len_set (len_spl (length_zer 9) (length_padN _) (by decide))))))))]; kernel_rfl)) fun a78 H78 => wl_ <| t_ rfl (fun _ h => dd_setrow HS74 1 rfl rfl (H78.ev 2 rfl) (H78.ev 32 rfl) (by kernel_rfl) (((size_bs _).trans (len_set (len_set (len_set (len_set (len_set (len_spl (length_zer 9) (length_padN _) (by decide)))))))) : (bs ((((((spl (zer 9) 0 (padN p)).set 4 (4#8)).set 5 (byteI (L.getD 0 0))).set 6 (byteI (L.getD 1 0))).set 7 (byteI (L.getD 2 0))).set 8 (byteI (L.getD 3 0)))).size = 9) (((size_bs _).trans (length_zer 9)) : (bs (zer 9)).size = 9) (one_bs _) h) fun W79 HS79 => ln_ <| ?_
  clear H76 a76 H77 a77 HS74
  have H80 := H78.sel [2] rfl
  refine nx <| wp_ret <| ret_run H80.env0 (res_c Tryd.results57 (H80.get 2 rfl) (HS79.row 1 rfl) Tryd.underlying110 rfl (by rw [show (bs ((((((spl (zer 9) 0 (padN p)).set 4 (4#8)).set 5 (byteI (L.getD 0 0))).set 6 (byteI (L.getD 1 0))).set 7 (byteI (L.getD 2 0))).set 8 (byteI (L.getD 3 0)))).size = 9 from ((size_bs _).trans (len_set (len_set (len_set (len_set (len_set (len_spl (length_zer 9) (length_padN _) (by decide))))))))]; kernel_rfl)) <| ?_
  clear H78
  exact ⟨by rw [tb_eq4 p L hL], HS79.below⟩
theorem tobytes_any (A : Option Addr) (n c : Nat) (p : List (BitVec 8)) (L : List Int) (w : World) (hi : IntsAt w (.slice A n c) L) (hn : n ≤ 4) :
    Calls Tryd.prog 57 #[.agg #[.string (strB p), .slice A n c]] w fun e w' => e = .returned (.agg (bs (volE (p, L)))) ∧ Below w.heap.size w w' := by
  rcases (by omega : n = 0 ∨ n = 1 ∨ n = 2 ∨ n = 3 ∨ n = 4) with rfl | rfl | rfl | rfl | rfl
  · exact tobytes0 c A p L w hi
  · obtain ⟨b, o, rfl⟩ := ints_addr hi (by decide); exact tobytes1 b o c p L w hi
  · obtain ⟨b, o, rfl⟩ := ints_addr hi (by decide); exact tobytes2 b o c p L w hi
  · obtain ⟨b, o, rfl⟩ := ints_addr hi (by decide); exact tobytes3 b o c p L w hi
  · obtain ⟨b, o, rfl⟩ := ints_addr hi (by decide); exact tobytes4 b o c p L w hi
end Go.Proofs.YtnmaplgodimohaaDoor

/- The volume of bytes: the program's. -/
set_option maxRecDepth 4000
namespace Go.Proofs.YtnmaplgodimohaaDoor
open Go Go.RowKit
/- the volume of nine bytes -/
def fromL (q : List (BitVec 8)) : List Int := ((q.drop 5).take (min (q.getD 4 0#8).toNat 4)).map bd
def volQ (q : List (BitVec 8)) : Tv := ((cutN (q.take 4)).1, fromL q)
theorem fromL_len (q : List (BitVec 8)) : (fromL q).length ≤ 4 := by unfold fromL; rw [List.length_map, List.length_take]; omega
theorem fromL_bound (q : List (BitVec 8)) : ∀ x ∈ fromL q, -9223372036854775808 ≤ x ∧ x < 9223372036854775808 := fun x hx => by
  unfold fromL at hx
  obtain ⟨y, _, rfl⟩ := List.mem_map.1 hx
  have := bd_lo y; have := bd_hi y; omega
theorem volQ_name (q : List (BitVec 8)) (hq : q.length = 9) : (volQ q).1.length ≤ 4 := cut_len (by rw [List.length_take, hq]; rfl)
theorem list_9 {α : Type} {l : List α} (h : l.length = 9) : ∃ a b c d e f g i j, l = [a, b, c, d, e, f, g, i, j] := by
  match l, h with
  | [a, b, c, d, e, f, g, i, j], _ => exact ⟨a, b, c, d, e, f, g, i, j, rfl⟩
theorem st_fresh {w0 w : World} {S : List Blk} (h : St w0 noF S w) (k : Nat) {r : Blk} (hk : S[k]? = some r) : w0.heap.size ≤ r.g := (h.own k r hk).resolve_left fun e => e
set_option maxHeartbeats 800000 in
theorem frombytes0 (q : List (BitVec 8)) (w : World) (hq : q.length = 9) (h4 : q.getD 4 0#8 = 0#8) :
    Calls Tryd.prog 53 #[.agg (bs q)] w fun e w' => ∃ g, e = .returned (.agg #[.string (strB (volQ q).1), .slice (some ⟨g, 0, none⟩) (fromL q).length (fromL q).length]) ∧ w.heap.size ≤ g ∧ Row w' g 3 (intsV (fromL q)).toArray ∧ Below w.heap.size w w' := by
  have HS := St.nil w noF
  have hL : (fromL q).length = 0 ∧ (intsV (fromL q)).toArray = #[] := by
    have hm : min (q.getD 4 0#8).toNat 4 = 0 := by rw [h4]; rfl
    unfold fromL
    rw [hm]
    obtain ⟨a, b, c, d, e, f, g, i, j, rfl⟩ := list_9 hq
    exact ⟨rfl, rfl⟩
  refine enter_en Tryd.func53 rfl Tryd.ntmps53 (Nat.le_of_ble_eq_true rfl) fun a0 (HA0 : En 37 [(0, .agg (bs q))] a0) => ?_
  refine sq_ <| rl_ <| wl_ <| n_ HA0 rfl (fun _ h => dd_box HS rfl (HA0.ev 0 rfl) (cs := (bs q)) rfl h) fun g1 W1 HS1 a1 H1 => wl_ <| n_ H1 rfl (fun _ h => dd_new HS1 #[.string (⟨#[]⟩), .slice none 0 0] rfl (z := .agg #[.string (⟨#[]⟩), .slice none 0 0]) (by kernel_rfl) rfl h) fun g2 W2 HS2 a2 H2 => ln_ <| nx <| sq_ <| rl_ <| wl_ <| i_ H2 rfl (v := .slice (some ⟨g1, 0, none⟩) 9 9) (dd_slAl (l := 0) (n := 9) (sz := 1) (j := 0) rfl (H2.ev 1 rfl) rfl (by kernel_rfl) (by decide) (by rfl) rfl) fun a3 H3 => wl_ <| i_ H3 rfl (v := .pointer (some ⟨g1, 0, none⟩)) (dd_s2a (m := 4) (sz := 1) rfl (H3.ev 8 rfl) (by kernel_rfl) (by decide)) fun a4 H4 => wl_ <| i_ H4 rfl (v := .agg (bs (q.take 4))) (dd_load HS2 0 0 rfl rfl (H4.ev 9 rfl) (bs_slab0 hq 4 (by decide)) Tryd.underlying107 rfl (by rw [show (bs (q.take 4)).size = 4 from ((size_bs _).trans (len_take hq (by decide)))]; kernel_rfl)) fun a5 H5 => wl_ <| c_ H5 rfl HS2 (dcs Tryd.func60 rfl (args1 (H5.ev 10 rfl)) (cut_any (q.take 4) W2 (len_take hq (by decide))) (.tuple #[.string (strB (cutN (q.take 4)).1), .bool (cutN (q.take 4)).2])) fun W6 HS6 a6 H6 => wl_ <| p_ H6 rfl rfl fun a7 H7 => wl_ <| i_ H7 rfl (dd_ext rfl (H7.ev 7 rfl) rfl) fun a8 H8 => ?_
  clear HS HA0 a0 HS1 H1 a1 H2 a2 H3 a3 H4 a4 H5 a5 HS2 H6 a6
  refine wl_ <| i_ H8 rfl (dd_ext rfl (H8.ev 7 rfl) rfl) fun a9 H9 => q_ H9 2 rfl fun a10 H10 => ln_ <| nx <| sq_ <| rl_ <| wl_ <| p_ H10 rfl rfl fun a11 H11 => wl_ <| i_ H11 rfl (xA 9 1 4 rfl (H11.ev 1 rfl) rfl) fun a12 H12 => wl_ <| i_ H12 rfl (v := .int .u8 0) (dd_get HS6 0 4 rfl rfl (H12.ev 15 rfl) ((bs_get hq 4 (by decide)).trans (by rw [h4]; rfl)) Tryd.underlying5 rfl) fun a13 H13 => wl_ <| i_ H13 rfl (v := .int .u8 0) (dd_minF rfl (H13.ev 16 rfl) rfl (by decide)) fun a14 H14 => wl_ <| n_ H14 rfl (A := fun g18 => .slice (some ⟨g18, 0, none⟩) 0 0) (fun _ h => dd_mk HS6 rfl (H14.ev 17 rfl) (H14.ev 17 rfl) (z := .int .i64 0) (sz := 1) (bytes := 8) (cs := #[]) Tryd.underlying45 (by kernel_rfl) (by decide) (by decide) (by decide) (by kernel_rfl) h) fun g18 W15 HS15 a15 H15 => wl_ <| i_ H15 rfl (v := .agg #[.string (strB (cutN (q.take 4)).1), .slice (some ⟨g18, 0, none⟩) 0 0]) (dd_bld rfl (ps := [(0, .string (strB (cutN (q.take 4)).1)), (1, .slice (some ⟨g18, 0, none⟩) 0 0)]) (pr1 (H15.ev 14 rfl) (pr1 (H15.ev 18 rfl) (pr0))) (Lz := [[.string (⟨#[]⟩)], [.slice none 0 0]]) (by kernel_rfl) (lens_cons rfl (lens_cons rfl (lens_nil))) (fit_cons (i := 0) rfl rfl (fit_cons (i := 1) rfl rfl (fit_nil))) (cs := #[.string (strB (cutN (q.take 4)).1), .slice (some ⟨g18, 0, none⟩) 0 0]) rfl) fun a16 H16 => ?_
  clear H7 a7 H8 a8 H9 a9 H10 a10 H11 a11 H12 a12 H13 a13 HS6 H14 a14
  refine wl_ <| n_ H16 rfl (fun _ h => dd_new HS15 #[.string (⟨#[]⟩), .slice none 0 0] rfl (z := .agg #[.string (⟨#[]⟩), .slice none 0 0]) (by kernel_rfl) rfl h) fun g5 W17 HS17 a17 H17 => wl_ <| t_ rfl (fun _ h => dd_setrow HS17 3 rfl rfl (H17.ev 5 rfl) (H17.ev 19 rfl) (by kernel_rfl) (rfl : #[.string (strB (cutN (q.take 4)).1), .slice (some ⟨g18, 0, none⟩) 0 0].size = 2) (rfl : #[.string (⟨#[]⟩), .slice none 0 0].size = 2) (one_l (ao_cons rfl (ao_cons rfl ao_nil))) h) fun W18 HS18 => ln_ <| ?_
  clear H15 a15 HS15 H16 a16 HS17
  have H19 := H17.sel [1, 2, 5] rfl
  refine nx <| sq_ <| sq_ <| rl_ <| wl_ <| i_ H19 rfl (xf 1 1 rfl (H19.ev 5 rfl)) fun a20 H20 => wl_ <| i_ H20 rfl (dd_get HS18 3 1 rfl rfl (H20.ev 20 rfl) rfl Tryd.underlying45 rfl) fun a21 H21 => wl_ <| i_ H21 rfl (v := .int .i64 0) (dd_len rfl (H21.ev 21 rfl) Tryd.underlying45) fun a22 H22 => wl_ <| p_ H22 rfl rfl fun a23 H23 => ln_ <| nx <| wp_block <| wp_unr 1 <| unr_go <| sq_ <| rl_ <| wl_ <| i_ H23 rfl (dd_cmp rfl (H23.ev 23 rfl) (H23.ev 22 rfl) (lt_f (by decide))) fun a24 H24 => ln_ <| nx <| sq_ <| cf_ H24 rfl <| wp_exit <| tx <| tx <| bx <| nx <| sq_ <| rl_ <| wl_ <| i_ H24 rfl (v := .agg #[.string (strB (cutN (q.take 4)).1), .slice (some ⟨g18, 0, none⟩) 0 0]) (dd_load HS18 3 0 rfl rfl (H24.ev 5 rfl) (slab_whole _) Tryd.underlying81 rfl (by kernel_rfl)) fun a25 H25 => wl_ <| t_ rfl (fun _ h => dd_setrow HS18 1 rfl rfl (H25.ev 2 rfl) (H25.ev 36 rfl) (by kernel_rfl) (rfl : #[.string (strB (cutN (q.take 4)).1), .slice (some ⟨g18, 0, none⟩) 0 0].size = 2) (rfl : #[.string (⟨#[]⟩), .slice none 0 0].size = 2) (one_l (ao_cons rfl (ao_cons rfl ao_nil))) h) fun W26 HS26 => ln_ <| nx <| wp_ret <| ret_run H25.env0 (res_c Tryd.results53 (H25.get 2 rfl) (HS26.row 1 rfl) Tryd.underlying81 rfl (by kernel_rfl)) <| ?_
  clear H17 H19 a17 H20 a20 H21 a21 H22 a22 H23 a23 H24 a24 HS18
  refine ⟨g18, ?_, st_fresh HS26 2 rfl, ?_, HS26.below⟩
  · rw [hL.1]; rfl
  · rw [hL.2]; exact HS26.row 2 rfl
set_option maxHeartbeats 800000 in
theorem frombytes1 (q : List (BitVec 8)) (w : World) (hq : q.length = 9) (h4 : q.getD 4 0#8 = 1#8) :
    Calls Tryd.prog 53 #[.agg (bs q)] w fun e w' => ∃ g, e = .returned (.agg #[.string (strB (volQ q).1), .slice (some ⟨g, 0, none⟩) (fromL q).length (fromL q).length]) ∧ w.heap.size ≤ g ∧ Row w' g 3 (intsV (fromL q)).toArray ∧ Below w.heap.size w w' := by
  have HS := St.nil w noF
  have hL : (fromL q).length = 1 ∧ (intsV (fromL q)).toArray = #[.int .i64 (bd (q.getD 5 0#8))] := by
    have hm : min (q.getD 4 0#8).toNat 4 = 1 := by rw [h4]; rfl
    unfold fromL
    rw [hm]
    obtain ⟨a, b, c, d, e, f, g, i, j, rfl⟩ := list_9 hq
    exact ⟨rfl, rfl⟩
  refine enter_en Tryd.func53 rfl Tryd.ntmps53 (Nat.le_of_ble_eq_true rfl) fun a0 (HA0 : En 37 [(0, .agg (bs q))] a0) => ?_
  refine sq_ <| rl_ <| wl_ <| n_ HA0 rfl (fun _ h => dd_box HS rfl (HA0.ev 0 rfl) (cs := (bs q)) rfl h) fun g1 W1 HS1 a1 H1 => wl_ <| n_ H1 rfl (fun _ h => dd_new HS1 #[.string (⟨#[]⟩), .slice none 0 0] rfl (z := .agg #[.string (⟨#[]⟩), .slice none 0 0]) (by kernel_rfl) rfl h) fun g2 W2 HS2 a2 H2 => ln_ <| nx <| sq_ <| rl_ <| wl_ <| i_ H2 rfl (v := .slice (some ⟨g1, 0, none⟩) 9 9) (dd_slAl (l := 0) (n := 9) (sz := 1) (j := 0) rfl (H2.ev 1 rfl) rfl (by kernel_rfl) (by decide) (by rfl) rfl) fun a3 H3 => wl_ <| i_ H3 rfl (v := .pointer (some ⟨g1, 0, none⟩)) (dd_s2a (m := 4) (sz := 1) rfl (H3.ev 8 rfl) (by kernel_rfl) (by decide)) fun a4 H4 => wl_ <| i_ H4 rfl (v := .agg (bs (q.take 4))) (dd_load HS2 0 0 rfl rfl (H4.ev 9 rfl) (bs_slab0 hq 4 (by decide)) Tryd.underlying107 rfl (by rw [show (bs (q.take 4)).size = 4 from ((size_bs _).trans (len_take hq (by decide)))]; kernel_rfl)) fun a5 H5 => wl_ <| c_ H5 rfl HS2 (dcs Tryd.func60 rfl (args1 (H5.ev 10 rfl)) (cut_any (q.take 4) W2 (len_take hq (by decide))) (.tuple #[.string (strB (cutN (q.take 4)).1), .bool (cutN (q.take 4)).2])) fun W6 HS6 a6 H6 => wl_ <| p_ H6 rfl rfl fun a7 H7 => wl_ <| i_ H7 rfl (dd_ext rfl (H7.ev 7 rfl) rfl) fun a8 H8 => ?_
  clear HS HA0 a0 HS1 H1 a1 H2 a2 H3 a3 H4 a4 H5 a5 HS2 H6 a6
  refine wl_ <| i_ H8 rfl (dd_ext rfl (H8.ev 7 rfl) rfl) fun a9 H9 => q_ H9 2 rfl fun a10 H10 => ln_ <| nx <| sq_ <| rl_ <| wl_ <| p_ H10 rfl rfl fun a11 H11 => wl_ <| i_ H11 rfl (xA 9 1 4 rfl (H11.ev 1 rfl) rfl) fun a12 H12 => wl_ <| i_ H12 rfl (v := .int .u8 1) (dd_get HS6 0 4 rfl rfl (H12.ev 15 rfl) ((bs_get hq 4 (by decide)).trans (by rw [h4]; rfl)) Tryd.underlying5 rfl) fun a13 H13 => wl_ <| i_ H13 rfl (v := .int .u8 1) (dd_minF rfl (H13.ev 16 rfl) rfl (by decide)) fun a14 H14 => wl_ <| n_ H14 rfl (A := fun g18 => .slice (some ⟨g18, 0, none⟩) 1 1) (fun _ h => dd_mk HS6 rfl (H14.ev 17 rfl) (H14.ev 17 rfl) (z := .int .i64 0) (sz := 1) (bytes := 8) (cs := #[.int .i64 0]) Tryd.underlying45 (by kernel_rfl) (by decide) (by decide) (by decide) (by kernel_rfl) h) fun g18 W15 HS15 a15 H15 => wl_ <| i_ H15 rfl (v := .agg #[.string (strB (cutN (q.take 4)).1), .slice (some ⟨g18, 0, none⟩) 1 1]) (dd_bld rfl (ps := [(0, .string (strB (cutN (q.take 4)).1)), (1, .slice (some ⟨g18, 0, none⟩) 1 1)]) (pr1 (H15.ev 14 rfl) (pr1 (H15.ev 18 rfl) (pr0))) (Lz := [[.string (⟨#[]⟩)], [.slice none 0 0]]) (by kernel_rfl) (lens_cons rfl (lens_cons rfl (lens_nil))) (fit_cons (i := 0) rfl rfl (fit_cons (i := 1) rfl rfl (fit_nil))) (cs := #[.string (strB (cutN (q.take 4)).1), .slice (some ⟨g18, 0, none⟩) 1 1]) rfl) fun a16 H16 => ?_
  clear H7 a7 H8 a8 H9 a9 H10 a10 H11 a11 H12 a12 H13 a13 HS6 H14 a14
  refine wl_ <| n_ H16 rfl (fun _ h => dd_new HS15 #[.string (⟨#[]⟩), .slice none 0 0] rfl (z := .agg #[.string (⟨#[]⟩), .slice none 0 0]) (by kernel_rfl) rfl h) fun g5 W17 HS17 a17 H17 => wl_ <| t_ rfl (fun _ h => dd_setrow HS17 3 rfl rfl (H17.ev 5 rfl) (H17.ev 19 rfl) (by kernel_rfl) (rfl : #[.string (strB (cutN (q.take 4)).1), .slice (some ⟨g18, 0, none⟩) 1 1].size = 2) (rfl : #[.string (⟨#[]⟩), .slice none 0 0].size = 2) (one_l (ao_cons rfl (ao_cons rfl ao_nil))) h) fun W18 HS18 => ln_ <| ?_
  clear H15 a15 HS15 H16 a16 HS17
  have H19 := H17.sel [1, 2, 5] rfl
  refine nx <| sq_ <| sq_ <| rl_ <| wl_ <| i_ H19 rfl (xf 1 1 rfl (H19.ev 5 rfl)) fun a20 H20 => wl_ <| i_ H20 rfl (dd_get HS18 3 1 rfl rfl (H20.ev 20 rfl) rfl Tryd.underlying45 rfl) fun a21 H21 => wl_ <| i_ H21 rfl (v := .int .i64 1) (dd_len rfl (H21.ev 21 rfl) Tryd.underlying45) fun a22 H22 => wl_ <| p_ H22 rfl rfl fun a23 H23 => ln_ <| nx <| wp_block <| wp_unr 2 <| unr_go <| sq_ <| rl_ <| wl_ <| i_ H23 rfl (dd_cmp rfl (H23.ev 23 rfl) (H23.ev 22 rfl) (lt_t (by decide))) fun a24 H24 => ln_ <| nx <| sq_ <| ct_ H24 rfl <| wp_skip <| nx <| sq_ <| wp_block <| sq_ <| rl_ <| q_ H24 2 rfl fun a25 H25 => ln_ <| nx <| ?_
  clear H17 H19 a17 H20 a20 H21 a21 H22 a22 H23 a23 H24 a24
  refine wi_ HS18 [0, 1, 3] rfl [0, 1, 3, 2] rfl fun HSh26 hx26 => ht_ H25 0 hx26 rfl rfl (fun _ _ _ => xf 1 1 rfl (H25.ev 5 rfl)) fun a27 H27 => ht_ H27 1 hx26 rfl rfl (fun _ _ HS9 => dd_get HS9 2 1 rfl rfl (H27.ev 26 rfl) rfl Tryd.underlying45 rfl) fun a28 H28 => hp_ H28 2 hx26 rfl rfl rfl fun a29 H29 => hp_ H29 3 hx26 rfl rfl rfl fun a30 H30 => ht_ H30 4 hx26 rfl rfl (v := .int .i64 5) (fun _ _ _ => dd_ari rfl rfl (H30.ev 29 rfl) rfl (by decide)) fun a31 H31 => ht_ H31 5 hx26 rfl rfl (fun _ _ _ => xA 9 1 5 rfl (H31.ev 1 rfl) (H31.ev 30 rfl)) fun a32 H32 => ht_ H32 6 hx26 rfl rfl (fun _ _ HS9 => dd_get HS9 0 5 rfl rfl (H32.ev 31 rfl) (bs_get hq 5 (by decide)) Tryd.underlying5 rfl) fun a33 H33 => ?_
  clear HS18 H25 a25 H27 a27 H28 a28 H29 a29 H30 a30 H31 a31
  refine ht_ H33 7 hx26 rfl rfl (v := .int .i64 (bd (q.getD 5 0#8))) (fun _ _ _ => dd_conv (k := .i64) rfl (H33.ev 32 rfl) Tryd.underlying5 (by kernel_rfl) (i64_bdA _)) fun a34 H34 => ht_ H34 8 hx26 rfl rfl (fun _ _ _ => xS 1 0 rfl (H34.ev 27 rfl) (H34.ev 28 rfl)) fun a35 H35 => h1_ 9 rfl <| t_ rfl (fun _ h => dd_put (cs := #[.int .i64 (bd (q.getD 5 0#8))]) HSh26 2 0 rfl rfl (H35.ev 34 rfl) (H35.ev 33 rfl) (by kernel_rfl) rfl rfl rfl rfl h) fun W36 HS36 => sx_ (sxi HS36 [0, 1, 3, 2] rfl) fun hx37 => ?_
  clear H32 a32 H33 a33 H34 a34 HSh26 hx26
  refine wpAnyH_done (by kernel_rfl) ?_ _
  clear hx37
  refine bn <| nx <| rl_ <| wl_ <| i_ H35 rfl (v := .int .i64 1) (dd_ari rfl (H35.ev 23 rfl) rfl rfl (by decide)) fun a38 H38 => wl_ <| p_ H38 rfl rfl fun a39 H39 => ln_ <| nx <| unr_go <| sq_ <| rl_ <| wl_ <| i_ H39 rfl (dd_cmp rfl (H39.ev 23 rfl) (H39.ev 22 rfl) (lt_f (by decide))) fun a40 H40 => ln_ <| nx <| sq_ <| cf_ H40 rfl <| wp_exit <| tx <| tx <| bx <| nx <| sq_ <| rl_ <| wl_ <| i_ H40 rfl (v := .agg #[.string (strB (cutN (q.take 4)).1), .slice (some ⟨g18, 0, none⟩) 1 1]) (dd_load HS36 3 0 rfl rfl (H40.ev 5 rfl) (slab_whole _) Tryd.underlying81 rfl (by kernel_rfl)) fun a41 H41 => wl_ <| t_ rfl (fun _ h => dd_setrow HS36 1 rfl rfl (H41.ev 2 rfl) (H41.ev 36 rfl) (by kernel_rfl) (rfl : #[.string (strB (cutN (q.take 4)).1), .slice (some ⟨g18, 0, none⟩) 1 1].size = 2) (rfl : #[.string (⟨#[]⟩), .slice none 0 0].size = 2) (one_l (ao_cons rfl (ao_cons rfl ao_nil))) h) fun W42 HS42 => ln_ <| ?_
  clear H35 a35 H38 a38 H39 a39 H40 a40 HS36
  have H43 := H41.sel [2] rfl
  refine nx <| wp_ret <| ret_run H43.env0 (res_c Tryd.results53 (H43.get 2 rfl) (HS42.row 1 rfl) Tryd.underlying81 rfl (by kernel_rfl)) <| ?_
  clear H41
  refine ⟨g18, ?_, st_fresh HS42 2 rfl, ?_, HS42.below⟩
  · rw [hL.1]; rfl
  · rw [hL.2]; exact HS42.row 2 rfl
set_option maxHeartbeats 800000 in
theorem frombytes2 (q : List (BitVec 8)) (w : World) (hq : q.length = 9) (h4 : q.getD 4 0#8 = 2#8) :
    Calls Tryd.prog 53 #[.agg (bs q)] w fun e w' => ∃ g, e = .returned (.agg #[.string (strB (volQ q).1), .slice (some ⟨g, 0, none⟩) (fromL q).length (fromL q).length]) ∧ w.heap.size ≤ g ∧ Row w' g 3 (intsV (fromL q)).toArray ∧ Below w.heap.size w w' := by
  have HS := St.nil w noF
  have hL : (fromL q).length = 2 ∧ (intsV (fromL q)).toArray = #[.int .i64 (bd (q.getD 5 0#8)), .int .i64 (bd (q.getD 6 0#8))] := by
    have hm : min (q.getD 4 0#8).toNat 4 = 2 := by rw [h4]; rfl
    unfold fromL
    rw [hm]
    obtain ⟨a, b, c, d, e, f, g, i, j, rfl⟩ := list_9 hq
    exact ⟨rfl, rfl⟩
  refine enter_en Tryd.func53 rfl Tryd.ntmps53 (Nat.le_of_ble_eq_true rfl) fun a0 (HA0 : En 37 [(0, .agg (bs q))] a0) => ?_
  refine sq_ <| rl_ <| wl_ <| n_ HA0 rfl (fun _ h => dd_box HS rfl (HA0.ev 0 rfl) (cs := (bs q)) rfl h) fun g1 W1 HS1 a1 H1 => wl_ <| n_ H1 rfl (fun _ h => dd_new HS1 #[.string (⟨#[]⟩), .slice none 0 0] rfl (z := .agg #[.string (⟨#[]⟩), .slice none 0 0]) (by kernel_rfl) rfl h) fun g2 W2 HS2 a2 H2 => ln_ <| nx <| sq_ <| rl_ <| wl_ <| i_ H2 rfl (v := .slice (some ⟨g1, 0, none⟩) 9 9) (dd_slAl (l := 0) (n := 9) (sz := 1) (j := 0) rfl (H2.ev 1 rfl) rfl (by kernel_rfl) (by decide) (by rfl) rfl) fun a3 H3 => wl_ <| i_ H3 rfl (v := .pointer (some ⟨g1, 0, none⟩)) (dd_s2a (m := 4) (sz := 1) rfl (H3.ev 8 rfl) (by kernel_rfl) (by decide)) fun a4 H4 => wl_ <| i_ H4 rfl (v := .agg (bs (q.take 4))) (dd_load HS2 0 0 rfl rfl (H4.ev 9 rfl) (bs_slab0 hq 4 (by decide)) Tryd.underlying107 rfl (by rw [show (bs (q.take 4)).size = 4 from ((size_bs _).trans (len_take hq (by decide)))]; kernel_rfl)) fun a5 H5 => wl_ <| c_ H5 rfl HS2 (dcs Tryd.func60 rfl (args1 (H5.ev 10 rfl)) (cut_any (q.take 4) W2 (len_take hq (by decide))) (.tuple #[.string (strB (cutN (q.take 4)).1), .bool (cutN (q.take 4)).2])) fun W6 HS6 a6 H6 => wl_ <| p_ H6 rfl rfl fun a7 H7 => wl_ <| i_ H7 rfl (dd_ext rfl (H7.ev 7 rfl) rfl) fun a8 H8 => ?_
  clear HS HA0 a0 HS1 H1 a1 H2 a2 H3 a3 H4 a4 H5 a5 HS2 H6 a6
  refine wl_ <| i_ H8 rfl (dd_ext rfl (H8.ev 7 rfl) rfl) fun a9 H9 => q_ H9 2 rfl fun a10 H10 => ln_ <| nx <| sq_ <| rl_ <| wl_ <| p_ H10 rfl rfl fun a11 H11 => wl_ <| i_ H11 rfl (xA 9 1 4 rfl (H11.ev 1 rfl) rfl) fun a12 H12 => wl_ <| i_ H12 rfl (v := .int .u8 2) (dd_get HS6 0 4 rfl rfl (H12.ev 15 rfl) ((bs_get hq 4 (by decide)).trans (by rw [h4]; rfl)) Tryd.underlying5 rfl) fun a13 H13 => wl_ <| i_ H13 rfl (v := .int .u8 2) (dd_minF rfl (H13.ev 16 rfl) rfl (by decide)) fun a14 H14 => wl_ <| n_ H14 rfl (A := fun g18 => .slice (some ⟨g18, 0, none⟩) 2 2) (fun _ h => dd_mk HS6 rfl (H14.ev 17 rfl) (H14.ev 17 rfl) (z := .int .i64 0) (sz := 1) (bytes := 8) (cs := #[.int .i64 0, .int .i64 0]) Tryd.underlying45 (by kernel_rfl) (by decide) (by decide) (by decide) (by kernel_rfl) h) fun g18 W15 HS15 a15 H15 => wl_ <| i_ H15 rfl (v := .agg #[.string (strB (cutN (q.take 4)).1), .slice (some ⟨g18, 0, none⟩) 2 2]) (dd_bld rfl (ps := [(0, .string (strB (cutN (q.take 4)).1)), (1, .slice (some ⟨g18, 0, none⟩) 2 2)]) (pr1 (H15.ev 14 rfl) (pr1 (H15.ev 18 rfl) (pr0))) (Lz := [[.string (⟨#[]⟩)], [.slice none 0 0]]) (by kernel_rfl) (lens_cons rfl (lens_cons rfl (lens_nil))) (fit_cons (i := 0) rfl rfl (fit_cons (i := 1) rfl rfl (fit_nil))) (cs := #[.string (strB (cutN (q.take 4)).1), .slice (some ⟨g18, 0, none⟩) 2 2]) rfl) fun a16 H16 => ?_
  clear H7 a7 H8 a8 H9 a9 H10 a10 H11 a11 H12 a12 H13 a13 HS6 H14 a14
  refine wl_ <| n_ H16 rfl (fun _ h => dd_new HS15 #[.string (⟨#[]⟩), .slice none 0 0] rfl (z := .agg #[.string (⟨#[]⟩), .slice none 0 0]) (by kernel_rfl) rfl h) fun g5 W17 HS17 a17 H17 => wl_ <| t_ rfl (fun _ h => dd_setrow HS17 3 rfl rfl (H17.ev 5 rfl) (H17.ev 19 rfl) (by kernel_rfl) (rfl : #[.string (strB (cutN (q.take 4)).1), .slice (some ⟨g18, 0, none⟩) 2 2].size = 2) (rfl : #[.string (⟨#[]⟩), .slice none 0 0].size = 2) (one_l (ao_cons rfl (ao_cons rfl ao_nil))) h) fun W18 HS18 => ln_ <| ?_
  clear H15 a15 HS15 H16 a16 HS17
  have H19 := H17.sel [1, 2, 5] rfl
  refine nx <| sq_ <| sq_ <| rl_ <| wl_ <| i_ H19 rfl (xf 1 1 rfl (H19.ev 5 rfl)) fun a20 H20 => wl_ <| i_ H20 rfl (dd_get HS18 3 1 rfl rfl (H20.ev 20 rfl) rfl Tryd.underlying45 rfl) fun a21 H21 => wl_ <| i_ H21 rfl (v := .int .i64 2) (dd_len rfl (H21.ev 21 rfl) Tryd.underlying45) fun a22 H22 => wl_ <| p_ H22 rfl rfl fun a23 H23 => ln_ <| nx <| wp_block <| wp_unr 3 <| unr_go <| sq_ <| rl_ <| wl_ <| i_ H23 rfl (dd_cmp rfl (H23.ev 23 rfl) (H23.ev 22 rfl) (lt_t (by decide))) fun a24 H24 => ln_ <| nx <| sq_ <| ct_ H24 rfl <| wp_skip <| nx <| sq_ <| wp_block <| sq_ <| rl_ <| q_ H24 2 rfl fun a25 H25 => ln_ <| nx <| ?_
  clear H17 H19 a17 H20 a20 H21 a21 H22 a22 H23 a23 H24 a24
  refine wi_ HS18 [0, 1, 3] rfl [0, 1, 3, 2] rfl fun HSh26 hx26 => ht_ H25 0 hx26 rfl rfl (fun _ _ _ => xf 1 1 rfl (H25.ev 5 rfl)) fun a27 H27 => ht_ H27 1 hx26 rfl rfl (fun _ _ HS9 => dd_get HS9 2 1 rfl rfl (H27.ev 26 rfl) rfl Tryd.underlying45 rfl) fun a28 H28 => hp_ H28 2 hx26 rfl rfl rfl fun a29 H29 => hp_ H29 3 hx26 rfl rfl rfl fun a30 H30 => ht_ H30 4 hx26 rfl rfl (v := .int .i64 5) (fun _ _ _ => dd_ari rfl rfl (H30.ev 29 rfl) rfl (by decide)) fun a31 H31 => ht_ H31 5 hx26 rfl rfl (fun _ _ _ => xA 9 1 5 rfl (H31.ev 1 rfl) (H31.ev 30 rfl)) fun a32 H32 => ht_ H32 6 hx26 rfl rfl (fun _ _ HS9 => dd_get HS9 0 5 rfl rfl (H32.ev 31 rfl) (bs_get hq 5 (by decide)) Tryd.underlying5 rfl) fun a33 H33 => ?_
  clear HS18 H25 a25 H27 a27 H28 a28 H29 a29 H30 a30 H31 a31
  refine ht_ H33 7 hx26 rfl rfl (v := .int .i64 (bd (q.getD 5 0#8))) (fun _ _ _ => dd_conv (k := .i64) rfl (H33.ev 32 rfl) Tryd.underlying5 (by kernel_rfl) (i64_bdA _)) fun a34 H34 => ht_ H34 8 hx26 rfl rfl (fun _ _ _ => xS 1 0 rfl (H34.ev 27 rfl) (H34.ev 28 rfl)) fun a35 H35 => h1_ 9 rfl <| t_ rfl (fun _ h => dd_put (cs := #[.int .i64 (bd (q.getD 5 0#8)), .int .i64 0]) HSh26 2 0 rfl rfl (H35.ev 34 rfl) (H35.ev 33 rfl) (by kernel_rfl) rfl rfl rfl rfl h) fun W36 HS36 => sx_ (sxi HS36 [0, 1, 3, 2] rfl) fun hx37 => ?_
  clear H32 a32 H33 a33 H34 a34 HSh26 hx26
  refine wpAnyH_done (by kernel_rfl) ?_ _
  clear hx37
  refine bn <| nx <| rl_ <| wl_ <| i_ H35 rfl (v := .int .i64 1) (dd_ari rfl (H35.ev 23 rfl) rfl rfl (by decide)) fun a38 H38 => wl_ <| p_ H38 rfl rfl fun a39 H39 => ln_ <| nx <| unr_go <| sq_ <| rl_ <| wl_ <| i_ H39 rfl (dd_cmp rfl (H39.ev 23 rfl) (H39.ev 22 rfl) (lt_t (by decide))) fun a40 H40 => ln_ <| nx <| sq_ <| ct_ H40 rfl <| wp_skip <| nx <| sq_ <| wp_block <| sq_ <| rl_ <| q_ H40 2 rfl fun a41 H41 => ln_ <| nx <| ?_
  clear H35 a35 H38 a38 H39 a39 H40 a40
  refine wi_ HS36 [0, 1, 3] rfl [0, 1, 3, 2] rfl fun HSh42 hx42 => ht_ H41 0 hx42 rfl rfl (fun _ _ _ => xf 1 1 rfl (H41.ev 5 rfl)) fun a43 H43 => ht_ H43 1 hx42 rfl rfl (fun _ _ HS9 => dd_get HS9 2 1 rfl rfl (H43.ev 26 rfl) rfl Tryd.underlying45 rfl) fun a44 H44 => hp_ H44 2 hx42 rfl rfl rfl fun a45 H45 => hp_ H45 3 hx42 rfl rfl rfl fun a46 H46 => ht_ H46 4 hx42 rfl rfl (v := .int .i64 6) (fun _ _ _ => dd_ari rfl rfl (H46.ev 29 rfl) rfl (by decide)) fun a47 H47 => ht_ H47 5 hx42 rfl rfl (fun _ _ _ => xA 9 1 6 rfl (H47.ev 1 rfl) (H47.ev 30 rfl)) fun a48 H48 => ht_ H48 6 hx42 rfl rfl (fun _ _ HS9 => dd_get HS9 0 6 rfl rfl (H48.ev 31 rfl) (bs_get hq 6 (by decide)) Tryd.underlying5 rfl) fun a49 H49 => ?_
  clear HS36 H41 a41 H43 a43 H44 a44 H45 a45 H46 a46 H47 a47
  refine ht_ H49 7 hx42 rfl rfl (v := .int .i64 (bd (q.getD 6 0#8))) (fun _ _ _ => dd_conv (k := .i64) rfl (H49.ev 32 rfl) Tryd.underlying5 (by kernel_rfl) (i64_bdA _)) fun a50 H50 => ht_ H50 8 hx42 rfl rfl (fun _ _ _ => xS 1 1 rfl (H50.ev 27 rfl) (H50.ev 28 rfl)) fun a51 H51 => h1_ 9 rfl <| t_ rfl (fun _ h => dd_put (cs := #[.int .i64 (bd (q.getD 5 0#8)), .int .i64 (bd (q.getD 6 0#8))]) HSh42 2 1 rfl rfl (H51.ev 34 rfl) (H51.ev 33 rfl) (by kernel_rfl) rfl rfl rfl rfl h) fun W52 HS52 => sx_ (sxi HS52 [0, 1, 3, 2] rfl) fun hx53 => ?_
  clear H48 a48 H49 a49 H50 a50 HSh42 hx42
  refine wpAnyH_done (by kernel_rfl) ?_ _
  clear hx53
  refine bn <| nx <| rl_ <| wl_ <| i_ H51 rfl (v := .int .i64 2) (dd_ari rfl (H51.ev 23 rfl) rfl rfl (by decide)) fun a54 H54 => wl_ <| p_ H54 rfl rfl fun a55 H55 => ln_ <| nx <| unr_go <| sq_ <| rl_ <| wl_ <| i_ H55 rfl (dd_cmp rfl (H55.ev 23 rfl) (H55.ev 22 rfl) (lt_f (by decide))) fun a56 H56 => ln_ <| nx <| sq_ <| cf_ H56 rfl <| wp_exit <| tx <| tx <| bx <| nx <| sq_ <| rl_ <| wl_ <| i_ H56 rfl (v := .agg #[.string (strB (cutN (q.take 4)).1), .slice (some ⟨g18, 0, none⟩) 2 2]) (dd_load HS52 3 0 rfl rfl (H56.ev 5 rfl) (slab_whole _) Tryd.underlying81 rfl (by kernel_rfl)) fun a57 H57 => wl_ <| t_ rfl (fun _ h => dd_setrow HS52 1 rfl rfl (H57.ev 2 rfl) (H57.ev 36 rfl) (by kernel_rfl) (rfl : #[.string (strB (cutN (q.take 4)).1), .slice (some ⟨g18, 0, none⟩) 2 2].size = 2) (rfl : #[.string (⟨#[]⟩), .slice none 0 0].size = 2) (one_l (ao_cons rfl (ao_cons rfl ao_nil))) h) fun W58 HS58 => ln_ <| ?_
  clear H51 a51 H54 a54 H55 a55 H56 a56 HS52
  have H59 := H57.sel [2] rfl
  refine nx <| wp_ret <| ret_run H59.env0 (res_c Tryd.results53 (H59.get 2 rfl) (HS58.row 1 rfl) Tryd.underlying81 rfl (by kernel_rfl)) <| ?_
  clear H57
  refine ⟨g18, ?_, st_fresh HS58 2 rfl, ?_, HS58.below⟩
  · rw [hL.1]; rfl
  · rw [hL.2]; exact HS58.row 2 rfl
set_option maxHeartbeats 800000 in
theorem frombytes3 (q : List (BitVec 8)) (w : World) (hq : q.length = 9) (h4 : q.getD 4 0#8 = 3#8) :
    Calls Tryd.prog 53 #[.agg (bs q)] w fun e w' => ∃ g, e = .returned (.agg #[.string (strB (volQ q).1), .slice (some ⟨g, 0, none⟩) (fromL q).length (fromL q).length]) ∧ w.heap.size ≤ g ∧ Row w' g 3 (intsV (fromL q)).toArray ∧ Below w.heap.size w w' := by
  have HS := St.nil w noF
  have hL : (fromL q).length = 3 ∧ (intsV (fromL q)).toArray = #[.int .i64 (bd (q.getD 5 0#8)), .int .i64 (bd (q.getD 6 0#8)), .int .i64 (bd (q.getD 7 0#8))] := by
    have hm : min (q.getD 4 0#8).toNat 4 = 3 := by rw [h4]; rfl
    unfold fromL
    rw [hm]
    obtain ⟨a, b, c, d, e, f, g, i, j, rfl⟩ := list_9 hq
    exact ⟨rfl, rfl⟩
  refine enter_en Tryd.func53 rfl Tryd.ntmps53 (Nat.le_of_ble_eq_true rfl) fun a0 (HA0 : En 37 [(0, .agg (bs q))] a0) => ?_
  refine sq_ <| rl_ <| wl_ <| n_ HA0 rfl (fun _ h => dd_box HS rfl (HA0.ev 0 rfl) (cs := (bs q)) rfl h) fun g1 W1 HS1 a1 H1 => wl_ <| n_ H1 rfl (fun _ h => dd_new HS1 #[.string (⟨#[]⟩), .slice none 0 0] rfl (z := .agg #[.string (⟨#[]⟩), .slice none 0 0]) (by kernel_rfl) rfl h) fun g2 W2 HS2 a2 H2 => ln_ <| nx <| sq_ <| rl_ <| wl_ <| i_ H2 rfl (v := .slice (some ⟨g1, 0, none⟩) 9 9) (dd_slAl (l := 0) (n := 9) (sz := 1) (j := 0) rfl (H2.ev 1 rfl) rfl (by kernel_rfl) (by decide) (by rfl) rfl) fun a3 H3 => wl_ <| i_ H3 rfl (v := .pointer (some ⟨g1, 0, none⟩)) (dd_s2a (m := 4) (sz := 1) rfl (H3.ev 8 rfl) (by kernel_rfl) (by decide)) fun a4 H4 => wl_ <| i_ H4 rfl (v := .agg (bs (q.take 4))) (dd_load HS2 0 0 rfl rfl (H4.ev 9 rfl) (bs_slab0 hq 4 (by decide)) Tryd.underlying107 rfl (by rw [show (bs (q.take 4)).size = 4 from ((size_bs _).trans (len_take hq (by decide)))]; kernel_rfl)) fun a5 H5 => wl_ <| c_ H5 rfl HS2 (dcs Tryd.func60 rfl (args1 (H5.ev 10 rfl)) (cut_any (q.take 4) W2 (len_take hq (by decide))) (.tuple #[.string (strB (cutN (q.take 4)).1), .bool (cutN (q.take 4)).2])) fun W6 HS6 a6 H6 => wl_ <| p_ H6 rfl rfl fun a7 H7 => wl_ <| i_ H7 rfl (dd_ext rfl (H7.ev 7 rfl) rfl) fun a8 H8 => ?_
  clear HS HA0 a0 HS1 H1 a1 H2 a2 H3 a3 H4 a4 H5 a5 HS2 H6 a6
  refine wl_ <| i_ H8 rfl (dd_ext rfl (H8.ev 7 rfl) rfl) fun a9 H9 => q_ H9 2 rfl fun a10 H10 => ln_ <| nx <| sq_ <| rl_ <| wl_ <| p_ H10 rfl rfl fun a11 H11 => wl_ <| i_ H11 rfl (xA 9 1 4 rfl (H11.ev 1 rfl) rfl) fun a12 H12 => wl_ <| i_ H12 rfl (v := .int .u8 3) (dd_get HS6 0 4 rfl rfl (H12.ev 15 rfl) ((bs_get hq 4 (by decide)).trans (by rw [h4]; rfl)) Tryd.underlying5 rfl) fun a13 H13 => wl_ <| i_ H13 rfl (v := .int .u8 3) (dd_minF rfl (H13.ev 16 rfl) rfl (by decide)) fun a14 H14 => wl_ <| n_ H14 rfl (A := fun g18 => .slice (some ⟨g18, 0, none⟩) 3 3) (fun _ h => dd_mk HS6 rfl (H14.ev 17 rfl) (H14.ev 17 rfl) (z := .int .i64 0) (sz := 1) (bytes := 8) (cs := #[.int .i64 0, .int .i64 0, .int .i64 0]) Tryd.underlying45 (by kernel_rfl) (by decide) (by decide) (by decide) (by kernel_rfl) h) fun g18 W15 HS15 a15 H15 => wl_ <| i_ H15 rfl (v := .agg #[.string (strB (cutN (q.take 4)).1), .slice (some ⟨g18, 0, none⟩) 3 3]) (dd_bld rfl (ps := [(0, .string (strB (cutN (q.take 4)).1)), (1, .slice (some ⟨g18, 0, none⟩) 3 3)]) (pr1 (H15.ev 14 rfl) (pr1 (H15.ev 18 rfl) (pr0))) (Lz := [[.string (⟨#[]⟩)], [.slice none 0 0]]) (by kernel_rfl) (lens_cons rfl (lens_cons rfl (lens_nil))) (fit_cons (i := 0) rfl rfl (fit_cons (i := 1) rfl rfl (fit_nil))) (cs := #[.string (strB (cutN (q.take 4)).1), .slice (some ⟨g18, 0, none⟩) 3 3]) rfl) fun a16 H16 => ?_
  clear H7 a7 H8 a8 H9 a9 H10 a10 H11 a11 H12 a12 H13 a13 HS6 H14 a14
  refine wl_ <| n_ H16 rfl (fun _ h => dd_new HS15 #[.string (⟨#[]⟩), .slice none 0 0] rfl (z := .agg #[.string (⟨#[]⟩), .slice none 0 0]) (by kernel_rfl) rfl h) fun g5 W17 HS17 a17 H17 => wl_ <| t_ rfl (fun _ h => dd_setrow HS17 3 rfl rfl (H17.ev 5 rfl) (H17.ev 19 rfl) (by kernel_rfl) (rfl : #[.string (strB (cutN (q.take 4)).1), .slice (some ⟨g18, 0, none⟩) 3 3].size = 2) (rfl : #[.string (⟨#[]⟩), .slice none 0 0].size = 2) (one_l (ao_cons rfl (ao_cons rfl ao_nil))) h) fun W18 HS18 => ln_ <| ?_
  clear H15 a15 HS15 H16 a16 HS17
  have H19 := H17.sel [1, 2, 5] rfl
  refine nx <| sq_ <| sq_ <| rl_ <| wl_ <| i_ H19 rfl (xf 1 1 rfl (H19.ev 5 rfl)) fun a20 H20 => wl_ <| i_ H20 rfl (dd_get HS18 3 1 rfl rfl (H20.ev 20 rfl) rfl Tryd.underlying45 rfl) fun a21 H21 => wl_ <| i_ H21 rfl (v := .int .i64 3) (dd_len rfl (H21.ev 21 rfl) Tryd.underlying45) fun a22 H22 => wl_ <| p_ H22 rfl rfl fun a23 H23 => ln_ <| nx <| wp_block <| wp_unr 4 <| unr_go <| sq_ <| rl_ <| wl_ <| i_ H23 rfl (dd_cmp rfl (H23.ev 23 rfl) (H23.ev 22 rfl) (lt_t (by decide))) fun a24 H24 => ln_ <| nx <| sq_ <| ct_ H24 rfl <| wp_skip <| nx <| sq_ <| wp_block <| sq_ <| rl_ <| q_ H24 2 rfl fun a25 H25 => ln_ <| nx <| ?_
  clear H17 H19 a17 H20 a20 H21 a21 H22 a22 H23 a23 H24 a24
  refine wi_ HS18 [0, 1, 3] rfl [0, 1, 3, 2] rfl fun HSh26 hx26 => ht_ H25 0 hx26 rfl rfl (fun _ _ _ => xf 1 1 rfl (H25.ev 5 rfl)) fun a27 H27 => ht_ H27 1 hx26 rfl rfl (fun _ _ HS9 => dd_get HS9 2 1 rfl rfl (H27.ev 26 rfl) rfl Tryd.underlying45 rfl) fun a28 H28 => hp_ H28 2 hx26 rfl rfl rfl fun a29 H29 => hp_ H29 3 hx26 rfl rfl rfl fun a30 H30 => ht_ H30 4 hx26 rfl rfl (v := .int .i64 5) (fun _ _ _ => dd_ari rfl rfl (H30.ev 29 rfl) rfl (by decide)) fun a31 H31 => ht_ H31 5 hx26 rfl rfl (fun _ _ _ => xA 9 1 5 rfl (H31.ev 1 rfl) (H31.ev 30 rfl)) fun a32 H32 => ht_ H32 6 hx26 rfl rfl (fun _ _ HS9 => dd_get HS9 0 5 rfl rfl (H32.ev 31 rfl) (bs_get hq 5 (by decide)) Tryd.underlying5 rfl) fun a33 H33 => ?_
  clear HS18 H25 a25 H27 a27 H28 a28 H29 a29 H30 a30 H31 a31
  refine ht_ H33 7 hx26 rfl rfl (v := .int .i64 (bd (q.getD 5 0#8))) (fun _ _ _ => dd_conv (k := .i64) rfl (H33.ev 32 rfl) Tryd.underlying5 (by kernel_rfl) (i64_bdA _)) fun a34 H34 => ht_ H34 8 hx26 rfl rfl (fun _ _ _ => xS 1 0 rfl (H34.ev 27 rfl) (H34.ev 28 rfl)) fun a35 H35 => h1_ 9 rfl <| t_ rfl (fun _ h => dd_put (cs := #[.int .i64 (bd (q.getD 5 0#8)), .int .i64 0, .int .i64 0]) HSh26 2 0 rfl rfl (H35.ev 34 rfl) (H35.ev 33 rfl) (by kernel_rfl) rfl rfl rfl rfl h) fun W36 HS36 => sx_ (sxi HS36 [0, 1, 3, 2] rfl) fun hx37 => ?_
  clear H32 a32 H33 a33 H34 a34 HSh26 hx26
  refine wpAnyH_done (by kernel_rfl) ?_ _
  clear hx37
  refine bn <| nx <| rl_ <| wl_ <| i_ H35 rfl (v := .int .i64 1) (dd_ari rfl (H35.ev 23 rfl) rfl rfl (by decide)) fun a38 H38 => wl_ <| p_ H38 rfl rfl fun a39 H39 => ln_ <| nx <| unr_go <| sq_ <| rl_ <| wl_ <| i_ H39 rfl (dd_cmp rfl (H39.ev 23 rfl) (H39.ev 22 rfl) (lt_t (by decide))) fun a40 H40 => ln_ <| nx <| sq_ <| ct_ H40 rfl <| wp_skip <| nx <| sq_ <| wp_block <| sq_ <| rl_ <| q_ H40 2 rfl fun a41 H41 => ln_ <| nx <| ?_
  clear H35 a35 H38 a38 H39 a39 H40 a40
  refine wi_ HS36 [0, 1, 3] rfl [0, 1, 3, 2] rfl fun HSh42 hx42 => ht_ H41 0 hx42 rfl rfl (fun _ _ _ => xf 1 1 rfl (H41.ev 5 rfl)) fun a43 H43 => ht_ H43 1 hx42 rfl rfl (fun _ _ HS9 => dd_get HS9 2 1 rfl rfl (H43.ev 26 rfl) rfl Tryd.underlying45 rfl) fun a44 H44 => hp_ H44 2 hx42 rfl rfl rfl fun a45 H45 => hp_ H45 3 hx42 rfl rfl rfl fun a46 H46 => ht_ H46 4 hx42 rfl rfl (v := .int .i64 6) (fun _ _ _ => dd_ari rfl rfl (H46.ev 29 rfl) rfl (by decide)) fun a47 H47 => ht_ H47 5 hx42 rfl rfl (fun _ _ _ => xA 9 1 6 rfl (H47.ev 1 rfl) (H47.ev 30 rfl)) fun a48 H48 => ht_ H48 6 hx42 rfl rfl (fun _ _ HS9 => dd_get HS9 0 6 rfl rfl (H48.ev 31 rfl) (bs_get hq 6 (by decide)) Tryd.underlying5 rfl) fun a49 H49 => ?_
  clear HS36 H41 a41 H43 a43 H44 a44 H45 a45 H46 a46 H47 a47
  refine ht_ H49 7 hx42 rfl rfl (v := .int .i64 (bd (q.getD 6 0#8))) (fun _ _ _ => dd_conv (k := .i64) rfl (H49.ev 32 rfl) Tryd.underlying5 (by kernel_rfl) (i64_bdA _)) fun a50 H50 => ht_ H50 8 hx42 rfl rfl (fun _ _ _ => xS 1 1 rfl (H50.ev 27 rfl) (H50.ev 28 rfl)) fun a51 H51 => h1_ 9 rfl <| t_ rfl (fun _ h => dd_put (cs := #[.int .i64 (bd (q.getD 5 0#8)), .int .i64 (bd (q.getD 6 0#8)), .int .i64 0]) HSh42 2 1 rfl rfl (H51.ev 34 rfl) (H51.ev 33 rfl) (by kernel_rfl) rfl rfl rfl rfl h) fun W52 HS52 => sx_ (sxi HS52 [0, 1, 3, 2] rfl) fun hx53 => ?_
  clear H48 a48 H49 a49 H50 a50 HSh42 hx42
  refine wpAnyH_done (by kernel_rfl) ?_ _
  clear hx53
  refine bn <| nx <| rl_ <| wl_ <| i_ H51 rfl (v := .int .i64 2) (dd_ari rfl (H51.ev 23 rfl) rfl rfl (by decide)) fun a54 H54 => wl_ <| p_ H54 rfl rfl fun a55 H55 => ln_ <| nx <| unr_go <| sq_ <| rl_ <| wl_ <| i_ H55 rfl (dd_cmp rfl (H55.ev 23 rfl) (H55.ev 22 rfl) (lt_t (by decide))) fun a56 H56 => ln_ <| nx <| sq_ <| ct_ H56 rfl <| wp_skip <| nx <| sq_ <| wp_block <| sq_ <| rl_ <| q_ H56 2 rfl fun a57 H57 => ln_ <| nx <| ?_
  clear H51 a51 H54 a54 H55 a55 H56 a56
  refine wi_ HS52 [0, 1, 3] rfl [0, 1, 3, 2] rfl fun HSh58 hx58 => ht_ H57 0 hx58 rfl rfl (fun _ _ _ => xf 1 1 rfl (H57.ev 5 rfl)) fun a59 H59 => ht_ H59 1 hx58 rfl rfl (fun _ _ HS9 => dd_get HS9 2 1 rfl rfl (H59.ev 26 rfl) rfl Tryd.underlying45 rfl) fun a60 H60 => hp_ H60 2 hx58 rfl rfl rfl fun a61 H61 => hp_ H61 3 hx58 rfl rfl rfl fun a62 H62 => ht_ H62 4 hx58 rfl rfl (v := .int .i64 7) (fun _ _ _ => dd_ari rfl rfl (H62.ev 29 rfl) rfl (by decide)) fun a63 H63 => ht_ H63 5 hx58 rfl rfl (fun _ _ _ => xA 9 1 7 rfl (H63.ev 1 rfl) (H63.ev 30 rfl)) fun a64 H64 => ht_ H64 6 hx58 rfl rfl (fun _ _ HS9 => dd_get HS9 0 7 rfl rfl (H64.ev 31 rfl) (bs_get hq 7 (by decide)) Tryd.underlying5 rfl) fun a65 H65 => ?_
  clear HS52 H57 a57 H59 a59 H60 a60 H61 a61 H62 a62 H63 a63
  refine ht_ H65 7 hx58 rfl rfl (v := .int .i64 (bd (q.getD 7 0#8))) (fun _ _ _ => dd_conv (k := .i64) rfl (H65.ev 32 rfl) Tryd.underlying5 (by kernel_rfl) (i64_bdA _)) fun a66 H66 => ht_ H66 8 hx58 rfl rfl (fun _ _ _ => xS 1 2 rfl (H66.ev 27 rfl) (H66.ev 28 rfl)) fun a67 H67 => h1_ 9 rfl <| t_ rfl (fun _ h => dd_put (cs := #[.int .i64 (bd (q.getD 5 0#8)), .int .i64 (bd (q.getD 6 0#8)), .int .i64 (bd (q.getD 7 0#8))]) HSh58 2 2 rfl rfl (H67.ev 34 rfl) (H67.ev 33 rfl) (by kernel_rfl) rfl rfl rfl rfl h) fun W68 HS68 => sx_ (sxi HS68 [0, 1, 3, 2] rfl) fun hx69 => ?_
  clear H64 a64 H65 a65 H66 a66 HSh58 hx58
  refine wpAnyH_done (by kernel_rfl) ?_ _
  clear hx69
  refine bn <| nx <| rl_ <| wl_ <| i_ H67 rfl (v := .int .i64 3) (dd_ari rfl (H67.ev 23 rfl) rfl rfl (by decide)) fun a70 H70 => wl_ <| p_ H70 rfl rfl fun a71 H71 => ln_ <| nx <| unr_go <| sq_ <| rl_ <| wl_ <| i_ H71 rfl (dd_cmp rfl (H71.ev 23 rfl) (H71.ev 22 rfl) (lt_f (by decide))) fun a72 H72 => ln_ <| nx <| sq_ <| cf_ H72 rfl <| wp_exit <| tx <| tx <| bx <| nx <| sq_ <| rl_ <| wl_ <| i_ H72 rfl (v := .agg #[.string (strB (cutN (q.take 4)).1), .slice (some ⟨g18, 0, none⟩) 3 3]) (dd_load HS68 3 0 rfl rfl (H72.ev 5 rfl) (slab_whole _) Tryd.underlying81 rfl (by kernel_rfl)) fun a73 H73 => wl_ <| t_ rfl (fun _ h => dd_setrow HS68 1 rfl rfl (H73.ev 2 rfl) (H73.ev 36 rfl) (by kernel_rfl) (rfl : #[.string (strB (cutN (q.take 4)).1), .slice (some ⟨g18, 0, none⟩) 3 3].size = 2) (rfl : #[.string (⟨#[]⟩), .slice none 0 0].size = 2) (one_l (ao_cons rfl (ao_cons rfl ao_nil))) h) fun W74 HS74 => ln_ <| ?_
  clear H67 a67 H70 a70 H71 a71 H72 a72 HS68
  have H75 := H73.sel [2] rfl
  refine nx <| wp_ret <| ret_run H75.env0 (res_c Tryd.results53 (H75.get 2 rfl) (HS74.row 1 rfl) Tryd.underlying81 rfl (by kernel_rfl)) <| ?_
  clear H73
  refine ⟨g18, ?_, st_fresh HS74 2 rfl, ?_, HS74.below⟩
  · rw [hL.1]; rfl
  · rw [hL.2]; exact HS74.row 2 rfl
set_option maxHeartbeats 800000 in
theorem frombytes4 (q : List (BitVec 8)) (w : World) (hq : q.length = 9) (h4 : q.getD 4 0#8 = 4#8) :
    Calls Tryd.prog 53 #[.agg (bs q)] w fun e w' => ∃ g, e = .returned (.agg #[.string (strB (volQ q).1), .slice (some ⟨g, 0, none⟩) (fromL q).length (fromL q).length]) ∧ w.heap.size ≤ g ∧ Row w' g 3 (intsV (fromL q)).toArray ∧ Below w.heap.size w w' := by
  have HS := St.nil w noF
  have hL : (fromL q).length = 4 ∧ (intsV (fromL q)).toArray = #[.int .i64 (bd (q.getD 5 0#8)), .int .i64 (bd (q.getD 6 0#8)), .int .i64 (bd (q.getD 7 0#8)), .int .i64 (bd (q.getD 8 0#8))] := by
    have hm : min (q.getD 4 0#8).toNat 4 = 4 := by rw [h4]; rfl
    unfold fromL
    rw [hm]
    obtain ⟨a, b, c, d, e, f, g, i, j, rfl⟩ := list_9 hq
    exact ⟨rfl, rfl⟩
  refine enter_en Tryd.func53 rfl Tryd.ntmps53 (Nat.le_of_ble_eq_true rfl) fun a0 (HA0 : En 37 [(0, .agg (bs q))] a0) => ?_
  refine sq_ <| rl_ <| wl_ <| n_ HA0 rfl (fun _ h => dd_box HS rfl (HA0.ev 0 rfl) (cs := (bs q)) rfl h) fun g1 W1 HS1 a1 H1 => wl_ <| n_ H1 rfl (fun _ h => dd_new HS1 #[.string (⟨#[]⟩), .slice none 0 0] rfl (z := .agg #[.string (⟨#[]⟩), .slice none 0 0]) (by kernel_rfl) rfl h) fun g2 W2 HS2 a2 H2 => ln_ <| nx <| sq_ <| rl_ <| wl_ <| i_ H2 rfl (v := .slice (some ⟨g1, 0, none⟩) 9 9) (dd_slAl (l := 0) (n := 9) (sz := 1) (j := 0) rfl (H2.ev 1 rfl) rfl (by kernel_rfl) (by decide) (by rfl) rfl) fun a3 H3 => wl_ <| i_ H3 rfl (v := .pointer (some ⟨g1, 0, none⟩)) (dd_s2a (m := 4) (sz := 1) rfl (H3.ev 8 rfl) (by kernel_rfl) (by decide)) fun a4 H4 => wl_ <| i_ H4 rfl (v := .agg (bs (q.take 4))) (dd_load HS2 0 0 rfl rfl (H4.ev 9 rfl) (bs_slab0 hq 4 (by decide)) Tryd.underlying107 rfl (by rw [show (bs (q.take 4)).size = 4 from ((size_bs _).trans (len_take hq (by decide)))]; kernel_rfl)) fun a5 H5 => wl_ <| c_ H5 rfl HS2 (dcs Tryd.func60 rfl (args1 (H5.ev 10 rfl)) (cut_any (q.take 4) W2 (len_take hq (by decide))) (.tuple #[.string (strB (cutN (q.take 4)).1), .bool (cutN (q.take 4)).2])) fun W6 HS6 a6 H6 => wl_ <| p_ H6 rfl rfl fun a7 H7 => wl_ <| i_ H7 rfl (dd_ext rfl (H7.ev 7 rfl) rfl) fun a8 H8 => ?_
  clear HS HA0 a0 HS1 H1 a1 H2 a2 H3 a3 H4 a4 H5 a5 HS2 H6 a6
  refine wl_ <| i_ H8 rfl (dd_ext rfl (H8.ev 7 rfl) rfl) fun a9 H9 => q_ H9 2 rfl fun a10 H10 => ln_ <| nx <| sq_ <| rl_ <| wl_ <| p_ H10 rfl rfl fun a11 H11 => wl_ <| i_ H11 rfl (xA 9 1 4 rfl (H11.ev 1 rfl) rfl) fun a12 H12 => wl_ <| i_ H12 rfl (v := .int .u8 4) (dd_get HS6 0 4 rfl rfl (H12.ev 15 rfl) ((bs_get hq 4 (by decide)).trans (by rw [h4]; rfl)) Tryd.underlying5 rfl) fun a13 H13 => wl_ <| i_ H13 rfl (v := .int .u8 4) (dd_minF rfl (H13.ev 16 rfl) rfl (by decide)) fun a14 H14 => wl_ <| n_ H14 rfl (A := fun g18 => .slice (some ⟨g18, 0, none⟩) 4 4) (fun _ h => dd_mk HS6 rfl (H14.ev 17 rfl) (H14.ev 17 rfl) (z := .int .i64 0) (sz := 1) (bytes := 8) (cs := #[.int .i64 0, .int .i64 0, .int .i64 0, .int .i64 0]) Tryd.underlying45 (by kernel_rfl) (by decide) (by decide) (by decide) (by kernel_rfl) h) fun g18 W15 HS15 a15 H15 => wl_ <| i_ H15 rfl (v := .agg #[.string (strB (cutN (q.take 4)).1), .slice (some ⟨g18, 0, none⟩) 4 4]) (dd_bld rfl (ps := [(0, .string (strB (cutN (q.take 4)).1)), (1, .slice (some ⟨g18, 0, none⟩) 4 4)]) (pr1 (H15.ev 14 rfl) (pr1 (H15.ev 18 rfl) (pr0))) (Lz := [[.string (⟨#[]⟩)], [.slice none 0 0]]) (by kernel_rfl) (lens_cons rfl (lens_cons rfl (lens_nil))) (fit_cons (i := 0) rfl rfl (fit_cons (i := 1) rfl rfl (fit_nil))) (cs := #[.string (strB (cutN (q.take 4)).1), .slice (some ⟨g18, 0, none⟩) 4 4]) rfl) fun a16 H16 => ?_
  clear H7 a7 H8 a8 H9 a9 H10 a10 H11 a11 H12 a12 H13 a13 HS6 H14 a14
  refine wl_ <| n_ H16 rfl (fun _ h => dd_new HS15 #[.string (⟨#[]⟩), .slice none 0 0] rfl (z := .agg #[.string (⟨#[]⟩), .slice none 0 0]) (by kernel_rfl) rfl h) fun g5 W17 HS17 a17 H17 => wl_ <| t_ rfl (fun _ h => dd_setrow HS17 3 rfl rfl (H17.ev 5 rfl) (H17.ev 19 rfl) (by kernel_rfl) (rfl : #[.string (strB (cutN (q.take 4)).1), .slice (some ⟨g18, 0, none⟩) 4 4].size = 2) (rfl : #[.string (⟨#[]⟩), .slice none 0 0].size = 2) (one_l (ao_cons rfl (ao_cons rfl ao_nil))) h) fun W18 HS18 => ln_ <| ?_
  clear H15 a15 HS15 H16 a16 HS17
  have H19 := H17.sel [1, 2, 5] rfl
  refine nx <| sq_ <| sq_ <| rl_ <| wl_ <| i_ H19 rfl (xf 1 1 rfl (H19.ev 5 rfl)) fun a20 H20 => wl_ <| i_ H20 rfl (dd_get HS18 3 1 rfl rfl (H20.ev 20 rfl) rfl Tryd.underlying45 rfl) fun a21 H21 => wl_ <| i_ H21 rfl (v := .int .i64 4) (dd_len rfl (H21.ev 21 rfl) Tryd.underlying45) fun a22 H22 => wl_ <| p_ H22 rfl rfl fun a23 H23 => ln_ <| nx <| wp_block <| wp_unr 5 <| unr_go <| sq_ <| rl_ <| wl_ <| i_ H23 rfl (dd_cmp rfl (H23.ev 23 rfl) (H23.ev 22 rfl) (lt_t (by decide))) fun a24 H24 => ln_ <| nx <| sq_ <| ct_ H24 rfl <| wp_skip <| nx <| sq_ <| wp_block <| sq_ <| rl_ <| q_ H24 2 rfl fun a25 H25 => ln_ <| nx <| ?_
  clear H17 H19 a17 H20 a20 H21 a21 H22 a22 H23 a23 H24 a24
  refine wi_ HS18 [0, 1, 3] rfl [0, 1, 3, 2] rfl fun HSh26 hx26 => ht_ H25 0 hx26 rfl rfl (fun _ _ _ => xf 1 1 rfl (H25.ev 5 rfl)) fun a27 H27 => ht_ H27 1 hx26 rfl rfl (fun _ _ HS9 => dd_get HS9 2 1 rfl rfl (H27.ev 26 rfl) rfl Tryd.underlying45 rfl) fun a28 H28 => hp_ H28 2 hx26 rfl rfl rfl fun a29 H29 => hp_ H29 3 hx26 rfl rfl rfl fun a30 H30 => ht_ H30 4 hx26 rfl rfl (v := .int .i64 5) (fun _ _ _ => dd_ari rfl rfl (H30.ev 29 rfl) rfl (by decide)) fun a31 H31 => ht_ H31 5 hx26 rfl rfl (fun _ _ _ => xA 9 1 5 rfl (H31.ev 1 rfl) (H31.ev 30 rfl)) fun a32 H32 => ht_ H32 6 hx26 rfl rfl (fun _ _ HS9 => dd_get HS9 0 5 rfl rfl (H32.ev 31 rfl) (bs_get hq 5 (by decide)) Tryd.underlying5 rfl) fun a33 H33 => ?_
  clear HS18 H25 a25 H27 a27 H28 a28 H29 a29 H30 a30 H31 a31
  refine ht_ H33 7 hx26 rfl rfl (v := .int .i64 (bd (q.getD 5 0#8))) (fun _ _ _ => dd_conv (k := .i64) rfl (H33.ev 32 rfl) Tryd.underlying5 (by kernel_rfl) (i64_bdA _)) fun a34 H34 => ht_ H34 8 hx26 rfl rfl (fun _ _ _ => xS 1 0 rfl (H34.ev 27 rfl) (H34.ev 28 rfl)) fun a35 H35 => h1_ 9 rfl <| t_ rfl (fun _ h => dd_put (cs := #[.int .i64 (bd (q.getD 5 0#8)), .int .i64 0, .int .i64 0, .int .i64 0]) HSh26 2 0 rfl rfl (H35.ev 34 rfl) (H35.ev 33 rfl) (by kernel_rfl) rfl rfl rfl rfl h) fun W36 HS36 => sx_ (sxi HS36 [0, 1, 3, 2] rfl) fun hx37 => ?_
  clear H32 a32 H33 a33 H34 a34 HSh26 hx26
  refine wpAnyH_done (by kernel_rfl) ?_ _
  clear hx37
  refine bn <| nx <| rl_ <| wl_ <| i_ H35 rfl (v := .int .i64 1) (dd_ari rfl (H35.ev 23 rfl) rfl rfl (by decide)) fun a38 H38 => wl_ <| p_ H38 rfl rfl fun a39 H39 => ln_ <| nx <| unr_go <| sq_ <| rl_ <| wl_ <| i_ H39 rfl (dd_cmp rfl (H39.ev 23 rfl) (H39.ev 22 rfl) (lt_t (by decide))) fun a40 H40 => ln_ <| nx <| sq_ <| ct_ H40 rfl <| wp_skip <| nx <| sq_ <| wp_block <| sq_ <| rl_ <| q_ H40 2 rfl fun a41 H41 => ln_ <| nx <| ?_
  clear H35 a35 H38 a38 H39 a39 H40 a40
  refine wi_ HS36 [0, 1, 3] rfl [0, 1, 3, 2] rfl fun HSh42 hx42 => ht_ H41 0 hx42 rfl rfl (fun _ _ _ => xf 1 1 rfl (H41.ev 5 rfl)) fun a43 H43 => ht_ H43 1 hx42 rfl rfl (fun _ _ HS9 => dd_get HS9 2 1 rfl rfl (H43.ev 26 rfl) rfl Tryd.underlying45 rfl) fun a44 H44 => hp_ H44 2 hx42 rfl rfl rfl fun a45 H45 => hp_ H45 3 hx42 rfl rfl rfl fun a46 H46 => ht_ H46 4 hx42 rfl rfl (v := .int .i64 6) (fun _ _ _ => dd_ari rfl rfl (H46.ev 29 rfl) rfl (by decide)) fun a47 H47 => ht_ H47 5 hx42 rfl rfl (fun _ _ _ => xA 9 1 6 rfl (H47.ev 1 rfl) (H47.ev 30 rfl)) fun a48 H48 => ht_ H48 6 hx42 rfl rfl (fun _ _ HS9 => dd_get HS9 0 6 rfl rfl (H48.ev 31 rfl) (bs_get hq 6 (by decide)) Tryd.underlying5 rfl) fun a49 H49 => ?_
  clear HS36 H41 a41 H43 a43 H44 a44 H45 a45 H46 a46 H47 a47
  refine ht_ H49 7 hx42 rfl rfl (v := .int .i64 (bd (q.getD 6 0#8))) (fun _ _ _ => dd_conv (k := .i64) rfl (H49.ev 32 rfl) Tryd.underlying5 (by kernel_rfl) (i64_bdA _)) fun a50 H50 => ht_ H50 8 hx42 rfl rfl (fun _ _ _ => xS 1 1 rfl (H50.ev 27 rfl) (H50.ev 28 rfl)) fun a51 H51 => h1_ 9 rfl <| t_ rfl (fun _ h => dd_put (cs := #[.int .i64 (bd (q.getD 5 0#8)), .int .i64 (bd (q.getD 6 0#8)), .int .i64 0, .int .i64 0]) HSh42 2 1 rfl rfl (H51.ev 34 rfl) (H51.ev 33 rfl) (by kernel_rfl) rfl rfl rfl rfl h) fun W52 HS52 => sx_ (sxi HS52 [0, 1, 3, 2] rfl) fun hx53 => ?_
  clear H48 a48 H49 a49 H50 a50 HSh42 hx42
  refine wpAnyH_done (by kernel_rfl) ?_ _
  clear hx53
  refine bn <| nx <| rl_ <| wl_ <| i_ H51 rfl (v := .int .i64 2) (dd_ari rfl (H51.ev 23 rfl) rfl rfl (by decide)) fun a54 H54 => wl_ <| p_ H54 rfl rfl fun a55 H55 => ln_ <| nx <| unr_go <| sq_ <| rl_ <| wl_ <| i_ H55 rfl (dd_cmp rfl (H55.ev 23 rfl) (H55.ev 22 rfl) (lt_t (by decide))) fun a56 H56 => ln_ <| nx <| sq_ <| ct_ H56 rfl <| wp_skip <| nx <| sq_ <| wp_block <| sq_ <| rl_ <| q_ H56 2 rfl fun a57 H57 => ln_ <| nx <| ?_
  clear H51 a51 H54 a54 H55 a55 H56 a56
  refine wi_ HS52 [0, 1, 3] rfl [0, 1, 3, 2] rfl fun HSh58 hx58 => ht_ H57 0 hx58 rfl rfl (fun _ _ _ => xf 1 1 rfl (H57.ev 5 rfl)) fun a59 H59 => ht_ H59 1 hx58 rfl rfl (fun _ _ HS9 => dd_get HS9 2 1 rfl rfl (H59.ev 26 rfl) rfl Tryd.underlying45 rfl) fun a60 H60 => hp_ H60 2 hx58 rfl rfl rfl fun a61 H61 => hp_ H61 3 hx58 rfl rfl rfl fun a62 H62 => ht_ H62 4 hx58 rfl rfl (v := .int .i64 7) (fun _ _ _ => dd_ari rfl rfl (H62.ev 29 rfl) rfl (by decide)) fun a63 H63 => ht_ H63 5 hx58 rfl rfl (fun _ _ _ => xA 9 1 7 rfl (H63.ev 1 rfl) (H63.ev 30 rfl)) fun a64 H64 => ht_ H64 6 hx58 rfl rfl (fun _ _ HS9 => dd_get HS9 0 7 rfl rfl (H64.ev 31 rfl) (bs_get hq 7 (by decide)) Tryd.underlying5 rfl) fun a65 H65 => ?_
  clear HS52 H57 a57 H59 a59 H60 a60 H61 a61 H62 a62 H63 a63
  refine ht_ H65 7 hx58 rfl rfl (v := .int .i64 (bd (q.getD 7 0#8))) (fun _ _ _ => dd_conv (k := .i64) rfl (H65.ev 32 rfl) Tryd.underlying5 (by kernel_rfl) (i64_bdA _)) fun a66 H66 => ht_ H66 8 hx58 rfl rfl (fun _ _ _ => xS 1 2 rfl (H66.ev 27 rfl) (H66.ev 28 rfl)) fun a67 H67 => h1_ 9 rfl <| t_ rfl (fun _ h => dd_put (cs := #[.int .i64 (bd (q.getD 5 0#8)), .int .i64 (bd (q.getD 6 0#8)), .int .i64 (bd (q.getD 7 0#8)), .int .i64 0]) HSh58 2 2 rfl rfl (H67.ev 34 rfl) (H67.ev 33 rfl) (by kernel_rfl) rfl rfl rfl rfl h) fun W68 HS68 => sx_ (sxi HS68 [0, 1, 3, 2] rfl) fun hx69 => ?_
  clear H64 a64 H65 a65 H66 a66 HSh58 hx58
  refine wpAnyH_done (by kernel_rfl) ?_ _
  clear hx69
  refine bn <| nx <| rl_ <| wl_ <| i_ H67 rfl (v := .int .i64 3) (dd_ari rfl (H67.ev 23 rfl) rfl rfl (by decide)) fun a70 H70 => wl_ <| p_ H70 rfl rfl fun a71 H71 => ln_ <| nx <| unr_go <| sq_ <| rl_ <| wl_ <| i_ H71 rfl (dd_cmp rfl (H71.ev 23 rfl) (H71.ev 22 rfl) (lt_t (by decide))) fun a72 H72 => ln_ <| nx <| sq_ <| ct_ H72 rfl <| wp_skip <| nx <| sq_ <| wp_block <| sq_ <| rl_ <| q_ H72 2 rfl fun a73 H73 => ln_ <| nx <| ?_
  clear H67 a67 H70 a70 H71 a71 H72 a72
  refine wi_ HS68 [0, 1, 3] rfl [0, 1, 3, 2] rfl fun HSh74 hx74 => ht_ H73 0 hx74 rfl rfl (fun _ _ _ => xf 1 1 rfl (H73.ev 5 rfl)) fun a75 H75 => ht_ H75 1 hx74 rfl rfl (fun _ _ HS9 => dd_get HS9 2 1 rfl rfl (H75.ev 26 rfl) rfl Tryd.underlying45 rfl) fun a76 H76 => hp_ H76 2 hx74 rfl rfl rfl fun a77 H77 => hp_ H77 3 hx74 rfl rfl rfl fun a78 H78 => ht_ H78 4 hx74 rfl rfl (v := .int .i64 8) (fun _ _ _ => dd_ari rfl rfl (H78.ev 29 rfl) rfl (by decide)) fun a79 H79 => ht_ H79 5 hx74 rfl rfl (fun _ _ _ => xA 9 1 8 rfl (H79.ev 1 rfl) (H79.ev 30 rfl)) fun a80 H80 => ht_ H80 6 hx74 rfl rfl (fun _ _ HS9 => dd_get HS9 0 8 rfl rfl (H80.ev 31 rfl) (bs_get hq 8 (by decide)) Tryd.underlying5 rfl) fun a81 H81 => ?_
  clear HS68 H73 a73 H75 a75 H76 a76 H77 a77 H78 a78 H79 a79
  refine ht_ H81 7 hx74 rfl rfl (v := .int .i64 (bd (q.getD 8 0#8))) (fun _ _ _ => dd_conv (k := .i64) rfl (H81.ev 32 rfl) Tryd.underlying5 (by kernel_rfl) (i64_bdA _)) fun a82 H82 => ht_ H82 8 hx74 rfl rfl (fun _ _ _ => xS 1 3 rfl (H82.ev 27 rfl) (H82.ev 28 rfl)) fun a83 H83 => h1_ 9 rfl <| t_ rfl (fun _ h => dd_put (cs := #[.int .i64 (bd (q.getD 5 0#8)), .int .i64 (bd (q.getD 6 0#8)), .int .i64 (bd (q.getD 7 0#8)), .int .i64 (bd (q.getD 8 0#8))]) HSh74 2 3 rfl rfl (H83.ev 34 rfl) (H83.ev 33 rfl) (by kernel_rfl) rfl rfl rfl rfl h) fun W84 HS84 => sx_ (sxi HS84 [0, 1, 3, 2] rfl) fun hx85 => ?_
  clear H80 a80 H81 a81 H82 a82 HSh74 hx74
  refine wpAnyH_done (by kernel_rfl) ?_ _
  clear hx85
  refine bn <| nx <| rl_ <| wl_ <| i_ H83 rfl (v := .int .i64 4) (dd_ari rfl (H83.ev 23 rfl) rfl rfl (by decide)) fun a86 H86 => wl_ <| p_ H86 rfl rfl fun a87 H87 => ln_ <| nx <| unr_go <| sq_ <| rl_ <| wl_ <| i_ H87 rfl (dd_cmp rfl (H87.ev 23 rfl) (H87.ev 22 rfl) (lt_f (by decide))) fun a88 H88 => ln_ <| nx <| sq_ <| cf_ H88 rfl <| wp_exit <| tx <| tx <| bx <| nx <| sq_ <| rl_ <| wl_ <| i_ H88 rfl (v := .agg #[.string (strB (cutN (q.take 4)).1), .slice (some ⟨g18, 0, none⟩) 4 4]) (dd_load HS84 3 0 rfl rfl (H88.ev 5 rfl) (slab_whole _) Tryd.underlying81 rfl (by kernel_rfl)) fun a89 H89 => wl_ <| t_ rfl (fun _ h => dd_setrow HS84 1 rfl rfl (H89.ev 2 rfl) (H89.ev 36 rfl) (by kernel_rfl) (rfl : #[.string (strB (cutN (q.take 4)).1), .slice (some ⟨g18, 0, none⟩) 4 4].size = 2) (rfl : #[.string (⟨#[]⟩), .slice none 0 0].size = 2) (one_l (ao_cons rfl (ao_cons rfl ao_nil))) h) fun W90 HS90 => ln_ <| ?_
  clear H83 a83 H86 a86 H87 a87 H88 a88 HS84
  have H91 := H89.sel [2] rfl
  refine nx <| wp_ret <| ret_run H91.env0 (res_c Tryd.results53 (H91.get 2 rfl) (HS90.row 1 rfl) Tryd.underlying81 rfl (by kernel_rfl)) <| ?_
  clear H89
  refine ⟨g18, ?_, st_fresh HS90 2 rfl, ?_, HS90.below⟩
  · rw [hL.1]; rfl
  · rw [hL.2]; exact HS90.row 2 rfl
set_option maxHeartbeats 800000 in
theorem frombytes5 (q : List (BitVec 8)) (w : World) (hq : q.length = 9) (h4 : (4 : Int) < bd (q.getD 4 0#8)) :
    Calls Tryd.prog 53 #[.agg (bs q)] w fun e w' => ∃ g, e = .returned (.agg #[.string (strB (volQ q).1), .slice (some ⟨g, 0, none⟩) (fromL q).length (fromL q).length]) ∧ w.heap.size ≤ g ∧ Row w' g 3 (intsV (fromL q)).toArray ∧ Below w.heap.size w w' := by
  have HS := St.nil w noF
  have hL : (fromL q).length = 4 ∧ (intsV (fromL q)).toArray = #[.int .i64 (bd (q.getD 5 0#8)), .int .i64 (bd (q.getD 6 0#8)), .int .i64 (bd (q.getD 7 0#8)), .int .i64 (bd (q.getD 8 0#8))] := by
    have hm : min (q.getD 4 0#8).toNat 4 = 4 := by unfold bd at h4; omega
    unfold fromL
    rw [hm]
    obtain ⟨a, b, c, d, e, f, g, i, j, rfl⟩ := list_9 hq
    exact ⟨rfl, rfl⟩
  refine enter_en Tryd.func53 rfl Tryd.ntmps53 (Nat.le_of_ble_eq_true rfl) fun a0 (HA0 : En 37 [(0, .agg (bs q))] a0) => ?_
  refine sq_ <| rl_ <| wl_ <| n_ HA0 rfl (fun _ h => dd_box HS rfl (HA0.ev 0 rfl) (cs := (bs q)) rfl h) fun g1 W1 HS1 a1 H1 => wl_ <| n_ H1 rfl (fun _ h => dd_new HS1 #[.string (⟨#[]⟩), .slice none 0 0] rfl (z := .agg #[.string (⟨#[]⟩), .slice none 0 0]) (by kernel_rfl) rfl h) fun g2 W2 HS2 a2 H2 => ln_ <| nx <| sq_ <| rl_ <| wl_ <| i_ H2 rfl (v := .slice (some ⟨g1, 0, none⟩) 9 9) (dd_slAl (l := 0) (n := 9) (sz := 1) (j := 0) rfl (H2.ev 1 rfl) rfl (by kernel_rfl) (by decide) (by rfl) rfl) fun a3 H3 => wl_ <| i_ H3 rfl (v := .pointer (some ⟨g1, 0, none⟩)) (dd_s2a (m := 4) (sz := 1) rfl (H3.ev 8 rfl) (by kernel_rfl) (by decide)) fun a4 H4 => wl_ <| i_ H4 rfl (v := .agg (bs (q.take 4))) (dd_load HS2 0 0 rfl rfl (H4.ev 9 rfl) (bs_slab0 hq 4 (by decide)) Tryd.underlying107 rfl (by rw [show (bs (q.take 4)).size = 4 from ((size_bs _).trans (len_take hq (by decide)))]; kernel_rfl)) fun a5 H5 => wl_ <| c_ H5 rfl HS2 (dcs Tryd.func60 rfl (args1 (H5.ev 10 rfl)) (cut_any (q.take 4) W2 (len_take hq (by decide))) (.tuple #[.string (strB (cutN (q.take 4)).1), .bool (cutN (q.take 4)).2])) fun W6 HS6 a6 H6 => wl_ <| p_ H6 rfl rfl fun a7 H7 => wl_ <| i_ H7 rfl (dd_ext rfl (H7.ev 7 rfl) rfl) fun a8 H8 => ?_
  clear HS HA0 a0 HS1 H1 a1 H2 a2 H3 a3 H4 a4 H5 a5 HS2 H6 a6
  refine wl_ <| i_ H8 rfl (dd_ext rfl (H8.ev 7 rfl) rfl) fun a9 H9 => q_ H9 2 rfl fun a10 H10 => ln_ <| nx <| sq_ <| rl_ <| wl_ <| p_ H10 rfl rfl fun a11 H11 => wl_ <| i_ H11 rfl (xA 9 1 4 rfl (H11.ev 1 rfl) rfl) fun a12 H12 => wl_ <| i_ H12 rfl (dd_get HS6 0 4 rfl rfl (H12.ev 15 rfl) (bs_get hq 4 (by decide)) Tryd.underlying5 rfl) fun a13 H13 => wl_ <| i_ H13 rfl (v := .int .u8 4) (dd_minT rfl (H13.ev 16 rfl) rfl h4) fun a14 H14 => wl_ <| n_ H14 rfl (A := fun g18 => .slice (some ⟨g18, 0, none⟩) 4 4) (fun _ h => dd_mk HS6 rfl (H14.ev 17 rfl) (H14.ev 17 rfl) (z := .int .i64 0) (sz := 1) (bytes := 8) (cs := #[.int .i64 0, .int .i64 0, .int .i64 0, .int .i64 0]) Tryd.underlying45 (by kernel_rfl) (by decide) (by decide) (by decide) (by kernel_rfl) h) fun g18 W15 HS15 a15 H15 => wl_ <| i_ H15 rfl (v := .agg #[.string (strB (cutN (q.take 4)).1), .slice (some ⟨g18, 0, none⟩) 4 4]) (dd_bld rfl (ps := [(0, .string (strB (cutN (q.take 4)).1)), (1, .slice (some ⟨g18, 0, none⟩) 4 4)]) (pr1 (H15.ev 14 rfl) (pr1 (H15.ev 18 rfl) (pr0))) (Lz := [[.string (⟨#[]⟩)], [.slice none 0 0]]) (by kernel_rfl) (lens_cons rfl (lens_cons rfl (lens_nil))) (fit_cons (i := 0) rfl rfl (fit_cons (i := 1) rfl rfl (fit_nil))) (cs := #[.string (strB (cutN (q.take 4)).1), .slice (some ⟨g18, 0, none⟩) 4 4]) rfl) fun a16 H16 => ?_
  clear H7 a7 H8 a8 H9 a9 H10 a10 H11 a11 H12 a12 H13 a13 HS6 H14 a14
  refine wl_ <| n_ H16 rfl (fun _ h => dd_new HS15 #[.string (⟨#[]⟩), .slice none 0 0] rfl (z := .agg #[.string (⟨#[]⟩), .slice none 0 0]) (by kernel_rfl) rfl h) fun g5 W17 HS17 a17 H17 => wl_ <| t_ rfl (fun _ h => dd_setrow HS17 3 rfl rfl (H17.ev 5 rfl) (H17.ev 19 rfl) (by kernel_rfl) (rfl : #[.string (strB (cutN (q.take 4)).1), .slice (some ⟨g18, 0, none⟩) 4 4].size = 2) (rfl : #[.string (⟨#[]⟩), .slice none 0 0].size = 2) (one_l (ao_cons rfl (ao_cons rfl ao_nil))) h) fun W18 HS18 => ln_ <| ?_
  clear H15 a15 HS15 H16 a16 HS17
  have H19 := H17.sel [1, 2, 5] rfl
  refine nx <| sq_ <| sq_ <| rl_ <| wl_ <| i_ H19 rfl (xf 1 1 rfl (H19.ev 5 rfl)) fun a20 H20 => wl_ <| i_ H20 rfl (dd_get HS18 3 1 rfl rfl (H20.ev 20 rfl) rfl Tryd.underlying45 rfl) fun a21 H21 => wl_ <| i_ H21 rfl (v := .int .i64 4) (dd_len rfl (H21.ev 21 rfl) Tryd.underlying45) fun a22 H22 => wl_ <| p_ H22 rfl rfl fun a23 H23 => ln_ <| nx <| wp_block <| wp_unr 5 <| unr_go <| sq_ <| rl_ <| wl_ <| i_ H23 rfl (dd_cmp rfl (H23.ev 23 rfl) (H23.ev 22 rfl) (lt_t (by decide))) fun a24 H24 => ln_ <| nx <| sq_ <| ct_ H24 rfl <| wp_skip <| nx <| sq_ <| wp_block <| sq_ <| rl_ <| q_ H24 2 rfl fun a25 H25 => ln_ <| nx <| ?_
  clear H17 H19 a17 H20 a20 H21 a21 H22 a22 H23 a23 H24 a24
  refine wi_ HS18 [0, 1, 3] rfl [0, 1, 3, 2] rfl fun HSh26 hx26 => ht_ H25 0 hx26 rfl rfl (fun _ _ _ => xf 1 1 rfl (H25.ev 5 rfl)) fun a27 H27 => ht_ H27 1 hx26 rfl rfl (fun _ _ HS9 => dd_get HS9 2 1 rfl rfl (H27.ev 26 rfl) rfl Tryd.underlying45 rfl) fun a28 H28 => hp_ H28 2 hx26 rfl rfl rfl fun a29 H29 => hp_ H29 3 hx26 rfl rfl rfl fun a30 H30 => ht_ H30 4 hx26 rfl rfl (v := .int .i64 5) (fun _ _ _ => dd_ari rfl rfl (H30.ev 29 rfl) rfl (by decide)) fun a31 H31 => ht_ H31 5 hx26 rfl rfl (fun _ _ _ => xA 9 1 5 rfl (H31.ev 1 rfl) (H31.ev 30 rfl)) fun a32 H32 => ht_ H32 6 hx26 rfl rfl (fun _ _ HS9 => dd_get HS9 0 5 rfl rfl (H32.ev 31 rfl) (bs_get hq 5 (by decide)) Tryd.underlying5 rfl) fun a33 H33 => ?_
  clear HS18 H25 a25 H27 a27 H28 a28 H29 a29 H30 a30 H31 a31
  refine ht_ H33 7 hx26 rfl rfl (v := .int .i64 (bd (q.getD 5 0#8))) (fun _ _ _ => dd_conv (k := .i64) rfl (H33.ev 32 rfl) Tryd.underlying5 (by kernel_rfl) (i64_bdA _)) fun a34 H34 => ht_ H34 8 hx26 rfl rfl (fun _ _ _ => xS 1 0 rfl (H34.ev 27 rfl) (H34.ev 28 rfl)) fun a35 H35 => h1_ 9 rfl <| t_ rfl (fun _ h => dd_put (cs := #[.int .i64 (bd (q.getD 5 0#8)), .int .i64 0, .int .i64 0, .int .i64 0]) HSh26 2 0 rfl rfl (H35.ev 34 rfl) (H35.ev 33 rfl) (by kernel_rfl) rfl rfl rfl rfl h) fun W36 HS36 => sx_ (sxi HS36 [0, 1, 3, 2] rfl) fun hx37 => ?_
  clear H32 a32 H33 a33 H34 a34 HSh26 hx26
  refine wpAnyH_done (by kernel_rfl) ?_ _
  clear hx37
  refine bn <| nx <| rl_ <| wl_ <| i_ H35 rfl (v := .int .i64 1) (dd_ari rfl (H35.ev 23 rfl) rfl rfl (by decide)) fun a38 H38 => wl_ <| p_ H38 rfl rfl fun a39 H39 => ln_ <| nx <| unr_go <| sq_ <| rl_ <| wl_ <| i_ H39 rfl (dd_cmp rfl (H39.ev 23 rfl) (H39.ev 22 rfl) (lt_t (by decide))) fun a40 H40 => ln_ <| nx <| sq_ <| ct_ H40 rfl <| wp_skip <| nx <| sq_ <| wp_block <| sq_ <| rl_ <| q_ H40 2 rfl fun a41 H41 => ln_ <| nx <| ?_
  clear H35 a35 H38 a38 H39 a39 H40 a40
  refine wi_ HS36 [0, 1, 3] rfl [0, 1, 3, 2] rfl fun HSh42 hx42 => ht_ H41 0 hx42 rfl rfl (fun _ _ _ => xf 1 1 rfl (H41.ev 5 rfl)) fun a43 H43 => ht_ H43 1 hx42 rfl rfl (fun _ _ HS9 => dd_get HS9 2 1 rfl rfl (H43.ev 26 rfl) rfl Tryd.underlying45 rfl) fun a44 H44 => hp_ H44 2 hx42 rfl rfl rfl fun a45 H45 => hp_ H45 3 hx42 rfl rfl rfl fun a46 H46 => ht_ H46 4 hx42 rfl rfl (v := .int .i64 6) (fun _ _ _ => dd_ari rfl rfl (H46.ev 29 rfl) rfl (by decide)) fun a47 H47 => ht_ H47 5 hx42 rfl rfl (fun _ _ _ => xA 9 1 6 rfl (H47.ev 1 rfl) (H47.ev 30 rfl)) fun a48 H48 => ht_ H48 6 hx42 rfl rfl (fun _ _ HS9 => dd_get HS9 0 6 rfl rfl (H48.ev 31 rfl) (bs_get hq 6 (by decide)) Tryd.underlying5 rfl) fun a49 H49 => ?_
  clear HS36 H41 a41 H43 a43 H44 a44 H45 a45 H46 a46 H47 a47
  refine ht_ H49 7 hx42 rfl rfl (v := .int .i64 (bd (q.getD 6 0#8))) (fun _ _ _ => dd_conv (k := .i64) rfl (H49.ev 32 rfl) Tryd.underlying5 (by kernel_rfl) (i64_bdA _)) fun a50 H50 => ht_ H50 8 hx42 rfl rfl (fun _ _ _ => xS 1 1 rfl (H50.ev 27 rfl) (H50.ev 28 rfl)) fun a51 H51 => h1_ 9 rfl <| t_ rfl (fun _ h => dd_put (cs := #[.int .i64 (bd (q.getD 5 0#8)), .int .i64 (bd (q.getD 6 0#8)), .int .i64 0, .int .i64 0]) HSh42 2 1 rfl rfl (H51.ev 34 rfl) (H51.ev 33 rfl) (by kernel_rfl) rfl rfl rfl rfl h) fun W52 HS52 => sx_ (sxi HS52 [0, 1, 3, 2] rfl) fun hx53 => ?_
  clear H48 a48 H49 a49 H50 a50 HSh42 hx42
  refine wpAnyH_done (by kernel_rfl) ?_ _
  clear hx53
  refine bn <| nx <| rl_ <| wl_ <| i_ H51 rfl (v := .int .i64 2) (dd_ari rfl (H51.ev 23 rfl) rfl rfl (by decide)) fun a54 H54 => wl_ <| p_ H54 rfl rfl fun a55 H55 => ln_ <| nx <| unr_go <| sq_ <| rl_ <| wl_ <| i_ H55 rfl (dd_cmp rfl (H55.ev 23 rfl) (H55.ev 22 rfl) (lt_t (by decide))) fun a56 H56 => ln_ <| nx <| sq_ <| ct_ H56 rfl <| wp_skip <| nx <| sq_ <| wp_block <| sq_ <| rl_ <| q_ H56 2 rfl fun a57 H57 => ln_ <| nx <| ?_
  clear H51 a51 H54 a54 H55 a55 H56 a56
  refine wi_ HS52 [0, 1, 3] rfl [0, 1, 3, 2] rfl fun HSh58 hx58 => ht_ H57 0 hx58 rfl rfl (fun _ _ _ => xf 1 1 rfl (H57.ev 5 rfl)) fun a59 H59 => ht_ H59 1 hx58 rfl rfl (fun _ _ HS9 => dd_get HS9 2 1 rfl rfl (H59.ev 26 rfl) rfl Tryd.underlying45 rfl) fun a60 H60 => hp_ H60 2 hx58 rfl rfl rfl fun a61 H61 => hp_ H61 3 hx58 rfl rfl rfl fun a62 H62 => ht_ H62 4 hx58 rfl rfl (v := .int .i64 7) (fun _ _ _ => dd_ari rfl rfl (H62.ev 29 rfl) rfl (by decide)) fun a63 H63 => ht_ H63 5 hx58 rfl rfl (fun _ _ _ => xA 9 1 7 rfl (H63.ev 1 rfl) (H63.ev 30 rfl)) fun a64 H64 => ht_ H64 6 hx58 rfl rfl (fun _ _ HS9 => dd_get HS9 0 7 rfl rfl (H64.ev 31 rfl) (bs_get hq 7 (by decide)) Tryd.underlying5 rfl) fun a65 H65 => ?_
  clear HS52 H57 a57 H59 a59 H60 a60 H61 a61 H62 a62 H63 a63
  refine ht_ H65 7 hx58 rfl rfl (v := .int .i64 (bd (q.getD 7 0#8))) (fun _ _ _ => dd_conv (k := .i64) rfl (H65.ev 32 rfl) Tryd.underlying5 (by kernel_rfl) (i64_bdA _)) fun a66 H66 => ht_ H66 8 hx58 rfl rfl (fun _ _ _ => xS 1 2 rfl (H66.ev 27 rfl) (H66.ev 28 rfl)) fun a67 H67 => h1_ 9 rfl <| t_ rfl (fun _ h => dd_put (cs := #[.int .i64 (bd (q.getD 5 0#8)), .int .i64 (bd (q.getD 6 0#8)), .int .i64 (bd (q.getD 7 0#8)), .int .i64 0]) HSh58 2 2 rfl rfl (H67.ev 34 rfl) (H67.ev 33 rfl) (by kernel_rfl) rfl rfl rfl rfl h) fun W68 HS68 => sx_ (sxi HS68 [0, 1, 3, 2] rfl) fun hx69 => ?_
  clear H64 a64 H65 a65 H66 a66 HSh58 hx58
  refine wpAnyH_done (by kernel_rfl) ?_ _
  clear hx69
  refine bn <| nx <| rl_ <| wl_ <| i_ H67 rfl (v := .int .i64 3) (dd_ari rfl (H67.ev 23 rfl) rfl rfl (by decide)) fun a70 H70 => wl_ <| p_ H70 rfl rfl fun a71 H71 => ln_ <| nx <| unr_go <| sq_ <| rl_ <| wl_ <| i_ H71 rfl (dd_cmp rfl (H71.ev 23 rfl) (H71.ev 22 rfl) (lt_t (by decide))) fun a72 H72 => ln_ <| nx <| sq_ <| ct_ H72 rfl <| wp_skip <| nx <| sq_ <| wp_block <| sq_ <| rl_ <| q_ H72 2 rfl fun a73 H73 => ln_ <| nx <| ?_
  clear H67 a67 H70 a70 H71 a71 H72 a72
  refine wi_ HS68 [0, 1, 3] rfl [0, 1, 3, 2] rfl fun HSh74 hx74 => ht_ H73 0 hx74 rfl rfl (fun _ _ _ => xf 1 1 rfl (H73.ev 5 rfl)) fun a75 H75 => ht_ H75 1 hx74 rfl rfl (fun _ _ HS9 => dd_get HS9 2 1 rfl rfl (H75.ev 26 rfl) rfl Tryd.underlying45 rfl) fun a76 H76 => hp_ H76 2 hx74 rfl rfl rfl fun a77 H77 => hp_ H77 3 hx74 rfl rfl rfl fun a78 H78 => ht_ H78 4 hx74 rfl rfl (v := .int .i64 8) (fun _ _ _ => dd_ari rfl rfl (H78.ev 29 rfl) rfl (by decide)) fun a79 H79 => ht_ H79 5 hx74 rfl rfl (fun _ _ _ => xA 9 1 8 rfl (H79.ev 1 rfl) (H79.ev 30 rfl)) fun a80 H80 => ht_ H80 6 hx74 rfl rfl (fun _ _ HS9 => dd_get HS9 0 8 rfl rfl (H80.ev 31 rfl) (bs_get hq 8 (by decide)) Tryd.underlying5 rfl) fun a81 H81 => ?_
  clear HS68 H73 a73 H75 a75 H76 a76 H77 a77 H78 a78 H79 a79
  refine ht_ H81 7 hx74 rfl rfl (v := .int .i64 (bd (q.getD 8 0#8))) (fun _ _ _ => dd_conv (k := .i64) rfl (H81.ev 32 rfl) Tryd.underlying5 (by kernel_rfl) (i64_bdA _)) fun a82 H82 => ht_ H82 8 hx74 rfl rfl (fun _ _ _ => xS 1 3 rfl (H82.ev 27 rfl) (H82.ev 28 rfl)) fun a83 H83 => h1_ 9 rfl <| t_ rfl (fun _ h => dd_put (cs := #[.int .i64 (bd (q.getD 5 0#8)), .int .i64 (bd (q.getD 6 0#8)), .int .i64 (bd (q.getD 7 0#8)), .int .i64 (bd (q.getD 8 0#8))]) HSh74 2 3 rfl rfl (H83.ev 34 rfl) (H83.ev 33 rfl) (by kernel_rfl) rfl rfl rfl rfl h) fun W84 HS84 => sx_ (sxi HS84 [0, 1, 3, 2] rfl) fun hx85 => ?_
  clear H80 a80 H81 a81 H82 a82 HSh74 hx74
  refine wpAnyH_done (by kernel_rfl) ?_ _
  clear hx85
  refine bn <| nx <| rl_ <| wl_ <| i_ H83 rfl (v := .int .i64 4) (dd_ari rfl (H83.ev 23 rfl) rfl rfl (by decide)) fun a86 H86 => wl_ <| p_ H86 rfl rfl fun a87 H87 => ln_ <| nx <| unr_go <| sq_ <| rl_ <| wl_ <| i_ H87 rfl (dd_cmp rfl (H87.ev 23 rfl) (H87.ev 22 rfl) (lt_f (by decide))) fun a88 H88 => ln_ <| nx <| sq_ <| cf_ H88 rfl <| wp_exit <| tx <| tx <| bx <| nx <| sq_ <| rl_ <| wl_ <| i_ H88 rfl (v := .agg #[.string (strB (cutN (q.take 4)).1), .slice (some ⟨g18, 0, none⟩) 4 4]) (dd_load HS84 3 0 rfl rfl (H88.ev 5 rfl) (slab_whole _) Tryd.underlying81 rfl (by kernel_rfl)) fun a89 H89 => wl_ <| t_ rfl (fun _ h => dd_setrow HS84 1 rfl rfl (H89.ev 2 rfl) (H89.ev 36 rfl) (by kernel_rfl) (rfl : #[.string (strB (cutN (q.take 4)).1), .slice (some ⟨g18, 0, none⟩) 4 4].size = 2) (rfl : #[.string (⟨#[]⟩), .slice none 0 0].size = 2) (one_l (ao_cons rfl (ao_cons rfl ao_nil))) h) fun W90 HS90 => ln_ <| ?_
  clear H83 a83 H86 a86 H87 a87 H88 a88 HS84
  have H91 := H89.sel [2] rfl
  refine nx <| wp_ret <| ret_run H91.env0 (res_c Tryd.results53 (H91.get 2 rfl) (HS90.row 1 rfl) Tryd.underlying81 rfl (by kernel_rfl)) <| ?_
  clear H89
  refine ⟨g18, ?_, st_fresh HS90 2 rfl, ?_, HS90.below⟩
  · rw [hL.1]; rfl
  · rw [hL.2]; exact HS90.row 2 rfl
theorem frombytes_any (q : List (BitVec 8)) (w : World) (hq : q.length = 9) :
    Calls Tryd.prog 53 #[.agg (bs q)] w fun e w' => ∃ g, e = .returned (.agg #[.string (strB (volQ q).1), .slice (some ⟨g, 0, none⟩) (fromL q).length (fromL q).length]) ∧ w.heap.size ≤ g ∧ Row w' g 3 (intsV (fromL q)).toArray ∧ Below w.heap.size w w' := by
  have hb := bd_lo (q.getD 4 0#8)
  by_cases h : (4 : Int) < bd (q.getD 4 0#8)
  · exact frombytes5 q w hq h
  have e : q.getD 4 0#8 = BitVec.ofInt 8 (bd (q.getD 4 0#8)) := bd_inj (bd_of _ hb (by omega))
  rcases (by omega : bd (q.getD 4 0#8) = 0 ∨ bd (q.getD 4 0#8) = 1 ∨ bd (q.getD 4 0#8) = 2 ∨ bd (q.getD 4 0#8) = 3 ∨ bd (q.getD 4 0#8) = 4) with h | h | h | h | h <;> rw [h] at e
  · exact frombytes0 q w hq e
  · exact frombytes1 q w hq e
  · exact frombytes2 q w hq e
  · exact frombytes3 q w hq e
  · exact frombytes4 q w hq e
end Go.Proofs.YtnmaplgodimohaaDoor

/- May volumes be: the program's. -/
set_option maxRecDepth 4000
namespace Go.Proofs.YtnmaplgodimohaaDoor
open Go Go.RowKit
theorem find_any (A : Option Addr) (n c : Nat) (q : List (BitVec 8)) (l : List Tv) (w : World) (hv : VolsAt w (.slice A n c) (volL l)) (hn : n ≤ 1000000) :
    Calls Tryd.prog 36 #[.string (strB q), .slice A n c] w fun e w' => e = .returned (.int .i64 (findI q l)) ∧ Below w.heap.size w w' := by
  by_cases h0 : n = 0
  · subst h0
    have hln : l.length = 0 := by rw [← len_volL]; exact vols_len hv
    have HS := St.nil w noF
    refine enter_en Tryd.func36 rfl Tryd.ntmps36 (Nat.le_of_ble_eq_true rfl) fun a0 (HA0 : En 20 [(0, .string (strB q)), (1, .slice A 0 c)] a0) => ?_
    refine sq_ <| rl_ <| wl_ <| p_ HA0 rfl rfl fun a1 H1 => ln_ <| nx <| sq_ <| sq_ <| rl_ <| wl_ <| p_ H1 rfl rfl fun a2 H2 => wl_ <| i_ H2 rfl (v := .int .i64 0) (dd_len rfl (H2.ev 7 rfl) Tryd.underlying75) fun a3 H3 => wl_ <| p_ H3 rfl rfl fun a4 H4 => ln_ <| nx <| wp_block <| wp_unr 1 <| unr_go <| sq_ <| rl_ <| wl_ <| i_ H4 rfl (dd_cmp rfl (H4.ev 9 rfl) (H4.ev 8 rfl) (lt_f (by decide))) fun a5 H5 => ln_ <| nx <| sq_ <| cf_ H5 rfl <| wp_exit <| tx <| tx <| bx <| nx <| sq_ <| rl_ <| wl_ <| p_ H5 rfl rfl fun a6 H6 => ln_ <| nx <| wp_ret <| ret_run H6.env0 (res_t Tryd.results36 (H6.get 4 rfl)) <| ?_
    clear HA0 a0 H1 a1 H2 a2 H3 a3 H4 a4 H5 a5
    exact ⟨by rw [findI_none (fun j hj => absurd hj (by omega))], HS.below⟩
  · obtain ⟨b, o, rfl⟩ := vols_some hv (by omega)
    exact find_pos b o n c q l w hv hn
/- may volumes be -/
def okT (l : List Tv) (i : Nat) (x : Tv) : Bool := goodN x.1 && (decide (findI x.1 l = (i : Int)) && (decide (1 ≤ x.2.length) && decide (x.2.length ≤ 4)))
def sumT (l : List Tv) : Nat := (l.map (·.2.length)).sum
def freeT (l : List Tv) : Nat := (freeL (usedV (volL l))).length
def goodT (l : List Tv) : Bool := decide (l.length ≤ 3) && (l.zipIdx.all (fun x => okT l x.2 x.1) && decide ((11 : Int) - (freeT l : Int) = (sumT l : Int)))
theorem goodT_long {l : List Tv} (h : 3 < l.length) : goodT l = false := by unfold goodT; rw [decide_eq_false (by omega)]; rfl
theorem goodT_no {l : List Tv} {k : Nat} {x : Tv} (hk : l[k]? = some x) (h : okT l k x = false) : goodT l = false := by
  have : l.zipIdx.all (fun x => okT l x.2 x.1) = false := by
    rw [List.all_eq_false]
    exact ⟨(x, k), List.mk_mem_zipIdx_iff_getElem?.2 hk, by simp [h]⟩
  unfold goodT
  rw [this]; simp
theorem goodT_is {l : List Tv} (h1 : l.length ≤ 3) (h2 : ∀ j, j < l.length → ∀ x, l[j]? = some x → okT l j x = true) {b : Bool} (h3 : decide ((11 : Int) - (freeT l : Int) = (sumT l : Int)) = b) : goodT l = b := by
  have : l.zipIdx.all (fun x => okT l x.2 x.1) = true := by
    rw [List.all_eq_true]
    rintro ⟨x, j⟩ hx
    have hj := List.mk_mem_zipIdx_iff_getElem?.1 hx
    exact h2 j (List.getElem?_eq_some_iff.1 hj).1 x hj
  unfold goodT
  rw [this, decide_eq_true h1, h3]; rfl
theorem goodT_parts {l : List Tv} (h : goodT l = true) : l.length ≤ 3 ∧ (∀ j x, l[j]? = some x → okT l j x = true) ∧ (11 : Int) - (freeT l : Int) = (sumT l : Int) := by
  unfold goodT at h
  simp only [Bool.and_eq_true, decide_eq_true_eq, List.all_eq_true] at h
  exact ⟨h.1, fun j x hj => h.2.1 (x, j) (List.mk_mem_zipIdx_iff_getElem?.2 hj), h.2.2⟩
theorem okT_parts {l : List Tv} {i : Nat} {x : Tv} (h : okT l i x = true) : goodN x.1 = true ∧ findI x.1 l = i ∧ 1 ≤ x.2.length ∧ x.2.length ≤ 4 := by
  unfold okT at h
  simp only [Bool.and_eq_true, decide_eq_true_eq] at h
  exact ⟨h.1, h.2.1, h.2.2.1, h.2.2.2⟩
theorem okT_of {l : List Tv} {i : Nat} {x : Tv} (h1 : goodN x.1 = true) (h2 : findI x.1 l = i) (h3 : 1 ≤ x.2.length) (h4 : x.2.length ≤ 4) : okT l i x = true := by
  unfold okT
  simp only [Bool.and_eq_true, decide_eq_true_eq]
  exact ⟨h1, h2, h3, h4⟩
theorem okT_no {l : List Tv} {i : Nat} {x : Tv} (h : ¬ (goodN x.1 = true ∧ findI x.1 l = i ∧ 1 ≤ x.2.length ∧ x.2.length ≤ 4)) : okT l i x = false := by
  cases hk : okT l i x with
  | false => rfl
  | true => exact (h (okT_parts hk)).elim
theorem sumT_succ {l : List Tv} {k : Nat} {x : Tv} (h : l[k]? = some x) : sumT (l.take (k + 1)) = sumT (l.take k) + x.2.length := by
  unfold sumT
  rw [List.take_add_one, h]
  simp
theorem step_ok {l : List Tv} {k : Nat} {x : Tv} (h : ∀ j, j < k → ∀ x, l[j]? = some x → okT l j x = true) (hg : l[k]? = some x) (hx : okT l k x = true) : ∀ j, j < k + 1 → ∀ x, l[j]? = some x → okT l j x = true := fun j hj y hy => by
  by_cases hjk : j = k
  · subst hjk
    rw [hg] at hy
    injection hy with hy
    subst hy
    exact hx
  · exact h j (by omega) y hy
theorem vols_lenB {l : List Tv} (h : ∀ x ∈ l, x.2.length ≤ 1000000) : ∀ x ∈ volL l, x.2.length ≤ 1000000 := fun x hx => by
  obtain ⟨y, hy, rfl⟩ := List.mem_map.1 hx
  exact h y hy
theorem freeT_le (l : List Tv) : freeT l ≤ 12 := by
  unfold freeT freeL
  rw [List.length_map]
  exact Nat.le_trans (List.length_filter_le _ _) (by simp)
theorem goodNs_oneT (q : List (BitVec 8)) : goodNs [q] = goodN q := by unfold goodNs; simp
theorem free_nil : ((freeL (usedV [])).length : Int) = 11 := by decide
set_option maxHeartbeats 1600000 in
theorem goodt_pos (b o n c : Nat) (l : List Tv) (w : World) (hv : VolsAt w (.slice (some ⟨b, o, none⟩) n c) (volL l)) (hn : n ≤ 1000000) (hml : ∀ x ∈ l, x.2.length ≤ 1000000) :
    Calls Tryd.prog 56 #[.slice (some ⟨b, o, none⟩) n c] w fun e w' => e = .returned (.bool (goodT l)) ∧ Below w.heap.size w w' := by
  have HS := St.nil w noF
  have HV : ∀ W, Below w.heap.size w W → VolsAt W (.slice (some ⟨b, o, none⟩) n c) (volL l) := fun W hb => hv.below hb (Nat.le_refl _)
  have hln : l.length = n := by rw [← len_volL]; exact vols_len hv
  have hfT := freeT_le l
  refine enter_en Tryd.func56 rfl Tryd.ntmps56 (Nat.le_of_ble_eq_true rfl) fun a0 (HA0 : En 51 [(0, .slice (some ⟨b, o, none⟩) n c)] a0) => ?_
  refine sq_ <| rl_ <| wl_ <| p_ HA0 rfl rfl fun a1 H1 => ln_ <| nx <| sq_ <| sq_ <| rl_ <| wl_ <| p_ H1 rfl rfl fun a2 H2 => wl_ <| i_ H2 rfl (v := .int .i64 n) (dd_len rfl (H2.ev 6 rfl) Tryd.underlying75) fun a3 H3 => ?_
  clear HA0 a0 H1 a1 H2 a2
  by_cases hc5 : (3 : Int) < n
  ·
   refine wl_ <| i_ H3 rfl (dd_cmp rfl (H3.ev 7 rfl) rfl (gt_t hc5)) fun a6 H6 => ln_ <| nx <| ct_ H6 rfl <| sq_ <| rl_ <| wl_ <| p_ H6 rfl rfl fun a7 H7 => ln_ <| nx <| wp_ret <| tr <| ret_run H7.env0 (res_t Tryd.results56 (H7.get 2 rfl)) <| ?_
   clear H3 a3 H6 a6
   exact ⟨by rw [goodT_long (by omega)], HS.below⟩
  ·
   refine wl_ <| i_ H3 rfl (dd_cmp rfl (H3.ev 7 rfl) rfl (gt_f hc5)) fun a8 H8 => ln_ <| nx <| cf_ H8 rfl <| wp_skip <| nx <| sq_ <| rl_ <| wl_ <| p_ H8 rfl rfl fun a9 H9 => ln_ <| nx <| sq_ <| sq_ <| rl_ <| wl_ <| p_ H9 rfl rfl fun a10 H10 => wl_ <| i_ H10 rfl (v := .int .i64 n) (dd_len rfl (H10.ev 9 rfl) Tryd.underlying75) fun a11 H11 => wl_ <| p_ H11 rfl rfl fun a12 H12 => ln_ <| nx <| wp_block <| ?_
   clear H3 a3 H8 a8 H9 a9 H10 a10 H11 a11
   refine wp_loopG (ι := Nat) (fun k a9 w9 => ∃ sb : Int, (k ≤ n) ∧ (∀ j, j < k → ∀ x, l[j]? = some x → okT l j x = true) ∧ (sb = (sumT (l.take k) : Int)) ∧ (0 ≤ sb ∧ sb ≤ 4 * (k : Nat)) ∧ En 51 [(11, .int .i64 k), (10, .int .i64 n), (9, .slice (some ⟨b, o, none⟩) n c), (3, .int .i64 sb), (0, .slice (some ⟨b, o, none⟩) n c)] a9 ∧ St w noF [] w9) (fun k => n - k) (0) ⟨0, Nat.zero_le _, (fun j hj => absurd hj (Nat.not_lt_zero _)), rfl, (by omega), H12.sel [0, 3, 9, 10, 11] rfl, ss HS []⟩ ?_
   clear H12 a12 HS
   rintro k aL13 wL13 ⟨sb, hk, hok, hsb, hsb2, HL13, HSL13⟩
   refine sq_ <| rl_ <| ?_
   by_cases hc15 : (k : Int) < n
   ·
    refine wl_ <| i_ HL13 rfl (dd_cmp rfl (HL13.ev 11 rfl) (HL13.ev 10 rfl) (lt_t hc15)) fun a16 H16 => ln_ <| nx <| sq_ <| ct_ H16 rfl <| wp_skip <| nx <| sq_ <| wp_block <| sq_ <| rl_ <| wl_ <| p_ H16 rfl rfl fun a17 H17 => wl_ <| i_ H17 rfl (xSo 2 (o + k * 2) rfl (H17.ev 9 rfl) (H17.ev 11 rfl)) fun a18 H18 => ?_
    clear HL13 aL13 H16 a16 H17 a17
    obtain ⟨p20, L20, B20, m20, c20, hg20, hr20, hi20, hm20, hp20⟩ := vols_getB (HV _ HSL13.below) (k := k) (by omega)
    refine wl_ <| i_ H18 rfl (v := .agg #[.string (strB p20), .slice B20 m20 c20]) (dd_atN rfl (H18.ev 14 rfl) hr20 Tryd.underlying81 rfl (by kernel_rfl)) fun a19 H19 => wl_ <| n_ H19 rfl (fun _ h => dd_new HSL13 #[.string (⟨#[]⟩), .slice none 0 0] rfl (z := .agg #[.string (⟨#[]⟩), .slice none 0 0]) (by kernel_rfl) rfl h) fun g5 W21 HS21 a21 H21 => wl_ <| p_ H21 rfl rfl fun a22 H22 => wl_ <| t_ rfl (fun _ h => dd_setrow HS21 0 rfl rfl (H22.ev 5 rfl) (H22.ev 15 rfl) (by kernel_rfl) (rfl : #[.string (strB p20), .slice B20 m20 c20].size = 2) (rfl : #[.string (⟨#[]⟩), .slice none 0 0].size = 2) (one_l (ao_cons rfl (ao_cons rfl ao_nil))) h) fun W23 HS23 => ln_ <| nx <| sq_ <| sq_ <| rl_ <| wl_ <| i_ H22 rfl (xf 0 0 rfl (H22.ev 5 rfl)) fun a24 H24 => wl_ <| i_ H24 rfl (dd_get HS23 0 0 rfl rfl (H24.ev 16 rfl) rfl Tryd.underlying9 rfl) fun a25 H25 => wl_ <| n_ H25 rfl (fun _ h => dd_lits HS23 #[.string (strB p20)] rfl (ps := [(0, .string (strB p20))]) (pr1 (H25.ev 17 rfl) (pr0)) (z := .string (⟨#[]⟩)) (sz := 1) Tryd.underlying88 (by kernel_rfl) rfl rfl (by kernel_rfl) h) fun g18 W26 HS26 a26 H26 => ?_
    clear H18 a18 HSL13 H19 a19 H21 a21 HS21 H22 a22 H24 a24 HS23 H25 a25
    cases hb28 : goodN p20
    case false =>
     refine wl_ <| c_ H26 rfl HS26 (v := .bool false) (dc_ Tryd.func45 rfl (args1 (H26.ev 18 rfl)) (good_any [p20] _ W26 (strs_row (HS26.row 1 rfl) hp20) (by unfold maxLen; simp)) (fun _ w9 h9 => ⟨_, h9.1, by rw [goodNs_oneT, hb28], h9.2⟩)) fun W29 HS29 a29 H29 => wl_ <| i_ H29 rfl (v := .bool true) (dd_nt rfl (H29.ev 19 rfl) rfl) fun a30 H30 => wl_ <| p_ H30 rfl rfl fun a31 H31 => wl_ <| k_ H31 (wg_ H31 rfl rfl rfl rfl) rfl fun a32 H32 => wl_ <| k_ H32 (wg_ H32 rfl rfl rfl rfl) rfl fun a33 H33 => wl_ <| k_ H33 (wg_ H33 rfl rfl rfl rfl) rfl fun a34 H34 => wl_ <| k_ H34 (wg_ H34 rfl rfl rfl rfl) rfl fun a35 H35 => wl_ <| k_ H35 (wg_ H35 rfl rfl rfl rfl) rfl fun a36 H36 => ?_
     clear H26 a26 HS26 H29 a29 H30 a30 H31 a31 H32 a32 H33 a33 H34 a34
     refine wl_ <| k_ H36 (wg_ H36 rfl rfl rfl rfl) rfl fun a37 H37 => wl_ <| p_ H37 rfl rfl fun a38 H38 => ln_ <| ?_
     clear H35 a35 H36 a36 H37 a37
     have H39 := H38.sel [0, 3, 9, 10, 11, 5, 28] rfl
     refine nx <| ct_ H39 rfl <| sq_ <| rl_ <| wl_ <| p_ H39 rfl rfl fun a40 H40 => ln_ <| nx <| wp_ret <| tr <| br_ <| tr <| tr <| br_ <| tr <| ret_run H40.env0 (res_t Tryd.results56 (H40.get 2 rfl)) <| ?_
     clear H38 H39 a38
     exact ⟨by rw [goodT_no hg20 (okT_no (fun h => by rw [hb28] at h; cases h.1))], HS29.below⟩
    case true =>
     refine wl_ <| c_ H26 rfl HS26 (v := .bool true) (dc_ Tryd.func45 rfl (args1 (H26.ev 18 rfl)) (good_any [p20] _ W26 (strs_row (HS26.row 1 rfl) hp20) (by unfold maxLen; simp)) (fun _ w9 h9 => ⟨_, h9.1, by rw [goodNs_oneT, hb28], h9.2⟩)) fun W41 HS41 a41 H41 => wl_ <| i_ H41 rfl (v := .bool false) (dd_nt rfl (H41.ev 19 rfl) rfl) fun a42 H42 => wl_ <| p_ H42 rfl rfl fun a43 H43 => wl_ <| ig H43 (wg_ H43 rfl rfl rfl rfl) rfl (xf 0 0 rfl (H43.ev 5 rfl)) fun a44 H44 => wl_ <| ig H44 (wg_ H44 rfl rfl rfl rfl) rfl (dd_get HS41 0 0 rfl rfl (H44.ev 22 rfl) rfl Tryd.underlying9 rfl) fun a45 H45 => wl_ <| ig H45 (wg_ H45 rfl rfl rfl rfl) rfl (dd_mv rfl (H45.ev 0 rfl)) fun a46 H46 => wl_ <| cg H46 (wg_ H46 rfl rfl rfl rfl) rfl HS41 (dcs Tryd.func36 rfl (args2 (H46.ev 23 rfl) (H46.ev 24 rfl)) (find_any _ _ _ p20 l W41 (HV _ HS41.below) hn) (.int .i64 (findI p20 l))) fun W47 HS47 a47 H47 => wl_ <| ig H47 (wg_ H47 rfl rfl rfl rfl) rfl (dd_mv rfl (H47.ev 4 rfl)) fun a48 H48 => ?_
     clear H26 a26 HS26 H41 a41 H42 a42 H43 a43 H44 a44 H45 a45 H46 a46 HS41
     clear H47 a47
     by_cases hc50 : (findI p20 l : Int) = k
     ·
      refine wl_ <| ig H48 (wg_ H48 rfl rfl rfl rfl) rfl (dd_cmp rfl (H48.ev 25 rfl) (H48.ev 26 rfl) (ne_f hc50)) fun a51 H51 => wl_ <| p_ H51 rfl rfl fun a52 H52 => ln_ <| ?_
      clear H48 a48 H51 a51
      have H53 := H52.sel [0, 3, 9, 10, 11, 5, 28] rfl
      refine nx <| cf_ H53 rfl <| wp_skip <| nx <| sq_ <| sq_ <| rl_ <| wl_ <| i_ H53 rfl (xf 1 1 rfl (H53.ev 5 rfl)) fun a54 H54 => wl_ <| i_ H54 rfl (dd_get HS47 0 1 rfl rfl (H54.ev 29 rfl) rfl Tryd.underlying45 rfl) fun a55 H55 => wl_ <| i_ H55 rfl (v := .int .i64 m20) (dd_len rfl (H55.ev 30 rfl) Tryd.underlying45) fun a56 H56 => ?_
      clear H52 H53 a52 H54 a54 H55 a55
      by_cases hc58 : (m20 : Int) < 1
      ·
       refine wl_ <| i_ H56 rfl (dd_cmp rfl (H56.ev 31 rfl) rfl (lt_t hc58)) fun a59 H59 => wl_ <| p_ H59 rfl rfl fun a60 H60 => wl_ <| k_ H60 (wg_ H60 rfl rfl rfl rfl) rfl fun a61 H61 => wl_ <| k_ H61 (wg_ H61 rfl rfl rfl rfl) rfl fun a62 H62 => wl_ <| k_ H62 (wg_ H62 rfl rfl rfl rfl) rfl fun a63 H63 => wl_ <| k_ H63 (wg_ H63 rfl rfl rfl rfl) rfl fun a64 H64 => wl_ <| p_ H64 rfl rfl fun a65 H65 => ln_ <| nx <| ct_ H65 rfl <| sq_ <| rl_ <| wl_ <| p_ H65 rfl rfl fun a66 H66 => ?_
       clear H56 a56 H59 a59 H60 a60 H61 a61 H62 a62 H63 a63 H64 a64
       refine ln_ <| ?_
       clear H65 a65
       have H67 := H66.sel [2] rfl
       refine nx <| wp_ret <| tr <| br_ <| tr <| tr <| br_ <| tr <| ret_run H67.env0 (res_t Tryd.results56 (H67.get 2 rfl)) <| ?_
       clear H66
       exact ⟨by rw [goodT_no hg20 (okT_no (fun h => by obtain ⟨h1, h2, h3, h4⟩ := h; simp only at h1 h2 h3 h4; omega))], HS47.below⟩
      ·
       refine wl_ <| i_ H56 rfl (dd_cmp rfl (H56.ev 31 rfl) rfl (lt_f hc58)) fun a68 H68 => wl_ <| p_ H68 rfl rfl fun a69 H69 => wl_ <| ig H69 (wg_ H69 rfl rfl rfl rfl) rfl (xf 1 1 rfl (H69.ev 5 rfl)) fun a70 H70 => wl_ <| ig H70 (wg_ H70 rfl rfl rfl rfl) rfl (dd_get HS47 0 1 rfl rfl (H70.ev 34 rfl) rfl Tryd.underlying45 rfl) fun a71 H71 => wl_ <| ig H71 (wg_ H71 rfl rfl rfl rfl) rfl (v := .int .i64 m20) (dd_len rfl (H71.ev 35 rfl) Tryd.underlying45) fun a72 H72 => ?_
       clear H56 a56 H68 a68 H69 a69 H70 a70 H71 a71
       by_cases hc74 : (4 : Int) < m20
       ·
        refine wl_ <| ig H72 (wg_ H72 rfl rfl rfl rfl) rfl (dd_cmp rfl (H72.ev 36 rfl) rfl (gt_t hc74)) fun a75 H75 => wl_ <| p_ H75 rfl rfl fun a76 H76 => ln_ <| nx <| ct_ H76 rfl <| sq_ <| rl_ <| wl_ <| p_ H76 rfl rfl fun a77 H77 => ln_ <| ?_
        clear H72 a72 H75 a75 H76 a76
        have H78 := H77.sel [2] rfl
        refine nx <| wp_ret <| tr <| br_ <| tr <| tr <| br_ <| tr <| ret_run H78.env0 (res_t Tryd.results56 (H78.get 2 rfl)) <| ?_
        clear H77
        exact ⟨by rw [goodT_no hg20 (okT_no (fun h => by obtain ⟨h1, h2, h3, h4⟩ := h; simp only at h1 h2 h3 h4; omega))], HS47.below⟩
       ·
        refine wl_ <| ig H72 (wg_ H72 rfl rfl rfl rfl) rfl (dd_cmp rfl (H72.ev 36 rfl) rfl (gt_f hc74)) fun a79 H79 => wl_ <| p_ H79 rfl rfl fun a80 H80 => ln_ <| nx <| cf_ H80 rfl <| wp_skip <| nx <| rl_ <| wl_ <| p_ H80 rfl rfl fun a81 H81 => wl_ <| i_ H81 rfl (xf 1 1 rfl (H81.ev 5 rfl)) fun a82 H82 => wl_ <| i_ H82 rfl (dd_get HS47 0 1 rfl rfl (H82.ev 40 rfl) rfl Tryd.underlying45 rfl) fun a83 H83 => wl_ <| i_ H83 rfl (v := .int .i64 m20) (dd_len rfl (H83.ev 41 rfl) Tryd.underlying45) fun a84 H84 => wl_ <| i_ H84 rfl (v := .int .i64 (sb + m20)) (dd_ari rfl (H84.ev 39 rfl) (H84.ev 42 rfl) rfl (i64_of (by first | omega | (have := bd_lo; omega)) (by omega))) fun a85 H85 => wl_ <| p_ H85 rfl rfl fun a86 H86 => ?_
        clear H72 a72 H79 a79 H80 a80 H81 a81 H82 a82 H83 a83 H84 a84
        refine ln_ <| ?_
        clear H85 a85
        have H87 := H86.sel [0, 9, 10, 11, 3] rfl
        refine bn <| nx <| rl_ <| wl_ <| i_ H87 rfl (v := .int .i64 (k + 1)) (dd_ari rfl (H87.ev 11 rfl) rfl rfl (i64_of (by first | omega | (have := bd_lo; omega)) (by omega))) fun a88 H88 => wl_ <| p_ H88 rfl rfl fun a89 H89 => ln_ <| ?_
        clear H86 H87 a86 H88 a88
        refine nx ⟨k + 1, ⟨(sb + m20), (by omega), (step_ok hok hg20 (okT_of hb28 hc50 (by simp only; omega) (by simp only; omega))), (by rw [sumT_succ hg20, hsb]; simp only [hm20]; omega), (by omega), H89.sel [0, 3, 9, 10, 11] rfl, ss HS47 []⟩, (by omega)⟩
     ·
      refine wl_ <| ig H48 (wg_ H48 rfl rfl rfl rfl) rfl (dd_cmp rfl (H48.ev 25 rfl) (H48.ev 26 rfl) (ne_t hc50)) fun a90 H90 => wl_ <| p_ H90 rfl rfl fun a91 H91 => ln_ <| ?_
      clear H48 a48 H90 a90
      have H92 := H91.sel [0, 3, 9, 10, 11, 5, 28] rfl
      refine nx <| ct_ H92 rfl <| sq_ <| rl_ <| wl_ <| p_ H92 rfl rfl fun a93 H93 => ln_ <| nx <| wp_ret <| tr <| br_ <| tr <| tr <| br_ <| tr <| ret_run H93.env0 (res_t Tryd.results56 (H93.get 2 rfl)) <| ?_
      clear H91 H92 a91
      exact ⟨by rw [goodT_no hg20 (okT_no (fun h => by obtain ⟨h1, h2, h3, h4⟩ := h; simp only at h1 h2 h3 h4; omega))], HS47.below⟩
   ·
    refine wl_ <| i_ HL13 rfl (dd_cmp rfl (HL13.ev 11 rfl) (HL13.ev 10 rfl) (lt_f hc15)) fun a94 H94 => ln_ <| nx <| sq_ <| cf_ H94 rfl <| wp_exit <| tx <| tx <| bx <| nx <| sq_ <| rl_ <| ?_
    clear HL13 aL13
    have hsumT : (sumT l : Int) = sb := by rw [hsb, List.take_of_length_le (by omega)]
    refine wl_ <| c_ H94 rfl HSL13 (v := .int .i64 11) (dc_ Tryd.func46 rfl (args1 rfl) (free_any none 0 0 [] wL13 (vols_none _) (by decide) (fun x h => by cases h)) (fun _ w9 h9 => ⟨_, h9.1, by rw [free_nil], h9.2⟩)) fun W95 HS95 a95 H95 => wl_ <| p_ H95 rfl rfl fun a96 H96 => wl_ <| c_ H96 rfl HS95 (dcs Tryd.func46 rfl (args1 (H96.ev 46 rfl)) (free_any _ _ _ _ W95 (HV _ HS95.below) hn (vols_lenB hml)) (.int .i64 (freeT l))) fun W97 HS97 a97 H97 => wl_ <| i_ H97 rfl (v := .int .i64 (11 - (freeT l))) (dd_ari rfl (H97.ev 45 rfl) (H97.ev 47 rfl) rfl (i64_of (by first | omega | (have := bd_lo; omega)) (by omega))) fun a98 H98 => wl_ <| p_ H98 rfl rfl fun a99 H99 => ?_
    clear H94 a94 HSL13 H95 a95 H96 a96 HS95 H97 a97 H98 a98
    by_cases hc101 : (11 - (freeT l) : Int) = sb
    ·
     refine wl_ <| i_ H99 rfl (dd_cmp rfl (H99.ev 48 rfl) (H99.ev 49 rfl) (eq_t hc101)) fun a102 H102 => wl_ <| p_ H102 rfl rfl fun a103 H103 => ln_ <| nx <| wp_ret <| ret_run H103.env0 (res_t Tryd.results56 (H103.get 2 rfl)) <| ?_
     clear H99 a99 H102 a102
     exact ⟨by rw [goodT_is (b := true) (by omega) (fun j hj => hok j (by omega)) (by rw [hsumT]; exact decide_eq_true hc101)], HS97.below⟩
    ·
     refine wl_ <| i_ H99 rfl (dd_cmp rfl (H99.ev 48 rfl) (H99.ev 49 rfl) (eq_f hc101)) fun a104 H104 => wl_ <| p_ H104 rfl rfl fun a105 H105 => ln_ <| nx <| wp_ret <| ret_run H105.env0 (res_t Tryd.results56 (H105.get 2 rfl)) <| ?_
     clear H99 a99 H104 a104
     exact ⟨by rw [goodT_is (b := false) (by omega) (fun j hj => hok j (by omega)) (by rw [hsumT]; exact decide_eq_false hc101)], HS97.below⟩
set_option maxHeartbeats 1600000 in
theorem goodt_zero (A : Option Addr) (c : Nat) (l : List Tv) (w : World) (hv : VolsAt w (.slice A 0 c) (volL l)) (hml : ∀ x ∈ l, x.2.length ≤ 1000000) :
    Calls Tryd.prog 56 #[.slice A 0 c] w fun e w' => e = .returned (.bool (goodT l)) ∧ Below w.heap.size w w' := by
  have HS := St.nil w noF
  have HV : ∀ W, Below w.heap.size w W → VolsAt W (.slice A 0 c) (volL l) := fun W hb => hv.below hb (Nat.le_refl _)
  have hn : 0 ≤ 1000000 := by decide
  have hfT := freeT_le l
  have hln : l.length = 0 := by rw [← len_volL]; exact vols_len hv
  have hok : ∀ j, j < l.length → ∀ x, l[j]? = some x → okT l j x = true := fun j hj => absurd hj (by omega)
  have hsumT : (sumT l : Int) = 0 := by rw [List.length_eq_zero_iff.1 hln]; rfl
  refine enter_en Tryd.func56 rfl Tryd.ntmps56 (Nat.le_of_ble_eq_true rfl) fun a0 (HA0 : En 51 [(0, .slice A 0 c)] a0) => ?_
  refine sq_ <| rl_ <| wl_ <| p_ HA0 rfl rfl fun a1 H1 => ln_ <| nx <| sq_ <| sq_ <| rl_ <| wl_ <| p_ H1 rfl rfl fun a2 H2 => wl_ <| i_ H2 rfl (v := .int .i64 0) (dd_len rfl (H2.ev 6 rfl) Tryd.underlying75) fun a3 H3 => wl_ <| i_ H3 rfl (dd_cmp rfl (H3.ev 7 rfl) rfl (gt_f (by decide))) fun a4 H4 => ln_ <| nx <| cf_ H4 rfl <| wp_skip <| nx <| sq_ <| rl_ <| wl_ <| p_ H4 rfl rfl fun a5 H5 => ln_ <| nx <| sq_ <| sq_ <| rl_ <| wl_ <| p_ H5 rfl rfl fun a6 H6 => wl_ <| i_ H6 rfl (v := .int .i64 0) (dd_len rfl (H6.ev 9 rfl) Tryd.underlying75) fun a7 H7 => wl_ <| p_ H7 rfl rfl fun a8 H8 => ?_
  clear HA0 a0 H1 a1 H2 a2 H3 a3 H4 a4 H5 a5 H6 a6
  refine ln_ <| nx <| wp_block <| wp_unr 1 <| unr_go <| sq_ <| rl_ <| wl_ <| i_ H8 rfl (dd_cmp rfl (H8.ev 11 rfl) (H8.ev 10 rfl) (lt_f (by decide))) fun a9 H9 => ln_ <| nx <| sq_ <| cf_ H9 rfl <| wp_exit <| tx <| tx <| bx <| nx <| sq_ <| rl_ <| wl_ <| c_ H9 rfl HS (v := .int .i64 11) (dc_ Tryd.func46 rfl (args1 rfl) (free_any none 0 0 [] w (vols_none _) (by decide) (fun x h => by cases h)) (fun _ w9 h9 => ⟨_, h9.1, by rw [free_nil], h9.2⟩)) fun W10 HS10 a10 H10 => wl_ <| p_ H10 rfl rfl fun a11 H11 => wl_ <| c_ H11 rfl HS10 (dcs Tryd.func46 rfl (args1 (H11.ev 46 rfl)) (free_any _ _ _ _ W10 (HV _ HS10.below) hn (vols_lenB hml)) (.int .i64 (freeT l))) fun W12 HS12 a12 H12 => wl_ <| i_ H12 rfl (v := .int .i64 (11 - (freeT l))) (dd_ari rfl (H12.ev 45 rfl) (H12.ev 47 rfl) rfl (i64_of (by first | omega | (have := bd_lo; omega)) (by omega))) fun a13 H13 => wl_ <| p_ H13 rfl rfl fun a14 H14 => ?_
  clear H7 a7 H8 a8 H9 a9 HS H10 a10 H11 a11 HS10 H12 a12 H13 a13
  by_cases hc16 : (11 - (freeT l) : Int) = 0
  ·
   refine wl_ <| i_ H14 rfl (dd_cmp rfl (H14.ev 48 rfl) (H14.ev 49 rfl) (eq_t hc16)) fun a17 H17 => wl_ <| p_ H17 rfl rfl fun a18 H18 => ln_ <| nx <| wp_ret <| ret_run H18.env0 (res_t Tryd.results56 (H18.get 2 rfl)) <| ?_
   clear H14 a14 H17 a17
   exact ⟨by rw [goodT_is (b := true) (by omega) (fun j hj => hok j (by omega)) (by rw [hsumT]; exact decide_eq_true hc16)], HS12.below⟩
  ·
   refine wl_ <| i_ H14 rfl (dd_cmp rfl (H14.ev 48 rfl) (H14.ev 49 rfl) (eq_f hc16)) fun a19 H19 => wl_ <| p_ H19 rfl rfl fun a20 H20 => ln_ <| nx <| wp_ret <| ret_run H20.env0 (res_t Tryd.results56 (H20.get 2 rfl)) <| ?_
   clear H14 a14 H19 a19
   exact ⟨by rw [goodT_is (b := false) (by omega) (fun j hj => hok j (by omega)) (by rw [hsumT]; exact decide_eq_false hc16)], HS12.below⟩
theorem goodt_any (A : Option Addr) (n c : Nat) (l : List Tv) (w : World) (hv : VolsAt w (.slice A n c) (volL l)) (hn : n ≤ 1000000) (hml : ∀ x ∈ l, x.2.length ≤ 1000000) :
    Calls Tryd.prog 56 #[.slice A n c] w fun e w' => e = .returned (.bool (goodT l)) ∧ Below w.heap.size w w' := by
  by_cases h0 : n = 0
  · subst h0; exact goodt_zero A c l w hv hml
  · obtain ⟨b, o, rfl⟩ := vols_some hv (by omega)
    exact goodt_pos b o n c l w hv hn hml
end Go.Proofs.YtnmaplgodimohaaDoor
