/- Merged: Aw AwS AwD AwM AwH AwL AwN AwQ AwT AwR TabFresh AwW AudSpec AudCat AudRec AudVer AwX AudLog. -/
import Derived.OrdersHeld
import Derived.Deep.DeepAppendWide
import Derived.Lib.SliceRun
import Derived.Test.YtbhmgnhiglpmhaaDoorMGen0
import Derived.Test.YtbhmgnhiglpmhaaDoorMStr0
import Derived.Test.YtbhmgnhiglpmhaaDoorMLabel0
import Derived.Test.YtbhmgnhiglpmhaaDoorMGen1
/- Walks whose every step is one lemma: the frame as a list of slots that are known; regions in order, and regions that draw. No function of the program is named here. -/
set_option maxRecDepth 4000
namespace Go.Proofs.YtbhmgnhiglpmhaaDoor
open Go Go.RowKit
/- the frame, as far as it is known -/
structure Env (N : Nat) (L : List (Nat × Value)) (a : Act) : Prop where
  size : a.tmps.size = N
  defers : a.defers = []
  at_ : ∀ (i k : Nat) (v : Value), L[i]? = some (k, v) → a.tmps[k]? = some v
def kp (L : List (Nat × Value)) : List Nat → List (Nat × Value)
  | [] => []
  | i :: is => match L[i]? with
    | some p => p :: kp L is
    | none => kp L is
def setd : Option Tmp → Value → List (Nat × Value) → List (Nat × Value)
  | some d, v, L => (d, v) :: L
  | none, _, L => L
def okd : Option Tmp → Nat → List (Nat × Value) → Bool
  | some d, N, L => Nat.blt d N && L.all fun p => !Nat.beq p.1 d
  | none, _, _ => true
theorem kp_at (L : List (Nat × Value)) : ∀ (is : List Nat) (i : Nat) (p : Nat × Value), (kp L is)[i]? = some p → ∃ j : Nat, L[j]? = some p
  | [], i, p, h => by simp [kp] at h
  | j :: is, i, p, h => by
    unfold kp at h
    cases hj : L[j]? with
    | none => rw [hj] at h; exact kp_at L is i p h
    | some q =>
      rw [hj] at h
      cases i with
      | zero => exact ⟨j, by rw [hj]; simpa using h⟩
      | succ i => exact kp_at L is i p (by simpa using h)
section
variable {P : Program} {N : Nat} {L : List (Nat × Value)} {a : Act}
theorem Env.ev (h : Env N L a) (i : Nat) {k : Nat} {v : Value} (hi : L[i]? = some (k, v)) : a.eval (.tmp k) = v := eval_of_get (h.at_ i k v hi)
theorem Env.get (h : Env N L a) (i : Nat) {k : Nat} {v : Value} (hi : L[i]? = some (k, v)) : a.tmps[k]? = some v := h.at_ i k v hi
theorem Env.keep (h : Env N L a) (is : List Nat) : Env N (kp L is) a := ⟨h.size, h.defers, fun i k v hi => by obtain ⟨j, hj⟩ := kp_at L is i (k, v) hi; exact h.at_ j k v hj⟩
theorem Env.put (h : Env N L a) (is : List Nat) (d : Option Tmp) (v : Value) (hk : okd d N (kp L is) = true) : Env N (setd d v (kp L is)) (a.put d v) := by
  cases d with
  | none => exact h.keep is
  | some d =>
    simp only [okd, Bool.and_eq_true, List.all_eq_true] at hk
    have hd : d < N := by have := hk.1; unfold Nat.blt at this; exact Nat.le_of_ble_eq_true this
    refine ⟨by simp [Act.put, h.size], h.defers, fun i k u hi => ?_⟩
    cases i with
    | zero =>
      have hi : (d, v) = (k, u) := by simpa [setd] using hi
      injection hi with h1 h2
      subst h1 h2
      simp [Act.put, h.size, hd]
    | succ i =>
      have hi : (kp L is)[i]? = some (k, u) := by simpa [setd] using hi
      have h1 := hk.2 _ (List.mem_of_getElem? hi)
      have hne : d ≠ k := fun e => by subst e; simp at h1
      obtain ⟨j, hj⟩ := kp_at L is i (k, u) hi
      simp only [Act.put]
      rw [Array.getElem?_setIfInBounds_ne hne]
      exact h.at_ j k u hj
theorem env_nil (hs : a.tmps.size = N) (hd : a.defers = []) : Env N [] a := ⟨hs, hd, fun i k v h => by simp at h⟩
def argL : List Value → Nat → List (Nat × Value)
  | [], _ => []
  | v :: vs, i => (i, v) :: argL vs (i + 1)
end
/- code -/
section
variable {P : Program} {Q Q' : Exit → Act → World → Prop} {K : Act → World → Prop} {a : Act} {w : World} {id j : Nat} {x y : Code}
theorem nx (h : K a w) : Exit.then K Q .normal a w := h
theorem tx (h : Q (.exit id) a w) : Exit.then K Q (.exit id) a w := h
theorem tr (h : Q .ret a w) : Exit.then K Q .ret a w := h
theorem bn (h : Q .normal a w) : Exit.inBlock id Q .normal a w := h
theorem br_ (h : Q .ret a w) : Exit.inBlock id Q .ret a w := h
theorem bx (h : Q .normal a w) : Exit.inBlock id Q (.exit id) a w := by simpa [Exit.inBlock] using h
theorem by_ (hne : Nat.beq j id = false) (h : Q (.exit j) a w) : Exit.inBlock id Q (.exit j) a w := by
  have : j ≠ id := fun e => by subst e; simp at hne
  simpa [Exit.inBlock, this] using h
/- a loop with what counts it down standing in no slot -/
theorem wp_loopG {ι : Type} {c : Code} (I : ι → Act → World → Prop) (μ : ι → Nat) (i0 : ι) (h0 : I i0 a w)
    (round : ∀ i a w, I i a w → c.wp P (Exit.then (fun a' w' => ∃ i', I i' a' w' ∧ μ i' < μ i) Q) a w) : (Code.loop c).wp P Q a w := by
  classical
  have key : ∀ n, ∀ i a w, μ i = n → I i a w → ∃ m, (∃ i, I i a w ∧ μ i = m) ∧ ∀ k, (∃ i, I i a w ∧ μ i = k) → m ≤ k := by
    intro n
    induction n using Nat.strongRecOn with
    | _ n ih =>
      intro i a w hn hi
      by_cases h : ∃ i', I i' a w ∧ μ i' < n
      · obtain ⟨i', h1, h2⟩ := h
        exact ih (μ i') h2 i' a w rfl h1
      · exact ⟨n, ⟨i, hi, hn⟩, fun k ⟨i', h1, h2⟩ => by
          apply Decidable.byContradiction
          intro hk
          exact h ⟨i', h1, by omega⟩⟩
  refine wp_loop (fun a w => ∃ i, I i a w) (fun a w => if h : ∃ m, (∃ i, I i a w ∧ μ i = m) ∧ ∀ k, (∃ i, I i a w ∧ μ i = k) → m ≤ k then h.choose else 0) ⟨i0, h0⟩ fun a w hI => ?_
  obtain ⟨i1, h1⟩ := hI
  have hex := key _ i1 a w rfl h1
  obtain ⟨⟨i, hi, him⟩, hmin⟩ := hex.choose_spec
  refine wp_mono (round i a w hi) fun e a' w' hq => ?_
  cases e with
  | normal =>
    obtain ⟨i', h2, h3⟩ := hq
    refine ⟨⟨i', h2⟩, ?_⟩
    have hex' := key _ i' a' w' rfl h2
    have := hex'.choose_spec.2 (μ i') ⟨i', h2, rfl⟩
    rw [dif_pos hex, dif_pos hex']
    omega
  | _ => exact hq
end
/- what a call tells when it returns -/
section
variable {P : Program} {fn : Func} {R : Ending → World → Prop} {N : Nat} {L : List (Nat × Value)} {a : Act} {w : World}
theorem ret_run (HA : Env N L a) {v : Value} (hv : (results fn a.tmps).run P w = .ok v w) (h : R (.returned v) w) : bodyPost P fn R .ret a w := ⟨HA.defers, v, hv, h⟩
theorem getD_get2 {t : Array Value} {k : Nat} {v : Value} (h : t[k]? = some v) : (t[k]?).getD undef = v := by rw [h]; rfl
theorem res_t {t : Array Value} {i : Nat} {v : Value} (hr : fn.results = #[.tmp i]) (h1 : t[i]? = some v) : (results fn t).run P w = .ok v w := by
  unfold results; simp [hr, getD_get2 h1]
theorem res_tt {t : Array Value} {i j : Nat} {v u : Value} (hr : fn.results = #[.tmp i, .tmp j]) (h1 : t[i]? = some v) (h2 : t[j]? = some u) : (results fn t).run P w = .ok (.tuple #[v, u]) w := by
  unfold results; simp [hr, getD_get2 h1, getD_get2 h2]
theorem load_cell {g : Nat} {ty t : TypeId} {cs : Array Value} {d : TypeDesc} (hg : Row w g t cs) (hu : P.underlying ty = some d) (hd : (match d with | .struct _ | .array _ _ => true | _ => false) = true) (hi : (P.info? ty).map (·.size) = some cs.size) : (loadVar ty ⟨g, 0, none⟩).run P w = .ok (.agg cs) w := run_loadVar_row w g t ty cs (0, 0) d hg hu hd hi
theorem res_c {t : Array Value} {i g : Nat} {ty ty' : TypeId} {cs : Array Value} {d : TypeDesc} (hr : fn.results = #[.cell i ty]) (h1 : t[i]? = some (.pointer (some ⟨g, 0, none⟩))) (hg : Row w g ty' cs) (hu : P.underlying ty = some d) (hd : (match d with | .struct _ | .array _ _ => true | _ => false) = true) (hi : (P.info? ty).map (·.size) = some cs.size) : (results fn t).run P w = .ok (.agg cs) w := by
  unfold results; simp [hr, getD_get2 h1, asAddr, load_cell hg hu hd hi]
end
end Go.Proofs.YtbhmgnhiglpmhaaDoor

/- The steps of a walk: one operation in a region that goes in order, or that draws. No function of the program is named here. -/
set_option maxRecDepth 4000
namespace Go.Proofs.YtbhmgnhiglpmhaaDoor
open Go Go.RowKit
section
variable {P : Program} {Q : Exit → Act → World → Prop} {ops : Array Oper} {rest : List Oper} {o : Oper} {N : Nat} {L : List (Nat × Value)} {a : Act} {w : World}
theorem want_n (hg : o.guard = none) : Region.wanted o (yielded ops a.tmps) = true := by simp [Region.wanted, hg]
theorem want_g {j t : Nat} {b c d : Bool} (hg : o.guard = some (j, b)) (hd : dstAt ops j = some t) (ht : a.tmps[t]? = some (.bool c)) (h : (c == b) = d) : Region.wanted o (yielded ops a.tmps) = d := by
  unfold dstAt at hd
  simp only [Region.wanted, hg, yielded, hd, Option.bind_some, ht]
  rw [← h]; cases c <;> cases b <;> rfl
end
/- what a step knows of the slots -/
section
variable {ops : Array Oper} {n : Nat} {Vl : List (Value → World → Prop)} {a a0 : Act} {x : Nat → Value} {w : World} {o : Oper} {N : Nat} {L : List (Nat × Value)}
end
end Go.Proofs.YtbhmgnhiglpmhaaDoor

/- What the operations yield, one by one. No function of the program is named here. -/
set_option maxRecDepth 4000
namespace Go.Proofs.YtbhmgnhiglpmhaaDoor
open Go Go.RowKit
theorem i64_bdA (x : BitVec 8) : IntKind.i64.wrap (bd x) = bd x := by rw [IntKind.wrap_i64]; have := bd_lo x; have := bd_hi x; omega
def fieldOff (P : Program) (s : TypeId) (f : Nat) : Option Nat :=
  match P.underlying s with
  | some (.struct fields) => match fields[f]? with
    | some fd => match (P.info? fd.type).map (·.size) with
      | some (_ + 1) => some fd.offset
      | _ => none
    | none => none
  | _ => none
def arrOf (P : Program) (t : TypeId) : Option (Nat × Nat) :=
  match P.underlying t with
  | some (.array n e) => (P.info? e).map fun i => (n, i.size)
  | _ => none
def slOf (P : Program) (t : TypeId) : Option Nat :=
  match P.underlying t with
  | some (.slice e) => (P.info? e).map fun i => i.size
  | _ => none
def intOfT (P : Program) (t : TypeId) : Option IntKind :=
  match P.underlying t with
  | some (.int k) => some k
  | _ => none
def cmpI : BinOp → Int → Int → Option Bool
  | .eql, x, y => some (x == y)
  | .neq, x, y => some (x != y)
  | .lss, x, y => some (decide (x < y))
  | .leq, x, y => some (decide (x ≤ y))
  | .gtr, x, y => some (decide (x > y))
  | .geq, x, y => some (decide (x ≥ y))
  | _, _, _ => none
def ariI : BinOp → Int → Int → Option Int
  | .add, x, y => some (x + y)
  | .sub, x, y => some (x - y)
  | .mul, x, y => some (x * y)
  | _, _, _ => none
section
variable {P : Program} {o : Oper} {a : Act} {w : World} {R : Value → World → Prop}
theorem dd_mv {x : Operand} {v : Value} (ho : o.op = .move x) (hx : a.eval x = v) : (execOp a.eval o).run P w = .ok (.value v) w :=
  by simp only [execOp, ho, hx, Sem.run_pure]
theorem dd_as {x : Operand} {v : Value} (ho : o.op = .assign x) (hx : a.eval x = v) : (execOp a.eval o).run P w = .ok (.value v) w :=
  by simp only [execOp, ho, hx, Sem.run_pure]
theorem dd_pickT {c x y : Operand} {v : Value} (ho : o.op = .pick c x y) (hc : a.eval c = .bool true) (hx : a.eval x = v) : (execOp a.eval o).run P w = .ok (.value v) w :=
  by simp [execOp, ho, hc, hx, asBool]
theorem dd_pickF {c x y : Operand} {v : Value} (ho : o.op = .pick c x y) (hc : a.eval c = .bool false) (hy : a.eval y = v) : (execOp a.eval o).run P w = .ok (.value v) w :=
  by simp [execOp, ho, hc, hy, asBool]
theorem dd_nt {ty : TypeId} {x : Operand} {b c : Bool} (ho : o.op = .unOp .not ty x) (hx : a.eval x = .bool b) (hc : (!b) = c) : (execOp a.eval o).run P w = .ok (.value (.bool c)) w :=
  by simp [execOp, ho, hx, Op.unary, ← hc]
theorem dd_ext {x : Operand} {i : Nat} {vs : Array Value} {v : Value} (ho : o.op = .extract x i) (hx : a.eval x = .tuple vs) (hv : vs[i]? = some v) : (execOp a.eval o).run P w = .ok (.value v) w :=
  by simp [execOp, ho, hx, Instr.extract, hv]
theorem dd_cmp {op : BinOp} {ty ty2 : TypeId} {x y : Operand} {k : IntKind} {m n : Int} {b : Bool} (ho : o.op = .binOp op ty x y ty2) (hx : a.eval x = .int k m) (hy : a.eval y = .int k n) (hb : cmpI op m n = some b) : (execOp a.eval o).run P w = .ok (.value (.bool b)) w := by
  cases op <;> simp [cmpI] at hb <;> simp [execOp, ho, hx, hy, eqGuard, binOp, Op.intCmp, ← hb]
theorem dd_ari {op : BinOp} {ty ty2 : TypeId} {x y : Operand} {k : IntKind} {m n z z' : Int} (ho : o.op = .binOp op ty x y ty2) (hx : a.eval x = .int k m) (hy : a.eval y = .int k n) (hz : ariI op m n = some z') (hk : k.wrap z' = z) : (execOp a.eval o).run P w = .ok (.value (.int k z)) w := by
  cases op <;> simp [ariI] at hz <;> simp [execOp, ho, hx, hy, eqGuard, binOp, Op.intArith, hz, hk]
theorem dd_bits {op : BinOp} {ty ty2 : TypeId} {x y : Operand} {k : IntKind} {m n z : Int} (ho : o.op = .binOp op ty x y ty2) (hop : op = .and ∨ op = .or ∨ op = .xor ∨ op = .andNot) (hx : a.eval x = .int k m) (hy : a.eval y = .int k n) (hz : Op.intBits op k m n = pure (.int k z)) : (execOp a.eval o).run P w = .ok (.value (.int k z)) w := by
  rcases hop with rfl | rfl | rfl | rfl <;> simp [execOp, ho, hx, hy, eqGuard, binOp, hz]
theorem dd_eqa {ty ty2 : TypeId} {x y : Operand} {cs ds : Array Value} {b : Bool} (ho : o.op = .binOp .eql ty x y ty2) (hx : a.eval x = .agg cs) (hy : a.eval y = .agg ds) (hg : P.eqGuardType P.depth ty = false) (hb : ∀ w, (Op.equalIn 10000 ty (.agg cs) (.agg ds)).run P w = .ok b w) : (execOp a.eval o).run P w = .ok (.value (.bool b)) w := by
  have e : (Op.equal ty (.agg cs) (.agg ds)).run P w = .ok b w := hb w
  simp [execOp, ho, hx, hy, eqGuard, binOp, e, hg]
theorem dd_nea {ty ty2 : TypeId} {x y : Operand} {cs ds : Array Value} {b c : Bool} (ho : o.op = .binOp .neq ty x y ty2) (hx : a.eval x = .agg cs) (hy : a.eval y = .agg ds) (hg : P.eqGuardType P.depth ty = false) (hb : ∀ w, (Op.equalIn 10000 ty (.agg cs) (.agg ds)).run P w = .ok b w) (hc : (!b) = c) : (execOp a.eval o).run P w = .ok (.value (.bool c)) w := by
  have e : (Op.equal ty (.agg cs) (.agg ds)).run P w = .ok b w := hb w
  simp [execOp, ho, hx, hy, eqGuard, binOp, e, hg, ← hc]
theorem dd_conv {src dst : TypeId} {x : Operand} {k k' : IntKind} {n z : Int} {d : TypeDesc} (ho : o.op = .convert src dst x) (hx : a.eval x = .int k' n) (hs : P.underlying src = some d) (hd : intOfT P dst = some k) (hz : k.wrap n = z) : (execOp a.eval o).run P w = .ok (.value (.int k z)) w := by
  have hu : P.underlying dst = some (.int k) := by
    unfold intOfT at hd
    cases hq : P.underlying dst with
    | none => rw [hq] at hd; cases hd
    | some q => rw [hq] at hd; cases q <;> simp_all
  simp [execOp, ho, hx, Go.convert, run_underlying hu, run_underlying hs, Conv.intToInt, hz]
theorem dd_field {s : TypeId} {x : Operand} {f g i off j : Nat} (ho : o.op = .fieldAddr s x f) (hx : a.eval x = .pointer (some ⟨g, i, none⟩)) (hf : fieldOff P s f = some off) (hj : i + off = j) : (execOp a.eval o).run P w = .ok (.value (.pointer (some ⟨g, j, none⟩))) w := by
  subst hj
  unfold fieldOff at hf
  cases hu : P.underlying s with
  | none => rw [hu] at hf; cases hf
  | some d =>
    rw [hu] at hf
    cases d with
    | struct fields =>
      simp only at hf
      cases hfd : fields[f]? with
      | none => rw [hfd] at hf; cases hf
      | some fd =>
        rw [hfd] at hf
        simp only at hf
        cases hi : P.info? fd.type with
        | none => rw [hi] at hf; cases hf
        | some inf =>
          rw [hi] at hf
          simp only [Option.map_some] at hf
          cases hs : inf.size with
          | zero => rw [hs] at hf; cases hf
          | succ m =>
            rw [hs] at hf
            simp only [Option.some.injEq] at hf
            simp [execOp, ho, hx, Instr.fieldAt, Instr.sureAddr, run_underlying hu, hfd, fieldPlace, sizeOf, typeInfo, hi, hs, Addr.add_mid, hf]
    | _ => simp only at hf; cases hf
theorem dd_idxA {t : TypeId} {x ix : Operand} {g i n sz j : Nat} {k : IntKind} {m : Int} (ho : o.op = .indexAddr t x ix) (hx : a.eval x = .pointer (some ⟨g, i, none⟩)) (hi : a.eval ix = .int k m) (ht : arrOf P t = some (n, sz)) (h0 : 0 ≤ m) (hn : m < (n : Int)) (hj : i + m.toNat * sz = j) : (execOp a.eval o).run P w = .ok (.value (.pointer (some ⟨g, j, none⟩))) w := by
  subst hj
  unfold arrOf at ht
  cases hu : P.underlying t with
  | none => rw [hu] at ht; cases ht
  | some d =>
    rw [hu] at ht
    cases d with
    | array n' e =>
      simp only at ht
      cases hq : P.info? e with
      | none => rw [hq] at ht; cases ht
      | some inf =>
        rw [hq] at ht
        simp only [Option.map_some, Option.some.injEq, Prod.mk.injEq] at ht
        obtain ⟨rfl, rfl⟩ := ht
        simp [execOp, ho, hx, hi, Instr.indexAt, Instr.sureAddr, asIntOf, run_underlying hu, sizeOf, typeInfo, hq, h0, hn, Addr.add_mid]
    | _ => simp only at ht; cases ht
theorem dd_idxS {t : TypeId} {x ix : Operand} {g i n c sz j : Nat} {k : IntKind} {m : Int} (ho : o.op = .indexAddr t x ix) (hx : a.eval x = .slice (some ⟨g, i, none⟩) n c) (hi : a.eval ix = .int k m) (ht : slOf P t = some sz) (h0 : 0 ≤ m) (hn : m < (n : Int)) (hj : i + m.toNat * sz = j) : (execOp a.eval o).run P w = .ok (.value (.pointer (some ⟨g, j, none⟩))) w := by
  subst hj
  unfold slOf at ht
  cases hu : P.underlying t with
  | none => rw [hu] at ht; cases ht
  | some d =>
    rw [hu] at ht
    cases d with
    | slice e =>
      simp only at ht
      cases hq : P.info? e with
      | none => rw [hq] at ht; cases ht
      | some inf =>
        rw [hq] at ht
        simp only [Option.map_some, Option.some.injEq] at ht
        subst ht
        simp [execOp, ho, hx, hi, Instr.indexAt, asIntOf, run_underlying hu, sizeOf, typeInfo, hq, h0, hn, Addr.add_mid]
    | _ => simp only at ht; cases ht
theorem dd_nilc {x : Operand} {p : Addr} (ho : o.op = .nilCheck x) (hx : a.eval x = .pointer (some p)) : (execOp a.eval o).run P w = .ok (.value (.pointer (some p))) w :=
  by simp [execOp, ho, hx]
theorem dd_len {x : Operand} {t : TypeId} {A : Option Addr} {n c : Nat} {e : TypeId} (ho : o.op = .call { callee := .builtin .len, args := #[x], argTypes := #[t] }) (hx : a.eval x = .slice A n c) (hu : P.underlying t = some (.slice e)) : (execOp a.eval o).run P w = .ok (.value (.int .i64 (n : Int))) w :=
  by simp [execOp, ho, resolve, invoke, builtin, Builtin.len_, hx, run_underlying hu, goInt]
theorem dd_rn {v : Value} (hr : (execOp a.eval o).run P w = .ok (.value v) w) (h : R v w) : Does P o a w R := does_run hr h
theorem dd_at {ty : TypeId} {x : Operand} (ho : o.op = .load ty x) {p : Addr} (hx : a.eval x = .pointer (some p)) {v : Value} (hc : w.cell? p = some v) {d : TypeDesc} (hu : P.underlying ty = some d) (hd : d.isRow = false) : (execOp a.eval o).run P w = .ok (.value v) w := by
  have hagg : (isAgg ty).run P w = .ok false w := by
    unfold isAgg
    rw [Sem.run_bind, run_underlying hu w]
    cases d <;> simp_all
  simp [execOp, ho, hx, Instr.loadAt, Instr.sureAddr, loadVar, Sem.run_bind, hagg, hc]
/- memory that is known as a list of blocks -/
variable {w0 : World} {F : Nat → Prop} {S : List Blk}
theorem dd_get (HS : St w0 F S w) (k i : Nat) {ty : TypeId} {x : Operand} (ho : o.op = .load ty x) {r : Blk} (hk : S[k]? = some r) (hx : a.eval x = .pointer (some ⟨r.g, i, none⟩)) {v : Value} (hv : r.cs[i]? = some v) {d : TypeDesc} (hu : P.underlying ty = some d) (hd : d.isRow = false) : (execOp a.eval o).run P w = .ok (.value v) w :=
  dd_at ho hx ((HS.row k hk).get hv) hu hd
theorem dd_load (HS : St w0 F S w) (k i : Nat) {ty : TypeId} {x : Operand} (ho : o.op = .load ty x) {r : Blk} (hk : S[k]? = some r) (hx : a.eval x = .pointer (some ⟨r.g, i, none⟩)) {cs : Array Value} (hv : (r.cs.toList.drop i).take cs.size = cs.toList) {d : TypeDesc} (hu : P.underlying ty = some d) (hd : d.isRow = true) (hi : (P.info? ty).map (·.size) = some cs.size) : (execOp a.eval o).run P w = .ok (.value (.agg cs)) w := by
  have hc := (HS.row k hk).slab i cs.toList (by simpa using hv)
  unfold execOp
  simp only [ho, hx, Instr.loadAt, Instr.sureAddr, Sem.run_bind, Sem.run_pure, Result.andThen_ok, run_loadVar_mid w r.g i ty cs.toList d hc hu hd (by simpa using hi)]
theorem dd_atN {ty : TypeId} {x : Operand} (ho : o.op = .load ty x) {g i : Nat} (hx : a.eval x = .pointer (some ⟨g, i, none⟩)) {L : List Value} (hc : w.rangeAt g i L) {d : TypeDesc} (hu : P.underlying ty = some d) (hd : d.isRow = true) (hi : (P.info? ty).map (·.size) = some L.length) : (execOp a.eval o).run P w = .ok (.value (.agg L.toArray)) w := by
  unfold execOp
  simp only [ho, hx, Instr.loadAt, Instr.sureAddr, Sem.run_bind, Sem.run_pure, Result.andThen_ok, run_loadVar_mid w g i ty L d hc hu hd hi]
theorem dd_new (HS : St w0 F S w) {e : TypeId} (cs : Array Value) (ho : o.op = .alloc e) {z : Value} (hz : (P.info? e).bind (·.zero) = some z) (hc : z.cells = cs) (h : ∀ g w', St w0 F (S ++ [⟨g, e, cs⟩]) w' → R (.pointer (some ⟨g, 0, none⟩)) w') : Does P o a w R := fun _ _ hK =>
  wp_st_alloc HS e cs ho z hz hc fun g w' h1 => hK _ _ (h g w' h1)
theorem dd_box (HS : St w0 F S w) {e : TypeId} {x : Operand} (ho : o.op = .box e x) {v : Value} (hx : a.eval x = v) {cs : Array Value} (hc : v.cells = cs) (h : ∀ g w', St w0 F (S ++ [⟨g, e, cs⟩]) w' → R (.pointer (some ⟨g, 0, none⟩)) w') : Does P o a w R := fun _ _ hK =>
  wp_st_box HS e x ho v hx cs hc fun g w' h1 => hK _ _ (h g w' h1)
theorem dd_store (HS : St w0 F S w) (k i : Nat) {ty : TypeId} {x y : Operand} (ho : o.op = .store ty x y) {r : Blk} (hk : S[k]? = some r) (hx : a.eval x = .pointer (some ⟨r.g, i, none⟩)) {v : Value} (hy : a.eval y = v) (hi : (P.info? ty).map (·.size) = some v.cells.size) (hfit : i + v.cells.size ≤ r.cs.size) (h1 : v.cells.all (·.oneCell') = true)
    {cs : Array Value} (hcs : (spl r.cs.toList i v.cells.toList).toArray = cs) (h : ∀ w', St w0 F (S.set k ⟨r.g, r.t, cs⟩) w' → R undef w') : Does P o a w R := fun _ _ hK =>
  wp_st_store HS k i ty x y ho hk hx v hy hi hfit h1 cs hcs fun w' h1 => hK _ _ (h w' h1)
theorem dd_put (HS : St w0 F S w) (k i : Nat) {ty : TypeId} {x y : Operand} (ho : o.op = .store ty x y) {r : Blk} (hk : S[k]? = some r) (hx : a.eval x = .pointer (some ⟨r.g, i, none⟩)) {v : Value} (hy : a.eval y = v) (hi : (P.info? ty).map (·.size) = some 1) (hv : v.cells = #[v]) (h1 : v.oneCell' = true) (hfit : Nat.blt i r.cs.size = true)
    {cs : Array Value} (hcs : r.cs.setIfInBounds i v = cs) (h : ∀ w', St w0 F (S.set k ⟨r.g, r.t, cs⟩) w' → R undef w') : Does P o a w R := fun _ _ hK =>
  wp_st_put HS k i ty x y ho hk hx v hy hi hv h1 (Nat.le_of_ble_eq_true hfit) cs hcs fun w' h1 => hK _ _ (h w' h1)
/- calls -/
theorem dd_call {f : FuncId} {fn : Func} {xs : Array Operand} {ts : Array TypeId} {l : List Value} {R' : Ending → World → Prop} (hf : P.funcs[f]? = some fn) (hn : (fn.name == "runtime.NumGoroutine") = false) (hb : fn.body.isNone = false) (ho : o.op = .call { callee := .value (.func f), args := xs, argTypes := ts }) (hx : (xs.map a.eval) = l.toArray) (C : Calls P f l.toArray w R')
    (h : ∀ e w', R' e w' → ∃ v, e = .returned v ∧ R v w') : Does P o a w R := fun K Q hK => by
  have hcf : (callFunc f (#[] ++ l.toArray ++ #[])).run P w = .ok (.enter f l.toArray) w := by
    have hn' : ¬ fn.name = "runtime.NumGoroutine" := by simpa using hn
    have hb' : ¬ fn.body = none := fun e => by rw [e] at hb; cases hb
    simp [callFunc, hf, hn', hb']
  have he : execOp a.eval o = callFunc f (#[] ++ l.toArray ++ #[]) := by
    unfold execOp
    rw [ho]
    simp only [resolve, Act.eval, Deferred.ofValue]
    rw [← hx]
    rfl
  unfold Oper.wp
  rw [he, hcf]
  refine Calls.mono C fun e w' hr => ?_
  obtain ⟨v, rfl, hv⟩ := h e w' hr
  exact hK v w' hv
end
/- comparisons -/
theorem lt_t {m n : Int} (h : m < n) : cmpI .lss m n = some true := by simp [cmpI, h]
theorem lt_f {m n : Int} (h : ¬ m < n) : cmpI .lss m n = some false := by simp [cmpI]; omega
theorem le_t {m n : Int} (h : m ≤ n) : cmpI .leq m n = some true := by simp [cmpI, h]
theorem le_f {m n : Int} (h : ¬ m ≤ n) : cmpI .leq m n = some false := by simp [cmpI]; omega
theorem gt_t {m n : Int} (h : n < m) : cmpI .gtr m n = some true := by simp [cmpI, h]
theorem gt_f {m n : Int} (h : ¬ n < m) : cmpI .gtr m n = some false := by simp [cmpI]; omega
theorem ge_t {m n : Int} (h : n ≤ m) : cmpI .geq m n = some true := by simp [cmpI, h]
theorem ge_f {m n : Int} (h : ¬ n ≤ m) : cmpI .geq m n = some false := by simp [cmpI]; omega
theorem eq_t {m n : Int} (h : m = n) : cmpI .eql m n = some true := by simp [cmpI, h]
theorem eq_f {m n : Int} (h : ¬ m = n) : cmpI .eql m n = some false := by simp [cmpI, h]
theorem ne_t {m n : Int} (h : ¬ m = n) : cmpI .neq m n = some true := by simp [cmpI, h]
theorem ne_f {m n : Int} (h : m = n) : cmpI .neq m n = some false := by simp [cmpI, h]
end Go.Proofs.YtbhmgnhiglpmhaaDoor

/- Memory in a walk: rows side by side, literals, slices of the call's own that grow. No function of the program is named here. -/
set_option maxRecDepth 4000
namespace Go.Proofs.YtbhmgnhiglpmhaaDoor
open Go Go.RowKit
/- cells as pieces, one behind the other -/
def catA (L : List (List Value)) : Array Value := L.flatten.toArray
theorem lens_nil : ([] : List (List Value)).map List.length = [] := rfl
theorem lens_cons {l : List Value} {L : List (List Value)} {n : Nat} {ns : List Nat} (h : l.length = n) (t : L.map List.length = ns) : (l :: L).map List.length = n :: ns := by rw [List.map_cons, h, t]
theorem len_bv {q : List (BitVec 8)} {n : Nat} (h : q.length = n) : (bytesV q).length = n := by rw [len_bytesV, h]
section
variable {L M : List (List Value)} {ns : List Nat}
theorem cat_size (h : L.map List.length = ns) : (catA L).size = ns.sum := by unfold catA; rw [List.size_toArray, List.length_flatten, h]
theorem take_sum (h : L.map List.length = ns) (j : Nat) : (L.take j).flatten.length = (ns.take j).sum := by rw [List.length_flatten, List.map_take, h]
theorem cat_split (L : List (List Value)) (j : Nat) : L.flatten = (L.take j).flatten ++ (L.drop j).flatten := by rw [← List.flatten_append, List.take_append_drop]
theorem cat_slab (h : L.map List.length = ns) (j m : Nat) {off : Nat} (ho : (ns.take j).sum = off) : ((catA L).toList.drop off).take (catA ((L.drop j).take m)).size = (catA ((L.drop j).take m)).toList := by
  show (L.flatten.drop off).take _ = ((L.drop j).take m).flatten
  rw [cat_split L j, List.drop_left' (by rw [take_sum h j, ho]), cat_split (L.drop j) m]
  exact List.take_left' (by unfold catA; simp)
theorem cat_slab1 (h : L.map List.length = ns) (j : Nat) {off : Nat} {l : List Value} (ho : (ns.take j).sum = off) (hl : L[j]? = some l) : ((catA L).toList.drop off).take l.toArray.size = l.toArray.toList := by
  have e := cat_slab h j 1 ho
  have e1 : (L.drop j).take 1 = [l] := by
    have hj := (List.getElem?_eq_some_iff.1 hl)
    obtain ⟨hj, hjl⟩ := hj
    rw [List.drop_eq_getElem_cons hj, List.take_succ_cons, List.take_zero, hjl]
  rw [e1] at e
  have e2 : catA [l] = l.toArray := by unfold catA; simp
  rwa [e2] at e
theorem cat_get (h : L.map List.length = ns) (j : Nat) {off : Nat} {v : Value} (ho : (ns.take j).sum = off) (hl : L[j]? = some [v]) : (catA L)[off]? = some v := by
  have hj := (List.getElem?_eq_some_iff.1 hl)
  obtain ⟨hj, hjl⟩ := hj
  unfold catA
  rw [List.getElem?_toArray, cat_split L j, List.getElem?_append_right (by rw [take_sum h j, ho]; exact Nat.le_refl _), take_sum h j, ho, Nat.sub_self, List.drop_eq_getElem_cons hj, hjl]
  rfl
theorem cat_store (h : L.map List.length = ns) (j m : Nat) {off : Nat} (ho : (ns.take j).sum = off) (hm : M.flatten.length = ((ns.drop j).take m).sum) : (spl (catA L).toList off M.flatten).toArray = catA (L.take j ++ M ++ L.drop (j + m)) := by
  unfold catA spl
  have e1 : (L.take j).flatten.length = off := by rw [take_sum h j, ho]
  have e2 : ((L.drop j).take m).flatten.length = M.flatten.length := by rw [hm, List.length_flatten, List.map_take, List.map_drop, h]
  rw [List.flatten_append, List.flatten_append]
  congr 1
  rw [cat_split L j, List.take_left' e1, List.append_assoc, List.append_assoc]
  congr 2
  rw [← List.drop_drop, List.drop_left' e1, cat_split (L.drop j) m, List.drop_left' e2, List.drop_drop]
theorem cat_store1 (h : L.map List.length = ns) (j : Nat) {off n : Nat} {cs : Array Value} (ho : (ns.take j).sum = off) (hm : cs.size = n) (hn : ns[j]? = some n) : (spl (catA L).toList off (Value.agg cs).cells.toList).toArray = catA (L.set j cs.toList) := by
  have hj : j < ns.length := (List.getElem?_eq_some_iff.1 hn).1
  have hjL : j < L.length := by rw [← h] at hj; simpa using hj
  have e := cat_store (M := [cs.toList]) h j 1 ho (by
    rw [List.drop_eq_getElem_cons hj, List.take_succ_cons, List.take_zero]
    have := (List.getElem?_eq_some_iff.1 hn).2
    simp [this, hm])
  have e3 : (Value.agg cs).cells.toList = [cs.toList].flatten := by simp [Value.cells]
  rw [e3, e, List.set_eq_take_append_cons_drop, if_pos hjL]
  simp
theorem cat_one (h : ∀ l ∈ L, ∀ v ∈ l, Value.oneCell' v = true) : (Value.agg (catA L)).cells.all (·.oneCell') = true := by
  show (catA L).all _ = true
  unfold catA
  simp only [List.all_toArray, List.all_eq_true, List.mem_flatten]
  rintro v ⟨l, hl, hv⟩
  exact h l hl v hv
end
/- literals of structs and arrays, field by field; what is not given is zero -/
def setSegs : List (List Value) → List (Nat × Value) → List (List Value)
  | L, [] => L
  | L, (i, v) :: r => setSegs (L.set i v.cells.toList) r
def zsegs (P : Program) (t : TypeId) : Option (List (List Value)) :=
  match P.info? t, P.underlying t with
  | some it, some (.struct fields) => match it.zero, fields.toList.mapM (fun f => (P.info? f.type).map fun i => (f.offset, i.size)) with
    | some z, some places => if fits 0 (places.map (·.2)) places && ((places.map (·.2)).sum == z.cells.size) then some (places.map fun p => (z.cells.toList.drop p.1).take p.2) else none
    | _, _ => none
  | _, _ => none
theorem set_same {l : List Nat} {i : Nat} {x : Nat} (h : l[i]? = some x) : l.set i x = l := by
  apply List.ext_getElem?
  intro k
  by_cases hk : i = k
  · subst hk
    rw [List.getElem?_set_self (List.getElem?_eq_some_iff.1 h).1, h]
  · rw [List.getElem?_set_ne hk]
theorem fill_segs (place : Nat → Option (Nat × Nat)) : ∀ (ps : List (Nat × Value)) (L : List (List Value)) (ns : List Nat), L.map List.length = ns → (∀ i s, ns[i]? = some s → place i = some ((ns.take i).sum, s)) → (∀ p ∈ ps, ns[p.1]? = some p.2.cells.size) →
    Instr.fill place (catA L) ps = some (catA (setSegs L ps))
  | [], L, ns, _, _, _ => by simp [Instr.fill, setSegs]
  | (i, v) :: ps, L, ns, h, hp, hf => by
    have h1 := hf (i, v) (by simp)
    have hplace := hp i _ h1
    simp only at h1 hplace
    have hi : i < ns.length := (List.getElem?_eq_some_iff.1 h1).1
    have hv : v.cells.toList.length = v.cells.size := Array.length_toList
    have hle : (ns.take i).sum + v.cells.size ≤ (catA L).size := by
      rw [cat_size h]
      have e := congrArg List.sum (List.take_append_drop i ns)
      rw [List.sum_append, List.drop_eq_getElem_cons hi, List.sum_cons, (List.getElem?_eq_some_iff.1 h1).2] at e
      omega
    have e := fill_set (ns.take i).sum v.cells (catA L) hle
    have e2 := cat_store1 (L := L) (cs := v.cells) h i rfl rfl h1
    have e3 : (Value.agg v.cells).cells.toList = v.cells.toList := rfl
    rw [e3] at e2
    simp only [Instr.fill, hplace]
    rw [if_neg (by simp; omega), e, e2, setSegs]
    refine fill_segs place ps _ ns ?_ hp fun p hp => hf p (by simp [hp])
    rw [List.map_set, h, hv]
    exact set_same h1
theorem zsegs_flat {P : Program} {t : TypeId} {Lz : List (List Value)} (hz : zsegs P t = some Lz) (ps : List (Nat × Value)) (hf : ∀ p ∈ ps, (Lz.map List.length)[p.1]? = some p.2.cells.size) : P.built t ps = some (catA (setSegs Lz ps)) := by
  unfold zsegs at hz
  unfold Program.built
  cases hit : P.info? t with
  | none => simp [hit] at hz
  | some it =>
    cases hu : P.underlying t with
    | none => simp [hit, hu] at hz
    | some d =>
      cases d <;> try (simp [hit, hu] at hz; done)
      case struct fields =>
        simp only [hit, hu] at hz ⊢
        cases hzz : it.zero with
        | none => simp [hzz] at hz
        | some z =>
          cases hm : fields.toList.mapM (fun f => (P.info? f.type).map fun i => (f.offset, i.size)) with
          | none => simp [hzz, hm] at hz
          | some pl =>
            simp only [hzz, hm] at hz ⊢
            split at hz
            · rename_i hc
              simp only [Bool.and_eq_true, beq_iff_eq] at hc
              obtain ⟨hfit, hsum⟩ := hc
              injection hz with hz
              have hzl : z.cells.toList.length = z.cells.size := Array.length_toList
              have hat := fits_at _ 0 pl hfit
              have hlens : Lz.map List.length = pl.map (·.2) := by
                rw [← hz, List.map_map]
                refine List.map_congr_left fun p hp => ?_
                obtain ⟨k, hk⟩ := List.getElem?_of_mem hp
                have h2 := hat k p.2 (by simp [hk])
                rw [hk] at h2
                injection h2 with h2
                have h3 : p.1 = ((pl.map (·.2)).take k).sum := by rw [h2]; simp
                have hlt : k < (pl.map (·.2)).length := by have := (List.getElem?_eq_some_iff.1 hk).1; simpa using this
                have e := congrArg List.sum (List.take_append_drop k (pl.map (·.2)))
                rw [List.sum_append, List.drop_eq_getElem_cons hlt, List.sum_cons] at e
                have h4 : (pl.map (·.2))[k] = p.2 := by have := (List.getElem?_eq_some_iff.1 hk).2; simp [this]
                simp only [Function.comp, List.length_take, List.length_drop]
                omega
              have hflat : ∀ (ss : List Nat) (o : Nat) (pl : List (Nat × Nat)) (l : List Value), fits o ss pl = true → (pl.map fun p => (l.drop p.1).take p.2).flatten = (l.drop o).take ss.sum := by
                intro ss
                induction ss with
                | nil => intro o pl l h
                         cases pl with
                         | nil => simp
                         | cons => simp [fits] at h
                | cons s ss ih =>
                  intro o pl l h
                  cases pl with
                  | nil => simp [fits] at h
                  | cons p pl =>
                    obtain ⟨o', s'⟩ := p
                    simp only [fits, Bool.and_eq_true, beq_iff_eq] at h
                    obtain ⟨⟨rfl, rfl⟩, h⟩ := h
                    simp only [List.map_cons, List.flatten_cons, List.sum_cons]
                    rw [ih _ _ _ h, List.take_add, List.drop_drop]
              have hcat : catA Lz = z.cells := by
                unfold catA
                rw [← hz, hflat _ 0 pl _ hfit, List.drop_zero, hsum, List.take_of_length_le (by omega)]
              rw [← hcat]
              refine fill_segs _ ps Lz _ rfl (fun i s hs => ?_) hf
              rw [hlens] at hs ⊢
              rw [List.getElem?_toArray, hat i s hs, Nat.zero_add]
            · cases hz
section
variable {P : Program} {o : Oper} {a : Act} {w : World} {R : Value → World → Prop}
theorem fit_nil {ns : List Nat} : ∀ p ∈ ([] : List (Nat × Value)), ns[p.1]? = some p.2.cells.size := fun p h => by cases h
theorem fit_cons {ns : List Nat} {i n : Nat} {v : Value} {ps : List (Nat × Value)} (h : ns[i]? = some n) (hv : v.cells.size = n) (t : ∀ p ∈ ps, ns[p.1]? = some p.2.cells.size) : ∀ p ∈ (i, v) :: ps, ns[p.1]? = some p.2.cells.size := fun p hp => by
  cases hp with
  | head => rw [h, hv]
  | tail _ hp => exact t p hp
theorem dd_bld {t : TypeId} {parts : Array (Nat × Operand)} {ps : List (Nat × Value)} {Lz : List (List Value)} {ns : List Nat} {cs : Array Value} (ho : o.op = .build t parts) (hp : (parts.map fun (i, x) => (i, a.eval x)).toList = ps) (hz : zsegs P t = some Lz) (hL : Lz.map List.length = ns) (hf : ∀ p ∈ ps, ns[p.1]? = some p.2.cells.size)
    (hc : catA (setSegs Lz ps) = cs) : (execOp a.eval o).run P w = .ok (.value (.agg cs)) w := by
  subst hL hc
  have hb := zsegs_flat hz ps hf
  rw [← hp] at hb ⊢
  unfold execOp
  simp only [ho, Sem.run_bind, run_build w t _ _ hb, Result.andThen_ok, Sem.run_pure]
end
theorem dd_bldk {P : Program} {o : Oper} {a : Act} {w : World} {t : TypeId} {parts : Array (Nat × Operand)} {ps : List (Nat × Value)} {cs : Array Value} (ho : o.op = .build t parts) (hp : (parts.map fun (i, x) => (i, a.eval x)).toList = ps) (hb : P.built t ps = some cs) : (execOp a.eval o).run P w = .ok (.value (.agg cs)) w := by
  rw [← hp] at hb
  unfold execOp
  simp only [ho, Sem.run_bind, run_build w t _ cs hb, Result.andThen_ok, Sem.run_pure]
/- slices of the call's own: the block that they lie in -/
structure OwnC (cb : Array Value) (c n sz : Nat) (L : List Value) : Prop where
  le : n ≤ c
  cap : c ≤ maxLen
  size : cb.size = c * sz
  len : L.length = n * sz
  take : cb.toList.take (n * sz) = L
theorem ownc_to {w : World} {g e c n sz b : Nat} {cb : Array Value} {L : List Value} (h : Row w g e cb) (O : OwnC cb c n sz L) (hb : b ≤ g) : w.ownsRow b e sz (.slice (some ⟨g, 0, none⟩) n c) n L :=
  ⟨O.len, .inr ⟨g, c, cb, rfl, hb, h, O.le, O.cap, O.size, O.take⟩⟩
theorem ownc_of {w : World} {b e n sz : Nat} {v : Value} {L : List Value} (h : w.ownsRow b e sz v n L) (h0 : v ≠ .slice none 0 0) : ∃ g c cb, v = .slice (some ⟨g, 0, none⟩) n c ∧ b ≤ g ∧ Row w g e cb ∧ OwnC cb c n sz L := by
  obtain ⟨hl, h | ⟨g, cap, cur, h1, h2, h3, h4, h5, h6, h7⟩⟩ := h
  · exact absurd h.1 h0
  · exact ⟨g, cap, cur, h1, h2, h3, h4, h5, h6, hl, h7⟩
theorem ownc_pos {w : World} {b e n sz : Nat} {v : Value} {L : List Value} (h : w.ownsRow b e sz v n L) (h0 : 0 < n) : ∃ g c cb, v = .slice (some ⟨g, 0, none⟩) n c ∧ b ≤ g ∧ Row w g e cb ∧ OwnC cb c n sz L := by
  refine ownc_of h fun e => ?_
  rcases h.2 with h | ⟨g, cap, cur, h1, _⟩
  · omega
  · rw [e] at h1; cases h1
/- memory as a list of blocks: one goes, one comes -/
theorem st_erase {w0 w : World} {F : Nat → Prop} {S : List Blk} (h : St w0 F S w) (k : Nat) : St w0 F (S.eraseIdx k) w := by
  have at_ : ∀ j r, (S.eraseIdx k)[j]? = some r → ∃ i, S[i]? = some r ∧ i = (if j < k then j else j + 1) := fun j r hj => by
    rw [List.getElem?_eraseIdx] at hj
    split at hj
    · exact ⟨j, hj, by rw [if_pos (by assumption)]⟩
    · exact ⟨j + 1, hj, by rw [if_neg (by assumption)]⟩
  refine ⟨h.chg, fun j r hj => ?_, fun i j r s hij hi hj => ?_, fun j r hj => ?_⟩
  · obtain ⟨i, hi, _⟩ := at_ j r hj; exact h.rows i r hi
  · obtain ⟨i', hi', ei⟩ := at_ i r hi
    obtain ⟨j', hj', ej⟩ := at_ j s hj
    refine h.apart i' j' r s (fun e => hij ?_) hi' hj'
    rw [ei, ej] at e
    split at e <;> split at e <;> omega
  · obtain ⟨i, hi, _⟩ := at_ j r hj; exact h.own i r hi
theorem St.joins {w0 W W' : World} {F : Nat → Prop} {S : List Blk} (h : St w0 F S W) (hb : Below W.heap.size W W') {g : Nat} {t : TypeId} {cs : Array Value} (hr : Row W' g t cs) (hg : W.heap.size ≤ g) : St w0 F (S ++ [⟨g, t, cs⟩]) W' :=
  (h.same hb).join hr (Nat.le_trans h.chg.size hg) fun b hm e => by have := h.lt hm; omega
theorem st_snoc {w0 w : World} {F : Nat → Prop} {S : List Blk} (h : St w0 F S w) {g : Nat} {t : TypeId} {cs : Array Value} (hr : Row w g t cs) (hg : F g ∨ w0.heap.size ≤ g) (hne : ∀ b ∈ S, b.g ≠ g) : St w0 F (S ++ [⟨g, t, cs⟩]) w := by
  have at_ : ∀ (j : Nat) (s : Blk), (S ++ [(⟨g, t, cs⟩ : Blk)])[j]? = some s → (j < S.length ∧ S[j]? = some s) ∨ (j = S.length ∧ s = ⟨g, t, cs⟩) := fun j s hj => by
    by_cases e : j < S.length
    · rw [List.getElem?_append_left e] at hj; exact .inl ⟨e, hj⟩
    · rw [List.getElem?_append_right (by omega)] at hj
      have e2 : j - S.length = 0 := by
        rcases Nat.eq_zero_or_pos (j - S.length) with h0 | h0
        · exact h0
        · rw [List.getElem?_eq_none (by simp; omega)] at hj; cases hj
      rw [e2] at hj
      exact .inr ⟨by omega, (Option.some.inj hj).symm⟩
  refine ⟨h.chg, fun j s hj => ?_, fun i j s u hij hi hj => ?_, fun j s hj => ?_⟩
  · rcases at_ j s hj with ⟨_, hk⟩ | ⟨_, rfl⟩
    · exact h.rows j s hk
    · exact hr
  · rcases at_ i s hi with ⟨_, hk⟩ | ⟨e1, rfl⟩ <;> rcases at_ j u hj with ⟨_, hu⟩ | ⟨e2, rfl⟩
    · exact h.apart _ _ _ _ hij hk hu
    · exact hne s (List.mem_of_getElem? hk)
    · exact fun e => hne u (List.mem_of_getElem? hu) e.symm
    · omega
  · rcases at_ j s hj with ⟨_, hk⟩ | ⟨_, rfl⟩
    · exact h.own j s hk
    · exact hg
section
variable {P : Program} {o : Oper} {a : Act} {w w0 : World} {R : Value → World → Prop} {F : Nat → Prop} {S : List Blk}
/- a literal slice -/
theorem dd_lits (HS : St w0 F S w) {t e : TypeId} {len : Nat} {parts : Array (Nat × Operand)} (cells : Array Value) (ho : o.op = .buildSlice t len parts) {ps : List (Nat × Value)} (hp : (parts.map fun (i, x) => (i, a.eval x)).toList = ps) {z : Value} {sz : Nat}
    (hu : P.underlying t = some (.slice e)) (hie : (P.info? e).map (fun i => (i.zero, i.size)) = some (some z, sz)) (hpos : Nat.blt 0 (len * sz) = true) (hsmall : Nat.ble (len * sz) 16777216 = true)
    (hf : Instr.fill (fun i => some (i * sz, sz)) ((Array.range (len * sz)).map (z.cells[· % z.cells.size]!)) ps = some cells)
    (h : ∀ g w', St w0 F (S ++ [⟨g, e, cells⟩]) w' → R (.slice (some ⟨g, 0, none⟩) len len) w') : Does P o a w R := fun _ _ hK => by
  obtain ⟨ie, hi, he⟩ := Option.map_eq_some_iff.1 hie
  injection he with hz hsz
  subst hsz
  have h1 := Nat.le_of_ble_eq_true hsmall
  have h2 : 0 < len * ie.size := Nat.le_of_ble_eq_true hpos
  exact wp_buildSlice t e len parts ho cells ie z hu hi hz (by omega) (by omega) (by rw [hp]; exact hf) (hK _ _ (h _ _ (HS.snoc e cells)))
/- append to a slice whose block is known -/
theorem dd_app (HS : St w0 F S w) (k : Nat) {g c n sz : Nat} {cb : Array Value} {e t : TypeId} {L : List Value} (hk : S[k]? = some ⟨g, e, cb⟩) (O : OwnC cb c n sz L) {s x : Operand} (ho : o.op = .call { callee := .builtin .append, args := #[s, x], argTypes := #[t, t] })
    (hs : a.eval s = .slice (some ⟨g, 0, none⟩) n c) {z : Value} {bytes : Nat} (ht : P.underlying t = some (.slice e)) (hi : (P.info? e).map (fun i => (i.zero, i.size, i.bytes)) = some (some z, sz, bytes)) (hzs : z.cells.size = sz) (hsz : 0 < sz)
    {ad : Addr} {m c2 : Nat} (news : List Value) (hx : a.eval x = .slice (some ad) m c2) (hl : news.length = m * sz) (hnews : ∀ j u, news[j]? = some u → w.cell? (ad.add j) = some u) (h1 : ∀ u ∈ news, u.oneCell' = true)
    (h63 : n + m ≤ maxLen) (hbytes : (n + m) * bytes ≤ 140737488355328)
    (h : ∀ g' c' cb' w', OwnC cb' c' (n + m) sz (L ++ news) → St w0 F (S.eraseIdx k ++ [⟨g', e, cb'⟩]) w' → R (.slice (some ⟨g', 0, none⟩) (n + m) c') w') : Does P o a w R := fun _ _ hK => by
  have hrow := HS.row k hk
  have hown := ownc_to hrow O (Nat.zero_le g)
  obtain ⟨i, hi1, hz1, hz2, hz3⟩ := info_parts hi
  obtain ⟨v', w', hr, h2, h3, h4⟩ := run_append_where (P := P) w 0 t o.type e i z sz bytes ht hi1 hz1 hz2 hz3 hzs hsz _ n L hown ad m c2 news hl hnews h1 h63 hbytes (Nat.zero_le _)
  obtain ⟨v3, w3, hr3, _, _, h6⟩ := run_append_own (P := P) w 0 t o.type e i z sz bytes ht hi1 hz1 hz2 hz3 hzs hsz _ n L hown ad m c2 news hl hnews h1 h63 hbytes (Nat.zero_le _)
  rw [hr] at hr3
  injection hr3 with hr3 _
  subst hr3
  obtain ⟨g', c', cb', rfl, _, hrow', O'⟩ := ownc_of h2 (fun ev => by have := (h6.1 ev).1; cases this)
  have hne : ∀ j r, S[j]? = some r → j ≠ k → r.g ≠ g' := fun j r hj hjk e' => by
    have hjr := HS.rows j r hj
    rcases h4.cases (k := g') rfl with h5 | h5
    · injection h5 with h5
      have h5 : g = g' := h5
      exact HS.apart j k r _ hjk hj hk (by rw [e', ← h5])
    · have := hjr.lt; omega
  have hS1 : St w0 F (S.eraseIdx k) w' := by
    have hE := st_erase HS k
    have hg : F g ∨ w0.heap.size ≤ g := HS.own k _ hk
    have hrows : ∀ b ∈ S.eraseIdx k, b.g ≠ g := fun b hb e' => by
      obtain ⟨j, hj⟩ := List.getElem?_of_mem hb
      rw [List.getElem?_eraseIdx] at hj
      split at hj
      · exact HS.apart j k b _ (by omega) hj hk e'
      · exact HS.apart (j + 1) k b _ (by omega) hj hk e'
    exact ⟨hE.chg.grown h3 (fun j e' => by injection e' with e'; have e' : g = j := e'; subst e'; exact hg), fun j r hj => (hE.rows j r hj).only h3 (hrows r (List.mem_of_getElem? hj)), hE.apart, hE.own⟩
  have hg' : F g' ∨ w0.heap.size ≤ g' := by
    rcases h4.cases (k := g') rfl with h5 | h5
    · injection h5 with h5
      have h5 : g = g' := h5
      rw [← h5]; exact HS.own k _ hk
    · exact .inr (Nat.le_trans HS.chg.size h5)
  have hS2 := st_snoc hS1 hrow' hg' (fun b hb => by
    obtain ⟨j, hj⟩ := List.getElem?_of_mem hb
    rw [List.getElem?_eraseIdx] at hj
    split at hj
    · exact hne j b hj (by omega)
    · exact hne (j + 1) b hj (by omega))
  unfold Oper.wp execOp
  simp only [ho, resolve, invoke, builtin, Sem.run_bind, Sem.run_pure, Result.andThen_ok, List.map_toArray, List.map_cons, List.map_nil, hs, hx, hr]
  exact hK _ _ (h g' c' cb' w' O' hS2)
theorem dd_setrow (HS : St w0 F S w) (k : Nat) {ty : TypeId} {x y : Operand} (ho : o.op = .store ty x y) {g n : Nat} {t : TypeId} {old cs : Array Value} (hk : S[k]? = some ⟨g, t, old⟩) (hx : a.eval x = .pointer (some ⟨g, 0, none⟩)) (hy : a.eval y = .agg cs) (hi : (P.info? ty).map (·.size) = some n) (hn : cs.size = n) (hn2 : old.size = n) (h1 : (Value.agg cs).cells.all (·.oneCell') = true)
    (h : ∀ w', St w0 F (S.set k ⟨g, t, cs⟩) w' → R undef w') : Does P o a w R :=
  dd_store HS k 0 ho hk hx hy (by rw [hi, show (Value.agg cs).cells.size = n from hn]) (by show 0 + cs.size ≤ old.size; omega) h1 (spl_agg _ _ _ rfl (by show old.size = cs.size; omega)) h
theorem dd_setpart (HS : St w0 F S w) (k i j : Nat) {ty : TypeId} {x y : Operand} (ho : o.op = .store ty x y) {g n : Nat} {t : TypeId} {L : List (List Value)} {ns : List Nat} {cs : Array Value} (hL : L.map List.length = ns) (hk : S[k]? = some ⟨g, t, catA L⟩) (hx : a.eval x = .pointer (some ⟨g, i, none⟩)) (hy : a.eval y = .agg cs) (hi : (P.info? ty).map (·.size) = some n) (hn : cs.size = n) (ho2 : (ns.take j).sum = i) (hj : ns[j]? = some n) (h1 : (Value.agg cs).cells.all (·.oneCell') = true)
    (h : ∀ w', St w0 F (S.set k ⟨g, t, catA (L.set j cs.toList)⟩) w' → R undef w') : Does P o a w R :=
  dd_store HS k i ho hk hx hy (by rw [hi, show (Value.agg cs).cells.size = n from hn]) (by
    show i + cs.size ≤ (catA L).size
    have hjl := (List.getElem?_eq_some_iff.1 hj).1
    have e := congrArg List.sum (List.take_append_drop j ns)
    rw [List.sum_append, List.drop_eq_getElem_cons hjl, List.sum_cons, (List.getElem?_eq_some_iff.1 hj).2] at e
    rw [cat_size hL]; omega) h1 (cat_store1 hL j ho2 hn hj) h
end
def Ones (L : List (List Value)) : Prop := ∀ l ∈ L, ∀ v ∈ l, Value.oneCell' v = true
theorem ones_nil : Ones [] := fun l h => by cases h
theorem ones_cons {l : List Value} {L : List (List Value)} (h : ∀ v ∈ l, Value.oneCell' v = true) (t : Ones L) : Ones (l :: L) := fun m hm => by
  cases hm with
  | head => exact h
  | tail _ hm => exact t m hm
theorem ones_c {v : Value} (h : Value.oneCell' v = true) : ∀ u ∈ [v], Value.oneCell' u = true := fun u hu => by
  cases hu with
  | head => exact h
  | tail _ hu => cases hu
theorem all_one {cs : Array Value} (h : (Value.agg cs).cells.all (·.oneCell') = true) : ∀ v ∈ cs.toList, Value.oneCell' v = true := fun v hv => (Array.all_eq_true_iff_forall_mem.1 h) v (by simpa [Value.cells] using hv)
theorem ao_nil : ∀ v ∈ ([] : List Value), Value.oneCell' v = true := fun v h => by cases h
theorem ao_cons {v : Value} {l : List Value} (h : Value.oneCell' v = true) (t : ∀ v ∈ l, Value.oneCell' v = true) : ∀ u ∈ v :: l, Value.oneCell' u = true := fun u hu => by
  cases hu with
  | head => exact h
  | tail _ hu => exact t u hu
theorem one_l {l : List Value} (h : ∀ v ∈ l, Value.oneCell' v = true) : (Value.agg l.toArray).cells.all (·.oneCell') = true := by
  show l.toArray.all _ = true
  simpa using h
theorem args0 {f : Operand → Value} : (#[] : Array Operand).map f = ([] : List Value).toArray := by simp
theorem args1 {f : Operand → Value} {x1 : Operand} {v1 : Value} (h1 : f x1 = v1) : (#[x1] : Array Operand).map f = [v1].toArray := by simp [h1]
theorem args2 {f : Operand → Value} {x1 x2 : Operand} {v1 v2 : Value} (h1 : f x1 = v1) (h2 : f x2 = v2) : (#[x1, x2] : Array Operand).map f = [v1, v2].toArray := by simp [h1, h2]
theorem args3 {f : Operand → Value} {x1 x2 x3 : Operand} {v1 v2 v3 : Value} (h1 : f x1 = v1) (h2 : f x2 = v2) (h3 : f x3 = v3) : (#[x1, x2, x3] : Array Operand).map f = [v1, v2, v3].toArray := by simp [h1, h2, h3]
theorem args4 {f : Operand → Value} {x1 x2 x3 x4 : Operand} {v1 v2 v3 v4 : Value} (h1 : f x1 = v1) (h2 : f x2 = v2) (h3 : f x3 = v3) (h4 : f x4 = v4) : (#[x1, x2, x3, x4] : Array Operand).map f = [v1, v2, v3, v4].toArray := by simp [h1, h2, h3, h4]
theorem pr1 {i : Nat} {f : Operand → Value} {x : Operand} {v : Value} {l : List (Nat × Operand)} {ps : List (Nat × Value)} (h : f x = v) (t : (l.toArray.map fun (i, x) => (i, f x)).toList = ps) : (((i, x) :: l).toArray.map fun (i, x) => (i, f x)).toList = (i, v) :: ps := by
  simp only [List.map_toArray, List.map_cons, h] at *
  simpa using t
theorem pr0 {f : Operand → Value} : (([] : List (Nat × Operand)).toArray.map fun (i, x) => (i, f x)).toList = [] := by simp
/- bytes that a slice reads, as what is appended -/
theorem slice_news {w : World} {ad : Addr} {m c : Nat} {q : List (BitVec 8)} (h : Slice w (.slice (some ad) m c) q) : ∀ (j : Nat) (u : Value), (bytesV q)[j]? = some u → w.cell? (ad.add j) = some u := fun j u hu => by
  have hj : j < (bytesV q).length := (List.getElem?_eq_some_iff.1 hu).1
  rw [len_bytesV] at hj
  obtain ⟨A, c', e, _, h3⟩ := h
  injection e with e1 _ _
  subst e1
  obtain ⟨b, o, e2, _, h4⟩ := h3 (fun e => by rw [e] at hj; simp at hj)
  injection e2 with e2
  subst e2
  have h5 := h4 j q[j] (List.getElem?_eq_getElem hj)
  rw [Addr.add_mid, h5]
  simp [bytesV, List.getElem?_eq_getElem hj] at hu
  rw [hu]
theorem bytes_slab {cs : Array Value} {o : Nat} {q : List (BitVec 8)} (h : (cs.toList.drop o).take (bs q).size = (bs q).toList) : (cs.toList.drop o).take (bytesV q).length = bytesV q := by
  rw [bs_toList, size_bs] at h; rw [len_bytesV]; exact h
theorem slice_own {w : World} {g c n : Nat} {cb : Array Value} {t : TypeId} {q : List (BitVec 8)} (h : Row w g t cb) (O : OwnC cb c n 1 (bytesV q)) (hq : q.length = n) : Slice w (.slice (some ⟨g, 0, none⟩) n c) q := by
  subst hq
  refine ⟨_, c, rfl, O.le, fun _ => ⟨g, 0, rfl, h.lt, fun j x hx => ?_⟩⟩
  have hj : j < q.length := (List.getElem?_eq_some_iff.1 hx).1
  rw [Nat.zero_add]
  refine h.get ?_
  have h1 := O.take
  rw [Nat.mul_one] at h1
  rw [← Array.getElem?_toList, ← List.getElem?_take_of_lt hj, h1]
  simp [bytesV, hx]
theorem item_own {w : World} {g c n : Nat} {cb : Array Value} {t : TypeId} {q : List (BitVec 8)} (h : Row w g t cb) (O : OwnC cb c n 1 (bytesV q)) (hq : q.length = n) : Item w (.slice (some ⟨g, 0, none⟩) n c) q :=
  ⟨_, c, by rw [hq], by rw [hq]; exact slice_own h O hq, fun h => (by cases h), by rw [hq]; exact Nat.le_trans O.le O.cap⟩
theorem slice_nil0 (w : World) : Slice w (.slice none 0 0) [] := ⟨none, 0, rfl, Nat.le_refl _, fun h => absurd rfl h⟩
theorem slice_part {w : World} {g : Nat} {t : TypeId} {cs : Array Value} {q : List (BitVec 8)} {n c : Nat} (h : Row w g t cs) (o : Nat) (hL : (cs.toList.drop o).take (bytesV q).length = bytesV q) (hq : q.length = n) (hc : n ≤ c) : Slice w (.slice (some ⟨g, o, none⟩) n c) q := by
  subst hq
  refine ⟨_, c, rfl, hc, fun _ => ⟨g, o, rfl, h.lt, fun j x hx => ?_⟩⟩
  have hj : j < (bytesV q).length := by rw [len_bytesV]; exact (List.getElem?_eq_some_iff.1 hx).1
  refine h.get ?_
  have h2 := congrArg (fun l : List Value => l[j]?) hL
  simp only [List.getElem?_take_of_lt hj, List.getElem?_drop] at h2
  rw [← Array.getElem?_toList, h2]
  simp [bytesV, hx]
theorem row_news {w : World} {g : Nat} {t : TypeId} {cs : Array Value} (h : Row w g t cs) (o : Nat) {L : List Value} (hL : (cs.toList.drop o).take L.length = L) : ∀ (j : Nat) (u : Value), L[j]? = some u → w.cell? ((⟨g, o, none⟩ : Addr).add j) = some u := fun j u hu => by
  rw [Addr.add_mid]; exact h.slab o L hL j u hu
theorem ownc_app {cb : Array Value} {c n : Nat} {p q : List (BitVec 8)} (h : OwnC cb c n 1 (bytesV p ++ bytesV q)) : OwnC cb c n 1 (bytesV (p ++ q)) := (show bytesV (p ++ q) = bytesV p ++ bytesV q by simp [bytesV]) ▸ h
section
variable {P : Program} {o : Oper} {a : Act} {w : World} {R : Value → World → Prop}
theorem dd_slA {t : TypeId} {x : Operand} {g i n sz : Nat} (ho : o.op = .slice t x none none none) (hx : a.eval x = .pointer (some ⟨g, i, none⟩)) (ht : arrOf P t = some (n, sz)) : (execOp a.eval o).run P w = .ok (.value (.slice (some ⟨g, i, none⟩) n n)) w := by
  unfold arrOf at ht
  cases hu : P.underlying t with
  | none => rw [hu] at ht; cases ht
  | some d =>
    rw [hu] at ht
    cases d with
    | array n' e =>
      simp only at ht
      cases hq : P.info? e with
      | none => rw [hq] at ht; cases ht
      | some inf =>
        rw [hq] at ht
        simp only [Option.map_some, Option.some.injEq, Prod.mk.injEq] at ht
        obtain ⟨rfl, rfl⟩ := ht
        simp [execOp, ho, hx, Instr.sliceAt, Instr.sureAddr, run_underlying hu, sizeOf, typeInfo, hq, Instr.sliceBounds, Addr.add_mid]
    | _ => simp only at ht; cases ht
theorem dd_sll {t : TypeId} {x lo : Operand} {g i n c sz j : Nat} {k : IntKind} {l : Nat} (ho : o.op = .slice t x (some lo) none none) (hx : a.eval x = .slice (some ⟨g, i, none⟩) n c) (hl : a.eval lo = .int k (l : Int)) (ht : slOf P t = some sz) (h1 : l ≤ n) (h3 : l < c) (hj : i + l * sz = j) {n' c' : Nat} (hn : n - l = n') (hc : c - l = c')
    : (execOp a.eval o).run P w = .ok (.value (.slice (some ⟨g, j, none⟩) n' c')) w := by
  subst hj hn hc
  unfold slOf at ht
  cases hu : P.underlying t with
  | none => rw [hu] at ht; cases ht
  | some d =>
    rw [hu] at ht
    cases d with
    | slice e =>
      simp only at ht
      cases hq : P.info? e with
      | none => rw [hq] at ht; cases ht
      | some inf =>
        rw [hq] at ht
        simp only [Option.map_some, Option.some.injEq] at ht
        subst ht
        have e3 : ¬ c = l := by omega
        have e1 : l ≤ n := h1
        simp [execOp, ho, hx, hl, Instr.sliceAt, run_underlying hu, Instr.slice, Instr.sliceBounds, Instr.sliceBound, asIntOf, sizeOf, typeInfo, hq, e1, e3, Addr.add_mid]
    | _ => simp only at ht; cases ht
theorem dd_slh {t : TypeId} {x hi : Operand} {A : Option Addr} {n c sz : Nat} {k' : IntKind} {u : Int} (ho : o.op = .slice t x none (some hi) none) (hx : a.eval x = .slice A n c) (hh : a.eval hi = .int k' u) (ht : slOf P t = some sz) (h1 : 0 ≤ u) (h2 : u ≤ (c : Int)) {n' : Nat} (hn : u.toNat = n')
    : (execOp a.eval o).run P w = .ok (.value (.slice A n' c)) w := by
  subst hn
  unfold slOf at ht
  cases hu : P.underlying t with
  | none => rw [hu] at ht; cases ht
  | some d =>
    rw [hu] at ht
    cases d with
    | slice e =>
      simp only at ht
      cases hq : P.info? e with
      | none => rw [hq] at ht; cases ht
      | some inf =>
        have e4 : (A.map fun x => x.add 0) = A := by cases A <;> simp [Addr.add]
        simp [execOp, ho, hx, hh, Instr.sliceAt, run_underlying hu, Instr.slice, Instr.sliceBounds, Instr.sliceBound, asIntOf, sizeOf, typeInfo, hq, h1, h2, e4]
    | _ => simp only at ht; cases ht
end
end Go.Proofs.YtbhmgnhiglpmhaaDoor

/- Regions that draw, order by order, what only reads taken first; ways that meet again. No function of the program is named here. -/
set_option maxRecDepth 4000
namespace Go.Proofs.YtbhmgnhiglpmhaaDoor
open Go Go.RowKit
def PQ (Q : Exit → Act → World → Prop) : Prop := ∀ c (a : Act) (d : Option Tmp) (v : Value) (w : World), Q (.panic c) (a.put d v) w → Q (.panic c) a w
theorem pq_then {K : Act → World → Prop} {Q : Exit → Act → World → Prop} (h : PQ Q) : PQ (Exit.then K Q) := h
theorem pq_block {id : Nat} {Q : Exit → Act → World → Prop} (h : PQ Q) : PQ (Exit.inBlock id Q) := h
theorem pq_body {P : Program} {fn : Func} {R : Ending → World → Prop} : PQ (bodyPost P fn R) := fun c a d v w h => by
  cases d <;> exact h
section
variable {P : Program} {Q : Exit → Act → World → Prop} {ops : Array Oper} {o : Oper} {N i fuel : Nat} {L : List (Nat × Value)} {a : Act} {w : World} {listed : Array Bool} {S : World → Prop}
theorem wp_held {id : Nat} {l : List Oper} {M : Nat} (S : World → Prop) (hm : P.follows .mixedOrders = true) (hM : l.length = M) (h : wpAnyH P .any l.toArray Q S M (Array.replicate M false) a w.drew) : (Code.region id l.toArray true).wp P Q a w := by
  subst hM
  refine wp_region_held (S := S) hm ?_
  have e : l.toArray.size = l.length := by simp
  rw [e]; exact h
theorem hm_nil {K : Nat → Prop} : ∀ i ∈ ([] : List Nat), K i := fun i h => by cases h
theorem hm_cons {K : Nat → Prop} {j : Nat} {l : List Nat} (h : K j) (t : ∀ i ∈ l, K i) : ∀ i ∈ j :: l, K i := fun i hi => by
  cases hi with
  | head => exact h
  | tail _ hi => exact t i hi
end
theorem wp_cut {P : Program} {Q : Exit → Act → World → Prop} {c : Code} {a : Act} {w : World} (I : Act → World → Prop) (h : c.wp P (Exit.then I Q) a w) (k : ∀ a w, I a w → Q .normal a w) : c.wp P Q a w :=
  wp_mono h fun e a w q => by
    cases e with
    | normal => exact k a w q
    | _ => exact q
/- some of the blocks, in whatever order -/
def selB (S : List Blk) : List Nat → List Blk
  | [] => []
  | i :: is => match S[i]? with
    | some r => r :: selB S is
    | none => selB S is
theorem sel_at (S : List Blk) : ∀ (is : List Nat), is.Nodup → ∀ (i j : Nat) (r s : Blk), (selB S is)[i]? = some r → (selB S is)[j]? = some s → ∃ i' j', i' ∈ is ∧ j' ∈ is ∧ S[i']? = some r ∧ S[j']? = some s ∧ (i ≠ j → i' ≠ j')
  | [], _, i, j, r, s, h, _ => by simp [selB] at h
  | k :: is, hn, i, j, r, s, hi, hj => by
    obtain ⟨hk, hn⟩ := List.nodup_cons.1 hn
    unfold selB at hi hj
    cases hs : S[k]? with
    | none =>
      rw [hs] at hi hj
      obtain ⟨i', j', h1, h2, h3⟩ := sel_at S is hn i j r s hi hj
      exact ⟨i', j', by simp [h1], by simp [h2], h3⟩
    | some u =>
      rw [hs] at hi hj
      cases i with
      | zero =>
        obtain rfl : u = r := by simpa using hi
        cases j with
        | zero => obtain rfl : u = s := by simpa using hj
                  exact ⟨k, k, by simp, by simp, hs, hs, fun h => absurd rfl h⟩
        | succ j =>
          obtain ⟨j', _, h1, _, h3, _, _⟩ := sel_at S is hn j j s s (by simpa using hj) (by simpa using hj)
          exact ⟨k, j', by simp, by simp [h1], hs, h3, fun _ e => hk (e ▸ h1)⟩
      | succ i =>
        cases j with
        | zero =>
          obtain rfl : u = s := by simpa using hj
          obtain ⟨i', _, h1, _, h3, _, _⟩ := sel_at S is hn i i r r (by simpa using hi) (by simpa using hi)
          exact ⟨i', k, by simp [h1], by simp, h3, hs, fun _ e => hk (e ▸ h1)⟩
        | succ j =>
          obtain ⟨i', j', h1, h2, h3, h4, h5⟩ := sel_at S is hn i j r s (by simpa using hi) (by simpa using hj)
          exact ⟨i', j', by simp [h1], by simp [h2], h3, h4, fun h => h5 (by omega)⟩
theorem st_sel {w0 w : World} {F : Nat → Prop} {S : List Blk} (h : St w0 F S w) (is : List Nat) (hn : is.Nodup) : St w0 F (selB S is) w :=
  ⟨h.chg, fun j r hj => by obtain ⟨i', _, _, _, h1, _⟩ := sel_at S is hn j j r r hj hj; exact h.rows i' r h1,
    fun i j r s hij hi hj => by obtain ⟨i', j', _, _, h1, h2, h3⟩ := sel_at S is hn i j r s hi hj; exact h.apart i' j' r s (h3 hij) h1 h2,
    fun j r hj => by obtain ⟨i', _, _, _, h1, _⟩ := sel_at S is hn j j r r hj hj; exact h.own i' r h1⟩
end Go.Proofs.YtbhmgnhiglpmhaaDoor

/- Loops in a walk; rows of bytes, cell by cell; slices that are made. No function of the program is named here. -/
set_option maxRecDepth 4000
namespace Go.Proofs.YtbhmgnhiglpmhaaDoor
open Go Go.RowKit
/- a loop of at most so many rounds -/
def unr (P : Program) (c : Code) (Q : Exit → Act → World → Prop) : Nat → Act → World → Prop
  | 0, _, _ => False
  | n + 1, a, w => c.wp P (Exit.then (unr P c Q n) Q) a w
theorem wp_unr {P : Program} {c : Code} {Q : Exit → Act → World → Prop} {a : Act} {w : World} (n : Nat) (h : unr P c Q n a w) : (Code.loop c).wp P Q a w :=
  wp_loopG (ι := Nat) (fun i a w => unr P c Q i a w) id n h fun i a w hI => by
    cases i with
    | zero => exact hI.elim
    | succ i =>
      refine wp_mono hI (fun e a w q => ?_)
      cases e with
      | normal => exact ⟨i, q, Nat.lt_succ_self _⟩
      | _ => exact q
theorem unr_go {P : Program} {c : Code} {Q : Exit → Act → World → Prop} {a : Act} {w : World} {n : Nat} (h : c.wp P (Exit.then (unr P c Q n) Q) a w) : unr P c Q (n + 1) a w := h
theorem i64_of {z : Int} (h0 : -9223372036854775808 ≤ z) (h1 : z < 9223372036854775808) : IntKind.i64.wrap z = z := by rw [IntKind.wrap_i64]; omega
/- rows of bytes -/
theorem bs_get {q : List (BitVec 8)} {n : Nat} (hq : q.length = n) (i : Nat) (hi : i < n) : (bs q)[i]? = some (.int .u8 (bd (q.getD i 0#8))) := get_bs q i (by omega)
section
variable {P : Program} {o : Oper} {a : Act} {w w0 : World} {R : Value → World → Prop} {F : Nat → Prop} {S : List Blk}
end
section
variable {o : Oper} {a : Act} {w w0 : World} {R : Value → World → Prop} {F : Nat → Prop} {S : List Blk}
end
end Go.Proofs.YtbhmgnhiglpmhaaDoor

/- More operations of a walk: rows that are far, appends to nothing. No function of the program is named here. -/
set_option maxRecDepth 4000
namespace Go.Proofs.YtbhmgnhiglpmhaaDoor
open Go Go.RowKit
theorem lenA {cs : Array Value} {n : Nat} (h : cs.size = n) : cs.toList.length = n := by rw [Array.length_toList, h]
theorem slabA {cs ds : Array Value} {o : Nat} (h : (cs.toList.drop o).take ds.size = ds.toList) : (cs.toList.drop o).take ds.toList.length = ds.toList := by rw [Array.length_toList]; exact h
theorem wp_loop1 {P : Program} {Q : Exit → Act → World → Prop} {a : Act} {w : World} {ι : Type} {c : Code} (I : ι → Act → World → Prop) (μ : ι → Nat) (i1 : ι) (h0 : c.wp P (Exit.then (I i1) Q) a w)
    (round : ∀ i a w, I i a w → c.wp P (Exit.then (fun a' w' => ∃ i', I i' a' w' ∧ μ i' < μ i) Q) a w) : (Code.loop c).wp P Q a w :=
  wp_loopG (ι := Option ι) (fun i a w => match i with | none => c.wp P (Exit.then (I i1) Q) a w | some i => I i a w) (fun i => match i with | none => μ i1 + 1 | some i => μ i) none h0 fun i a w hI => by
    cases i with
    | none =>
      refine wp_mono hI (fun e a w q => ?_)
      cases e with
      | normal => exact ⟨some i1, q, Nat.lt_succ_self _⟩
      | _ => exact q
    | some i =>
      refine wp_mono (round i a w hI) (fun e a w q => ?_)
      cases e with
      | normal => obtain ⟨i', h1, h2⟩ := q; exact ⟨some i', h1, h2⟩
      | _ => exact q
theorem mod_nat (x : Int) (m : Nat) (h0 : 0 ≤ x) (hm : 0 < m) : ∃ r : Nat, x.tmod m = (r : Int) ∧ r < m := by
  refine ⟨(x.tmod m).toNat, ?_, ?_⟩
  · have := Int.emod_nonneg x (show (m : Int) ≠ 0 by omega)
    rw [Int.tmod_eq_emod_of_nonneg h0]; omega
  · have := Int.emod_lt_of_pos x (show (0 : Int) < m by omega)
    have := Int.emod_nonneg x (show (m : Int) ≠ 0 by omega)
    rw [Int.tmod_eq_emod_of_nonneg h0]; omega
section
variable {P : Program} {o : Oper} {a : Act} {w w0 : World} {R : Value → World → Prop} {F : Nat → Prop} {S : List Blk}
theorem dd_rem {ty ty2 : TypeId} {x y : Operand} {k : IntKind} {m n z : Int} (ho : o.op = .binOp .rem ty x y ty2) (hx : a.eval x = .int k m) (hy : a.eval y = .int k n) (hn : n ≠ 0) (hz : m.tmod n = z) : (execOp a.eval o).run P w = .ok (.value (.int k z)) w := by
  subst hz
  simp [execOp, ho, hx, hy, eqGuard, binOp, Op.intDiv, hn]
theorem dd_quo {ty ty2 : TypeId} {x y : Operand} {k : IntKind} {m n z : Int} (ho : o.op = .binOp .quo ty x y ty2) (hx : a.eval x = .int k m) (hy : a.eval y = .int k n) (hn : n ≠ 0) (hz : k.wrap (m.tdiv n) = z) : (execOp a.eval o).run P w = .ok (.value (.int k z)) w := by
  subst hz
  simp [execOp, ho, hx, hy, eqGuard, binOp, Op.intDiv, hn]
theorem dd_getR {g : Nat} {t : TypeId} {cs : Array Value} (hr : Row w g t cs) {i : Nat} {ty : TypeId} {x : Operand} (ho : o.op = .load ty x) (hx : a.eval x = .pointer (some ⟨g, i, none⟩)) {v : Value} (hv : cs[i]? = some v) {d : TypeDesc} (hu : P.underlying ty = some d) (hd : d.isRow = false) : (execOp a.eval o).run P w = .ok (.value v) w :=
  dd_at ho hx (hr.get hv) hu hd
theorem dd_app0 (HS : St w0 F S w) {e t : TypeId} {s x : Operand} (ho : o.op = .call { callee := .builtin .append, args := #[s, x], argTypes := #[t, t] })
    (hs : a.eval s = .slice none 0 0) {z : Value} {bytes sz : Nat} (ht : P.underlying t = some (.slice e)) (hi : (P.info? e).map (fun i => (i.zero, i.size, i.bytes)) = some (some z, sz, bytes)) (hzs : z.cells.size = sz) (hsz : 0 < sz)
    {ad : Addr} {m c2 : Nat} (news : List Value) (hx : a.eval x = .slice (some ad) m c2) (hl : news.length = m * sz) (hnews : ∀ j u, news[j]? = some u → w.cell? (ad.add j) = some u) (h1 : ∀ u ∈ news, u.oneCell' = true)
    (h63 : m ≤ maxLen) (hbytes : m * bytes ≤ 140737488355328)
    (h : ∀ g' c' cb' w', OwnC cb' c' m sz news → St w0 F (S ++ [⟨g', e, cb'⟩]) w' → R (.slice (some ⟨g', 0, none⟩) m c') w') (hm : Nat.blt 0 m = true := by rfl) : Does P o a w R := fun _ _ hK => by
  have hm := Nat.le_of_ble_eq_true hm
  have hown : w.ownsRow 0 e sz (.slice none 0 0) 0 [] := ⟨by simp, .inl ⟨rfl, rfl⟩⟩
  obtain ⟨i, hi1, hz1, hz2, hz3⟩ := info_parts hi
  obtain ⟨v', w', hr, h2, h3, h4⟩ := run_append_where (P := P) w 0 t o.type e i z sz bytes ht hi1 hz1 hz2 hz3 hzs hsz _ 0 [] hown ad m c2 news hl hnews h1 (by omega) (by rw [Nat.zero_add]; exact hbytes) (Nat.zero_le _)
  rw [Nat.zero_add, List.nil_append] at h2
  obtain ⟨g', c', cb', rfl, _, hrow', O'⟩ := ownc_pos h2 (by omega)
  have hg' : w.heap.size ≤ g' := by
    rcases h4.cases (k := g') rfl with h5 | h5
    · cases h5
    · exact h5
  have hS1 : St w0 F S w' := HS.same (by
    have := h3
    exact below_of_grown h3 (fun g e => by cases e) (Nat.le_refl _))
  have hS2 := st_snoc hS1 hrow' (.inr (Nat.le_trans HS.chg.size hg')) (fun b hb e => by have := HS.lt hb; omega)
  unfold Oper.wp execOp
  simp only [ho, resolve, invoke, builtin, Sem.run_bind, Sem.run_pure, Result.andThen_ok, List.map_toArray, List.map_cons, List.map_nil, hs, hx, hr]
  exact hK _ _ (h g' c' cb' w' O' hS2)
end
end Go.Proofs.YtbhmgnhiglpmhaaDoor

/- Short steps of a walk: the frame by its slots' numbers, an operation apart from where it stands. No function of the program is named here. -/
set_option maxRecDepth 4000
namespace Go.Proofs.YtbhmgnhiglpmhaaDoor
open Go Go.RowKit
def look : List (Nat × Value) → Nat → Option Value
  | [], _ => none
  | (j, v) :: L, k => bif Nat.beq j k then some v else look L k
def sels (L : List (Nat × Value)) : List Nat → List (Nat × Value) → Option (List (Nat × Value))
  | [], acc => some acc
  | k :: ks, acc => match look L k with
    | some v => sels L ks ((k, v) :: acc)
    | none => none
structure En (N : Nat) (L : List (Nat × Value)) (a : Act) : Prop where
  size : a.tmps.size = N
  defers : a.defers = []
  at_ : ∀ (k : Nat) (v : Value), look L k = some v → a.tmps[k]? = some v
def dq (N : Nat) (o : Oper) : Option Nat := match o.dst with
  | some d => bif Nat.blt d N then some d else none
  | none => none
def dg (N : Nat) (o : Oper) : Option Nat := match o.guard with
  | none => dq N o
  | some _ => none
def dn (o : Oper) : Bool := match o.guard, o.dst with
  | none, none => true
  | _, _ => false
theorem dq_is {N : Nat} {o : Oper} {d : Nat} (h : dq N o = some d) : o.dst = some d ∧ d < N := by
  unfold dq at h
  split at h
  · rename_i e he
    cases hb : Nat.blt e N with
    | false => rw [hb] at h; cases h
    | true =>
      rw [hb] at h
      injection h with h
      subst h
      exact ⟨he, Nat.le_of_ble_eq_true hb⟩
  · cases h
theorem dg_is {N : Nat} {o : Oper} {d : Nat} (h : dg N o = some d) : o.guard = none ∧ dq N o = some d := by
  unfold dg at h
  split at h
  · exact ⟨by assumption, h⟩
  · cases h
theorem dn_is {o : Oper} (h : dn o = true) : o.guard = none ∧ o.dst = none := by
  unfold dn at h
  split at h
  · exact ⟨by assumption, by assumption⟩
  · cases h
section
variable {P : Program} {N : Nat} {L : List (Nat × Value)} {a : Act}
theorem En.ev (h : En N L a) (k : Nat) {v : Value} (hi : look L k = some v) : a.eval (.tmp k) = v := eval_of_get (h.at_ k v hi)
theorem En.get (h : En N L a) (k : Nat) {v : Value} (hi : look L k = some v) : a.tmps[k]? = some v := h.at_ k v hi
theorem En.sub (h : En N L a) {L2 : List (Nat × Value)} (hs : ∀ k v, look L2 k = some v → look L k = some v) : En N L2 a := ⟨h.size, h.defers, fun k v hi => h.at_ k v (hs k v hi)⟩
theorem sels_sub {L : List (Nat × Value)} : ∀ (ks : List Nat) (acc L2 : List (Nat × Value)), (∀ k v, look acc k = some v → look L k = some v) → sels L ks acc = some L2 → ∀ k v, look L2 k = some v → look L k = some v
  | [], acc, L2, h, e => by
    injection e with e
    subst e; exact h
  | j :: ks, acc, L2, h, e => by
    unfold sels at e
    cases hj : look L j with
    | none => rw [hj] at e; cases e
    | some u =>
      rw [hj] at e
      refine sels_sub ks _ L2 (fun k v hk => ?_) e
      unfold look at hk
      cases hb : Nat.beq j k with
      | false => simp only [hb] at hk; exact h k v hk
      | true =>
        simp only [hb] at hk
        have := Nat.eq_of_beq_eq_true hb
        subst this
        rw [hj]; exact hk
theorem En.sel (h : En N L a) (ks : List Nat) {L2 : List (Nat × Value)} (e : sels L ks [] = some L2) : En N L2 a := h.sub (sels_sub ks [] L2 (fun k v hk => by cases hk) e)
theorem En.env0 (h : En N L a) : Env N [] a := env_nil h.size h.defers
theorem En.put (h : En N L a) {d : Nat} (hd : d < N) (v : Value) : En N ((d, v) :: L) (a.put (some d) v) := by
  refine ⟨by simp [Act.put, h.size], h.defers, fun k u hi => ?_⟩
  unfold look at hi
  simp only [Act.put]
  cases hb : Nat.beq d k with
  | true =>
    simp only [hb] at hi
    have := Nat.eq_of_beq_eq_true hb
    subst this
    have hi : v = u := Option.some.inj hi
    subst hi
    simp [h.size, hd]
  | false =>
    simp only [hb] at hi
    have hne : d ≠ k := fun e => by subst e; simp at hb
    rw [Array.getElem?_setIfInBounds_ne hne]
    exact h.at_ k u hi
theorem look_arg : ∀ (vs : List Value) (i k : Nat) (v : Value), look (argL vs i) k = some v → i ≤ k ∧ vs[k - i]? = some v
  | [], i, k, v, h => by cases h
  | u :: vs, i, k, v, h => by
    unfold argL look at h
    cases hb : Nat.beq i k with
    | true =>
      simp only [hb] at h
      have := Nat.eq_of_beq_eq_true hb
      subst this
      simpa using h
    | false =>
      simp only [hb] at h
      have hne : i ≠ k := fun e => by subst e; simp at hb
      obtain ⟨h1, h2⟩ := look_arg vs (i + 1) k v h
      refine ⟨by omega, ?_⟩
      have e : k - i = (k - (i + 1)) + 1 := by omega
      rw [e]; simpa using h2
theorem enter_en {f : FuncId} {fn : Func} {c : Code} {l : List Value} {w : World} {R : Ending → World → Prop} (hf : P.funcs[f]? = some fn) (hb : fn.body = some c) (hN : fn.ntmps = N) (hl : l.length ≤ N)
    (h : ∀ a, En N (argL l 0) a → c.wp P (bodyPost P fn R) a w) : Calls P f l.toArray w R := by
  refine calls_of_wp hf hb (h _ ⟨by simp [hN]; omega, rfl, fun k v hi => ?_⟩)
  obtain ⟨_, h2⟩ := look_arg l 0 k v hi
  have hlt := (List.getElem?_eq_some_iff.1 h2).1
  simp only
  rw [Array.getElem?_append_left (by simpa using hlt)]
  simpa using h2
end
/- an operation, wherever it stands: K is what must hold behind it -/
def Og (P : Program) (ops : Array Oper) (Q : Exit → Act → World → Prop) (o : Oper) (K : Act → World → Prop) (a : Act) (w : World) : Prop :=
  ∀ K' : Act → World → Prop, (∀ a w, K a w → K' a w) → if Region.wanted o (yielded ops a.tmps) = true then Oper.wp P o a w K' Q else K' (a.put o.dst undef) w
section
variable {P : Program} {ops : Array Oper} {Q : Exit → Act → World → Prop} {rest : List Oper} {o : Oper} {K : Act → World → Prop} {N i fuel : Nat} {L : List (Nat × Value)} {a : Act} {w w0 : World} {listed : Array Bool} {S : World → Prop} {F : Nat → Prop} {B : List Blk} {d : Nat}
theorem wl_ (h : Og P ops Q o (wpList P ops Q rest) a w) : wpList P ops Q (o :: rest) a w := wpList_step h
theorem ho_ (ho : ops[i]? = some o) (h : Og P ops Q o K a w) : wpOp P ops Q i K a w := wpOp_step ho h
theorem h1_ (i : Nat) {o : Oper} (ho : ops[i]? = some o) (h : Og P ops Q o (fun a' w' => S w' ∧ wpAnyH P .any ops Q S fuel (listed.setIfInBounds i true) a' w') a w) (hr : Region.ready .any ops listed = [i] := by kernel_rfl) : wpAnyH P .any ops Q S (fuel + 1) listed a w :=
  wpAnyH_all hr (by simp) fun j hj => by
    obtain rfl : j = i := by simpa using hj
    exact wpOp_step ho h
theorem wg_ (H : En N L a) {j t : Nat} {b c e : Bool} (hg : o.guard = some (j, b)) (hd : dstAt ops j = some t) (ht : look L t = some (.bool c)) (h : (c == b) = e) : Region.wanted o (yielded ops a.tmps) = e := want_g hg hd (H.get t ht) h
theorem dr_ (H : En N L a) (hw : Region.wanted o (yielded ops a.tmps) = true) (hd : dq N o = some d) {R : Value → World → Prop} (hD : Does P o a w R) (h : ∀ v w', R v w' → ∀ a', En N ((d, v) :: L) a' → K a' w') : Og P ops Q o K a w := fun K' hK => by
  obtain ⟨h1, h2⟩ := dq_is hd
  rw [if_pos hw]
  exact hD K' Q fun v w' hR => by rw [h1]; exact hK _ _ (h v w' hR _ (H.put h2 v))
theorem d_ (H : En N L a) (hd : dg N o = some d) {R : Value → World → Prop} (hD : Does P o a w R) (h : ∀ v w', R v w' → ∀ a', En N ((d, v) :: L) a' → K a' w') : Og P ops Q o K a w := dr_ H (want_n (dg_is hd).1) (dg_is hd).2 hD h
theorem k_ (H : En N L a) (hw : Region.wanted o (yielded ops a.tmps) = false) (hd : dq N o = some d) (h : ∀ a', En N ((d, undef) :: L) a' → K a' w) : Og P ops Q o K a w := fun K' hK => by
  obtain ⟨h1, h2⟩ := dq_is hd
  rw [hw, if_neg (by decide), h1]
  exact hK _ _ (h _ (H.put h2 undef))
theorem i_ (H : En N L a) (hd : dg N o = some d) {v : Value} (hD : (execOp a.eval o).run P w = .ok (.value v) w) (h : ∀ a', En N ((d, v) :: L) a' → K a' w) : Og P ops Q o K a w :=
  d_ H hd (R := fun u w' => u = v ∧ w' = w) (dd_rn hD ⟨rfl, rfl⟩) fun v' w' hR a' HA' => by obtain ⟨rfl, rfl⟩ := hR; exact h a' HA'
theorem ig (H : En N L a) (hw : Region.wanted o (yielded ops a.tmps) = true) (hd : dq N o = some d) {v : Value} (hD : (execOp a.eval o).run P w = .ok (.value v) w) (h : ∀ a', En N ((d, v) :: L) a' → K a' w) : Og P ops Q o K a w :=
  dr_ H hw hd (R := fun u w' => u = v ∧ w' = w) (dd_rn hD ⟨rfl, rfl⟩) fun v' w' hR a' HA' => by obtain ⟨rfl, rfl⟩ := hR; exact h a' HA'
theorem ic (H : En N L a) (hd : dg N o = some d) {v : Value} (hD : Does P o a w fun u w' => u = v ∧ w' = w) (h : ∀ a', En N ((d, v) :: L) a' → K a' w) : Og P ops Q o K a w :=
  d_ H hd hD fun v' w' hR a' HA' => by obtain ⟨rfl, rfl⟩ := hR; exact h a' HA'
theorem i0 (hd : dn o = true) {v : Value} (hD : (execOp a.eval o).run P w = .ok (.value v) w) (h : K a w) : Og P ops Q o K a w := fun K' hK => by
  rw [if_pos (want_n (dn_is hd).1)]
  exact dd_rn (R := fun u w' => u = v ∧ w' = w) hD ⟨rfl, rfl⟩ K' Q fun v' w' hR => by
    obtain ⟨rfl, rfl⟩ := hR
    rw [(dn_is hd).2]; exact hK _ _ h
/- a new block -/
theorem n_ (H : En N L a) (hd : dg N o = some d) {S : Nat → List Blk} {A : Nat → Value} (hD : ∀ R : Value → World → Prop, (∀ g w', St w0 F (S g) w' → R (A g) w') → Does P o a w R) (h : ∀ g w', St w0 F (S g) w' → ∀ a', En N ((d, A g) :: L) a' → K a' w') : Og P ops Q o K a w :=
  d_ H hd (hD (fun v w' => ∃ g, v = A g ∧ St w0 F (S g) w') fun g w' k => ⟨g, rfl, k⟩) fun v w' hR a' HA' => by
    obtain ⟨g, rfl, k⟩ := hR; exact h g w' k a' HA'
theorem ng (H : En N L a) (hw : Region.wanted o (yielded ops a.tmps) = true) (hd : dq N o = some d) {S : Nat → List Blk} {A : Nat → Value} (hD : ∀ R : Value → World → Prop, (∀ g w', St w0 F (S g) w' → R (A g) w') → Does P o a w R) (h : ∀ g w', St w0 F (S g) w' → ∀ a', En N ((d, A g) :: L) a' → K a' w') : Og P ops Q o K a w :=
  dr_ H hw hd (hD (fun v w' => ∃ g, v = A g ∧ St w0 F (S g) w') fun g w' k => ⟨g, rfl, k⟩) fun v w' hR a' HA' => by
    obtain ⟨g, rfl, k⟩ := hR; exact h g w' k a' HA'
/- a store -/
theorem t_ (hd : dn o = true) {S : List Blk} (hD : ∀ R : Value → World → Prop, (∀ w', St w0 F S w' → R undef w') → Does P o a w R) (h : ∀ w', St w0 F S w' → K a w') : Og P ops Q o K a w := fun K' hK => by
  rw [if_pos (want_n (dn_is hd).1)]
  refine hD (fun _ w' => St w0 F S w') (fun _ k => k) K' Q fun v w' k => ?_
  rw [(dn_is hd).2]; exact hK _ _ (h w' k)
/- bytes or values behind a slice of the call's own -/
theorem a_ (H : En N L a) (hd : dg N o = some d) {S : Nat → Array Value → List Blk} (A : Nat → Nat → Value) {T : Nat → Nat → Array Value → Prop} (hD : ∀ R : Value → World → Prop, (∀ g c cb w', T g c cb → St w0 F (S g cb) w' → R (A g c) w') → Does P o a w R) (h : ∀ g c cb w', T g c cb → St w0 F (S g cb) w' → ∀ a', En N ((d, A g c) :: L) a' → K a' w') : Og P ops Q o K a w :=
  d_ H hd (hD (fun v w' => ∃ g c cb, v = A g c ∧ T g c cb ∧ St w0 F (S g cb) w') fun g c cb w' k1 k2 => ⟨g, c, cb, rfl, k1, k2⟩) fun v w' hR a' HA' => by
    obtain ⟨g, c, cb, rfl, k1, k2⟩ := hR; exact h g c cb w' k1 k2 a' HA'
/- a call that leaves what was there -/
theorem c_ (H : En N L a) (hd : dg N o = some d) (HS : St w0 F B w) {v : Value} (hD : Does P o a w fun u w' => u = v ∧ Below w.heap.size w w') (h : ∀ w', St w0 F B w' → ∀ a', En N ((d, v) :: L) a' → K a' w') : Og P ops Q o K a w :=
  d_ H hd hD fun u w' hR a' HA' => by obtain ⟨rfl, k⟩ := hR; exact h w' (HS.same k) a' HA'
theorem cg (H : En N L a) (hw : Region.wanted o (yielded ops a.tmps) = true) (hd : dq N o = some d) (HS : St w0 F B w) {v : Value} (hD : Does P o a w fun u w' => u = v ∧ Below w.heap.size w w') (h : ∀ w', St w0 F B w' → ∀ a', En N ((d, v) :: L) a' → K a' w') : Og P ops Q o K a w :=
  dr_ H hw hd hD fun u w' hR a' HA' => by obtain ⟨rfl, k⟩ := hR; exact h w' (HS.same k) a' HA'
theorem dc_ {f : FuncId} {fn : Func} {xs : Array Operand} {ts : Array TypeId} {l : List Value} {R' : Ending → World → Prop} {R : Value → World → Prop} (hf : P.funcs[f]? = some fn) (ho : o.op = .call { callee := .value (.func f), args := xs, argTypes := ts }) (hx : (xs.map a.eval) = l.toArray) (C : Calls P f l.toArray w R')
    (h : ∀ e w', R' e w' → ∃ v, e = .returned v ∧ R v w') (hn : (fn.name == "runtime.NumGoroutine") = false := by kernel_rfl) (hb : fn.body.isNone = false := by kernel_rfl) : Does P o a w R := dd_call hf hn hb ho hx C h
theorem dcs {f : FuncId} {fn : Func} {xs : Array Operand} {ts : Array TypeId} {l : List Value} (hf : P.funcs[f]? = some fn) (ho : o.op = .call { callee := .value (.func f), args := xs, argTypes := ts }) (hx : (xs.map a.eval) = l.toArray) {v : Value} (C : Calls P f l.toArray w fun e w' => e = .returned v ∧ Below w.heap.size w w') (v' : Value)
    (hv : v = v' := by rfl) (hn : (fn.name == "runtime.NumGoroutine") = false := by kernel_rfl) (hb : fn.body.isNone = false := by kernel_rfl) : Does P o a w fun u w' => u = v' ∧ Below w.heap.size w w' := dd_call hf hn hb ho hx C fun _ _ h => ⟨v, h.1, hv, h.2⟩
/- several operations that only move values, in order -/
def opv (L : List (Nat × Value)) : Operand → Option Value
  | .tmp k => look L k
  | .const v => some v
  | _ => none
theorem opv_is (H : En N L a) {x : Operand} {v : Value} (h : opv L x = some v) : a.eval x = v := by
  cases x with
  | tmp k => exact H.ev k h
  | const u => exact Option.some.inj h
  | _ => cases h
def pur (L : List (Nat × Value)) (o : Oper) : Option Value := match o.op with
  | .move x => opv L x
  | .assign x => opv L x
  | .pick c x y => match opv L c with
    | some (.bool true) => opv L x
    | some (.bool false) => opv L y
    | _ => none
  | _ => none
theorem pur_is (H : En N L a) {v : Value} (h : pur L o = some v) : (execOp a.eval o).run P w = .ok (.value v) w := by
  unfold pur at h
  split at h
  · exact dd_mv (by assumption) (opv_is H h)
  · exact dd_as (by assumption) (opv_is H h)
  · split at h
    · exact dd_pickT (by assumption) (opv_is H (by assumption)) (opv_is H h)
    · exact dd_pickF (by assumption) (opv_is H (by assumption)) (opv_is H h)
    · cases h
  · cases h
def purs (N : Nat) : Nat → List (Nat × Value) → List Oper → Option (List (Nat × Value) × List Oper)
  | 0, L, l => some (L, l)
  | _ + 1, _, [] => none
  | n + 1, L, o :: l => match dg N o with
    | none => none
    | some d => match pur L o with
      | none => none
      | some v => purs N n ((d, v) :: L) l
theorem purs_is : ∀ (n : Nat) {L L' : List (Nat × Value)} {l l' : List Oper} {a : Act}, En N L a → purs N n L l = some (L', l') → (∀ a', En N L' a' → wpList P ops Q l' a' w) → wpList P ops Q l a w
  | 0, L, L', l, l', a, H, e, h => by
    injection e with e
    injection e with e1 e2
    subst e1 e2
    exact h a H
  | n + 1, L, L', [], l', a, H, e, h => by cases e
  | n + 1, L, L', o :: l, l', a, H, e, h => by
    unfold purs at e
    split at e
    · cases e
    · split at e
      · cases e
      · rename_i d hd _ v hv
        exact wl_ (i_ H hd (pur_is H hv) fun a' H' => purs_is n H' e h)
theorem q_ (H : En N L a) (n : Nat) {l l' : List Oper} {L' : List (Nat × Value)} (e : purs N n L l = some (L', l')) (h : ∀ a', En N L' a' → wpList P ops Q l' a' w) : wpList P ops Q l a w := purs_is n H e h
theorem p_ (H : En N L a) (hd : dg N o = some d) {v : Value} (hp : pur L o = some v) (h : ∀ a', En N ((d, v) :: L) a' → K a' w) : Og P ops Q o K a w := i_ H hd (pur_is H hp) h
/- regions that draw -/
class PQc (Q : Exit → Act → World → Prop) : Prop where
  pq : PQ Q
instance {K : Act → World → Prop} {Q : Exit → Act → World → Prop} [h : PQc Q] : PQc (Exit.then K Q) := ⟨pq_then h.pq⟩
instance {id : Nat} {Q : Exit → Act → World → Prop} [h : PQc Q] : PQc (Exit.inBlock id Q) := ⟨pq_block h.pq⟩
instance {fn : Func} {R : Ending → World → Prop} : PQc (bodyPost P fn R) := ⟨pq_body⟩
def Sx (w0 : World) (F : Nat → Prop) (B : List Blk) (w : World) : Prop := ∃ R9, St w0 F (B ++ R9) w
theorem sxi {S R9 : List Blk} (h : St w0 F S w) (is : List Nat) (e : selB S is = B ++ R9) (hn : is.Nodup := by decide) : Sx w0 F B w := ⟨R9, e ▸ st_sel h is hn⟩
theorem ss {S : List Blk} (h : St w0 F S w) (is : List Nat) (hn : is.Nodup := by decide) : St w0 F (selB S is) w := st_sel h is hn
def hck (ops : Array Oper) (listed : Array Bool) (i : Nat) : Bool := Region.noSelect ops && Region.free .any ops listed i && (Region.ready .any ops listed).contains i
theorem hck_is (h : hck ops listed i = true) : Region.noSelect ops = true ∧ Region.free .any ops listed i = true ∧ (Region.ready .any ops listed).contains i = true := by
  unfold hck at h
  simp only [Bool.and_eq_true] at h
  exact ⟨h.1.1, h.1.2, h.2⟩
theorem htg [hq : PQc Q] (H : En N L a) (i : Nat) {o : Oper} (hS : Sx w0 F B w) (hi : ops[i]? = some o) (hw : Region.wanted o (yielded ops a.tmps) = true) (hd : dq N o = some d) {v : Value} (hy : ∀ w R9, St w0 F (B ++ R9) w → (execOp a.eval o).run P w = .ok (.value v) w)
    (h : ∀ a', En N ((d, v) :: L) a' → wpAnyH P .any ops Q (Sx w0 F B) fuel (listed.setIfInBounds i true) a' w) (hc : hck ops listed i = true := by kernel_rfl) : wpAnyH P .any ops Q (Sx w0 F B) (fuel + 1) listed a w := by
  obtain ⟨h1, h2, h3⟩ := hck_is hc
  refine wpAnyH_take hi h1 h2 h3 (fun c a w => hq.pq c a o.dst v w) (.inl ⟨hw, fun w ⟨R9, k⟩ => hy w R9 k⟩) hS ?_
  rw [(dq_is hd).1]
  exact h _ (H.put (dq_is hd).2 v)
theorem ht_ [PQc Q] (H : En N L a) (i : Nat) {o : Oper} (hS : Sx w0 F B w) (hi : ops[i]? = some o) (hd : dg N o = some d) {v : Value} (hy : ∀ w R9, St w0 F (B ++ R9) w → (execOp a.eval o).run P w = .ok (.value v) w)
    (h : ∀ a', En N ((d, v) :: L) a' → wpAnyH P .any ops Q (Sx w0 F B) fuel (listed.setIfInBounds i true) a' w) (hc : hck ops listed i = true := by kernel_rfl) : wpAnyH P .any ops Q (Sx w0 F B) (fuel + 1) listed a w :=
  htg H i hS hi (want_n (dg_is hd).1) (dg_is hd).2 hy h hc
theorem hp_ [PQc Q] (H : En N L a) (i : Nat) {o : Oper} (hS : Sx w0 F B w) (hi : ops[i]? = some o) (hd : dg N o = some d) {v : Value} (hp : pur L o = some v)
    (h : ∀ a', En N ((d, v) :: L) a' → wpAnyH P .any ops Q (Sx w0 F B) fuel (listed.setIfInBounds i true) a' w) (hc : hck ops listed i = true := by kernel_rfl) : wpAnyH P .any ops Q (Sx w0 F B) (fuel + 1) listed a w :=
  ht_ H i hS hi hd (fun _ _ _ => pur_is H hp) h hc
theorem sx_ {A B : Prop} (h : A) (k : A → B) : A ∧ B := ⟨h, k h⟩
theorem wh_ {S : List Blk} (HS : St w0 F S w) (B : List Blk) {id : Nat} {l : List Oper} {M : Nat} (hM : l.length = M) (hx : Sx w0 F B w) (h : St w0 F S w.drew → Sx w0 F B w.drew → wpAnyH P .any l.toArray Q (Sx w0 F B) M (Array.replicate M false) a w.drew) (hm : P.follows .mixedOrders = true := by kernel_rfl) : (Code.region id l.toArray true).wp P Q a w :=
  wp_held _ hm hM (h HS.drew (let ⟨R9, k⟩ := hx; ⟨R9, k.drew⟩))
theorem wi_ {S : List Blk} (HS : St w0 F S w) (is : List Nat) {id : Nat} {l : List Oper} {M : Nat} (hM : l.length = M) {R9 : List Blk} (js : List Nat) (e : selB S js = selB S is ++ R9) (h : St w0 F S w.drew → Sx w0 F (selB S is) w.drew → wpAnyH P .any l.toArray Q (Sx w0 F (selB S is)) M (Array.replicate M false) a w.drew) (hn : js.Nodup := by decide) (hm : P.follows .mixedOrders = true := by kernel_rfl) : (Code.region id l.toArray true).wp P Q a w :=
  wh_ HS (selB S is) hM (sxi HS js e hn) h hm
end
/- shorter names -/
section
variable {P : Program} {o : Oper} {a : Act} {w : World}
theorem xA (n sz j : Nat) {t : TypeId} {x y : Operand} {g i : Nat} {k : IntKind} {m : Int} (ho : o.op = .indexAddr t x y) (hx : a.eval x = .pointer (some ⟨g, i, none⟩)) (hy : a.eval y = .int k m) (ht : arrOf P t = some (n, sz) := by kernel_rfl) (h0 : 0 ≤ m := by decide) (hn : m < (n : Int) := by decide) (hj : i + m.toNat * sz = j := by rfl) : (execOp a.eval o).run P w = .ok (.value (.pointer (some ⟨g, j, none⟩))) w := dd_idxA ho hx hy ht h0 hn hj
theorem xAo (n sz j : Nat) {t : TypeId} {x y : Operand} {g i : Nat} {k : IntKind} {m : Int} (ho : o.op = .indexAddr t x y) (hx : a.eval x = .pointer (some ⟨g, i, none⟩)) (hy : a.eval y = .int k m) (ht : arrOf P t = some (n, sz) := by kernel_rfl) (h0 : 0 ≤ m := by omega) (hn : m < (n : Int) := by omega) (hj : i + m.toNat * sz = j := by omega) : (execOp a.eval o).run P w = .ok (.value (.pointer (some ⟨g, j, none⟩))) w := dd_idxA ho hx hy ht h0 hn hj
theorem xS (sz j : Nat) {t : TypeId} {x y : Operand} {g i n c : Nat} {k : IntKind} {m : Int} (ho : o.op = .indexAddr t x y) (hx : a.eval x = .slice (some ⟨g, i, none⟩) n c) (hy : a.eval y = .int k m) (ht : slOf P t = some sz := by kernel_rfl) (h0 : 0 ≤ m := by decide) (hn : m < (n : Int) := by decide) (hj : i + m.toNat * sz = j := by rfl) : (execOp a.eval o).run P w = .ok (.value (.pointer (some ⟨g, j, none⟩))) w := dd_idxS ho hx hy ht h0 hn hj
theorem xSo (sz j : Nat) {t : TypeId} {x y : Operand} {g i n c : Nat} {k : IntKind} {m : Int} (ho : o.op = .indexAddr t x y) (hx : a.eval x = .slice (some ⟨g, i, none⟩) n c) (hy : a.eval y = .int k m) (ht : slOf P t = some sz := by kernel_rfl) (h0 : 0 ≤ m := by omega) (hn : m < (n : Int) := by omega) (hj : i + m.toNat * sz = j := by omega) : (execOp a.eval o).run P w = .ok (.value (.pointer (some ⟨g, j, none⟩))) w := dd_idxS ho hx hy ht h0 hn hj
theorem xf (off j : Nat) {s : TypeId} {x : Operand} {f g i : Nat} (ho : o.op = .fieldAddr s x f) (hx : a.eval x = .pointer (some ⟨g, i, none⟩)) (hf : fieldOff P s f = some off := by kernel_rfl) (hj : i + off = j := by rfl) : (execOp a.eval o).run P w = .ok (.value (.pointer (some ⟨g, j, none⟩))) w := dd_field ho hx hf hj
end
/- code -/
section
variable {P : Program} {Q : Exit → Act → World → Prop} {a : Act} {w : World} {N : Nat} {L : List (Nat × Value)} {x y : Code} {id : Nat}
theorem sq_ (h : x.wp P (Exit.then (y.wp P Q) Q) a w) : (Code.seq x y).wp P Q a w := wp_seq h
theorem rl_ {l : List Oper} (h : wpList P l.toArray Q l a w) : (Code.region id l.toArray false).wp P Q a w := wp_region_lit h
theorem ln_ {ops : Array Oper} (h : Q .normal a w) : wpList P ops Q [] a w := h
theorem ct_ (H : En N L a) {k : Nat} (hk : look L k = some (.bool true)) (h : x.wp P Q a w) : (Code.cond (.tmp k) x y).wp P Q a w := wp_cond_true (H.ev k hk) h
theorem cf_ (H : En N L a) {k : Nat} (hk : look L k = some (.bool false)) (h : y.wp P Q a w) : (Code.cond (.tmp k) x y).wp P Q a w := wp_cond_false (H.ev k hk) h
end
end Go.Proofs.YtbhmgnhiglpmhaaDoor

/- Strings and copies in a walk. No function of the program is named here. -/
set_option maxRecDepth 4000
namespace Go.Proofs.YtbhmgnhiglpmhaaDoor
open Go Go.RowKit
section
variable {o : Oper} {a : Act} {w w0 : World} {R : Value → World → Prop} {F : Nat → Prop} {S : List Blk}
end
theorem ownc_nil : OwnC #[] 0 0 1 (bytesV []) := ⟨Nat.le_refl _, by decide, rfl, rfl, rfl⟩
section
variable {o : Oper} {a : Act} {w w0 : World} {R : Value → World → Prop} {F : Nat → Prop} {S : List Blk}
theorem dd_lit0 {P : Program} (HS : St w0 F S w) {t e : TypeId} {parts : Array (Nat × Operand)} (ho : o.op = .buildSlice t 0 parts) (hp : parts = #[]) (hu : P.underlying t = some (.slice e)) {sz : Nat} (hie : (P.info? e).map (fun i => i.size) = some sz)
    (h : ∀ g w', St w0 F (S ++ [⟨g, e, #[]⟩]) w' → R (.slice (some ⟨g, 0, none⟩) 0 0) w') : Does P o a w R := fun _ _ hK => by
  obtain ⟨ie, hi, _⟩ := Option.map_eq_some_iff.1 hie
  have hrun : (execOp a.eval o).run P w = .ok (.value (.slice (some ⟨w.heap.size, 0, none⟩) 0 0)) (w.alloc (.cells #[] e)) := by
    unfold execOp
    have e0 : (Array.range 0).map (fun _ : Nat => (default : Value)) = #[] := by simp [Array.range]
    simp [ho, hp, Instr.buildSlice, run_underlying hu, sizeOf, typeInfo, hi, Instr.fill, newRow, e0]
  unfold Oper.wp
  rw [hrun]
  exact hK _ _ (h _ _ (HS.snoc e #[]))
/- bytes behind bytes of the call's own, whatever slice they stand in -/
theorem dd_appB (HS : St w0 F S w) (k : Nat) {g c n n2 : Nat} {cb : Array Value} {q r q2 : List (BitVec 8)} (hk : S[k]? = some ⟨g, 5, cb⟩) (O : OwnC cb c n 1 (bytesV q)) {s x : Operand} (ho : o.op = .call { callee := .builtin .append, args := #[s, x], argTypes := #[35, 35] })
    (hs : a.eval s = .slice (some ⟨g, 0, none⟩) n c) {A : Option Addr} {m c2 : Nat} (hx : a.eval x = .slice A m c2) (hr : Slice w (.slice A m c2) r) (hA : A = none → c2 = 0) (hn : n + m = n2) (hq : q ++ r = q2) (h63 : n2 ≤ maxLen) (hbytes : n2 ≤ 140737488355328)
    (h : ∀ g' c' cb' w', OwnC cb' c' n2 1 (bytesV q2) → St w0 F (S.eraseIdx k ++ [⟨g', 5, cb'⟩]) w' → R (.slice (some ⟨g', 0, none⟩) n2 c') w') : Does Tryd.prog o a w R := by
  subst hn hq
  have hm : r.length = m := by obtain ⟨A', c', e, _⟩ := hr; injection e with _ e _; exact e.symm
  cases A with
  | none =>
    have hr0 : r = [] := by
      apply Decidable.byContradiction
      intro hne
      obtain ⟨A', c', e, _, h3⟩ := hr
      obtain ⟨_, _, h4, _⟩ := h3 hne
      injection e with e _ _
      rw [h4] at e; cases e
    obtain rfl := hA rfl
    subst hr0
    have hm0 : m = 0 := by simpa using hm.symm
    subst hm0
    intro K Q hK
    obtain ⟨i0, hi, hz0, hz1, hz2⟩ := info_parts info_u8
    have hrow := HS.row k hk
    have hown := ownc_to hrow O (Nat.zero_le g)
    have hrun := run_append_owned_none (P := Tryd.prog) (w := w) 0 35 o.type 5 i0 1 Tryd.underlying35 hi _ n _ hown
    unfold Oper.wp
    simp [execOp, ho, resolve, invoke, builtin, hs, hx, hrun, Result.andThen]
    have hS2 := st_snoc (st_erase HS k) hrow (HS.own k _ hk) (fun b hb e => by
      obtain ⟨j, hj⟩ := List.getElem?_of_mem hb
      rw [List.getElem?_eraseIdx] at hj
      split at hj
      · exact HS.apart j k b _ (by omega) hj hk e
      · exact HS.apart (j + 1) k b _ (by omega) hj hk e)
    exact hK _ _ (h g c cb w (by simpa using O) hS2)
  | some ad =>
    refine dd_app HS k hk O ho hs (z := .int .u8 0) (bytes := 1) Tryd.underlying35 (by kernel_rfl) rfl (by decide) (bytesV r) hx (by rw [len_bytesV, hm, Nat.mul_one]) (slice_news hr) (one_bytesV _) h63 (by omega) fun g' c' cb' w' O' h' => ?_
    exact h g' c' cb' w' (ownc_app O') h'
end
end Go.Proofs.YtbhmgnhiglpmhaaDoor

/- Bytes of a constant text, made a slice: their block bears a mark, so it is no row; what is told of it stays. No function of the program is named here. -/
set_option maxRecDepth 4000
namespace Go.Proofs.YtbhmgnhiglpmhaaDoor
open Go Go.RowKit
def MarkAt (w : World) (g : Nat) (q : List (BitVec 8)) : Prop := ∃ fr, w.heap[g]? = some (.cells (bs q) 5 fr)
theorem MarkAt.lt {w : World} {g : Nat} {q : List (BitVec 8)} (h : MarkAt w g q) : g < w.heap.size := by
  obtain ⟨fr, h⟩ := h
  exact (Array.getElem?_eq_some_iff.1 h).1
theorem MarkAt.of {w w' : World} {g : Nat} {q : List (BitVec 8)} (h : MarkAt w g q) (e : w'.heap[g]? = w.heap[g]?) : MarkAt w' g q := by
  obtain ⟨fr, h⟩ := h
  exact ⟨fr, e.trans h⟩
theorem MarkAt.call {w w' : World} {g : Nat} {q : List (BitVec 8)} (h : MarkAt w g q) (hb : Below w.heap.size w w') : MarkAt w' g q := h.of (hb.block g h.lt)
theorem MarkAt.slice {w : World} {g n : Nat} {q : List (BitVec 8)} (h : MarkAt w g q) (hn : q.length = n) : Slice w (.slice (some ⟨g, 0, none⟩) n n) q := by
  obtain ⟨fr, h⟩ := h
  subst hn
  refine ⟨_, _, rfl, Nat.le_refl _, fun _ => ⟨g, 0, rfl, (Array.getElem?_eq_some_iff.1 h).1, fun j x hx => ?_⟩⟩
  rw [Nat.zero_add, cell_of_row w g j (bs q) 5 fr h, ← Array.getElem?_toList, bs_toList]
  simp [bytesV, hx]
def inS (S : List Blk) (k : Nat) : Prop := ∃ r ∈ S, r.g = k
theorem MarkAt.chg {w w' : World} {g : Nat} {q : List (BitVec 8)} {S S' : List Blk} (h : MarkAt w g q) (HS : St w (inS S) S' w') (hg : ∀ r ∈ S, r.g ≠ g) : MarkAt w' g q := h.of (HS.chg.block g h.lt fun ⟨r, h1, h2⟩ => hg r h1 h2)
/- the rows' own frame: what lies elsewhere stays, for a while -/
theorem St.frame {w0 w : World} {F : Nat → Prop} {S : List Blk} (h : St w0 F S w) : St w (inS S) S w :=
  ⟨Chg.refl _ _, h.rows, h.apart, fun _ r hk => .inl ⟨r, List.mem_of_getElem? hk, rfl⟩⟩
theorem St.unframe {w0 w w' : World} {S S' : List Blk} (h : St w0 noF S w) (k : St w (inS S) S' w') : St w0 noF S' w' := by
  have hw : ∀ j, inS S j → w0.heap.size ≤ j := fun j ⟨r, h1, h2⟩ => by
    obtain ⟨i, hi⟩ := List.getElem?_of_mem h1
    rcases h.own i r hi with hf | hf
    · exact hf.elim
    · omega
  refine ⟨⟨k.chg.os.trans h.chg.os, k.chg.tape.trans h.chg.tape, k.chg.output.trans h.chg.output, Nat.le_trans h.chg.size k.chg.size, fun j hj hn => ?_⟩, k.rows, k.apart, fun i r hi => .inr ?_⟩
  · exact (k.chg.block j (Nat.lt_of_lt_of_le hj h.chg.size) fun hf => by have := hw j hf; omega).trans (h.chg.block j hj hn)
  · rcases k.own i r hi with hf | hf
    · exact hw _ hf
    · exact Nat.le_trans h.chg.size hf
theorem run_conv_lit2 (w : World) (g n c : Nat) (C : Array Value) (fr : Nat × Nat) (hg : w.heap[g]? = some (.cells C 5 fr)) :
    ∃ w', (convert 35 35 (.slice (some ⟨g, 0, none⟩) n c)).run Tryd.prog w = .ok (.slice (some ⟨g, 0, none⟩) n c) w' ∧ (∃ fr', w'.heap[g]? = some (.cells C 5 fr')) ∧ Chg (fun k => k = g) w w' ∧ ∀ k, k ≠ g → w'.heap[k]? = w.heap[k]? := by
  have hsh : w.shape? g = some (5, C.size) := by unfold World.shape?; rw [hg]
  have hk : ∀ k, k ≠ g → (w.freeze ⟨g, C.size, none⟩ 1).heap[k]? = w.heap[k]? := fun k hk => by
    simp only [World.freeze, if_neg (show ¬ (1 = 0) by decide), Array.getElem?_modify]
    rw [if_neg (fun e => hk e.symm)]
  refine ⟨w.freeze ⟨g, C.size, none⟩ 1, by simp [convert, run_underlying Tryd.underlying35, run_underlying Tryd.underlying5, markStringish, hsh], ?_, ⟨rfl, rfl, rfl, by simp [World.freeze], fun k _ h => hk k h⟩, hk⟩
  simp only [World.freeze, if_neg (show ¬ (1 = 0) by decide), Array.getElem?_modify]
  rw [if_pos trivial, hg]
  exact ⟨_, rfl⟩
theorem dd_cvl {o : Oper} {a : Act} {w w0 : World} {R : Value → World → Prop} {F : Nat → Prop} {S : List Blk} (HS : St w0 F S w) (k : Nat) {x : Operand} {g n : Nat} {q : List (BitVec 8)} (ho : o.op = .convert 35 35 x) (hk : S[k]? = some ⟨g, 5, bs q⟩) (hx : a.eval x = .slice (some ⟨g, 0, none⟩) n n)
    (h : ∀ w', St w0 F (S.eraseIdx k) w' → MarkAt w' g q → (∀ r ∈ S.eraseIdx k, r.g ≠ g) → R (.slice (some ⟨g, 0, none⟩) n n) w') : Does Tryd.prog o a w R := by
  have hr : Row w g 5 (bs q) := HS.row k hk
  obtain ⟨w', h1, h2, h3, h4⟩ := run_conv_lit2 w g n n (bs q) (0, 0) hr
  have hne : ∀ r ∈ S.eraseIdx k, r.g ≠ g := fun r hr e => by
    obtain ⟨j, hj⟩ := List.getElem?_of_mem hr
    rw [List.getElem?_eraseIdx] at hj
    split at hj
    · exact HS.apart j k r _ (by omega) hj hk e
    · exact HS.apart (j + 1) k r _ (by omega) hj hk e
  have hE := st_erase HS k
  have hg := HS.own k _ hk
  refine does_run (w' := w') (v := .slice (some ⟨g, 0, none⟩) n n) (by simp only [execOp, ho, hx, Sem.run_bind, h1, Result.andThen_ok, Sem.run_pure]) (h w' ⟨⟨h3.os.trans hE.chg.os, h3.tape.trans hE.chg.tape, h3.output.trans hE.chg.output, Nat.le_trans hE.chg.size h3.size, fun j hj hf => ?_⟩, fun j r hj => ?_, hE.apart, hE.own⟩ h2 hne)
  · refine (h4 j fun e => ?_).trans (hE.chg.block j hj hf)
    subst e
    rcases hg with hg | hg
    · exact hf hg
    · exact absurd hj (Nat.not_lt.2 hg)
  · exact (h4 r.g (hne r (List.mem_of_getElem? hj))).trans (hE.rows j r hj)
end Go.Proofs.YtbhmgnhiglpmhaaDoor

/- A block of the call's own is new. No function of the program is named here. -/
set_option maxRecDepth 4000
namespace Go.Proofs.YtbhmgnhiglpmhaaDoor
open Go Go.RowKit
theorem st_fresh2 {w0 w : World} {S : List Blk} (h : St w0 noF S w) (k : Nat) {r : Blk} (hk : S[k]? = some r) : w0.heap.size ≤ r.g := (h.own k r hk).resolve_left fun e => e
end Go.Proofs.YtbhmgnhiglpmhaaDoor

/- More of memory in a walk: cells that are far, rows that come back from a call, slices of slices of one's own. No function of the program is named here. -/
set_option maxRecDepth 4000
namespace Go.Proofs.YtbhmgnhiglpmhaaDoor
open Go Go.RowKit
/- block b has these cells from o on -/
structure CAt (w : World) (b o : Nat) (L : List Value) : Prop where
  lt : b < w.heap.size
  at_ : w.rangeAt b o L
theorem CAt.call {w w' : World} {b o : Nat} {L : List Value} (h : CAt w b o L) (hb : Below w.heap.size w w') : CAt w' b o L :=
  ⟨Nat.lt_of_lt_of_le h.lt hb.size, fun j v hv => (hb.cell (p := ⟨b, o + j, none⟩) h.lt).trans (h.at_ j v hv)⟩
theorem CAt.pre {w : World} {b o : Nat} {L M : List Value} (h : CAt w b o (L ++ M)) : CAt w b o L :=
  ⟨h.lt, fun j v hv => h.at_ j v (by rw [List.getElem?_append_left (List.getElem?_eq_some_iff.1 hv).1]; exact hv)⟩
theorem CAt.post {w : World} {b o n : Nat} {L M : List Value} (h : CAt w b o (L ++ M)) (hn : L.length = n) : CAt w b (o + n) M := by
  subst hn
  exact ⟨h.lt, fun j v hv => by
    have := h.at_ (L.length + j) v (by rw [List.getElem?_append_right (by omega), Nat.add_sub_cancel_left]; exact hv)
    rwa [← Nat.add_assoc] at this⟩
theorem CAt.news {w : World} {b o : Nat} {L : List Value} (h : CAt w b o L) : ∀ (j : Nat) (u : Value), L[j]? = some u → w.cell? ((⟨b, o, none⟩ : Addr).add j) = some u := fun j u hu => by
  rw [Addr.add_mid]; exact h.at_ j u hu
theorem cat_own {w : World} {g c n sz : Nat} {t : TypeId} {cb : Array Value} {L : List Value} (h : Row w g t cb) (O : OwnC cb c n sz L) : CAt w g 0 L :=
  ⟨h.lt, fun j v hv => by
    rw [Nat.zero_add]
    refine h.get ?_
    have hj := (List.getElem?_eq_some_iff.1 hv).1
    rw [← O.take, List.getElem?_take_of_lt (by rw [← O.len]; exact hj), Array.getElem?_toList] at hv
    exact hv⟩
theorem parts_one1 {w : World} {g : Nat} {t : TypeId} {u : Value} {b : List (BitVec 8)} (h : Row w g t #[u]) (hu : Slice w u b) : Parts w (.slice (some ⟨g, 0, none⟩) 1 1) [b] := by
  refine ⟨_, 1, rfl, fun _ => ⟨g, 0, rfl, h.lt, fun k p hp => ?_⟩⟩
  match k, hp with
  | 0, hp => obtain rfl : b = p := by simpa using hp
             exact ⟨u, h.get rfl, hu⟩
theorem hand_one1 {w : World} {g : Nat} {t : TypeId} {u : Value} {b : List (BitVec 8)} (h : Row w g t #[u]) (hu : Item w u b) : Hand w (.slice (some ⟨g, 0, none⟩) 1 1) [b] := by
  refine ⟨_, 1, rfl, fun _ => ⟨g, 0, rfl, h.lt, fun k p hp => ?_⟩⟩
  match k, hp with
  | 0, hp => obtain rfl : b = p := by simpa using hp
             exact ⟨u, h.get rfl, hu⟩
/- rows handed to a call, the others staying -/
theorem St.reframe {w0 w w' : World} {S1 S2 S1' : List Blk} (h : St w0 noF (S1 ++ S2) w) (k : St w (inS S1) S1' w') : St w0 noF (S1' ++ S2) w' := by
  have hw : ∀ j, inS S1 j → w0.heap.size ≤ j := fun j ⟨r, h1, h2⟩ => by
    obtain ⟨i, hi⟩ := List.getElem?_of_mem (List.mem_append_left S2 h1)
    rcases h.own i r hi with hf | hf
    · exact hf.elim
    · omega
  have hap : ∀ (r s : Blk), r ∈ S1 → ∀ (j : Nat), S2[j]? = some s → r.g ≠ s.g := fun r s hr j hj => by
    obtain ⟨i, hi⟩ := List.getElem?_of_mem hr
    have hlt := (List.getElem?_eq_some_iff.1 hi).1
    exact h.apart i (S1.length + j) r s (by omega) (by rw [List.getElem?_append_left hlt]; exact hi) (by rw [List.getElem?_append_right (by omega), Nat.add_sub_cancel_left]; exact hj)
  have hS2 : ∀ (j : Nat) (s : Blk), S2[j]? = some s → ¬ inS S1 s.g ∧ s.g < w.heap.size ∧ w0.heap.size ≤ s.g ∧ Row w s.g s.t s.cs := fun j s hj => by
    have hi : (S1 ++ S2)[S1.length + j]? = some s := by rw [List.getElem?_append_right (by omega), Nat.add_sub_cancel_left]; exact hj
    exact ⟨fun ⟨r, h1, h2⟩ => hap r s h1 j hj h2, (h.rows _ _ hi).lt, (h.own _ _ hi).resolve_left fun e => e, h.rows _ _ hi⟩
  have hx : ∀ (i j : Nat) (r s : Blk), S1'[i]? = some r → S2[j]? = some s → r.g ≠ s.g := fun i j r s hi hj e => by
    obtain ⟨h1, h2, _⟩ := hS2 j s hj
    rcases k.own i r hi with hf | hf
    · exact h1 (e ▸ hf)
    · omega
  refine ⟨⟨k.chg.os.trans h.chg.os, k.chg.tape.trans h.chg.tape, k.chg.output.trans h.chg.output, Nat.le_trans h.chg.size k.chg.size, fun j hj hn => ?_⟩, fun i r hi => ?_, fun i j r s hij hi hj => ?_, fun i r hi => .inr ?_⟩
  · exact (k.chg.block j (Nat.lt_of_lt_of_le hj h.chg.size) fun hf => by have := hw j hf; omega).trans (h.chg.block j hj hn)
  · by_cases hlt : i < S1'.length
    · rw [List.getElem?_append_left hlt] at hi; exact k.rows i r hi
    · rw [List.getElem?_append_right (by omega)] at hi
      obtain ⟨h1, h2, _, h4⟩ := hS2 _ _ hi
      exact (k.chg.block r.g h2 h1).trans h4
  · by_cases hli : i < S1'.length <;> by_cases hlj : j < S1'.length
    · rw [List.getElem?_append_left hli] at hi; rw [List.getElem?_append_left hlj] at hj; exact k.apart i j r s hij hi hj
    · rw [List.getElem?_append_left hli] at hi; rw [List.getElem?_append_right (by omega)] at hj; exact hx _ _ _ _ hi hj
    · rw [List.getElem?_append_right (by omega)] at hi; rw [List.getElem?_append_left hlj] at hj; exact fun e => hx _ _ _ _ hj hi e.symm
    · rw [List.getElem?_append_right (by omega)] at hi hj
      exact h.apart (S1.length + (i - S1'.length)) (S1.length + (j - S1'.length)) r s (by omega) (by rw [List.getElem?_append_right (by omega), Nat.add_sub_cancel_left]; exact hi) (by rw [List.getElem?_append_right (by omega), Nat.add_sub_cancel_left]; exact hj)
  · by_cases hlt : i < S1'.length
    · rw [List.getElem?_append_left hlt] at hi
      rcases k.own i r hi with hf | hf
      · exact hw _ hf
      · exact Nat.le_trans h.chg.size hf
    · rw [List.getElem?_append_right (by omega)] at hi
      exact (hS2 _ _ hi).2.2.1
theorem stw_grown {w0 w w' : World} {S : List Blk} {v : Value} (h : St w0 noF S w) (hg : w.grownBy w' v.ownBlock) (hv : ∀ g, v.ownBlock = some g → w0.heap.size ≤ g ∧ ∀ r ∈ S, r.g ≠ g) : St w0 noF S w' :=
  ⟨h.chg.grown hg (fun j e => .inr (hv j e).1), fun j r hj => (hg.block r.g (h.rows j r hj).lt fun e => (hv r.g e.symm).2 r (List.mem_of_getElem? hj) rfl).trans (h.rows j r hj), h.apart, h.own⟩
theorem St.firstw {w0 w1 w : World} {S : List Blk} (h : St w1 noF S w) (hb : Below w0.heap.size w0 w1) : St w0 noF S w :=
  ⟨⟨h.chg.os.trans hb.os, h.chg.tape.trans hb.tape, h.chg.output.trans hb.output, Nat.le_trans hb.size h.chg.size, fun k hk hf => (h.chg.block k (Nat.lt_of_lt_of_le hk hb.size) hf).trans (hb.block k hk)⟩, h.rows, h.apart, fun k r hk => .inr (Nat.le_trans hb.size ((h.own k r hk).resolve_left fun e => e))⟩
theorem Owns.nil (w : World) : Owns w w (.slice none 0 0) [] := ⟨[], World.ownsRow_nil _ _ _ _, Below.refl _ _, fun j q h => by simp at h⟩
theorem Owns.call {w wr w' : World} {v : Value} {ps : List (List (BitVec 8))} (h : Owns w wr v ps) (hb : Below wr.heap.size wr w') : Owns w w' v ps := by
  obtain ⟨vs, h1, h2, h3⟩ := h
  exact ⟨vs, owns_call h1 hb, h2.trans (hb.mono h2.size), fun j q hq => by obtain ⟨u, h4, h5⟩ := h3 j q hq; exact ⟨u, h4, owns_call h5 hb⟩⟩
theorem Owns.form {w wr : World} {v : Value} {ps : List (List (BitVec 8))} (h : Owns w wr v ps) : ∃ A c, v = .slice A ps.length c ∧ ps.length ≤ c := by
  obtain ⟨vs, h1, _⟩ := h
  rcases h1.2 with ⟨rfl, h0⟩ | ⟨g, cap, cur, rfl, _, _, hc, _⟩
  · exact ⟨none, 0, by rw [h0], by omega⟩
  · exact ⟨_, cap, rfl, hc⟩
section
variable {o : Oper} {a : Act} {w w0 w1 : World} {R : Value → World → Prop} {S : List Blk}
theorem dd_appO (hb : Below w0.heap.size w0 w1) (HS : St w1 noF S w) {v : Value} {ps : List (List (BitVec 8))} (hov : Owns w0 w1 v ps) {s x : Operand}
    (ho : o.op = .call { callee := .builtin .append, args := #[s, x], argTypes := #[67, 67] }) (hs : a.eval s = v) {ad : Addr} {c : Nat} {u : Value} (hx : a.eval x = .slice (some ad) 1 c) (hc : w.cell? ad = some u) {q : List (BitVec 8)} (hu : w.ownsRow w0.heap.size 5 1 u q.length (bytesV q)) (hn : ps.length ≤ 1000000)
    (h : ∀ v' w', Owns w0 w' v' (ps ++ [q]) → St w0 noF S w' → R v' w') : Does Tryd.prog o a w R := fun K Q hK => by
  have hbw : Below w1.heap.size w1 w := HS.below
  obtain ⟨vs, h1, h2, h3⟩ := hov.call hbw
  have hap : ∀ g, v.ownBlock = some g → w0.heap.size ≤ g ∧ ∀ r ∈ S, r.g ≠ g := fun g e => by
    obtain ⟨vs1, h4, _⟩ := hov
    refine ⟨(h4.lt g e).1, fun r hr e2 => ?_⟩
    obtain ⟨k, hk⟩ := List.getElem?_of_mem hr
    have := (HS.own k r hk).resolve_left fun e => e
    have := (h4.lt g e).2
    omega
  obtain ⟨i1, hi1, hz10, hz11, hz12⟩ := info_parts info_sl
  refine wp_append_own_wide w s x 67 ho w0.heap.size 35 i1 (.slice none 0 0) 1 24 Tryd.underlying67 hi1 hz10 hz11 hz12 rfl (by decide) v ps.length vs hs h1 ad 1 c [u] hx rfl (fun j y hy => by
    match j, hy with
    | 0, hy => obtain rfl : u = y := by simpa using hy
               exact hc) (fun y hy => by
    obtain rfl : y = u := by simpa using hy
    rcases hu.2 with ⟨rfl, _⟩ | ⟨g, cap, cur, rfl, _⟩ <;> rfl) (by unfold maxLen; omega) (by omega) h2.size fun v' w' o2 hg _ => ?_
  have hS := stw_grown (HS.firstw hb) hg hap
  refine hK _ _ (h v' w' ⟨vs ++ [u], by rw [List.length_append]; exact o2, hS.below, fun j y hy => ?_⟩ hS)
  have hl : vs.length = ps.length := by simpa using h1.1
  by_cases hj : j < ps.length
  · rw [List.getElem?_append_left hj] at hy
    obtain ⟨z, h4, h5⟩ := h3 j y hy
    exact ⟨z, by rw [List.getElem?_append_left (by omega)]; exact h4, h5.kept hg (own_ne h1 h5)⟩
  · rw [List.getElem?_append_right (by omega)] at hy
    have hj2 : j - ps.length = 0 := by have := (List.getElem?_eq_some_iff.1 hy).1; simp at this; omega
    rw [hj2] at hy
    obtain rfl : q = y := by simpa using hy
    exact ⟨u, by rw [List.getElem?_append_right (by omega), hl, hj2]; rfl, hu.kept hg (own_ne h1 hu)⟩
end
end Go.Proofs.YtbhmgnhiglpmhaaDoor

/- What was answered, chained: entries, plainly, and as they lie in memory. No function of the program is named here. -/
set_option maxRecDepth 4000
namespace Go.Proofs.YtbhmgnhiglpmhaaDoor
open Go Go.RowKit
abbrev Ae := List (BitVec 8) × Int × Int × List (BitVec 8)
def okE (x : Ae) : Bool := mayR x.2.1 x.2.2.1 0
def recA (h : List (BitVec 8)) (i e : Int) : List (BitVec 8) := h ++ repB i e []
def recE (x : Ae) : List (BitVec 8) := recA x.1 x.2.1 x.2.2.1
def nextL (h : List (BitVec 8)) (x : Ae) : List (BitVec 8) := sha (h ++ recE x)
def lkO : Option Ae → List (BitVec 8)
  | some x => x.2.2.2
  | none => zer 32
def lk (l : List Ae) : Nat → List (BitVec 8)
  | 0 => zer 32
  | k + 1 => lkO l[k]?
def goodAt (l : List Ae) (k : Nat) : Bool := match l[k]? with
  | some x => okE x && decide (nextL (lk l k) x = x.2.2.2)
  | none => false
def verI (l : List Ae) : Int := match (List.range l.length).find? fun k => !goodAt l k with
  | some k => (k : Int)
  | none => -1
def wfA (l : List Ae) : Prop := ∀ x ∈ l, x.1.length = 32 ∧ x.2.2.2.length = 32
def mkA (l : List Ae) (q : List (BitVec 8)) (i e : Int) : Ae := (sha q, i, e, nextL (lk l l.length) (sha q, i, e, []))
def recsOf (l : List Ae) : List (List (BitVec 8)) := (l.takeWhile okE).map recE
theorem length_recA {h : List (BitVec 8)} {i e : Int} (hh : h.length = 32) : (recA h i e).length = 40 := by unfold recA; rw [List.length_append, length_repB, hh]; rfl
theorem length_recE {l : List Ae} {x : Ae} (hw : wfA l) (h : x ∈ l) : (recE x).length = 40 := length_recA (hw x h).1
theorem len_next (h : List (BitVec 8)) (x : Ae) : (nextL h x).length = 32 := length_sha _
theorem lk_succ {l : List Ae} {k : Nat} {x : Ae} (h : l[k]? = some x) : lk l (k + 1) = x.2.2.2 := by show lkO l[k]? = _; rw [h]; rfl
theorem length_lk {l : List Ae} (hw : wfA l) (k : Nat) : (lk l k).length = 32 := by
  cases k with
  | zero => exact length_zer 32
  | succ k =>
    show (lkO l[k]?).length = 32
    cases h : l[k]? with
    | none => exact length_zer 32
    | some x => exact (hw x (List.mem_of_getElem? h)).2
theorem good_at {l : List Ae} {k : Nat} {x : Ae} (h : l[k]? = some x) : goodAt l k = (okE x && decide (nextL (lk l k) x = x.2.2.2)) := by unfold goodAt; simp only [h]
theorem ver_at {l : List Ae} {k : Nat} (hk : k < l.length) (hb : ∀ j, j < k → goodAt l j = true) (hn : goodAt l k = false) : verI l = k := by
  unfold verI
  have h : (List.range l.length).find? (fun k => !goodAt l k) = some k := by
    rw [List.find?_range_eq_some]
    exact ⟨by rw [hn]; rfl, List.mem_range.2 hk, fun j hj => by rw [hb j hj]; rfl⟩
  rw [h]
theorem ver_none {l : List Ae} (hb : ∀ j, j < l.length → goodAt l j = true) : verI l = -1 := by
  unfold verI
  have h : (List.range l.length).find? (fun k => !goodAt l k) = none := by
    rw [List.find?_eq_none]
    intro j hj
    rw [hb j (List.mem_range.1 hj)]; simp
  rw [h]
theorem wf_snoc {l : List Ae} {x : Ae} (hw : wfA l) (h1 : x.1.length = 32) (h2 : x.2.2.2.length = 32) : wfA (l ++ [x]) := fun y hy => by
  rcases List.mem_append.1 hy with h | h
  · exact hw y h
  · rw [List.mem_singleton] at h; subst h; exact ⟨h1, h2⟩
theorem wf_mk {l : List Ae} (hw : wfA l) (q : List (BitVec 8)) (i e : Int) : wfA (l ++ [mkA l q i e]) := wf_snoc hw (length_sha _) (len_next _ _)
theorem wf_nil : wfA [] := fun x h => by cases h
theorem lk_app {l m : List Ae} {k : Nat} (h : k ≤ l.length) : lk (l ++ m) k = lk l k := by
  cases k with
  | zero => rfl
  | succ k => show lkO (l ++ m)[k]? = lkO l[k]?; rw [List.getElem?_append_left (by omega)]
theorem good_app {l m : List Ae} {k : Nat} (h : k < l.length) : goodAt (l ++ m) k = goodAt l k := by
  unfold goodAt; rw [List.getElem?_append_left h, lk_app (Nat.le_of_lt h)]
/- all that Add made is right -/
theorem good_mk {l : List Ae} (hb : ∀ j, j < l.length → goodAt l j = true) (q : List (BitVec 8)) {i e : Int} (hm : mayR i e 0 = true) : ∀ j, j < (l ++ [mkA l q i e]).length → goodAt (l ++ [mkA l q i e]) j = true := fun j hj => by
  rw [List.length_append] at hj
  by_cases h : j < l.length
  · rw [good_app h]; exact hb j h
  · obtain rfl : j = l.length := by have : j < l.length + 1 := hj; omega
    rw [good_at (x := mkA l q i e) (by simp), lk_app (Nat.le_refl _)]
    have h2 : okE (mkA l q i e) = true := hm
    rw [h2, Bool.true_and]
    exact decide_eq_true rfl
theorem good_take {l : List Ae} (k : Nat) (hb : ∀ j, j < l.length → goodAt l j = true) : ∀ j, j < (l.take k).length → goodAt (l.take k) j = true := fun j hj => by
  rw [List.length_take] at hj
  have h := good_app (l := l.take k) (m := l.drop k) (k := j) (by rw [List.length_take]; omega)
  rw [List.take_append_drop] at h
  rw [← h]; exact hb j (by omega)
theorem lk_set {l : List Ae} {k : Nat} (y : Ae) {j : Nat} (h : j ≤ k) : lk (l.set k y) j = lk l j := by
  cases j with
  | zero => rfl
  | succ j => show lkO (l.set k y)[j]? = lkO l[j]?; rw [List.getElem?_set_ne (by omega)]
theorem good_set {l : List Ae} {k : Nat} (y : Ae) {j : Nat} (h : j < k) : goodAt (l.set k y) j = goodAt l j := by
  unfold goodAt; rw [List.getElem?_set_ne (by omega), lk_set y (Nat.le_of_lt h)]
/- one of those that are right, turned into another: the first that is wrong is it -/
theorem ver_set {l : List Ae} {k : Nat} {y : Ae} (hk : k < l.length) (hb : ∀ j, j < l.length → goodAt l j = true) (hn : ¬ nextL (lk l k) y = y.2.2.2) : verI (l.set k y) = k :=
  ver_at (by rw [List.length_set]; exact hk) (fun j hj => by rw [good_set y hj]; exact hb j (by omega)) (by
    rw [good_at (x := y) (by rw [List.getElem?_set_self hk]), lk_set y (Nat.le_refl _), decide_eq_false hn, Bool.and_false])
theorem ver_cut {l m : List Ae} {k : Nat} {y : Ae} (hk : k ≤ l.length) (hb : ∀ j, j < l.length → goodAt l j = true) (hn : ¬ nextL (lk l k) y = y.2.2.2) : verI (l.take k ++ y :: m) = k := by
  have hl : (l.take k).length = k := by rw [List.length_take]; omega
  have hlk : lk (l.take k ++ y :: m) k = lk l k := by
    rw [lk_app (by omega)]
    have h := lk_app (l := l.take k) (m := l.drop k) (k := k) (by omega)
    rw [List.take_append_drop] at h; exact h.symm
  refine ver_at (by rw [List.length_append, hl, List.length_cons]; omega) (fun j hj => ?_) ?_
  · rw [good_app (by omega)]; exact good_take k hb j (by omega)
  · rw [good_at (x := y) (by rw [List.getElem?_append_right (by omega), hl, Nat.sub_self]; rfl), hlk, decide_eq_false hn, Bool.and_false]
/- the records, up to the first entry that has none -/
theorem tw_self {l : List Ae} (h : ∀ x ∈ l, okE x = true) : l.takeWhile okE = l := by
  induction l with
  | nil => rfl
  | cons x l ih => rw [List.takeWhile_cons_of_pos (h x (List.mem_cons_self ..)), ih fun y hy => h y (List.mem_cons_of_mem _ hy)]
theorem recs_at {l : List Ae} {k : Nat} (hk : k ≤ l.length) (hb : ∀ j x, j < k → l[j]? = some x → okE x = true) (hn : k = l.length ∨ ∃ x, l[k]? = some x ∧ okE x = false) : recsOf l = (l.take k).map recE := by
  unfold recsOf
  congr 1
  have hp : ∀ x ∈ l.take k, okE x = true := fun x hx => by
    obtain ⟨j, hj⟩ := List.getElem?_of_mem hx
    rw [List.getElem?_take] at hj
    by_cases h : j < k
    · rw [if_pos h] at hj; exact hb j x h hj
    · rw [if_neg h] at hj; cases hj
  rcases hn with rfl | ⟨x, h1, h2⟩
  · rw [List.take_length] at hp ⊢
    exact tw_self hp
  · have e : l = l.take k ++ x :: l.drop (k + 1) := by
      have hlt := (List.getElem?_eq_some_iff.1 h1).1
      conv => lhs; rw [← List.take_append_drop k l, List.drop_eq_getElem_cons hlt]
      rw [(List.getElem?_eq_some_iff.1 h1).2]
    conv => lhs; rw [e]
    rw [List.takeWhile_append_of_pos hp, List.takeWhile_cons_of_neg (by rw [h2]; decide), List.append_nil]
theorem recs_len (l : List Ae) : (recsOf l).length ≤ l.length := by
  unfold recsOf; rw [List.length_map]; exact (List.takeWhile_sublist okE).length_le
theorem recs_get {l : List Ae} {k : Nat} (h : k < (recsOf l).length) : ∃ x, l[k]? = some x ∧ okE x = true ∧ (recsOf l)[k]? = some (recE x) := by
  unfold recsOf at h ⊢
  rw [List.length_map] at h
  have h1 : (l.takeWhile okE)[k]? = some (l.takeWhile okE)[k] := List.getElem?_eq_getElem h
  refine ⟨(l.takeWhile okE)[k], ?_, List.all_eq_true.1 (List.all_takeWhile (p := okE) (l := l)) _ (List.getElem_mem h), by rw [List.getElem?_map, h1]; rfl⟩
  have h2 : (l.takeWhile okE ++ l.dropWhile okE)[k]? = some (l.takeWhile okE)[k] := by rw [List.getElem?_append_left h]; exact h1
  rwa [List.takeWhile_append_dropWhile] at h2
theorem recs_end {l : List Ae} (h : (recsOf l).length < l.length) : ∃ x, l[(recsOf l).length]? = some x ∧ okE x = false := by
  unfold recsOf at h ⊢
  rw [List.length_map] at h ⊢
  have h3 : l.dropWhile okE ≠ [] := fun e => by
    have h2 := congrArg List.length (List.takeWhile_append_dropWhile (p := okE) (l := l))
    rw [List.length_append, e] at h2
    have : (l.takeWhile okE).length + 0 = l.length := h2
    omega
  obtain ⟨x, m, hx⟩ := List.exists_cons_of_ne_nil h3
  refine ⟨x, ?_, ?_⟩
  · have h2 : (l.takeWhile okE ++ l.dropWhile okE)[(l.takeWhile okE).length]? = some x := by rw [List.getElem?_append_right (Nat.le_refl _), Nat.sub_self, hx]; rfl
    rwa [List.takeWhile_append_dropWhile] at h2
  · have h4 := List.head_dropWhile_not okE h3
    simp only [hx, List.head_cons] at h4
    exact h4
/- the chain of the records goes along the links, as far as they are right -/
theorem chain_lk {l : List Ae} : ∀ k, k ≤ (recsOf l).length → (∀ j, j < k → goodAt l j = true) → linkAt (zer 32) (recsOf l) k = lk l k
  | 0, _, _ => rfl
  | k + 1, hk, hb => by
    obtain ⟨x, h1, h2, h3⟩ := recs_get (l := l) (k := k) (by omega)
    have h4 := hb k (by omega)
    rw [good_at h1, h2, Bool.true_and] at h4
    rw [linkAt, chain_lk k (by omega) fun j hj => hb j (by omega), lk_succ h1, List.getD_eq_getElem?_getD, h3]
    exact of_decide_eq_true h4
theorem good_chain {l : List Ae} {k : Nat} {x : Ae} (hk : k < (recsOf l).length) (hx : l[k]? = some x) (hb : ∀ j, j < k → goodAt l j = true) : goodAt l k = decide (x.2.2.2 = linkAt (zer 32) (recsOf l) (k + 1)) := by
  obtain ⟨y, h1, h2, h3⟩ := recs_get hk
  rw [hx] at h1
  injection h1 with h1
  subst h1
  rw [good_at hx, h2, Bool.true_and, linkAt, chain_lk k (Nat.le_of_lt hk) hb, List.getD_eq_getElem?_getD, h3]
  exact decide_eq_decide.2 ⟨fun h => h.symm, fun h => h.symm⟩
/- entries in memory -/
def aecell (x : Ae) : List Value := [bytesV x.1, [.int .i64 x.2.1], [.int .i64 x.2.2.1], bytesV x.2.2.2].flatten
def entsL (l : List Ae) : List Value := (l.map aecell).flatten
theorem len_aecell {x : Ae} (h1 : x.1.length = 32) (h2 : x.2.2.2.length = 32) : (aecell x).length = 66 := by unfold aecell; simp [len_bytesV, h1, h2]
theorem ents_app (l m : List Ae) : entsL (l ++ m) = entsL l ++ entsL m := by unfold entsL; rw [List.map_append, List.flatten_append]
theorem ents_one (x : Ae) : entsL [x] = aecell x := by unfold entsL; simp
theorem ents_snoc (l : List Ae) (x : Ae) : entsL (l ++ [x]) = entsL l ++ aecell x := by rw [ents_app, ents_one]
theorem len_ents {l : List Ae} {n : Nat} (hw : wfA l) (hn : l.length = n) : (entsL l).length = n * 66 := by
  subst hn
  induction l with
  | nil => rfl
  | cons x l ih =>
    have h1 := hw x (List.mem_cons_self ..)
    rw [show x :: l = [x] ++ l from rfl, ents_app, List.length_append, ents_one, len_aecell h1.1 h1.2, ih fun y hy => hw y (List.mem_cons_of_mem _ hy), List.length_append]
    simp only [List.length_singleton]; omega
theorem one_aecell (x : Ae) : ∀ v ∈ aecell x, Value.oneCell' v = true := fun v hv => by
  unfold aecell at hv
  simp only [List.flatten_cons, List.flatten_nil, List.append_nil, List.mem_append, List.mem_singleton] at hv
  rcases hv with h | rfl | rfl | h
  · exact one_bytesV _ v h
  · rfl
  · rfl
  · exact one_bytesV _ v h
theorem one_ents (l : List Ae) : ∀ v ∈ entsL l, Value.oneCell' v = true := fun v hv => by
  obtain ⟨c, hc, hv⟩ := List.mem_flatten.1 hv
  obtain ⟨x, _, rfl⟩ := List.mem_map.1 hc
  exact one_aecell x v hv
theorem wf_take {l : List Ae} (k : Nat) (hw : wfA l) : wfA (l.take k) := fun x hx => hw x (List.mem_of_mem_take hx)
theorem wf_drop {l : List Ae} (k : Nat) (hw : wfA l) : wfA (l.drop k) := fun x hx => hw x (List.mem_of_mem_drop hx)
section
variable {w : World} {b o k : Nat} {l : List Ae} {x : Ae}
theorem cat_ent (h : CAt w b o (entsL l)) (hw : wfA l) (hx : l[k]? = some x) : CAt w b (o + k * 66) (aecell x) := by
  have hk := (List.getElem?_eq_some_iff.1 hx).1
  have e : entsL l = entsL (l.take k) ++ (aecell x ++ entsL (l.drop (k + 1))) := by
    conv => lhs; rw [← List.take_append_drop k l, List.drop_eq_getElem_cons hk]
    rw [(List.getElem?_eq_some_iff.1 hx).2, ents_app, show x :: l.drop (k + 1) = [x] ++ l.drop (k + 1) from rfl, ents_app, ents_one]
  rw [e] at h
  exact (h.post (len_ents (n := k) (wf_take k hw) (by rw [List.length_take]; omega))).pre
theorem ent_all (h : CAt w b o (entsL l)) (hw : wfA l) (hx : l[k]? = some x) : w.rangeAt b (o + k * 66) (catA [bytesV x.1, [.int .i64 x.2.1], [.int .i64 x.2.2.1], bytesV x.2.2.2]).toList := (cat_ent h hw hx).at_
theorem ent_h (h : CAt w b o (entsL l)) (hw : wfA l) (hx : l[k]? = some x) : w.rangeAt b (o + k * 66) (bytesV x.1) := by
  have h1 := cat_ent h hw hx
  unfold aecell at h1
  rw [List.flatten_cons] at h1
  exact h1.pre.at_
theorem ent_i (h : CAt w b o (entsL l)) (hw : wfA l) (hx : l[k]? = some x) : w.cell? ⟨b, o + k * 66 + 32, none⟩ = some (.int .i64 x.2.1) := by
  have h1 := cat_ent h hw hx
  unfold aecell at h1
  rw [List.flatten_cons] at h1
  exact (h1.post (n := 32) (by rw [len_bytesV, (hw x (List.mem_of_getElem? hx)).1])).at_ 0 _ rfl
theorem ent_e (h : CAt w b o (entsL l)) (hw : wfA l) (hx : l[k]? = some x) : w.cell? ⟨b, o + k * 66 + 33, none⟩ = some (.int .i64 x.2.2.1) := by
  have h1 := cat_ent h hw hx
  unfold aecell at h1
  rw [List.flatten_cons] at h1
  exact (h1.post (n := 32) (by rw [len_bytesV, (hw x (List.mem_of_getElem? hx)).1])).at_ 1 _ rfl
theorem ent_l (h : CAt w b o (entsL l)) (hw : wfA l) (hx : l[k]? = some x) : w.rangeAt b (o + k * 66 + 34) (bytesV x.2.2.2) := by
  have h1 := cat_ent h hw hx
  unfold aecell at h1
  rw [List.flatten_cons] at h1
  have h2 := h1.post (n := 32) (by rw [len_bytesV, (hw x (List.mem_of_getElem? hx)).1])
  rw [List.flatten_cons, List.flatten_cons] at h2
  have h3 := (h2.post (n := 1) rfl).post (n := 1) rfl
  rw [List.flatten_cons] at h3
  exact h3.pre.at_
end
end Go.Proofs.YtbhmgnhiglpmhaaDoor

/- slices.Concat of two slices of bytes (32 and 8). -/
set_option maxRecDepth 4000
namespace Go.Proofs.YtbhmgnhiglpmhaaDoor
open Go Go.RowKit
theorem wpl_zerosB {w : World} {ops : Array Oper} {rest : List Oper} {o : Oper} {a : Act} {Q : Exit → Act → World → Prop} (hgd : o.guard = none) (s x : Operand)
    (ho : o.op = .call { callee := .builtin .append, args := #[s, x], argTypes := #[35, 3] }) (hs : a.eval s = .slice none 0 0) (m : Nat) (hx : a.eval x = .int .i64 (m : Int)) (h0 : 0 < m) (hm : m ≤ 1000000)
    (h : ∀ cap w', m ≤ cap → w'.ownsRow w.heap.size 5 1 (.slice (some ⟨w.heap.size, 0, none⟩) 0 cap) 0 (bytesV []) → Below w.heap.size w w' → wpList Tryd.prog ops Q rest (a.put o.dst (.slice (some ⟨w.heap.size, 0, none⟩) m cap)) w') : wpList Tryd.prog ops Q (o :: rest) a w := by
  refine wpList_plain hgd fun K hK => ?_
  unfold Oper.wp execOp
  simp only [ho, resolve, invoke, builtin, Sem.run_bind, Sem.run_pure, Result.andThen_ok, List.map_toArray, List.map_cons, List.map_nil, hs, hx, run_zeros_nil (w := w) o.type m h0 hm]
  have hge := grownCap_ge w m 0 5
  refine hK _ _ (h _ _ hge ⟨rfl, .inr ⟨w.heap.size, _, _, rfl, Nat.le_refl _, heap_alloc_new w.drew _, Nat.zero_le _, grownCap_le_maxLen w m 0 5 (by unfold maxLen; omega), ?_, rfl⟩⟩ (((Below.refl _ _).drew).alloc (Nat.le_refl _) _))
  simp only [Array.size_append, size_zeroCells, Value.cells, size_bs, length_zer]
  simp
  omega
set_option maxHeartbeats 800000 in
theorem growB_any (m : Nat) (w : World) (h3 : 0 < m) (hm : m ≤ 1000000) :
    Calls Tryd.prog 46 #[.slice none 0 0, .int .i64 (m : Int)] w fun e w' => ∃ g c cb, e = .returned (.slice (some ⟨g, 0, none⟩) 0 c) ∧ w.heap.size ≤ g ∧ Row w' g 5 cb ∧ OwnC cb c 0 1 (bytesV []) ∧ Below w.heap.size w w' := by
  have hw : IntKind.i64.wrap (m : Int) = (m : Int) := i64_id _ (by omega) (by omega)
  have h1 : decide ((m : Int) < 0) = false := decide_eq_false (by omega)
  have h2 : decide (0 < (m : Int)) = true := decide_eq_true (by omega)
  go_enter Tryd.func46, Tryd.ntmps46
  go_wp2_with (at_builtin; refine wpl_zerosB rfl (.tmp 20) (.tmp 21) rfl rfl m rfl h3 hm ?_; intro cap w4 hcap own1 hb4; have HO := Lib.hid own1; have HB := Lib.hid hb4; clear own1 hb4)
  go_ret
  obtain ⟨g, c, cb, e, h4, h5, h6⟩ := ownc_of HO.out (fun e => by cases e)
  injection e with e1 _ e2
  injection e1 with e1
  injection e1 with e1 _ _
  subst e1 e2
  exact ⟨_, _, cb, rfl, h4, h5, h6, HB.out⟩
set_option maxHeartbeats 800000 in
theorem concatB_any (g : Nat) (A1 A2 : Option Addr) (c1 c2 : Nat) (q1 q2 : List (BitVec 8)) (w : World) (hr : Row w g 35 #[.slice A1 32 c1, .slice A2 8 c2]) (h1 : Slice w (.slice A1 32 c1) q1) (h2 : Slice w (.slice A2 8 c2) q2) (_ : q1.length = 32) (_ : q2.length = 8) (hA1 : A1 = none → c1 = 0) (hA2 : A2 = none → c2 = 0) :
    Calls Tryd.prog 30 #[.slice (some ⟨g, 0, none⟩) 2 2] w fun e w' => ∃ g c cb, e = .returned (.slice (some ⟨g, 0, none⟩) 40 c) ∧ w.heap.size ≤ g ∧ Row w' g 5 cb ∧ OwnC cb c 40 1 (bytesV (q1 ++ q2)) ∧ Below w.heap.size w w' := by
  have HS := St.nil w noF
  have HR : ∀ W, Below w.heap.size w W → Row W g 35 #[.slice A1 32 c1, .slice A2 8 c2] := fun W hb => hr.call hb
  have H1 : ∀ W, Below w.heap.size w W → Slice W (.slice A1 32 c1) q1 := fun W hb => h1.below hb (Nat.le_refl _)
  have H2 : ∀ W, Below w.heap.size w W → Slice W (.slice A2 8 c2) q2 := fun W hb => h2.below hb (Nat.le_refl _)
  refine enter_en Tryd.func30 rfl Tryd.ntmps30 (Nat.le_of_ble_eq_true rfl) fun a0 (HA0 : En 36 [(0, .slice (some ⟨g, 0, none⟩) 2 2)] a0) => ?_
  refine sq_ <| rl_ <| wl_ <| p_ HA0 rfl rfl fun _ H1 => ln_ <| nx <| sq_ <| rl_ <| wl_ <| p_ H1 rfl rfl fun _ H2 => ln_ <| nx <| sq_ <| sq_ <| rl_ <| wl_ <| p_ H2 rfl rfl fun _ H3 => wl_ <| i_ H3 rfl (v := .int .i64 2) (dd_len rfl (H3.ev 9 rfl) Tryd.underlying67) fun _ H4 => wl_ <| p_ H4 rfl rfl fun _ H5 => ln_ <| nx <| wp_block <| wp_unr 3 <| unr_go <| sq_ <| rl_ <| wl_ <| i_ H5 rfl (dd_cmp rfl (H5.ev 11 rfl) (H5.ev 10 rfl) (lt_t (by decide))) fun _ H6 => ln_ <| nx <| sq_ <| ct_ H6 rfl <| wp_skip <| nx <| sq_ <| wp_block <| sq_ <| rl_ <| wl_ <| i_ H6 rfl (xS 1 0 rfl (H6.ev 9 rfl) (H6.ev 11 rfl)) fun _ H7 => wl_ <| i_ H7 rfl (dd_getR (HR _ HS.below) rfl (H7.ev 13 rfl) rfl Tryd.underlying35 rfl) fun _ H8 => ?_
  clear HA0 H1 H2 H3 H4 H5 H6
  refine wl_ <| p_ H8 rfl rfl fun _ H9 => ln_ <| nx <| sq_ <| rl_ <| q_ H9 2 rfl fun _ H10 => wl_ <| i_ H10 rfl (v := .int .i64 32) (dd_len rfl (H10.ev 16 rfl) Tryd.underlying35) fun _ H11 => wl_ <| i_ H11 rfl (v := .int .i64 32) (dd_ari rfl (H11.ev 15 rfl) (H11.ev 17 rfl) rfl (by decide)) fun _ H12 => wl_ <| p_ H12 rfl rfl fun _ H13 => ln_ <| nx <| sq_ <| rl_ <| wl_ <| p_ H13 rfl rfl fun _ H14 => wl_ <| i_ H14 rfl (dd_cmp rfl (H14.ev 19 rfl) rfl (lt_f (by decide))) fun _ H15 => ln_ <| nx <| cf_ H15 rfl <| wp_skip <| bn <| nx <| rl_ <| wl_ <| i_ H15 rfl (v := .int .i64 1) (dd_ari rfl (H15.ev 11 rfl) rfl rfl (by decide)) fun _ H16 => ?_
  clear H7 H8 H9 H10 H11 H12 H13 H14
  refine wl_ <| p_ H16 rfl rfl fun _ H17 => ln_ <| nx <| unr_go <| sq_ <| rl_ <| wl_ <| i_ H17 rfl (dd_cmp rfl (H17.ev 11 rfl) (H17.ev 10 rfl) (lt_t (by decide))) fun _ H18 => ln_ <| nx <| sq_ <| ct_ H18 rfl <| wp_skip <| nx <| sq_ <| wp_block <| sq_ <| rl_ <| wl_ <| i_ H18 rfl (xS 1 1 rfl (H18.ev 9 rfl) (H18.ev 11 rfl)) fun _ H19 => wl_ <| i_ H19 rfl (dd_getR (HR _ HS.below) rfl (H19.ev 13 rfl) rfl Tryd.underlying35 rfl) fun _ H20 => wl_ <| p_ H20 rfl rfl fun _ H21 => ln_ <| nx <| sq_ <| rl_ <| q_ H21 2 rfl fun _ H22 => wl_ <| i_ H22 rfl (v := .int .i64 8) (dd_len rfl (H22.ev 16 rfl) Tryd.underlying35) fun _ H23 => wl_ <| i_ H23 rfl (v := .int .i64 40) (dd_ari rfl (H23.ev 15 rfl) (H23.ev 17 rfl) rfl (by decide)) fun _ H24 => ?_
  clear H15 H16 H17 H18 H19 H20 H21 H22
  refine wl_ <| p_ H24 rfl rfl fun _ H25 => ln_ <| nx <| sq_ <| rl_ <| wl_ <| p_ H25 rfl rfl fun _ H26 => wl_ <| i_ H26 rfl (dd_cmp rfl (H26.ev 19 rfl) rfl (lt_f (by decide))) fun _ H27 => ln_ <| nx <| cf_ H27 rfl <| wp_skip <| bn <| nx <| rl_ <| wl_ <| i_ H27 rfl (v := .int .i64 2) (dd_ari rfl (H27.ev 11 rfl) rfl rfl (by decide)) fun _ H28 => wl_ <| p_ H28 rfl rfl fun _ H29 => ln_ <| nx <| unr_go <| sq_ <| rl_ <| wl_ <| i_ H29 rfl (dd_cmp rfl (H29.ev 11 rfl) (H29.ev 10 rfl) (lt_f (by decide))) fun _ H30 => ln_ <| nx <| sq_ <| cf_ H30 rfl <| wp_exit <| tx <| tx <| bx <| nx <| sq_ <| rl_ <| wl_ <| p_ H30 rfl rfl fun _ H31 => ?_
  clear H23 H24 H25 H26 H27 H28 H29 H30
  refine wl_ <| d_ H31 rfl (R := fun v w9 => ∃ gc33 cc33 cbc33, v = .slice (some ⟨gc33, 0, none⟩) 0 cc33 ∧ (w.heap.size ≤ gc33) ∧ (Row w9 gc33 5 cbc33) ∧ (OwnC cbc33 cc33 0 1 (bytesV ([]))) ∧ Below w.heap.size w w9) (dc_ Tryd.func46 rfl (args2 rfl (H31.ev 23 rfl)) (growB_any 40 w (by decide) (by decide)) (fun _ w9 ⟨g9, c9, cb9, he, h1, h2, h3, hb⟩ => ⟨_, he, g9, c9, cb9, rfl, h1, h2, h3, hb⟩)) ?_
  rintro _ W32 ⟨gc33, cc33, cbc33, rfl, hg33, hr33, Oc33, hb32⟩ a32 H32
  have HS32 := HS.same hb32
  clear H31
  have HS32j : St w noF [⟨gc33, 5, cbc33⟩] W32 := HS.joins hb32 hr33 hg33
  clear HS32 hr33 hg33
  clear HS hb32
  refine wl_ <| p_ H32 rfl rfl fun _ H34 => ln_ <| ?_
  clear H32
  have H35 := H34.sel [0, 6] rfl
  refine nx <| sq_ <| sq_ <| rl_ <| wl_ <| p_ H35 rfl rfl fun _ H36 => wl_ <| i_ H36 rfl (v := .int .i64 2) (dd_len rfl (H36.ev 25 rfl) Tryd.underlying67) fun _ H37 => wl_ <| p_ H37 rfl rfl fun _ H38 => ln_ <| nx <| wp_block <| wp_unr 3 <| unr_go <| sq_ <| rl_ <| wl_ <| i_ H38 rfl (dd_cmp rfl (H38.ev 27 rfl) (H38.ev 26 rfl) (lt_t (by decide))) fun _ H39 => ln_ <| nx <| sq_ <| ct_ H39 rfl <| wp_skip <| nx <| sq_ <| wp_block <| sq_ <| rl_ <| wl_ <| i_ H39 rfl (xS 1 0 rfl (H39.ev 25 rfl) (H39.ev 27 rfl)) fun _ H40 => wl_ <| i_ H40 rfl (dd_getR (HR _ HS32j.below) rfl (H40.ev 29 rfl) rfl Tryd.underlying35 rfl) fun _ H41 => wl_ <| p_ H41 rfl rfl fun _ H42 => ln_ <| nx <| rl_ <| q_ H42 2 rfl fun _ H43 => ?_
  clear H34 H35 H36 H37 H38 H39 H40 H41
  refine wl_ <| a_ H43 rfl (fun g33_45 c33_45 => .slice (some ⟨g33_45, 0, none⟩) 32 c33_45) (T := fun _ c33_45 cb33_45 => OwnC cb33_45 c33_45 32 1 (bytesV (q1))) (fun _ h => dd_appB HS32j 0 rfl Oc33 rfl (H43.ev 31 rfl) (H43.ev 32 rfl) (H1 _ HS32j.below) hA1 rfl (List.nil_append _) (by unfold maxLen; omega) (by omega) h) fun g33_45 c33_45 cb33_45 _ O33_45 HS44 _ H44 => wl_ <| p_ H44 rfl rfl fun _ H46 => ln_ <| bn <| nx <| rl_ <| wl_ <| i_ H46 rfl (v := .int .i64 1) (dd_ari rfl (H46.ev 27 rfl) rfl rfl (by decide)) fun _ H47 => wl_ <| p_ H47 rfl rfl fun _ H48 => ln_ <| nx <| unr_go <| sq_ <| rl_ <| wl_ <| i_ H48 rfl (dd_cmp rfl (H48.ev 27 rfl) (H48.ev 26 rfl) (lt_t (by decide))) fun _ H49 => ln_ <| nx <| sq_ <| ct_ H49 rfl <| wp_skip <| nx <| sq_ <| wp_block <| sq_ <| rl_ <| wl_ <| i_ H49 rfl (xS 1 1 rfl (H49.ev 25 rfl) (H49.ev 27 rfl)) fun _ H50 => wl_ <| i_ H50 rfl (dd_getR (HR _ HS44.below) rfl (H50.ev 29 rfl) rfl Tryd.underlying35 rfl) fun _ H51 => wl_ <| p_ H51 rfl rfl fun _ H52 => ?_
  clear H42 HS32j H43 H44 H46 H47 H48 H49 H50
  refine ln_ <| nx <| rl_ <| q_ H52 2 rfl fun _ H53 => wl_ <| a_ H53 rfl (fun g33_55 c33_55 => .slice (some ⟨g33_55, 0, none⟩) 40 c33_55) (T := fun _ c33_55 cb33_55 => OwnC cb33_55 c33_55 40 1 (bytesV (q1 ++ q2))) (fun _ h => dd_appB HS44 0 rfl O33_45 rfl (H53.ev 31 rfl) (H53.ev 32 rfl) (H2 _ HS44.below) hA2 rfl rfl (by unfold maxLen; omega) (by omega) h) fun g33_55 c33_55 cb33_55 _ O33_55 HS54 _ H54 => wl_ <| p_ H54 rfl rfl fun _ H56 => ln_ <| bn <| nx <| rl_ <| wl_ <| i_ H56 rfl (v := .int .i64 2) (dd_ari rfl (H56.ev 27 rfl) rfl rfl (by decide)) fun _ H57 => wl_ <| p_ H57 rfl rfl fun _ H58 => ln_ <| nx <| unr_go <| sq_ <| rl_ <| wl_ <| i_ H58 rfl (dd_cmp rfl (H58.ev 27 rfl) (H58.ev 26 rfl) (lt_f (by decide))) fun _ H59 => ln_ <| nx <| sq_ <| cf_ H59 rfl <| wp_exit <| tx <| tx <| bx <| nx <| sq_ <| rl_ <| q_ H59 2 rfl fun _ H60 => ln_ <| nx <| wp_ret <| ret_run H60.env0 (res_t Tryd.results30 (H60.get 2 rfl)) <| ?_
  clear H51 H52 HS44 H53 H54 H56 H57 H58 H59
  exact ⟨g33_55, c33_55, cb33_55, rfl, st_fresh2 HS54 0 rfl, HS54.row 0 rfl, O33_55, HS54.below⟩
end Go.Proofs.YtbhmgnhiglpmhaaDoor

/- A record. -/
set_option maxRecDepth 4000
namespace Go.Proofs.YtbhmgnhiglpmhaaDoor
open Go Go.RowKit
theorem audrec_bad (dg : List (BitVec 8)) (i e : Int) (u : Value) (w : World) (_ : dg.length = 32) (hc : mayR i e 0 = false) :
    Calls Tryd.prog 15 #[.agg (bs dg), .agg #[.int .i64 i, .int .i64 e, u]] w fun x w' => x = .returned (.tuple #[.slice none 0 0, .int .i64 11]) ∧ Below w.heap.size w w' := by
  have HS := St.nil w noF
  refine enter_en Tryd.func15 rfl Tryd.ntmps15 (Nat.le_of_ble_eq_true rfl) fun a0 (HA0 : En 24 [(0, .agg (bs dg)), (1, .agg #[.int .i64 i, .int .i64 e, u])] a0) => ?_
  refine sq_ <| rl_ <| wl_ <| n_ HA0 rfl (fun _ h => dd_box HS rfl (HA0.ev 0 rfl) (cs := (bs dg)) rfl h) fun _ _ HS1 _ H1 => wl_ <| n_ H1 rfl (fun _ h => dd_box HS1 rfl (H1.ev 1 rfl) (cs := #[.int .i64 i, .int .i64 e, u]) rfl h) fun _ W2 HS2 _ H2 => q_ H2 2 rfl fun _ H3 => ln_ <| nx <| sq_ <| rl_ <| wl_ <| i_ H3 rfl (xf 0 0 rfl (H3.ev 3 rfl)) fun _ H4 => wl_ <| i_ H4 rfl (dd_get HS2 1 0 rfl rfl (H4.ev 9 rfl) rfl Tryd.underlying3 rfl) fun _ H5 => wl_ <| i_ H5 rfl (xf 1 1 rfl (H5.ev 3 rfl)) fun _ H6 => wl_ <| i_ H6 rfl (dd_get HS2 1 1 rfl rfl (H6.ev 11 rfl) rfl Tryd.underlying36 rfl) fun _ H7 => wl_ <| i_ H7 rfl (v := .agg #[.int .i64 i, .int .i64 e, .slice none 0 0]) (dd_bld rfl (ps := [(0, .int .i64 i), (1, .int .i64 e)]) (pr1 (H7.ev 10 rfl) (pr1 (H7.ev 12 rfl) (pr0))) (Lz := [[.int .i64 0], [.int .i64 0], [.slice none 0 0]]) (by kernel_rfl) (lens_cons rfl (lens_cons rfl (lens_cons rfl (lens_nil)))) (fit_cons (i := 0) rfl rfl (fit_cons (i := 1) rfl rfl (fit_nil))) (cs := #[.int .i64 i, .int .i64 e, .slice none 0 0]) rfl) fun _ H8 => ?_
  clear HS HA0 HS1 H1 H2 H3 H4 H5 H6
  refine wl_ <| c_ H8 rfl HS2 (dcs Tryd.func29 rfl (args1 (H8.ev 13 rfl)) (repenc_bad i e none 0 0 W2 hc) (.tuple #[.slice none 0 0, .int .i64 11])) fun _ HS9 _ H9 => wl_ <| p_ H9 rfl rfl fun _ H10 => wl_ <| i_ H10 rfl (v := .slice none 0 0) (dd_ext rfl (H10.ev 8 rfl) rfl) fun _ H11 => wl_ <| i_ H11 rfl (v := .int .i64 11) (dd_ext rfl (H11.ev 8 rfl) rfl) fun _ H12 => q_ H12 2 rfl fun _ H13 => ln_ <| nx <| sq_ <| sq_ <| rl_ <| wl_ <| p_ H13 rfl rfl fun _ H14 => wl_ <| i_ H14 rfl (dd_cmp rfl (H14.ev 17 rfl) rfl (ne_t (by decide))) fun _ H15 => ln_ <| nx <| ct_ H15 rfl <| sq_ <| rl_ <| q_ H15 3 rfl fun _ H16 => ?_
  clear H7 H8 HS2 H9 H10 H11 H12 H13 H14
  refine ln_ <| ?_
  clear H15
  have H17 := H16.sel [4, 5] rfl
  refine nx <| wp_ret <| tr <| ret_run H17.env0 (res_tt Tryd.results15 (H17.get 4 rfl) (H17.get 5 rfl)) <| ?_
  clear H16
  exact ⟨rfl, HS9.below⟩
theorem audrec_good (dg : List (BitVec 8)) (i e : Int) (u : Value) (w : World) (hh : dg.length = 32) (hc : mayR i e 0 = true) :
    Calls Tryd.prog 15 #[.agg (bs dg), .agg #[.int .i64 i, .int .i64 e, u]] w fun x w' => ∃ g c cb, x = .returned (.tuple #[.slice (some ⟨g, 0, none⟩) 40 c, .int .i64 0]) ∧ w.heap.size ≤ g ∧ Row w' g 5 cb ∧ OwnC cb c 40 1 (bytesV (recA dg i e)) ∧ Below w.heap.size w w' := by
  have HS := St.nil w noF
  refine enter_en Tryd.func15 rfl Tryd.ntmps15 (Nat.le_of_ble_eq_true rfl) fun a0 (HA0 : En 24 [(0, .agg (bs dg)), (1, .agg #[.int .i64 i, .int .i64 e, u])] a0) => ?_
  refine sq_ <| rl_ <| wl_ <| n_ HA0 rfl (fun _ h => dd_box HS rfl (HA0.ev 0 rfl) (cs := (bs dg)) rfl h) fun g2 _ HS1 _ H1 => wl_ <| n_ H1 rfl (fun _ h => dd_box HS1 rfl (H1.ev 1 rfl) (cs := #[.int .i64 i, .int .i64 e, u]) rfl h) fun g3 W2 HS2 _ H2 => q_ H2 2 rfl fun _ H3 => ln_ <| nx <| sq_ <| rl_ <| wl_ <| i_ H3 rfl (xf 0 0 rfl (H3.ev 3 rfl)) fun _ H4 => wl_ <| i_ H4 rfl (dd_get HS2 1 0 rfl rfl (H4.ev 9 rfl) rfl Tryd.underlying3 rfl) fun _ H5 => wl_ <| i_ H5 rfl (xf 1 1 rfl (H5.ev 3 rfl)) fun _ H6 => wl_ <| i_ H6 rfl (dd_get HS2 1 1 rfl rfl (H6.ev 11 rfl) rfl Tryd.underlying36 rfl) fun _ H7 => wl_ <| i_ H7 rfl (v := .agg #[.int .i64 i, .int .i64 e, .slice none 0 0]) (dd_bld rfl (ps := [(0, .int .i64 i), (1, .int .i64 e)]) (pr1 (H7.ev 10 rfl) (pr1 (H7.ev 12 rfl) (pr0))) (Lz := [[.int .i64 0], [.int .i64 0], [.slice none 0 0]]) (by kernel_rfl) (lens_cons rfl (lens_cons rfl (lens_cons rfl (lens_nil)))) (fit_cons (i := 0) rfl rfl (fit_cons (i := 1) rfl rfl (fit_nil))) (cs := #[.int .i64 i, .int .i64 e, .slice none 0 0]) rfl) fun _ H8 => ?_
  clear HS HA0 HS1 H1 H2 H3 H4 H5 H6
  clear H7
  refine wl_ <| d_ H8 rfl (R := fun v w9 => ∃ gc10 cc10 cbc10, v = .tuple #[.slice (some ⟨gc10, 0, none⟩) 8 cc10, .int .i64 0] ∧ (W2.heap.size ≤ gc10) ∧ (Row w9 gc10 5 cbc10) ∧ (OwnC cbc10 cc10 8 1 (bytesV (repB i e []))) ∧ Below W2.heap.size W2 w9) (dc_ Tryd.func29 rfl (args1 (H8.ev 13 rfl)) (repenc_good i e none 0 0 [] rfl W2 (slice_nil0 _) (fun _ => rfl) hc) (fun _ w9 ⟨v9, he, ho, hb⟩ => by rw [show (repB i e []).length = 8 from length_repB _ _ _] at ho; obtain ⟨g9, c9, cb9, rfl, h1, h2, h3⟩ := ownc_pos ho (by decide); exact ⟨_, he, g9, c9, cb9, rfl, h1, h2, h3, hb⟩)) ?_
  rintro _ W9 ⟨gc10, cc10, cbc10, rfl, hg10, hr10, Oc10, hb9⟩ a9 H9
  have HS9 := HS2.same hb9
  clear H8
  have HS9j : St w noF [⟨g2, 24, bs dg⟩, ⟨g3, 38, #[.int .i64 i, .int .i64 e, u]⟩, ⟨gc10, 5, cbc10⟩] W9 := HS2.joins hb9 hr10 hg10
  clear HS9 hr10 hg10
  clear HS2 hb9
  refine wl_ <| p_ H9 rfl rfl fun _ H11 => wl_ <| i_ H11 rfl (v := .slice (some ⟨gc10, 0, none⟩) 8 cc10) (dd_ext rfl (H11.ev 8 rfl) rfl) fun _ H12 => wl_ <| i_ H12 rfl (v := .int .i64 0) (dd_ext rfl (H12.ev 8 rfl) rfl) fun _ H13 => q_ H13 2 rfl fun _ H14 => ln_ <| nx <| sq_ <| sq_ <| rl_ <| wl_ <| p_ H14 rfl rfl fun _ H15 => wl_ <| i_ H15 rfl (dd_cmp rfl (H15.ev 17 rfl) rfl (ne_f (by decide))) fun _ H16 => ln_ <| nx <| cf_ H16 rfl <| wp_skip <| nx <| sq_ <| rl_ <| wl_ <| i_ H16 rfl (v := .slice (some ⟨g2, 0, none⟩) 32 32) (dd_slA (n := 32) (sz := 1) rfl (H16.ev 2 rfl) (by kernel_rfl)) fun _ H17 => wl_ <| p_ H17 rfl rfl fun _ H18 => ?_
  clear H9 H11 H12 H13 H14 H15 H16
  refine wl_ <| n_ H18 rfl (fun _ h => dd_lits HS9j #[.slice (some ⟨g2, 0, none⟩) 32 32, .slice (some ⟨gc10, 0, none⟩) 8 cc10] rfl (ps := [(0, .slice (some ⟨g2, 0, none⟩) 32 32), (1, .slice (some ⟨gc10, 0, none⟩) 8 cc10)]) (pr1 (H18.ev 20 rfl) (pr1 (H18.ev 21 rfl) (pr0))) (z := .slice none 0 0) (sz := 1) Tryd.underlying67 (by kernel_rfl) rfl rfl (by kernel_rfl) h) fun g22 W19 HS19 _ H19 => ?_
  clear H17 HS9j H18
  refine wl_ <| d_ H19 rfl (R := fun v w9 => ∃ gc21 cc21 cbc21, v = .slice (some ⟨gc21, 0, none⟩) 40 cc21 ∧ (W19.heap.size ≤ gc21) ∧ (Row w9 gc21 5 cbc21) ∧ (OwnC cbc21 cc21 40 1 (bytesV (dg ++ (repB i e [])))) ∧ Below W19.heap.size W19 w9) (dc_ Tryd.func30 rfl (args1 (H19.ev 22 rfl)) (concatB_any _ _ _ _ _ dg (repB i e []) W19 (HS19.row 3 rfl) (slice_part (HS19.row 0 rfl) 0 (bytes_slab (slab_whole _)) hh (by decide)) (slice_own (HS19.row 2 rfl) Oc10 (length_repB _ _ _)) hh (length_repB _ _ _) (fun h9 => by cases h9) (fun h9 => by cases h9)) (fun _ w9 ⟨g9, c9, cb9, he, h1, h2, h3, hb⟩ => ⟨_, he, g9, c9, cb9, rfl, h1, h2, h3, hb⟩)) ?_
  rintro _ W20 ⟨gc21, cc21, cbc21, rfl, hg21, hr21, Oc21, hb20⟩ a20 H20
  have HS20 := HS19.same hb20
  clear H19
  have HS20j : St w noF [⟨g2, 24, bs dg⟩, ⟨g3, 38, #[.int .i64 i, .int .i64 e, u]⟩, ⟨gc10, 5, cbc10⟩, ⟨g22, 35, #[.slice (some ⟨g2, 0, none⟩) 32 32, .slice (some ⟨gc10, 0, none⟩) 8 cc10]⟩, ⟨gc21, 5, cbc21⟩] W20 := HS19.joins hb20 hr21 hg21
  clear HS20 hr21 hg21
  clear HS19 hb20
  refine q_ H20 2 rfl fun _ H22 => ln_ <| ?_
  clear H20
  have H23 := H22.sel [4, 5] rfl
  refine nx <| wp_ret <| ret_run H23.env0 (res_tt Tryd.results15 (H23.get 4 rfl) (H23.get 5 rfl)) <| ?_
  clear H22
  exact ⟨gc21, cc21, cbc21, rfl, st_fresh2 HS20j 4 rfl, HS20j.row 4 rfl, Oc21, HS20j.below⟩
theorem audent_bad (dg : List (BitVec 8)) (i e : Int) (lg : List (BitVec 8)) (w : World) (hh : dg.length = 32) (hl : lg.length = 32) (hc : mayR i e 0 = false) :
    Calls Tryd.prog 26 #[.agg (catA [bytesV dg, [.int .i64 i], [.int .i64 e], bytesV lg])] w fun x w' => x = .returned (.tuple #[.slice none 0 0, .int .i64 11]) ∧ Below w.heap.size w w' := by
  have HS := St.nil w noF
  refine enter_en Tryd.func26 rfl Tryd.ntmps26 (Nat.le_of_ble_eq_true rfl) fun a0 (HA0 : En 14 [(0, .agg (catA [bytesV dg, [.int .i64 i], [.int .i64 e], bytesV lg]))] a0) => ?_
  refine sq_ <| rl_ <| wl_ <| n_ HA0 rfl (fun _ h => dd_box HS rfl (HA0.ev 0 rfl) (cs := (catA [bytesV dg, [.int .i64 i], [.int .i64 e], bytesV lg])) rfl h) fun _ W1 HS1 _ H1 => q_ H1 2 rfl fun _ H2 => ln_ <| nx <| sq_ <| rl_ <| wl_ <| i_ H2 rfl (xf 0 0 rfl (H2.ev 1 rfl)) fun _ H3 => wl_ <| i_ H3 rfl (v := .agg (bs dg)) (dd_load HS1 0 0 rfl rfl (H3.ev 4 rfl) (cat_slab1 (lens_cons (len_bv hh) (lens_cons rfl (lens_cons rfl (lens_cons (len_bv hl) (lens_nil))))) 0 rfl rfl) Tryd.underlying24 rfl (by rw [show (bs dg).size = 32 from ((size_bs _).trans hh)]; kernel_rfl)) fun _ H4 => wl_ <| i_ H4 rfl (xf 32 32 rfl (H4.ev 1 rfl)) fun _ H5 => wl_ <| i_ H5 rfl (dd_get HS1 0 32 rfl rfl (H5.ev 6 rfl) (cat_get (lens_cons (len_bv hh) (lens_cons rfl (lens_cons rfl (lens_cons (len_bv hl) (lens_nil))))) 1 rfl rfl) Tryd.underlying3 rfl) fun _ H6 => wl_ <| i_ H6 rfl (xf 33 33 rfl (H6.ev 1 rfl)) fun _ H7 => wl_ <| i_ H7 rfl (dd_get HS1 0 33 rfl rfl (H7.ev 8 rfl) (cat_get (lens_cons (len_bv hh) (lens_cons rfl (lens_cons rfl (lens_cons (len_bv hl) (lens_nil))))) 2 rfl rfl) Tryd.underlying36 rfl) fun _ H8 => ?_
  clear HS HA0 H1 H2 H3 H4 H5 H6
  refine wl_ <| i_ H8 rfl (v := .agg #[.int .i64 i, .int .i64 e, .slice none 0 0]) (dd_bld rfl (ps := [(0, .int .i64 i), (1, .int .i64 e)]) (pr1 (H8.ev 7 rfl) (pr1 (H8.ev 9 rfl) (pr0))) (Lz := [[.int .i64 0], [.int .i64 0], [.slice none 0 0]]) (by kernel_rfl) (lens_cons rfl (lens_cons rfl (lens_cons rfl (lens_nil)))) (fit_cons (i := 0) rfl rfl (fit_cons (i := 1) rfl rfl (fit_nil))) (cs := #[.int .i64 i, .int .i64 e, .slice none 0 0]) rfl) fun _ H9 => wl_ <| c_ H9 rfl HS1 (dcs Tryd.func15 rfl (args2 (H9.ev 5 rfl) (H9.ev 10 rfl)) (audrec_bad dg i e _ W1 hh hc) (.tuple #[.slice none 0 0, .int .i64 11])) fun _ HS10 _ H10 => wl_ <| i_ H10 rfl (v := .slice none 0 0) (dd_ext rfl (H10.ev 11 rfl) rfl) fun _ H11 => wl_ <| i_ H11 rfl (v := .int .i64 11) (dd_ext rfl (H11.ev 11 rfl) rfl) fun _ H12 => q_ H12 2 rfl fun _ H13 => ln_ <| nx <| wp_ret <| ret_run H13.env0 (res_tt Tryd.results26 (H13.get 2 rfl) (H13.get 3 rfl)) <| ?_
  clear H7 H8 H9 HS1 H10 H11 H12
  exact ⟨rfl, HS10.below⟩
theorem audent_good (dg : List (BitVec 8)) (i e : Int) (lg : List (BitVec 8)) (w : World) (hh : dg.length = 32) (hl : lg.length = 32) (hc : mayR i e 0 = true) :
    Calls Tryd.prog 26 #[.agg (catA [bytesV dg, [.int .i64 i], [.int .i64 e], bytesV lg])] w fun x w' => ∃ g c cb, x = .returned (.tuple #[.slice (some ⟨g, 0, none⟩) 40 c, .int .i64 0]) ∧ w.heap.size ≤ g ∧ Row w' g 5 cb ∧ OwnC cb c 40 1 (bytesV (recA dg i e)) ∧ Below w.heap.size w w' := by
  have HS := St.nil w noF
  refine enter_en Tryd.func26 rfl Tryd.ntmps26 (Nat.le_of_ble_eq_true rfl) fun a0 (HA0 : En 14 [(0, .agg (catA [bytesV dg, [.int .i64 i], [.int .i64 e], bytesV lg]))] a0) => ?_
  refine sq_ <| rl_ <| wl_ <| n_ HA0 rfl (fun _ h => dd_box HS rfl (HA0.ev 0 rfl) (cs := (catA [bytesV dg, [.int .i64 i], [.int .i64 e], bytesV lg])) rfl h) fun g1 W1 HS1 _ H1 => q_ H1 2 rfl fun _ H2 => ln_ <| nx <| sq_ <| rl_ <| wl_ <| i_ H2 rfl (xf 0 0 rfl (H2.ev 1 rfl)) fun _ H3 => wl_ <| i_ H3 rfl (v := .agg (bs dg)) (dd_load HS1 0 0 rfl rfl (H3.ev 4 rfl) (cat_slab1 (lens_cons (len_bv hh) (lens_cons rfl (lens_cons rfl (lens_cons (len_bv hl) (lens_nil))))) 0 rfl rfl) Tryd.underlying24 rfl (by rw [show (bs dg).size = 32 from ((size_bs _).trans hh)]; kernel_rfl)) fun _ H4 => wl_ <| i_ H4 rfl (xf 32 32 rfl (H4.ev 1 rfl)) fun _ H5 => wl_ <| i_ H5 rfl (dd_get HS1 0 32 rfl rfl (H5.ev 6 rfl) (cat_get (lens_cons (len_bv hh) (lens_cons rfl (lens_cons rfl (lens_cons (len_bv hl) (lens_nil))))) 1 rfl rfl) Tryd.underlying3 rfl) fun _ H6 => wl_ <| i_ H6 rfl (xf 33 33 rfl (H6.ev 1 rfl)) fun _ H7 => wl_ <| i_ H7 rfl (dd_get HS1 0 33 rfl rfl (H7.ev 8 rfl) (cat_get (lens_cons (len_bv hh) (lens_cons rfl (lens_cons rfl (lens_cons (len_bv hl) (lens_nil))))) 2 rfl rfl) Tryd.underlying36 rfl) fun _ H8 => ?_
  clear HS HA0 H1 H2 H3 H4 H5 H6
  refine wl_ <| i_ H8 rfl (v := .agg #[.int .i64 i, .int .i64 e, .slice none 0 0]) (dd_bld rfl (ps := [(0, .int .i64 i), (1, .int .i64 e)]) (pr1 (H8.ev 7 rfl) (pr1 (H8.ev 9 rfl) (pr0))) (Lz := [[.int .i64 0], [.int .i64 0], [.slice none 0 0]]) (by kernel_rfl) (lens_cons rfl (lens_cons rfl (lens_cons rfl (lens_nil)))) (fit_cons (i := 0) rfl rfl (fit_cons (i := 1) rfl rfl (fit_nil))) (cs := #[.int .i64 i, .int .i64 e, .slice none 0 0]) rfl) fun _ H9 => ?_
  clear H7 H8
  refine wl_ <| d_ H9 rfl (R := fun v w9 => ∃ gc11 cc11 cbc11, v = .tuple #[.slice (some ⟨gc11, 0, none⟩) 40 cc11, .int .i64 0] ∧ (W1.heap.size ≤ gc11) ∧ (Row w9 gc11 5 cbc11) ∧ (OwnC cbc11 cc11 40 1 (bytesV (recA dg i e))) ∧ Below W1.heap.size W1 w9) (dc_ Tryd.func15 rfl (args2 (H9.ev 5 rfl) (H9.ev 10 rfl)) (audrec_good dg i e _ W1 hh hc) (fun _ w9 ⟨g9, c9, cb9, he, h1, h2, h3, hb⟩ => ⟨_, he, g9, c9, cb9, rfl, h1, h2, h3, hb⟩)) ?_
  rintro _ W10 ⟨gc11, cc11, cbc11, rfl, hg11, hr11, Oc11, hb10⟩ a10 H10
  have HS10 := HS1.same hb10
  clear H9
  have HS10j : St w noF [⟨g1, 59, catA [bytesV dg, [.int .i64 i], [.int .i64 e], bytesV lg]⟩, ⟨gc11, 5, cbc11⟩] W10 := HS1.joins hb10 hr11 hg11
  clear HS10 hr11 hg11
  clear HS1 hb10
  refine wl_ <| i_ H10 rfl (v := .slice (some ⟨gc11, 0, none⟩) 40 cc11) (dd_ext rfl (H10.ev 11 rfl) rfl) fun _ H12 => wl_ <| i_ H12 rfl (v := .int .i64 0) (dd_ext rfl (H12.ev 11 rfl) rfl) fun _ H13 => q_ H13 2 rfl fun _ H14 => ln_ <| nx <| wp_ret <| ret_run H14.env0 (res_tt Tryd.results26 (H14.get 2 rfl) (H14.get 3 rfl)) <| ?_
  clear H10 H12 H13
  exact ⟨gc11, cc11, cbc11, rfl, st_fresh2 HS10j 1 rfl, HS10j.row 1 rfl, Oc11, HS10j.below⟩
end Go.Proofs.YtbhmgnhiglpmhaaDoor

/- The records of entries, and which is wrong first. -/
set_option maxRecDepth 4000
namespace Go.Proofs.YtbhmgnhiglpmhaaDoor
open Go Go.RowKit
theorem take_recE {X : List Ae} {i : Nat} {x : Ae} (h : X[i]? = some x) : (X.take (i + 1)).map recE = (X.take i).map recE ++ [recE x] := by
  obtain ⟨h1, h2⟩ := List.getElem?_eq_some_iff.1 h
  rw [List.take_succ_eq_append_getElem h1, h2, List.map_append]; rfl
theorem eql_dgs (p q : List (BitVec 8)) (hp : p.length = 32) (hq : q.length = 32) (w : World) : (Op.equalIn 10000 24 (.agg (bs p)) (.agg (bs q))).run Tryd.prog w = .ok (decide (p = q)) w := equal_bytes _ 32 p q hp hq Tryd.underlying24 w
/- entries that a slice reads -/
def EntsAt (w : World) (v : Value) (X : List Ae) : Prop := ∃ A c, v = .slice A X.length c ∧ X.length ≤ c ∧ wfA X ∧ (X ≠ [] → ∃ b o, A = some ⟨b, o, none⟩ ∧ CAt w b o (entsL X))
theorem ents_mk {w : World} {b o n c : Nat} {X : List Ae} (hn : X.length = n) (hw : wfA X) (h : CAt w b o (entsL X)) (hc : n ≤ c) : EntsAt w (.slice (some ⟨b, o, none⟩) n c) X := by
  subst hn; exact ⟨_, c, rfl, hc, hw, fun _ => ⟨b, o, rfl, h⟩⟩
theorem digs_some {w : World} {A : Option Addr} {n c : Nat} {ds : List (List (BitVec 8))} (h : Digs w (.slice A n c) ds) (h0 : 0 < n) : ∃ b o, A = some ⟨b, o, none⟩ ∧ ∀ j d, ds[j]? = some d → CAt w b (o + j * 32) (bytesV d) := by
  obtain ⟨A', c', e, h1⟩ := h
  injection e with e1 e2 e3
  subst e1 e2
  obtain ⟨b, o, h2, h3, h4⟩ := h1 (fun e => by rw [e] at h0; exact Nat.lt_irrefl _ h0)
  exact ⟨b, o, h2, fun j d hd => ⟨h3, h4 j d hd⟩⟩
set_option maxHeartbeats 800000 in
theorem audrecs_pos (b o n c : Nat) (X : List Ae) (w : World) (hn : X.length = n) (hw : wfA X) (h0 : CAt w b o (entsL X)) (_ : n ≤ c) (hm : n ≤ 1000) : Calls Tryd.prog 33 #[.slice (some ⟨b, o, none⟩) n c] w fun e w' => ∃ v, e = .returned v ∧ Owns w w' v (recsOf X) := by
  have HS := St.nil w noF
  have HE : ∀ W, Below w.heap.size w W → CAt W b o (entsL X) := fun W hb => h0.call hb
  refine enter_en Tryd.func33 rfl Tryd.ntmps33 (Nat.le_of_ble_eq_true rfl) fun a0 (HA0 : En 27 [(0, .slice (some ⟨b, o, none⟩) n c)] a0) => ?_
  refine sq_ <| rl_ <| wl_ <| p_ HA0 rfl rfl fun _ H1 => ln_ <| nx <| sq_ <| rl_ <| wl_ <| p_ H1 rfl rfl fun _ H2 => ln_ <| nx <| sq_ <| sq_ <| rl_ <| wl_ <| p_ H2 rfl rfl fun _ H3 => wl_ <| i_ H3 rfl (v := .int .i64 n) (dd_len rfl (H3.ev 8 rfl) Tryd.underlying28) fun _ H4 => wl_ <| p_ H4 rfl rfl fun _ H5 => ln_ <| nx <| wp_block <| ?_
  clear HA0 H1 H2 H3 H4
  refine wp_loopG (ι := Nat) (fun i a9 w9 => ∃ Al : Option Addr, ∃ cl : Nat, (i ≤ n) ∧ (Owns w w9 (.slice Al i cl) ((X.take i).map recE)) ∧ (∀ j x, j < i → X[j]? = some x → okE x = true) ∧ En 27 [(10, .int .i64 i), (9, .int .i64 n), (8, .slice (some ⟨b, o, none⟩) n c), (3, .slice Al i cl)] a9 ∧ St w noF [] w9) (fun i => n - i) (0) ⟨none, 0, (Nat.zero_le _), (by rw [List.take_zero]; exact Owns.nil _), (fun j x hj => absurd hj (Nat.not_lt_zero _)), H5.sel [3, 8, 9, 10] rfl, ss HS []⟩ ?_
  clear H5 HS
  rintro i aL6 wL6 ⟨Al, cl, hi, hov, hok, HL6, HSL6⟩
  have HBs7 : Below w.heap.size w wL6 := HSL6.below
  have HEr := fun (W9 : World) (hb9 : Below wL6.heap.size wL6 W9) => HE W9 (HBs7.trans (hb9.mono HBs7.size))
  clear HE
  have HE := HEr
  clear HEr
  have HSb7 := St.nil wL6 noF
  refine sq_ <| rl_ <| ?_
  by_cases hc9 : (i : Int) < n
  ·
   refine wl_ <| i_ HL6 rfl (dd_cmp rfl (HL6.ev 10 rfl) (HL6.ev 9 rfl) (lt_t hc9)) fun _ H10 => ln_ <| nx <| sq_ <| ct_ H10 rfl <| wp_skip <| nx <| sq_ <| wp_block <| sq_ <| rl_ <| wl_ <| i_ H10 rfl (xSo 66 (o + i * 66) rfl (H10.ev 8 rfl) (H10.ev 10 rfl)) fun _ H11 => ?_
   clear HL6 H10
   obtain ⟨xi, hxi⟩ : ∃ x, X[i]? = some x := ⟨_, List.getElem?_eq_getElem (by rw [hn]; omega)⟩
   have hwi := hw xi (List.mem_of_getElem? hxi)
   refine wl_ <| i_ H11 rfl (v := .agg (catA [bytesV xi.1, [.int .i64 xi.2.1], [.int .i64 xi.2.2.1], bytesV xi.2.2.2])) (dd_atN rfl (H11.ev 12 rfl) (ent_all (HE _ HSb7.below) hw hxi) Tryd.underlying59 rfl (by show _ = some (catA [bytesV xi.1, [.int .i64 xi.2.1], [.int .i64 xi.2.2.1], bytesV xi.2.2.2]).toList.length; rw [show (catA [bytesV xi.1, [.int .i64 xi.2.1], [.int .i64 xi.2.2.1], bytesV xi.2.2.2]).toList.length = 66 from (Array.length_toList).trans (cat_size (lens_cons (len_bv hwi.1) (lens_cons rfl (lens_cons rfl (lens_cons (len_bv hwi.2) (lens_nil))))))]; kernel_rfl)) fun _ H12 => wl_ <| n_ H12 rfl (fun _ h => dd_new HSb7 (catA [bytesV (zer 32), [.int .i64 0], [.int .i64 0], bytesV (zer 32)]) rfl (z := .agg (catA [bytesV (zer 32), [.int .i64 0], [.int .i64 0], bytesV (zer 32)])) (by kernel_rfl) rfl h) fun g5 _ HS13 _ H13 => wl_ <| t_ rfl (fun _ h => dd_setrow HS13 0 rfl rfl (H13.ev 5 rfl) (H13.ev 13 rfl) (by kernel_rfl) ((cat_size (lens_cons (len_bv hwi.1) (lens_cons rfl (lens_cons rfl (lens_cons (len_bv hwi.2) (lens_nil)))))) : (catA [bytesV xi.1, [.int .i64 xi.2.1], [.int .i64 xi.2.2.1], bytesV xi.2.2.2]).size = 66) ((cat_size (lens_cons (len_bv (length_zer 32)) (lens_cons rfl (lens_cons rfl (lens_cons (len_bv (length_zer 32)) (lens_nil)))))) : (catA [bytesV (zer 32), [.int .i64 0], [.int .i64 0], bytesV (zer 32)]).size = 66) (cat_one (ones_cons (one_bytesV _) (ones_cons (ones_c rfl) (ones_cons (ones_c rfl) (ones_cons (one_bytesV _) (ones_nil)))))) h) fun W14 HS14 => ln_ <| nx <| sq_ <| rl_ <| wl_ <| i_ H13 rfl (v := .agg (catA [bytesV xi.1, [.int .i64 xi.2.1], [.int .i64 xi.2.2.1], bytesV xi.2.2.2])) (dd_load HS14 0 0 rfl rfl (H13.ev 5 rfl) (slab_whole _) Tryd.underlying59 rfl (by rw [show (catA [bytesV xi.1, [.int .i64 xi.2.1], [.int .i64 xi.2.2.1], bytesV xi.2.2.2]).size = 66 from (cat_size (lens_cons (len_bv hwi.1) (lens_cons rfl (lens_cons rfl (lens_cons (len_bv hwi.2) (lens_nil))))))]; kernel_rfl)) fun _ H15 => ?_
   clear H11 HSb7 H12 HS13 H13
   cases hb17 : mayR xi.2.1 xi.2.2.1 0
   ·
    refine wl_ <| c_ H15 rfl HS14 (dcs Tryd.func26 rfl (args1 (H15.ev 15 rfl)) (audent_bad xi.1 xi.2.1 xi.2.2.1 xi.2.2.2 W14 hwi.1 hwi.2 hb17) (.tuple #[.slice none 0 0, .int .i64 11])) fun _ HS18 _ H18 => wl_ <| p_ H18 rfl rfl fun _ H19 => wl_ <| i_ H19 rfl (v := .slice none 0 0) (dd_ext rfl (H19.ev 14 rfl) rfl) fun _ H20 => wl_ <| i_ H20 rfl (v := .int .i64 11) (dd_ext rfl (H20.ev 14 rfl) rfl) fun _ H21 => q_ H21 2 rfl fun _ H22 => ln_ <| nx <| sq_ <| sq_ <| rl_ <| wl_ <| p_ H22 rfl rfl fun _ H23 => wl_ <| i_ H23 rfl (dd_cmp rfl (H23.ev 19 rfl) rfl (ne_t (by decide))) fun _ H24 => ln_ <| nx <| ct_ H24 rfl <| wp_exit <| tx <| by_ rfl <| tx <| tx <| bx <| nx <| sq_ <| rl_ <| q_ H24 2 rfl fun _ H25 => ?_
    clear H15 HS14 H18 H19 H20 H21 H22 H23
    refine ln_ <| ?_
    clear H24
    have H26 := H25.sel [2] rfl
    refine nx <| wp_ret <| ret_run H26.env0 (res_t Tryd.results33 (H26.get 2 rfl)) <| ?_
    clear H25
    exact ⟨_, rfl, by rw [recs_at (k := i) (by omega) hok (.inr ⟨_, hxi, hb17⟩)]; exact hov.call HS18.below⟩
   refine wl_ <| d_ H15 rfl (R := fun v w9 => ∃ gc28 cc28 cbc28, v = .tuple #[.slice (some ⟨gc28, 0, none⟩) 40 cc28, .int .i64 0] ∧ (W14.heap.size ≤ gc28) ∧ (Row w9 gc28 5 cbc28) ∧ (OwnC cbc28 cc28 40 1 (bytesV (recA xi.1 xi.2.1 xi.2.2.1))) ∧ Below W14.heap.size W14 w9) (dc_ Tryd.func26 rfl (args1 (H15.ev 15 rfl)) (audent_good xi.1 xi.2.1 xi.2.2.1 xi.2.2.2 W14 hwi.1 hwi.2 hb17) (fun _ w9 ⟨g9, c9, cb9, he, h1, h2, h3, hb⟩ => ⟨_, he, g9, c9, cb9, rfl, h1, h2, h3, hb⟩)) ?_
   rintro _ W27 ⟨gc28, cc28, cbc28, rfl, hg28, hr28, Oc28, hb27⟩ a27 H27
   have HS27 := HS14.same hb27
   clear H15
   have HS27j : St wL6 noF [⟨g5, 59, catA [bytesV xi.1, [.int .i64 xi.2.1], [.int .i64 xi.2.2.1], bytesV xi.2.2.2]⟩, ⟨gc28, 5, cbc28⟩] W27 := HS14.joins hb27 hr28 hg28
   clear HS27 hr28 hg28
   clear HS14 hb27
   refine wl_ <| p_ H27 rfl rfl fun _ H29 => wl_ <| i_ H29 rfl (v := .slice (some ⟨gc28, 0, none⟩) 40 cc28) (dd_ext rfl (H29.ev 14 rfl) rfl) fun _ H30 => wl_ <| i_ H30 rfl (v := .int .i64 0) (dd_ext rfl (H30.ev 14 rfl) rfl) fun _ H31 => q_ H31 2 rfl fun _ H32 => ln_ <| nx <| sq_ <| sq_ <| rl_ <| wl_ <| p_ H32 rfl rfl fun _ H33 => wl_ <| i_ H33 rfl (dd_cmp rfl (H33.ev 19 rfl) rfl (ne_f (by decide))) fun _ H34 => ln_ <| nx <| cf_ H34 rfl <| wp_skip <| nx <| rl_ <| q_ H34 2 rfl fun _ H35 => wl_ <| n_ H35 rfl (fun _ h => dd_lits HS27j #[.slice (some ⟨gc28, 0, none⟩) 40 cc28] rfl (ps := [(0, .slice (some ⟨gc28, 0, none⟩) 40 cc28)]) (pr1 (H35.ev 22 rfl) (pr0)) (z := .slice none 0 0) (sz := 1) Tryd.underlying67 (by kernel_rfl) rfl rfl (by kernel_rfl) h) fun g23 _ HS36 _ H36 => ?_
   clear H27 H29 H30 H31 H32 H33 H34
   clear HS27j H35
   refine wl_ <| d_ H36 rfl (R := fun v9 w9 => ∃ Ax : Option Addr, ∃ cx : Nat, v9 = .slice Ax (i + 1) cx ∧ (Owns w w9 (.slice Ax (i + 1) cx) ((X.take (i + 1)).map recE)) ∧ St w noF [⟨g5, 59, catA [bytesV xi.1, [.int .i64 xi.2.1], [.int .i64 xi.2.2.1], bytesV xi.2.2.2]⟩, ⟨gc28, 5, cbc28⟩, ⟨g23, 35, #[.slice (some ⟨gc28, 0, none⟩) 40 cc28]⟩] w9) (dd_appO HSL6.below HS36 hov rfl (H36.ev 21 rfl) (H36.ev 23 rfl) ((HS36.row 2 rfl).get (by rfl)) (q := recE xi) (by rw [length_recE hw (List.mem_of_getElem? hxi)]; exact ownc_to (HS36.row 1 rfl) Oc28 (Nat.le_trans HSL6.below.size (st_fresh2 HS36 1 rfl))) (by rw [List.length_map, List.length_take]; omega) (fun v9 w9 h1 h2 => by obtain ⟨A9, c9, rfl, _⟩ := h1.form; rw [show ((X.take i).map recE ++ [recE xi]).length = i + 1 by rw [List.length_append, List.length_map, List.length_take, Nat.min_eq_left (by omega)]; rfl] at h1 ⊢; exact ⟨A9, c9, rfl, by rw [take_recE hxi]; exact h1, h2⟩)) ?_
   rintro _ W37 ⟨Ax, cx, rfl, hovx, HS37⟩ a37 H37
   clear H36 HS36
   refine wl_ <| p_ H37 rfl rfl fun _ H38 => ln_ <| ?_
   clear H37
   have H39 := H38.sel [8, 9, 10, 3] rfl
   refine bn <| nx <| rl_ <| wl_ <| i_ H39 rfl (v := .int .i64 (i + 1)) (dd_ari rfl (H39.ev 10 rfl) rfl rfl (i64_of (by first | omega | (have := bd_lo; omega)) (by omega))) fun _ H40 => wl_ <| p_ H40 rfl rfl fun _ H41 => ln_ <| ?_
   clear H38 H39 H40
   refine nx ⟨i + 1, ⟨Ax, cx, (by omega), hovx, (fun j x hj hx => (Nat.lt_succ_iff_lt_or_eq.1 hj).elim (fun h8 => hok j x h8 hx) (fun h8 => by rw [h8, hxi] at hx; injection hx with hx; rw [← hx]; exact hb17)), H41.sel [3, 8, 9, 10] rfl, ss HS37 []⟩, (by omega)⟩
  refine wl_ <| i_ HL6 rfl (dd_cmp rfl (HL6.ev 10 rfl) (HL6.ev 9 rfl) (lt_f hc9)) fun _ H42 => ln_ <| nx <| sq_ <| cf_ H42 rfl <| wp_exit <| tx <| tx <| bx <| nx <| sq_ <| rl_ <| q_ H42 2 rfl fun _ H43 => ln_ <| nx <| wp_ret <| ret_run H43.env0 (res_t Tryd.results33 (H43.get 2 rfl)) <| ?_
  clear HL6 H42
  exact ⟨_, rfl, by rw [recs_at (k := i) (by omega) hok (.inl (by omega))]; exact hov.call HSb7.below⟩
theorem audrecs_zero (A : Option Addr) (c : Nat) (w : World) : Calls Tryd.prog 33 #[.slice A 0 c] w fun e w' => ∃ v, e = .returned v ∧ Owns w w' v (recsOf []) := by
  have HS := St.nil w noF
  refine enter_en Tryd.func33 rfl Tryd.ntmps33 (Nat.le_of_ble_eq_true rfl) fun a0 (HA0 : En 27 [(0, .slice A 0 c)] a0) => ?_
  refine sq_ <| rl_ <| wl_ <| p_ HA0 rfl rfl fun _ H1 => ln_ <| nx <| sq_ <| rl_ <| wl_ <| p_ H1 rfl rfl fun _ H2 => ln_ <| nx <| sq_ <| sq_ <| rl_ <| wl_ <| p_ H2 rfl rfl fun _ H3 => wl_ <| i_ H3 rfl (v := .int .i64 0) (dd_len rfl (H3.ev 8 rfl) Tryd.underlying28) fun _ H4 => wl_ <| p_ H4 rfl rfl fun _ H5 => ln_ <| nx <| wp_block <| wp_unr 1 <| unr_go <| sq_ <| rl_ <| wl_ <| i_ H5 rfl (dd_cmp rfl (H5.ev 10 rfl) (H5.ev 9 rfl) (lt_f (by decide))) fun _ H6 => ln_ <| nx <| sq_ <| cf_ H6 rfl <| wp_exit <| tx <| tx <| bx <| nx <| sq_ <| rl_ <| q_ H6 2 rfl fun _ H7 => ln_ <| nx <| wp_ret <| ret_run H7.env0 (res_t Tryd.results33 (H7.get 2 rfl)) <| ?_
  clear HA0 H1 H2 H3 H4 H5 H6
  exact ⟨_, rfl, Owns.nil _⟩
theorem audrecs_any (v : Value) (X : List Ae) (w : World) (h : EntsAt w v X) (hm : X.length ≤ 1000) : Calls Tryd.prog 33 #[v] w fun e w' => ∃ v, e = .returned v ∧ Owns w w' v (recsOf X) := by
  obtain ⟨A, c, rfl, hc, hw, h1⟩ := h
  by_cases hX : X = []
  · subst hX; exact audrecs_zero A c w
  · obtain ⟨b, o, rfl, h2⟩ := h1 hX
    exact audrecs_pos b o _ c X w rfl hw h2 hc hm
theorem recs_small {X : List Ae} (hw : wfA X) : ∀ q ∈ recsOf X, q.length ≤ 1000000 := fun q hq => by
  obtain ⟨x, hx, rfl⟩ := List.mem_map.1 hq
  rw [length_recE hw ((List.takeWhile_sublist okE).subset hx)]; decide
theorem Owns.below {w w' : World} {v : Value} {ps : List (List (BitVec 8))} (h : Owns w w' v ps) : Below w.heap.size w w' := by
  obtain ⟨_, _, h, _⟩ := h; exact h
set_option maxHeartbeats 1600000 in
theorem audver_pos (b o n c : Nat) (X : List Ae) (w : World) (hn : X.length = n) (hw : wfA X) (h0 : CAt w b o (entsL X)) (hc : n ≤ c) (hT : Tab w) (hm : n ≤ 1000) : Calls Tryd.prog 20 #[.slice (some ⟨b, o, none⟩) n c] w fun e w' => e = .returned (.int .i64 (verI X)) ∧ Below w.heap.size w w' := by
  have HS := St.nil w noF
  have HE : ∀ W, Below w.heap.size w W → CAt W b o (entsL X) := fun W hb => h0.call hb
  have HT : ∀ W, Below w.heap.size w W → Tab W := fun W hb => hT.below hb hT.pos
  refine enter_en Tryd.func20 rfl Tryd.ntmps20 (Nat.le_of_ble_eq_true rfl) fun a0 (HA0 : En 33 [(0, .slice (some ⟨b, o, none⟩) n c)] a0) => ?_
  refine sq_ <| rl_ <| wl_ <| p_ HA0 rfl rfl fun _ H1 => ln_ <| nx <| sq_ <| rl_ <| wl_ <| p_ H1 rfl rfl fun _ H2 => ?_
  clear HA0 H1
  refine wl_ <| d_ H2 rfl (R := fun v w9 => ∃ Ar m cr, v = .slice Ar m cr ∧ ((recsOf X).length = m) ∧ (Owns w w9 (.slice Ar m cr) (recsOf X)) ∧ Below w.heap.size w w9) (dc_ Tryd.func33 rfl (args1 (H2.ev 6 rfl)) (audrecs_any _ X w (ents_mk hn hw (HE _ HS.below) (by omega)) (by rw [hn]; exact hm)) (fun _ w9 ⟨v9, he, ho⟩ => by obtain ⟨A9, c9, rfl, _⟩ := ho.form; exact ⟨_, he, A9, _, c9, rfl, rfl, ho, ho.below⟩)) ?_
  rintro _ W3 ⟨Ar, m, cr, rfl, hm1, hrc, hb3⟩ a3 H3
  have HS3 := HS.same hb3
  clear H2
  have hrl := recs_len X
  rw [hm1] at hrl
  clear HS hb3
  refine wl_ <| p_ H3 rfl rfl fun _ H5 => ln_ <| nx <| sq_ <| sq_ <| rl_ <| wl_ <| i_ H5 rfl (v := .agg (bs (zer 32))) (dd_bldk rfl (ps := []) (pr0) (cs := bs (zer 32)) (by kernel_rfl)) fun _ H6 => wl_ <| p_ H6 rfl rfl fun _ H7 => ?_
  clear H3 H5 H6
  refine wl_ <| d_ H7 rfl (R := fun v w9 => ∃ Ad cd, v = .slice Ad m cd ∧ (Digs w9 (.slice Ad m cd) (chainOf (zer 32) (recsOf X) m)) ∧ Below W3.heap.size W3 w9) (dc_ Tryd.func34 rfl (args2 (H7.ev 8 rfl) (H7.ev 9 rfl)) (chain_own (zer 32) (recsOf X) _ W3 (HT _ HS3.below) (length_zer 32) hrc.parts (by rw [hm1]; omega) (recs_small hw)) (fun _ w9 ⟨v9, he, ⟨hd, _⟩, hb⟩ => by rw [hm1] at hd; obtain ⟨A9, c9, e9, _⟩ := id hd; rw [length_chainOf] at e9; subst e9; exact ⟨_, he, A9, c9, rfl, hd, hb⟩)) ?_
  rintro _ W8 ⟨Ad, cd, rfl, hdg, hb8⟩ a8 H8
  have HS8 := HS3.same hb8
  clear H7
  clear HS3 hb8
  refine wl_ <| i_ H8 rfl (v := .int .i64 m) (dd_len rfl (H8.ev 10 rfl) Tryd.underlying75) fun _ H10 => wl_ <| p_ H10 rfl rfl fun _ H11 => ln_ <| nx <| wp_block <| ?_
  clear H8 H10
  by_cases hc12 : (0 : Int) < m
  ·
   obtain ⟨bd1, od1, rfl, hDr⟩ := digs_some hdg (by omega)
   have HD : ∀ W, Below W8.heap.size W8 W → ∀ j d, (chainOf (zer 32) (recsOf X) m)[j]? = some d → CAt W bd1 (od1 + j * 32) (bytesV d) := fun W hb j d hd => (hDr j d hd).call hb
   have HBs13 : Below w.heap.size w W8 := HS8.below
   have HEr := fun (W9 : World) (hb9 : Below W8.heap.size W8 W9) => HE W9 (HBs13.trans (hb9.mono HBs13.size))
   clear HE
   have HE := HEr
   clear HEr
   have HTr := fun (W9 : World) (hb9 : Below W8.heap.size W8 W9) => HT W9 (HBs13.trans (hb9.mono HBs13.size))
   clear HT
   have HT := HTr
   clear HTr
   have HSb13 := St.nil W8 noF
   clear HS8
   refine wp_loopG (ι := Nat) (fun i a9 w9 => (i ≤ m) ∧ (∀ j, j < i → goodAt X j = true) ∧ En 33 [(12, .int .i64 i), (11, .int .i64 m), (10, .slice (some ⟨bd1, od1, none⟩) m cd), (3, .slice Ar m cr), (0, .slice (some ⟨b, o, none⟩) n c)] a9 ∧ St W8 noF [] w9) (fun i => m - i) (0) ⟨(Nat.zero_le _), (fun j hj => absurd hj (Nat.not_lt_zero _)), H11.sel [0, 3, 10, 11, 12] rfl, ss HSb13 []⟩ ?_
   clear H11 HSb13
   rintro i aL14 wL14 ⟨hi, hgd, HL14, HSL14⟩
   refine sq_ <| rl_ <| ?_
   by_cases hc16 : (i : Int) < m
   ·
    refine wl_ <| i_ HL14 rfl (dd_cmp rfl (HL14.ev 12 rfl) (HL14.ev 11 rfl) (lt_t hc16)) fun _ H17 => ln_ <| nx <| sq_ <| ct_ H17 rfl <| wp_skip <| nx <| sq_ <| wp_block <| sq_ <| rl_ <| wl_ <| p_ H17 rfl rfl fun _ H18 => wl_ <| i_ H18 rfl (xSo 32 (od1 + i * 32) rfl (H18.ev 10 rfl) (H18.ev 12 rfl)) fun _ H19 => ?_
    clear HL14 H17 H18
    obtain ⟨xi, hxi⟩ : ∃ x, X[i]? = some x := ⟨_, List.getElem?_eq_getElem (by rw [hn]; omega)⟩
    have hwi := hw xi (List.mem_of_getElem? hxi)
    refine wl_ <| i_ H19 rfl (v := .agg (bs (linkAt (zer 32) (recsOf X) (i + 1)))) (dd_atN rfl (H19.ev 15 rfl) (HD _ HSL14.below i _ (chainOf_get _ _ _ _ (by omega))).at_ Tryd.underlying24 rfl (by show _ = some (bytesV (linkAt (zer 32) (recsOf X) (i + 1))).length; rw [show (bytesV (linkAt (zer 32) (recsOf X) (i + 1))).length = 32 from len_bv (length_linkAt _ _ (length_zer 32) _)]; kernel_rfl)) fun _ H20 => wl_ <| n_ H20 rfl (fun _ h => dd_new HSL14 (bs (zer 32)) rfl (z := .agg (bs (zer 32))) (by kernel_rfl) rfl h) fun _ _ HS21 _ H21 => wl_ <| p_ H21 rfl rfl fun _ H22 => wl_ <| t_ rfl (fun _ h => dd_setrow HS21 0 rfl rfl (H22.ev 5 rfl) (H22.ev 16 rfl) (by kernel_rfl) (((size_bs _).trans (length_linkAt _ _ (length_zer 32) _)) : (bs (linkAt (zer 32) (recsOf X) (i + 1))).size = 32) (((size_bs _).trans (length_zer 32)) : (bs (zer 32)).size = 32) (one_bs _) h) fun _ HS23 => ln_ <| nx <| sq_ <| ?_
    clear H19 HSL14 H20 H21 HS21
    cases hb31 : decide (xi.2.2.2 = linkAt (zer 32) (recsOf X) (i + 1))
    ·
     refine wi_ HS23 [0] rfl [0] rfl fun HSh32 hx32 => hp_ H22 0 hx32 rfl rfl rfl fun _ H33 => hp_ H33 1 hx32 rfl rfl rfl fun _ H34 => ht_ H34 2 hx32 rfl rfl (fun _ _ _ => xSo 66 (o + i * 66) rfl (H34.ev 17 rfl) (H34.ev 18 rfl)) fun _ H35 => ht_ H35 3 hx32 rfl rfl (fun _ _ _ => xf 34 (o + i * 66 + 34) rfl (H35.ev 19 rfl)) fun _ H36 => ht_ H36 4 hx32 rfl rfl (v := .agg (bs xi.2.2.2)) (fun _ _ HS9 => dd_atN rfl (H36.ev 20 rfl) (ent_l (HE _ HS9.below) hw hxi) Tryd.underlying24 rfl (by show _ = some (bytesV xi.2.2.2).length; rw [show (bytesV xi.2.2.2).length = 32 from len_bv hwi.2]; kernel_rfl)) fun _ H37 => ht_ H37 5 hx32 rfl rfl (v := .agg (bs (linkAt (zer 32) (recsOf X) (i + 1)))) (fun _ _ HS9 => dd_load HS9 0 0 rfl rfl (H37.ev 5 rfl) (slab_whole _) Tryd.underlying24 rfl (by rw [show (bs (linkAt (zer 32) (recsOf X) (i + 1))).size = 32 from ((size_bs _).trans (length_linkAt _ _ (length_zer 32) _))]; kernel_rfl)) fun _ H38 => ht_ H38 6 hx32 rfl rfl (v := .bool true) (fun _ _ _ => dd_nea (b := false) rfl (H38.ev 21 rfl) (H38.ev 22 rfl) (by kernel_rfl) (fun w => by have h9 := eql_dgs xi.2.2.2 (linkAt (zer 32) (recsOf X) (i + 1)) hwi.2 (length_linkAt _ _ (length_zer 32) _) w; rw [hb31] at h9; exact h9) rfl) fun _ H39 => ?_
     clear HS23 H22 H33 H34 H35 H36 H37
     clear H38
     refine wpAnyH_done (by kernel_rfl) ?_ _
     clear hx32
     refine nx <| ct_ H39 rfl <| sq_ <| rl_ <| q_ H39 2 rfl fun _ H40 => ln_ <| ?_
     clear H39
     have H41 := H40.sel [2] rfl
     refine nx <| wp_ret <| br_ <| tr <| tr <| br_ <| tr <| ret_run H41.env0 (res_t Tryd.results20 (H41.get 2 rfl)) <| ?_
     clear H40
     exact ⟨by rw [ver_at (k := i) (by omega) hgd (by rw [good_chain (by omega) hxi hgd]; exact hb31)], (HBs13.trans (HSh32.below.mono HBs13.size))⟩
    refine wi_ HS23 [0] rfl [0] rfl fun HSh42 hx42 => hp_ H22 0 hx42 rfl rfl rfl fun _ H43 => hp_ H43 1 hx42 rfl rfl rfl fun _ H44 => ht_ H44 2 hx42 rfl rfl (fun _ _ _ => xSo 66 (o + i * 66) rfl (H44.ev 17 rfl) (H44.ev 18 rfl)) fun _ H45 => ht_ H45 3 hx42 rfl rfl (fun _ _ _ => xf 34 (o + i * 66 + 34) rfl (H45.ev 19 rfl)) fun _ H46 => ht_ H46 4 hx42 rfl rfl (v := .agg (bs xi.2.2.2)) (fun _ _ HS9 => dd_atN rfl (H46.ev 20 rfl) (ent_l (HE _ HS9.below) hw hxi) Tryd.underlying24 rfl (by show _ = some (bytesV xi.2.2.2).length; rw [show (bytesV xi.2.2.2).length = 32 from len_bv hwi.2]; kernel_rfl)) fun _ H47 => ht_ H47 5 hx42 rfl rfl (v := .agg (bs (linkAt (zer 32) (recsOf X) (i + 1)))) (fun _ _ HS9 => dd_load HS9 0 0 rfl rfl (H47.ev 5 rfl) (slab_whole _) Tryd.underlying24 rfl (by rw [show (bs (linkAt (zer 32) (recsOf X) (i + 1))).size = 32 from ((size_bs _).trans (length_linkAt _ _ (length_zer 32) _))]; kernel_rfl)) fun _ H48 => ht_ H48 6 hx42 rfl rfl (v := .bool false) (fun _ _ _ => dd_nea (b := true) rfl (H48.ev 21 rfl) (H48.ev 22 rfl) (by kernel_rfl) (fun w => by have h9 := eql_dgs xi.2.2.2 (linkAt (zer 32) (recsOf X) (i + 1)) hwi.2 (length_linkAt _ _ (length_zer 32) _) w; rw [hb31] at h9; exact h9) rfl) fun _ H49 => ?_
    clear HS23 H22 H43 H44 H45 H46 H47
    clear H48
    refine wpAnyH_done (by kernel_rfl) ?_ _
    clear hx42
    refine nx <| cf_ H49 rfl <| wp_skip <| bn <| nx <| rl_ <| wl_ <| i_ H49 rfl (v := .int .i64 (i + 1)) (dd_ari rfl (H49.ev 12 rfl) rfl rfl (i64_of (by first | omega | (have := bd_lo; omega)) (by omega))) fun _ H50 => wl_ <| p_ H50 rfl rfl fun _ H51 => ln_ <| ?_
    clear H49 H50
    refine nx ⟨i + 1, ⟨(by omega), (fun j hj => (Nat.lt_succ_iff_lt_or_eq.1 hj).elim (hgd j) (fun h8 => by rw [h8, good_chain (by omega) hxi hgd]; exact hb31)), H51.sel [0, 3, 10, 11, 12] rfl, ss HSh42 []⟩, (by omega)⟩
   refine wl_ <| i_ HL14 rfl (dd_cmp rfl (HL14.ev 12 rfl) (HL14.ev 11 rfl) (lt_f hc16)) fun _ H52 => ln_ <| nx <| sq_ <| cf_ H52 rfl <| wp_exit <| tx <| tx <| bx <| nx <| sq_ <| sq_ <| rl_ <| wl_ <| p_ H52 rfl rfl fun _ H53 => wl_ <| i_ H53 rfl (v := .int .i64 m) (dd_len rfl (H53.ev 26 rfl) Tryd.underlying67) fun _ H54 => wl_ <| p_ H54 rfl rfl fun _ H55 => wl_ <| i_ H55 rfl (v := .int .i64 n) (dd_len rfl (H55.ev 28 rfl) Tryd.underlying28) fun _ H56 => ?_
   clear HL14 H52 H53 H54 H55
   by_cases hc58 : (m : Int) < n
   ·
    refine wl_ <| i_ H56 rfl (dd_cmp rfl (H56.ev 27 rfl) (H56.ev 29 rfl) (lt_t hc58)) fun _ H59 => ln_ <| nx <| ct_ H59 rfl <| sq_ <| rl_ <| wl_ <| p_ H59 rfl rfl fun _ H60 => wl_ <| i_ H60 rfl (v := .int .i64 m) (dd_len rfl (H60.ev 31 rfl) Tryd.underlying67) fun _ H61 => wl_ <| p_ H61 rfl rfl fun _ H62 => ln_ <| nx <| wp_ret <| tr <| ret_run H62.env0 (res_t Tryd.results20 (H62.get 2 rfl)) <| ?_
    clear H56 H59 H60 H61
    obtain ⟨x, hx, hxk⟩ := recs_end (l := X) (by rw [hm1]; omega)
    rw [hm1] at hx
    exact ⟨by rw [ver_at (k := m) (by omega) (fun j hj => hgd j (by omega)) (by rw [good_at hx, hxk, Bool.false_and])]; first | done | rfl, (HBs13.trans (HSL14.below.mono HBs13.size))⟩
   refine wl_ <| i_ H56 rfl (dd_cmp rfl (H56.ev 27 rfl) (H56.ev 29 rfl) (lt_f hc58)) fun _ H63 => ln_ <| nx <| cf_ H63 rfl <| wp_skip <| nx <| sq_ <| rl_ <| wl_ <| p_ H63 rfl rfl fun _ H64 => ln_ <| nx <| wp_ret <| ret_run H64.env0 (res_t Tryd.results20 (H64.get 2 rfl)) <| ?_
   clear H56 H63
   exact ⟨by rw [ver_none (l := X) (fun j hj => hgd j (by omega))], (HBs13.trans (HSL14.below.mono HBs13.size))⟩
  obtain rfl : m = 0 := by omega
  refine wp_unr 1 <| unr_go <| sq_ <| rl_ <| wl_ <| i_ H11 rfl (dd_cmp rfl (H11.ev 12 rfl) (H11.ev 11 rfl) (lt_f (by decide))) fun _ H65 => ln_ <| nx <| sq_ <| cf_ H65 rfl <| wp_exit <| tx <| tx <| bx <| nx <| sq_ <| sq_ <| rl_ <| wl_ <| p_ H65 rfl rfl fun _ H66 => wl_ <| i_ H66 rfl (v := .int .i64 0) (dd_len rfl (H66.ev 26 rfl) Tryd.underlying67) fun _ H67 => wl_ <| p_ H67 rfl rfl fun _ H68 => wl_ <| i_ H68 rfl (v := .int .i64 n) (dd_len rfl (H68.ev 28 rfl) Tryd.underlying28) fun _ H69 => ?_
  clear H11 H65 H66 H67 H68
  by_cases hc71 : (0 : Int) < n
  ·
   refine wl_ <| i_ H69 rfl (dd_cmp rfl (H69.ev 27 rfl) (H69.ev 29 rfl) (lt_t hc71)) fun _ H72 => ln_ <| nx <| ct_ H72 rfl <| sq_ <| rl_ <| wl_ <| p_ H72 rfl rfl fun _ H73 => wl_ <| i_ H73 rfl (v := .int .i64 0) (dd_len rfl (H73.ev 31 rfl) Tryd.underlying67) fun _ H74 => wl_ <| p_ H74 rfl rfl fun _ H75 => ln_ <| ?_
   clear H69 H72 H73 H74
   have H76 := H75.sel [2] rfl
   refine nx <| wp_ret <| tr <| ret_run H76.env0 (res_t Tryd.results20 (H76.get 2 rfl)) <| ?_
   clear H75
   obtain ⟨x, hx, hxk⟩ := recs_end (l := X) (by rw [hm1]; omega)
   rw [hm1] at hx
   exact ⟨by rw [ver_at (k := 0) (by omega) (fun j hj => absurd hj (Nat.not_lt_zero _)) (by rw [good_at hx, hxk, Bool.false_and])]; first | done | rfl, HS8.below⟩
  refine wl_ <| i_ H69 rfl (dd_cmp rfl (H69.ev 27 rfl) (H69.ev 29 rfl) (lt_f hc71)) fun _ H77 => ln_ <| nx <| cf_ H77 rfl <| wp_skip <| nx <| sq_ <| rl_ <| wl_ <| p_ H77 rfl rfl fun _ H78 => ln_ <| nx <| wp_ret <| ret_run H78.env0 (res_t Tryd.results20 (H78.get 2 rfl)) <| ?_
  clear H69 H77
  exact ⟨by rw [ver_none (l := X) (fun j hj => absurd hj (by omega))], HS8.below⟩
theorem audver_zero (A : Option Addr) (c : Nat) (w : World) (hT : Tab w) : Calls Tryd.prog 20 #[.slice A 0 c] w fun e w' => e = .returned (.int .i64 (verI [])) ∧ Below w.heap.size w w' := by
  have HS := St.nil w noF
  refine enter_en Tryd.func20 rfl Tryd.ntmps20 (Nat.le_of_ble_eq_true rfl) fun a0 (HA0 : En 33 [(0, .slice A 0 c)] a0) => ?_
  refine sq_ <| rl_ <| wl_ <| p_ HA0 rfl rfl fun _ H1 => ln_ <| nx <| sq_ <| rl_ <| wl_ <| p_ H1 rfl rfl fun _ H2 => ?_
  clear HA0 H1
  refine wl_ <| d_ H2 rfl (R := fun v w9 => ∃ Ar cr, v = .slice Ar 0 cr ∧ (Owns w w9 (.slice Ar 0 cr) (recsOf [])) ∧ Below w.heap.size w w9) (dc_ Tryd.func33 rfl (args1 (H2.ev 6 rfl)) (audrecs_any _ [] w ⟨A, c, rfl, Nat.zero_le _, wf_nil, fun h => absurd rfl h⟩ (by decide)) (fun _ w9 ⟨v9, he, ho⟩ => by obtain ⟨A9, c9, rfl, _⟩ := ho.form; exact ⟨_, he, A9, c9, rfl, ho, ho.below⟩)) ?_
  rintro _ W3 ⟨Ar, cr, rfl, hrc, hb3⟩ a3 H3
  have HS3 := HS.same hb3
  clear H2
  clear HS hb3
  refine wl_ <| p_ H3 rfl rfl fun _ H4 => ln_ <| nx <| sq_ <| sq_ <| rl_ <| wl_ <| i_ H4 rfl (v := .agg (bs (zer 32))) (dd_bldk rfl (ps := []) (pr0) (cs := bs (zer 32)) (by kernel_rfl)) fun _ H5 => wl_ <| p_ H5 rfl rfl fun _ H6 => ?_
  clear H3 H4 H5
  refine wl_ <| d_ H6 rfl (R := fun v w9 => ∃ Ad cd, v = .slice Ad 0 cd ∧ Below W3.heap.size W3 w9) (dc_ Tryd.func34 rfl (args2 (H6.ev 8 rfl) (H6.ev 9 rfl)) (chain_own (zer 32) (recsOf []) _ W3 (hT.below HS3.below hT.pos) (length_zer 32) hrc.parts (by decide) (fun q hq => by cases hq)) (fun _ w9 ⟨v9, he, ⟨hd, _⟩, hb⟩ => by obtain ⟨A9, c9, e9, _⟩ := id hd; rw [length_chainOf] at e9; subst e9; exact ⟨_, he, A9, c9, rfl, hb⟩)) ?_
  rintro _ W7 ⟨Ad, cd, rfl, hb7⟩ a7 H7
  have HS7 := HS3.same hb7
  clear H6
  clear HS3 hb7
  refine wl_ <| i_ H7 rfl (v := .int .i64 0) (dd_len rfl (H7.ev 10 rfl) Tryd.underlying75) fun _ H8 => wl_ <| p_ H8 rfl rfl fun _ H9 => ln_ <| nx <| wp_block <| wp_unr 1 <| unr_go <| sq_ <| rl_ <| wl_ <| i_ H9 rfl (dd_cmp rfl (H9.ev 12 rfl) (H9.ev 11 rfl) (lt_f (by decide))) fun _ H10 => ln_ <| nx <| sq_ <| cf_ H10 rfl <| wp_exit <| tx <| tx <| bx <| nx <| sq_ <| sq_ <| rl_ <| wl_ <| p_ H10 rfl rfl fun _ H11 => wl_ <| i_ H11 rfl (v := .int .i64 0) (dd_len rfl (H11.ev 26 rfl) Tryd.underlying67) fun _ H12 => wl_ <| p_ H12 rfl rfl fun _ H13 => wl_ <| i_ H13 rfl (v := .int .i64 0) (dd_len rfl (H13.ev 28 rfl) Tryd.underlying28) fun _ H14 => wl_ <| i_ H14 rfl (dd_cmp rfl (H14.ev 27 rfl) (H14.ev 29 rfl) (lt_f (by decide))) fun _ H15 => ?_
  clear H7 H8 H9 H10 H11 H12 H13
  refine ln_ <| nx <| cf_ H15 rfl <| wp_skip <| nx <| sq_ <| rl_ <| wl_ <| p_ H15 rfl rfl fun _ H16 => ln_ <| nx <| wp_ret <| ret_run H16.env0 (res_t Tryd.results20 (H16.get 2 rfl)) <| ?_
  clear H14 H15
  exact ⟨rfl, HS7.below⟩
theorem audver_any (v : Value) (X : List Ae) (w : World) (hT : Tab w) (h : EntsAt w v X) (hm : X.length ≤ 1000) : Calls Tryd.prog 20 #[v] w fun e w' => e = .returned (.int .i64 (verI X)) ∧ Below w.heap.size w w' := by
  obtain ⟨A, c, rfl, hc, hw, h1⟩ := h
  by_cases hX : X = []
  · subst hX; exact audver_zero A c w hT
  · obtain ⟨b, o, rfl, h2⟩ := h1 hX
    exact audver_pos b o _ c X w rfl hw h2 hc hT hm
end Go.Proofs.YtbhmgnhiglpmhaaDoor

/- Comparisons with nil; what stays while rows that were handed over are written. No function of the program is named here. -/
set_option maxRecDepth 4000
namespace Go.Proofs.YtbhmgnhiglpmhaaDoor
open Go Go.RowKit
section
variable {P : Program} {o : Oper} {a : Act} {w : World}
theorem run_eqP (ty e : TypeId) (w : World) (p : Option Addr) (hu : P.underlying ty = some (.pointer e)) : (Op.equal ty (.pointer p) (.pointer none)).run P w = .ok p.isNone w := by
  show (Op.equalIn 10000 ty (.pointer p) (.pointer none)).run P w = .ok p.isNone w
  rw [show (10000 : Nat) = 9999 + 1 from rfl]
  unfold Op.equalIn
  cases p <;> simp [Sem.run_bind, run_underlying hu]
theorem dd_eqp {ty ty2 e : TypeId} {x y : Operand} {p : Option Addr} {b : Bool} (ho : o.op = .binOp .eql ty x y ty2) (hx : a.eval x = .pointer p) (hy : a.eval y = .pointer none) (hu : P.underlying ty = some (.pointer e)) (hb : p.isNone = b) : (execOp a.eval o).run P w = .ok (.value (.bool b)) w := by
  subst hb
  simp [execOp, ho, hx, hy, eqGuard, binOp, run_eqP ty e w p hu]
theorem dd_eqsn {ty ty2 e : TypeId} {x y : Operand} {A : Option Addr} {n c n2 c2 : Nat} {b : Bool} (ho : o.op = .binOp .eql ty x y ty2) (hx : a.eval x = .slice A n c) (hy : a.eval y = .slice none n2 c2) (hu : P.underlying ty = some (.slice e)) (hb : A.isNone = b) : (execOp a.eval o).run P w = .ok (.value (.bool b)) w := by
  subst hb
  have h := Lib.run_eql_slice_nil w ty e A n c n2 c2 hu
  simp [execOp, ho, hx, hy, eqGuard, h]
end
theorem dd_lit1 {P : Program} {o : Oper} {a : Act} {w w0 : World} {R : Value → World → Prop} {F : Nat → Prop} {S : List Blk} (HS : St w0 F S w) {t e : TypeId} {x : Operand} {cells : Array Value} {z : Value} {sz : Nat} (ho : o.op = .buildSlice t 1 #[(0, x)]) (hx : a.eval x = .agg cells)
    (hu : P.underlying t = some (.slice e)) (hie : (P.info? e).map (fun i => (i.zero, i.size)) = some (some z, sz)) (hc : cells.size = sz) (hp : Nat.blt 0 sz = true) (hs : Nat.ble sz 16777216 = true) (h : ∀ g w', St w0 F (S ++ [⟨g, e, cells⟩]) w' → R (.slice (some ⟨g, 0, none⟩) 1 1) w') : Does P o a w R := fun _ _ hK =>
  wp_buildOne t e x ho cells z sz hx hu hie hc (Nat.le_of_ble_eq_true hp) (Nat.le_of_ble_eq_true hs) (hK _ _ (h _ _ (HS.snoc e cells)))
theorem Chg.cellF {F : Nat → Prop} {w w' : World} (h : Chg F w w') {p : Addr} (hp : p.block < w.heap.size) (hF : ¬ F p.block) : w'.cell? p = w.cell? p := World.cell?_of_block (w := w) (h.block p.block hp hF)
theorem Slice.chg {F : Nat → Prop} {w w' : World} {A : Option Addr} {n c : Nat} {q : List (BitVec 8)} (h : Slice w (.slice A n c) q) (k : Chg F w w') (hF : ∀ ad, A = some ad → ¬ F ad.block) : Slice w' (.slice A n c) q := by
  obtain ⟨A', c', e, h2, h3⟩ := h
  injection e with e1 e2 e3
  subst e1 e2 e3
  refine ⟨_, _, rfl, h2, fun hne => ?_⟩
  obtain ⟨b, o, rfl, h5, h6⟩ := h3 hne
  exact ⟨b, o, rfl, Nat.lt_of_lt_of_le h5 k.size, fun j x hx => (k.cellF (p := ⟨b, o + j, none⟩) h5 (hF ⟨b, o, none⟩ rfl)).trans (h6 j x hx)⟩
theorem nin_row {w0 w : World} {S1 S2 : List Blk} (h : St w0 noF (S1 ++ S2) w) (k : Nat) {s : Blk} (hk : S2[k]? = some s) : ¬ inS S1 s.g := fun ⟨r, h1, h2⟩ => by
  obtain ⟨i, hi⟩ := List.getElem?_of_mem h1
  have hlt := (List.getElem?_eq_some_iff.1 hi).1
  exact h.apart i (S1.length + k) r s (by omega) (by rw [List.getElem?_append_left hlt]; exact hi) (by rw [List.getElem?_append_right (by omega), Nat.add_sub_cancel_left]; exact hk) h2
theorem ownc_nil0 (sz : Nat) : OwnC #[] 0 0 sz [] := ⟨Nat.le_refl _, by decide, by simp, by simp, by simp⟩
end Go.Proofs.YtbhmgnhiglpmhaaDoor

/- A log: its last link, its entries, and what is added. -/
set_option maxRecDepth 4000
namespace Go.Proofs.YtbhmgnhiglpmhaaDoor
open Go Go.RowKit
theorem ent_all0 {w : World} {b k : Nat} {l : List Ae} {x : Ae} (h : CAt w b 0 (entsL l)) (hw : wfA l) (hx : l[k]? = some x) : w.rangeAt b (k * 66) (catA [bytesV x.1, [.int .i64 x.2.1], [.int .i64 x.2.2.1], bytesV x.2.2.2]).toList := by
  have h9 := ent_all h hw hx
  rwa [Nat.zero_add] at h9
theorem ent_h0 {w : World} {b k : Nat} {l : List Ae} {x : Ae} (h : CAt w b 0 (entsL l)) (hw : wfA l) (hx : l[k]? = some x) : w.rangeAt b (k * 66) (bytesV x.1) := by
  have h9 := ent_h h hw hx
  rwa [Nat.zero_add] at h9
theorem ent_i0 {w : World} {b k : Nat} {l : List Ae} {x : Ae} (h : CAt w b 0 (entsL l)) (hw : wfA l) (hx : l[k]? = some x) : w.cell? ⟨b, k * 66 + 32, none⟩ = some (.int .i64 x.2.1) := by
  have h9 := ent_i h hw hx
  rwa [Nat.zero_add] at h9
theorem ent_e0 {w : World} {b k : Nat} {l : List Ae} {x : Ae} (h : CAt w b 0 (entsL l)) (hw : wfA l) (hx : l[k]? = some x) : w.cell? ⟨b, k * 66 + 33, none⟩ = some (.int .i64 x.2.2.1) := by
  have h9 := ent_e h hw hx
  rwa [Nat.zero_add] at h9
theorem ent_l0 {w : World} {b k : Nat} {l : List Ae} {x : Ae} (h : CAt w b 0 (entsL l)) (hw : wfA l) (hx : l[k]? = some x) : w.rangeAt b (k * 66 + 34) (bytesV x.2.2.2) := by
  have h9 := ent_l h hw hx
  rwa [Nat.zero_add] at h9
theorem audlast_pos (g ge K c : Nat) (X : List Ae) (w : World) (hr : Row w g 30 #[.slice (some ⟨ge, 0, none⟩) (K + 1) c]) (h0 : CAt w ge 0 (entsL X)) (hn : X.length = K + 1) (hw : wfA X) (hm : K ≤ 1000) :
    Calls Tryd.prog 13 #[.pointer (some ⟨g, 0, none⟩)] w fun e w' => e = .returned (.agg (bs (lk X (K + 1)))) ∧ Below w.heap.size w w' := by
  have HS := St.nil w noF
  have HE : ∀ W, Below w.heap.size w W → CAt W ge 0 (entsL X) := fun W hb => h0.call hb
  have HR : ∀ W, Below w.heap.size w W → Row W g 30 #[.slice (some ⟨ge, 0, none⟩) (K + 1) c] := fun W hb => hr.call hb
  refine enter_en Tryd.func13 rfl Tryd.ntmps13 (Nat.le_of_ble_eq_true rfl) fun a0 (HA0 : En 27 [(0, .pointer (some ⟨g, 0, none⟩))] a0) => ?_
  refine sq_ <| rl_ <| wl_ <| n_ HA0 rfl (fun _ h => dd_new HS (bs (zer 32)) rfl (z := .agg (bs (zer 32))) (by kernel_rfl) rfl h) fun _ _ HS1 _ H1 => ln_ <| nx <| sq_ <| sq_ <| rl_ <| wl_ <| p_ H1 rfl rfl fun _ H2 => wl_ <| i_ H2 rfl (v := .bool false) (dd_eqp rfl (H2.ev 3 rfl) rfl Tryd.underlying27 rfl) fun _ H3 => wl_ <| p_ H3 rfl rfl fun _ H4 => wl_ <| ig H4 (wg_ H4 rfl rfl rfl rfl) rfl (dd_mv rfl (H4.ev 0 rfl)) fun _ H5 => wl_ <| ig H5 (wg_ H5 rfl rfl rfl rfl) rfl (dd_nilc rfl (H5.ev 6 rfl)) fun _ H6 => wl_ <| ig H6 (wg_ H6 rfl rfl rfl rfl) rfl (xf 0 0 rfl (H6.ev 7 rfl)) fun _ H7 => wl_ <| ig H7 (wg_ H7 rfl rfl rfl rfl) rfl (dd_getR (HR _ HS1.below) rfl (H7.ev 8 rfl) rfl Tryd.underlying28 rfl) fun _ H8 => ?_
  clear HS HA0 H1 H2 H3 H4 H5 H6
  refine wl_ <| ig H8 (wg_ H8 rfl rfl rfl rfl) rfl (v := .int .i64 (K + 1)) (dd_len rfl (H8.ev 9 rfl) Tryd.underlying28) fun _ H9 => wl_ <| ig H9 (wg_ H9 rfl rfl rfl rfl) rfl (dd_cmp rfl (H9.ev 10 rfl) rfl (eq_f (by omega))) fun _ H10 => wl_ <| p_ H10 rfl rfl fun _ H11 => ln_ <| nx <| cf_ H11 rfl <| wp_skip <| nx <| sq_ <| ?_
  clear H7 H8 H9 H10
  refine wi_ HS1 [] rfl [0] rfl fun HSh12 hx12 => hp_ H11 0 hx12 rfl rfl rfl fun _ H13 => ht_ H13 1 hx12 rfl rfl (fun _ _ _ => dd_nilc rfl (H13.ev 14 rfl)) fun _ H14 => ht_ H14 2 hx12 rfl rfl (fun _ _ _ => xf 0 0 rfl (H14.ev 15 rfl)) fun _ H15 => ht_ H15 3 hx12 rfl rfl (fun _ _ HS9 => dd_getR (HR _ HS9.below) rfl (H15.ev 16 rfl) rfl Tryd.underlying28 rfl) fun _ H16 => hp_ H16 4 hx12 rfl rfl rfl fun _ H17 => ht_ H17 5 hx12 rfl rfl (fun _ _ _ => dd_nilc rfl (H17.ev 18 rfl)) fun _ H18 => ht_ H18 6 hx12 rfl rfl (fun _ _ _ => xf 0 0 rfl (H18.ev 19 rfl)) fun _ H19 => ?_
  clear HS1 H11 H13 H14 H15 H16 H17
  refine ht_ H19 7 hx12 rfl rfl (fun _ _ HS9 => dd_getR (HR _ HS9.below) rfl (H19.ev 20 rfl) rfl Tryd.underlying28 rfl) fun _ H20 => ht_ H20 8 hx12 rfl rfl (v := .int .i64 (K + 1)) (fun _ _ _ => dd_len rfl (H20.ev 21 rfl) Tryd.underlying28) fun _ H21 => ht_ H21 9 hx12 rfl rfl (v := .int .i64 K) (fun _ _ _ => dd_ari rfl (H21.ev 22 rfl) rfl rfl (by rw [i64_id _ (by omega) (by omega)]; omega)) fun _ H22 => ht_ H22 10 hx12 rfl rfl (fun _ _ _ => xSo 66 (K * 66) rfl (H22.ev 17 rfl) (H22.ev 23 rfl)) fun _ H23 => ht_ H23 11 hx12 rfl rfl (fun _ _ _ => xf 34 (K * 66 + 34) rfl (H23.ev 24 rfl)) fun _ H24 => ?_
  clear H18 H19 H20 H21 H22 H23
  obtain ⟨xK, hxK⟩ : ∃ x, X[K]? = some x := ⟨_, List.getElem?_eq_getElem (by rw [hn]; omega)⟩
  have hwK := hw xK (List.mem_of_getElem? hxK)
  refine ht_ H24 12 hx12 rfl rfl (v := .agg (bs xK.2.2.2)) (fun _ _ HS9 => dd_atN rfl (H24.ev 25 rfl) (ent_l0 (HE _ HS9.below) hw hxK) Tryd.underlying24 rfl (by show _ = some (bytesV xK.2.2.2).length; rw [show (bytesV xK.2.2.2).length = 32 from len_bv hwK.2]; kernel_rfl)) fun _ H25 => h1_ 13 rfl <| t_ rfl (fun _ h => dd_setrow HSh12 0 rfl rfl (H25.ev 2 rfl) (H25.ev 26 rfl) (by kernel_rfl) (((size_bs _).trans hwK.2) : (bs xK.2.2.2).size = 32) (((size_bs _).trans (length_zer 32)) : (bs (zer 32)).size = 32) (one_bs _) h) fun _ HS26 => sx_ (sxi HS26 [0] rfl) fun hx27 => ?_
  clear H24 HSh12 hx12
  refine wpAnyH_done (by kernel_rfl) ?_ _
  clear hx27
  refine nx <| wp_ret <| ret_run H25.env0 (res_c Tryd.results13 (H25.get 2 rfl) (HS26.row 0 rfl) Tryd.underlying24 rfl (by rw [show (bs xK.2.2.2).size = 32 from ((size_bs _).trans hwK.2)]; kernel_rfl)) <| ?_
  exact ⟨by rw [lk_succ hxK], HS26.below⟩
theorem audlast_zero (g : Nat) (w : World) (hr : Row w g 30 #[.slice none 0 0]) : Calls Tryd.prog 13 #[.pointer (some ⟨g, 0, none⟩)] w fun e w' => e = .returned (.agg (bs (lk [] 0))) ∧ Below w.heap.size w w' := by
  have HS := St.nil w noF
  have HR : ∀ W, Below w.heap.size w W → Row W g 30 #[.slice none 0 0] := fun W hb => hr.call hb
  refine enter_en Tryd.func13 rfl Tryd.ntmps13 (Nat.le_of_ble_eq_true rfl) fun a0 (HA0 : En 27 [(0, .pointer (some ⟨g, 0, none⟩))] a0) => ?_
  refine sq_ <| rl_ <| wl_ <| n_ HA0 rfl (fun _ h => dd_new HS (bs (zer 32)) rfl (z := .agg (bs (zer 32))) (by kernel_rfl) rfl h) fun _ _ HS1 _ H1 => ln_ <| nx <| sq_ <| sq_ <| rl_ <| wl_ <| p_ H1 rfl rfl fun _ H2 => wl_ <| i_ H2 rfl (v := .bool false) (dd_eqp rfl (H2.ev 3 rfl) rfl Tryd.underlying27 rfl) fun _ H3 => wl_ <| p_ H3 rfl rfl fun _ H4 => wl_ <| ig H4 (wg_ H4 rfl rfl rfl rfl) rfl (dd_mv rfl (H4.ev 0 rfl)) fun _ H5 => wl_ <| ig H5 (wg_ H5 rfl rfl rfl rfl) rfl (dd_nilc rfl (H5.ev 6 rfl)) fun _ H6 => wl_ <| ig H6 (wg_ H6 rfl rfl rfl rfl) rfl (xf 0 0 rfl (H6.ev 7 rfl)) fun _ H7 => wl_ <| ig H7 (wg_ H7 rfl rfl rfl rfl) rfl (dd_getR (HR _ HS1.below) rfl (H7.ev 8 rfl) rfl Tryd.underlying28 rfl) fun _ H8 => ?_
  clear HS HA0 H1 H2 H3 H4 H5 H6
  refine wl_ <| ig H8 (wg_ H8 rfl rfl rfl rfl) rfl (v := .int .i64 0) (dd_len rfl (H8.ev 9 rfl) Tryd.underlying28) fun _ H9 => wl_ <| ig H9 (wg_ H9 rfl rfl rfl rfl) rfl (dd_cmp rfl (H9.ev 10 rfl) rfl (eq_t (by decide))) fun _ H10 => wl_ <| p_ H10 rfl rfl fun _ H11 => ln_ <| nx <| ct_ H11 rfl <| sq_ <| rl_ <| wl_ <| i_ H11 rfl (v := .agg (bs (zer 32))) (dd_bldk rfl (ps := []) (pr0) (cs := bs (zer 32)) (by kernel_rfl)) fun _ H12 => wl_ <| t_ rfl (fun _ h => dd_setrow HS1 0 rfl rfl (H12.ev 2 rfl) (H12.ev 13 rfl) (by kernel_rfl) (((size_bs _).trans (length_zer 32)) : (bs (zer 32)).size = 32) (((size_bs _).trans (length_zer 32)) : (bs (zer 32)).size = 32) (one_bs _) h) fun _ HS13 => ln_ <| nx <| wp_ret <| tr <| ret_run H12.env0 (res_c Tryd.results13 (H12.get 2 rfl) (HS13.row 0 rfl) Tryd.underlying24 rfl (by rw [show (bs (zer 32)).size = 32 from ((size_bs _).trans (length_zer 32))]; kernel_rfl)) <| ?_
  clear H7 H8 H9 H10 H11 HS1
  exact ⟨rfl, HS13.below⟩
theorem audclone_pos (ge n c : Nat) (X : List Ae) (w : World) (h0 : CAt w ge 0 (entsL X)) (hn : X.length = n) (hw : wfA X) (hm : n ≤ 1000) :
    Calls Tryd.prog 32 #[.slice (some ⟨ge, 0, none⟩) n c] w fun e w' => ∃ g c cb, e = .returned (.slice (some ⟨g, 0, none⟩) n c) ∧ w.heap.size ≤ g ∧ Row w' g 59 cb ∧ OwnC cb c n 66 (entsL X) ∧ Below w.heap.size w w' := by
  have HS := St.nil w noF
  have HE : ∀ W, Below w.heap.size w W → CAt W ge 0 (entsL X) := fun W hb => h0.call hb
  refine enter_en Tryd.func32 rfl Tryd.ntmps32 (Nat.le_of_ble_eq_true rfl) fun a0 (HA0 : En 8 [(0, .slice (some ⟨ge, 0, none⟩) n c)] a0) => ?_
  refine sq_ <| rl_ <| wl_ <| p_ HA0 rfl rfl fun _ H1 => ln_ <| nx <| sq_ <| sq_ <| rl_ <| wl_ <| p_ H1 rfl rfl fun _ H2 => wl_ <| i_ H2 rfl (v := .bool false) (dd_eqsn rfl (H2.ev 3 rfl) rfl Tryd.underlying28 rfl) fun _ H3 => ln_ <| nx <| cf_ H3 rfl <| wp_skip <| nx <| sq_ <| rl_ <| wl_ <| n_ H3 rfl (A := fun g5 => .slice (some ⟨g5, 0, none⟩) 0 0) (fun _ h => dd_lit0 HS rfl rfl Tryd.underlying28 (sz := 66) (by kernel_rfl) h) fun g5 _ HS4 _ H4 => wl_ <| p_ H4 rfl rfl fun _ H5 => wl_ <| a_ H5 rfl (fun g7_7 c7_7 => .slice (some ⟨g7_7, 0, none⟩) (0 + n) c7_7) (T := fun _ c7_7 cb7_7 => OwnC cb7_7 c7_7 (0 + n) 66 (entsL X)) (fun _ h => dd_app HS4 0 rfl (ownc_nil0 66) rfl (H5.ev 5 rfl) (z := .agg (catA [bytesV (zer 32), [.int .i64 0], [.int .i64 0], bytesV (zer 32)])) (bytes := 80) Tryd.underlying28 (by kernel_rfl) rfl (by decide) (entsL X) (H5.ev 6 rfl) (len_ents hw hn) (HE _ HS4.below).news (one_ents _) (by unfold maxLen; omega) (by omega) h) fun g7_7 c7_7 cb7_7 _ O7_7 HS6 _ H6 => wl_ <| p_ H6 rfl rfl fun _ H8 => ln_ <| nx <| wp_ret <| ret_run H8.env0 (res_t Tryd.results32 (H8.get 2 rfl)) <| ?_
  clear HA0 H1 H2 HS H3 H4 HS4 H5 H6
  rw [Nat.zero_add] at O7_7
  exact ⟨g7_7, c7_7, cb7_7, congrArg (fun z => Ending.returned (.slice (some ⟨g7_7, 0, none⟩) z c7_7)) (Nat.zero_add n), st_fresh2 HS6 0 rfl, HS6.row 0 rfl, O7_7, HS6.below⟩
theorem audclone_nil (w : World) : Calls Tryd.prog 32 #[.slice none 0 0] w fun e w' => e = .returned (.slice none 0 0) ∧ Below w.heap.size w w' := by
  have HS := St.nil w noF
  refine enter_en Tryd.func32 rfl Tryd.ntmps32 (Nat.le_of_ble_eq_true rfl) fun a0 (HA0 : En 8 [(0, .slice none 0 0)] a0) => ?_
  refine sq_ <| rl_ <| wl_ <| p_ HA0 rfl rfl fun _ H1 => ln_ <| nx <| sq_ <| sq_ <| rl_ <| wl_ <| p_ H1 rfl rfl fun _ H2 => wl_ <| i_ H2 rfl (v := .bool true) (dd_eqsn rfl (H2.ev 3 rfl) rfl Tryd.underlying28 rfl) fun _ H3 => ln_ <| nx <| ct_ H3 rfl <| sq_ <| rl_ <| wl_ <| p_ H3 rfl rfl fun _ H4 => ln_ <| nx <| wp_ret <| tr <| ret_run H4.env0 (res_t Tryd.results32 (H4.get 2 rfl)) <| ?_
  clear HA0 H1 H2 H3
  exact ⟨rfl, HS.below⟩
theorem audents_pos (g ge n c : Nat) (X : List Ae) (w : World) (hr : Row w g 30 #[.slice (some ⟨ge, 0, none⟩) n c]) (h0 : CAt w ge 0 (entsL X)) (hn : X.length = n) (hw : wfA X) (hm : n ≤ 1000) :
    Calls Tryd.prog 19 #[.pointer (some ⟨g, 0, none⟩)] w fun e w' => ∃ g c cb, e = .returned (.slice (some ⟨g, 0, none⟩) n c) ∧ w.heap.size ≤ g ∧ Row w' g 59 cb ∧ OwnC cb c n 66 (entsL X) ∧ Below w.heap.size w w' := by
  have HS := St.nil w noF
  have HE : ∀ W, Below w.heap.size w W → CAt W ge 0 (entsL X) := fun W hb => h0.call hb
  have HR : ∀ W, Below w.heap.size w W → Row W g 30 #[.slice (some ⟨ge, 0, none⟩) n c] := fun W hb => hr.call hb
  refine enter_en Tryd.func19 rfl Tryd.ntmps19 (Nat.le_of_ble_eq_true rfl) fun a0 (HA0 : En 10 [(0, .pointer (some ⟨g, 0, none⟩))] a0) => ?_
  refine sq_ <| rl_ <| wl_ <| p_ HA0 rfl rfl fun _ H1 => ln_ <| nx <| sq_ <| sq_ <| rl_ <| wl_ <| p_ H1 rfl rfl fun _ H2 => wl_ <| i_ H2 rfl (v := .bool false) (dd_eqp rfl (H2.ev 3 rfl) rfl Tryd.underlying27 rfl) fun _ H3 => ln_ <| nx <| cf_ H3 rfl <| wp_skip <| nx <| sq_ <| rl_ <| wl_ <| p_ H3 rfl rfl fun _ H4 => wl_ <| i_ H4 rfl (dd_nilc rfl (H4.ev 5 rfl)) fun _ H5 => wl_ <| i_ H5 rfl (xf 0 0 rfl (H5.ev 6 rfl)) fun _ H6 => wl_ <| i_ H6 rfl (dd_getR (HR _ HS.below) rfl (H6.ev 7 rfl) rfl Tryd.underlying28 rfl) fun _ H7 => ?_
  clear HA0 H1 H2 H3 H4 H5 H6
  refine wl_ <| d_ H7 rfl (R := fun v w9 => ∃ gc9 cc9 cbc9, v = .slice (some ⟨gc9, 0, none⟩) n cc9 ∧ (w.heap.size ≤ gc9) ∧ (Row w9 gc9 59 cbc9) ∧ (OwnC cbc9 cc9 n 66 (entsL X)) ∧ Below w.heap.size w w9) (dc_ Tryd.func32 rfl (args1 (H7.ev 8 rfl)) (audclone_pos ge n c X w (HE _ HS.below) hn hw hm) (fun _ w9 ⟨g9, c9, cb9, he, h1, h2, h3, hb⟩ => ⟨_, he, g9, c9, cb9, rfl, h1, h2, h3, hb⟩)) ?_
  rintro _ W8 ⟨gc9, cc9, cbc9, rfl, hg9, hr9, Oc9, hb8⟩ a8 H8
  have HS8 := HS.same hb8
  clear H7
  have HS8j : St w noF [⟨gc9, 59, cbc9⟩] W8 := HS.joins hb8 hr9 hg9
  clear HS8 hr9 hg9
  clear HS hb8
  refine wl_ <| p_ H8 rfl rfl fun _ H10 => ln_ <| nx <| wp_ret <| ret_run H10.env0 (res_t Tryd.results19 (H10.get 2 rfl)) <| ?_
  clear H8
  exact ⟨gc9, cc9, cbc9, rfl, st_fresh2 HS8j 0 rfl, HS8j.row 0 rfl, Oc9, HS8j.below⟩
theorem audents_zero (g : Nat) (w : World) (hr : Row w g 30 #[.slice none 0 0]) : Calls Tryd.prog 19 #[.pointer (some ⟨g, 0, none⟩)] w fun e w' => e = .returned (.slice none 0 0) ∧ Below w.heap.size w w' := by
  have HS := St.nil w noF
  have HR : ∀ W, Below w.heap.size w W → Row W g 30 #[.slice none 0 0] := fun W hb => hr.call hb
  refine enter_en Tryd.func19 rfl Tryd.ntmps19 (Nat.le_of_ble_eq_true rfl) fun a0 (HA0 : En 10 [(0, .pointer (some ⟨g, 0, none⟩))] a0) => ?_
  refine sq_ <| rl_ <| wl_ <| p_ HA0 rfl rfl fun _ H1 => ln_ <| nx <| sq_ <| sq_ <| rl_ <| wl_ <| p_ H1 rfl rfl fun _ H2 => wl_ <| i_ H2 rfl (v := .bool false) (dd_eqp rfl (H2.ev 3 rfl) rfl Tryd.underlying27 rfl) fun _ H3 => ln_ <| nx <| cf_ H3 rfl <| wp_skip <| nx <| sq_ <| rl_ <| wl_ <| p_ H3 rfl rfl fun _ H4 => wl_ <| i_ H4 rfl (dd_nilc rfl (H4.ev 5 rfl)) fun _ H5 => wl_ <| i_ H5 rfl (xf 0 0 rfl (H5.ev 6 rfl)) fun _ H6 => wl_ <| i_ H6 rfl (dd_getR (HR _ HS.below) rfl (H6.ev 7 rfl) rfl Tryd.underlying28 rfl) fun _ H7 => wl_ <| c_ H7 rfl HS (dcs Tryd.func32 rfl (args1 (H7.ev 8 rfl)) (audclone_nil w) (.slice none 0 0)) fun _ HS8 _ H8 => ?_
  clear HA0 H1 H2 H3 H4 H5 H6
  refine wl_ <| p_ H8 rfl rfl fun _ H9 => ln_ <| nx <| wp_ret <| ret_run H9.env0 (res_t Tryd.results19 (H9.get 2 rfl)) <| ?_
  clear H7 HS H8
  exact ⟨rfl, HS8.below⟩
set_option maxHeartbeats 1600000 in
theorem audadd_own (F : Nat → Prop) (g ge K c : Nat) (cb : Array Value) (X : List Ae) (Aq : Option Addr) (nq cq : Nat) (q : List (BitVec 8)) (i e : Int) (u : Value) (w : World) (HS : St w F [⟨g, 30, #[.slice (some ⟨ge, 0, none⟩) (K + 1) c]⟩, ⟨ge, 59, cb⟩] w) (O : OwnC cb c (K + 1) 66 (entsL X)) (hn : X.length = K + 1) (hw : wfA X) (hm : K ≤ 1000) (hT : Tab w) (hF0 : ¬ F 0) (HQ : ∀ W, Chg F w W → Slice W (.slice Aq nq cq) q) (hq : q.length = nq) (hnq : nq ≤ 1000000) (hc : mayR i e 0 = true) :
    Calls Tryd.prog 11 #[.pointer (some ⟨g, 0, none⟩), .slice Aq nq cq, .agg #[.int .i64 i, .int .i64 e, u]] w fun x w' => ∃ ge' c' cb', x = .returned (.int .i64 0) ∧ OwnC cb' c' (K + 1 + 1) 66 (entsL (X ++ [mkA X q i e])) ∧ St w F [⟨g, 30, #[.slice (some ⟨ge', 0, none⟩) (K + 1 + 1) c']⟩, ⟨ge', 59, cb'⟩] w' := by
  have HT : ∀ W, Chg F w W → Tab W := fun W k i hi => (k.cellF (p := ⟨0, i, none⟩) hT.pos hF0).trans (hT i hi)
  rw [show mkA X q i e = (sha q, i, e, nextL (lk X (K + 1)) (sha q, i, e, [])) by unfold mkA; rw [hn]]
  refine enter_en Tryd.func11 rfl Tryd.ntmps11 (Nat.le_of_ble_eq_true rfl) fun a0 (HA0 : En 44 [(0, .pointer (some ⟨g, 0, none⟩)), (1, .slice Aq nq cq), (2, .agg #[.int .i64 i, .int .i64 e, u])] a0) => ?_
  refine sq_ <| rl_ <| wl_ <| n_ HA0 rfl (fun _ h => dd_box HS rfl (HA0.ev 2 rfl) (cs := #[.int .i64 i, .int .i64 e, u]) rfl h) fun g5 _ HS1 _ H1 => wl_ <| p_ H1 rfl rfl fun _ H2 => ln_ <| nx <| sq_ <| sq_ <| rl_ <| wl_ <| p_ H2 rfl rfl fun _ H3 => wl_ <| i_ H3 rfl (v := .bool false) (dd_eqp rfl (H3.ev 10 rfl) rfl Tryd.underlying27 rfl) fun _ H4 => ln_ <| nx <| cf_ H4 rfl <| wp_skip <| nx <| sq_ <| ?_
  clear HS HA0 H1 H2 H3
  refine wp_cut (fun a9 w9 => ∃ g7 : Nat, ∃ g13 : Nat, En 44 [(7, .pointer (some ⟨g7, 0, none⟩)), (0, .pointer (some ⟨g, 0, none⟩))] a9 ∧ St w F [⟨g, 30, #[.slice (some ⟨ge, 0, none⟩) (K + 1) c]⟩, ⟨ge, 59, cb⟩, ⟨g5, 38, #[.int .i64 i, .int .i64 e, u]⟩, ⟨g13, 35, #[.slice Aq nq cq]⟩, ⟨g7, 59, catA [bytesV (sha q), [.int .i64 i], [.int .i64 e], bytesV (zer 32)]⟩] w9) ?_ ?_
  ·
   refine wi_ HS1 [0, 1, 2] rfl [0, 1, 2] rfl fun HSh5 hx5 => hp_ H4 0 hx5 rfl rfl rfl fun _ H6 => ht_ H6 3 hx5 rfl rfl (fun _ _ _ => xf 0 0 rfl (H6.ev 5 rfl)) fun _ H7 => ht_ H7 4 hx5 rfl rfl (fun _ _ HS9 => dd_get HS9 2 0 rfl rfl (H7.ev 15 rfl) rfl Tryd.underlying3 rfl) fun _ H8 => ht_ H8 5 hx5 rfl rfl (fun _ _ _ => xf 1 1 rfl (H8.ev 5 rfl)) fun a9 H9 => ht_ H9 6 hx5 rfl rfl (fun _ _ HS9 => dd_get HS9 2 1 rfl rfl (H9.ev 17 rfl) rfl Tryd.underlying36 rfl) fun _ H10 => ?_
   clear HS1 H4 H6 H7 H8 H9
   refine wpAnyH_all (rs := [1, 8]) (by kernel_rfl) (by decide) (hm_cons ?_ (hm_cons ?_ hm_nil))
   ·
    refine ho_ rfl <| n_ H10 rfl (fun _ h => dd_lits HSh5 #[.slice Aq nq cq] rfl (ps := [(0, .slice Aq nq cq)]) (pr1 (H10.ev 12 rfl) (pr0)) (z := .slice none 0 0) (sz := 1) Tryd.underlying67 (by kernel_rfl) rfl rfl (by kernel_rfl) h) fun g13 W11 HS11 _ H11 => sx_ (sxi HS11 [0, 1, 2, 3] rfl) fun _ => ?_
    clear HSh5 H10
    refine wpAnyH_all (rs := [2, 8]) (by kernel_rfl) (by decide) (hm_cons ?_ (hm_cons ?_ hm_nil))
    ·
     refine ho_ rfl <| c_ H11 rfl HS11 (dcs Tryd.func25 rfl (args1 (H11.ev 13 rfl)) (sum_one q _ W11 (HT _ HS11.chg) (parts_one1 (HS11.row 3 rfl) (HQ _ HS11.chg)) (by rw [hq]; omega)) (.agg (bs (sha q)))) fun _ HS13 _ H13 => sx_ (sxi HS13 [0, 1, 2, 3] rfl) fun hx14 => ht_ H13 7 hx14 rfl rfl (v := .agg (catA [bytesV (sha q), [.int .i64 i], [.int .i64 e], bytesV (zer 32)])) (fun _ _ _ => dd_bld rfl (ps := [(0, .agg (bs (sha q))), (1, .int .i64 i), (2, .int .i64 e)]) (pr1 (H13.ev 14 rfl) (pr1 (H13.ev 16 rfl) (pr1 (H13.ev 18 rfl) (pr0)))) (Lz := [bytesV (zer 32), [.int .i64 0], [.int .i64 0], bytesV (zer 32)]) (by kernel_rfl) (lens_cons (len_bv (length_zer 32)) (lens_cons rfl (lens_cons rfl (lens_cons (len_bv (length_zer 32)) (lens_nil))))) (fit_cons (i := 0) rfl ((size_bs _).trans (length_sha _)) (fit_cons (i := 1) rfl rfl (fit_cons (i := 2) rfl rfl (fit_nil)))) (cs := catA [bytesV (sha q), [.int .i64 i], [.int .i64 e], bytesV (zer 32)]) rfl) fun _ H15 => h1_ 8 rfl <| n_ H15 rfl (fun _ h => dd_new HS13 (catA [bytesV (zer 32), [.int .i64 0], [.int .i64 0], bytesV (zer 32)]) rfl (z := .agg (catA [bytesV (zer 32), [.int .i64 0], [.int .i64 0], bytesV (zer 32)])) (by kernel_rfl) rfl h) fun g7 _ HS16 _ H16 => sx_ (sxi HS16 [0, 1, 2, 3, 4] rfl) fun hx17 => h1_ 9 rfl <| t_ rfl (fun _ h => dd_setrow HS16 4 rfl rfl (H16.ev 7 rfl) (H16.ev 19 rfl) (by kernel_rfl) ((cat_size (lens_cons (len_bv (length_sha _)) (lens_cons rfl (lens_cons rfl (lens_cons (len_bv (length_zer 32)) (lens_nil)))))) : (catA [bytesV (sha q), [.int .i64 i], [.int .i64 e], bytesV (zer 32)]).size = 66) ((cat_size (lens_cons (len_bv (length_zer 32)) (lens_cons rfl (lens_cons rfl (lens_cons (len_bv (length_zer 32)) (lens_nil)))))) : (catA [bytesV (zer 32), [.int .i64 0], [.int .i64 0], bytesV (zer 32)]).size = 66) (cat_one (ones_cons (one_bytesV _) (ones_cons (ones_c rfl) (ones_cons (ones_c rfl) (ones_cons (one_bytesV _) (ones_nil)))))) h) fun _ HS18 => sx_ (sxi HS18 [0, 1, 2, 3, 4] rfl) fun hx19 => ?_
     clear H11 HS11 H13 HS13 H15 hx14 HS16 hx17
     refine wpAnyH_done (by kernel_rfl) ?_ _
     clear hx19
     exact nx ⟨g7, _, H16.sel [0, 7] rfl, ss HS18 [0, 1, 2, 3, 4]⟩
    refine ho_ rfl <| n_ H11 rfl (fun _ h => dd_new HS11 (catA [bytesV (zer 32), [.int .i64 0], [.int .i64 0], bytesV (zer 32)]) rfl (z := .agg (catA [bytesV (zer 32), [.int .i64 0], [.int .i64 0], bytesV (zer 32)])) (by kernel_rfl) rfl h) fun g7 W20 HS20 _ H20 => sx_ (sxi HS20 [0, 1, 2, 3, 4] rfl) fun hx21 => h1_ 2 rfl <| c_ H20 rfl HS20 (dcs Tryd.func25 rfl (args1 (H20.ev 13 rfl)) (sum_one q _ W20 (HT _ HS20.chg) (parts_one1 (HS20.row 3 rfl) (HQ _ HS20.chg)) (by rw [hq]; omega)) (.agg (bs (sha q)))) fun _ HS22 _ H22 => sx_ (sxi HS22 [0, 1, 2, 3, 4] rfl) fun hx23 => ht_ H22 7 hx23 rfl rfl (v := .agg (catA [bytesV (sha q), [.int .i64 i], [.int .i64 e], bytesV (zer 32)])) (fun _ _ _ => dd_bld rfl (ps := [(0, .agg (bs (sha q))), (1, .int .i64 i), (2, .int .i64 e)]) (pr1 (H22.ev 14 rfl) (pr1 (H22.ev 16 rfl) (pr1 (H22.ev 18 rfl) (pr0)))) (Lz := [bytesV (zer 32), [.int .i64 0], [.int .i64 0], bytesV (zer 32)]) (by kernel_rfl) (lens_cons (len_bv (length_zer 32)) (lens_cons rfl (lens_cons rfl (lens_cons (len_bv (length_zer 32)) (lens_nil))))) (fit_cons (i := 0) rfl ((size_bs _).trans (length_sha _)) (fit_cons (i := 1) rfl rfl (fit_cons (i := 2) rfl rfl (fit_nil)))) (cs := catA [bytesV (sha q), [.int .i64 i], [.int .i64 e], bytesV (zer 32)]) rfl) fun _ H24 => h1_ 9 rfl <| t_ rfl (fun _ h => dd_setrow HS22 4 rfl rfl (H24.ev 7 rfl) (H24.ev 19 rfl) (by kernel_rfl) ((cat_size (lens_cons (len_bv (length_sha _)) (lens_cons rfl (lens_cons rfl (lens_cons (len_bv (length_zer 32)) (lens_nil)))))) : (catA [bytesV (sha q), [.int .i64 i], [.int .i64 e], bytesV (zer 32)]).size = 66) ((cat_size (lens_cons (len_bv (length_zer 32)) (lens_cons rfl (lens_cons rfl (lens_cons (len_bv (length_zer 32)) (lens_nil)))))) : (catA [bytesV (zer 32), [.int .i64 0], [.int .i64 0], bytesV (zer 32)]).size = 66) (cat_one (ones_cons (one_bytesV _) (ones_cons (ones_c rfl) (ones_cons (ones_c rfl) (ones_cons (one_bytesV _) (ones_nil)))))) h) fun _ HS25 => sx_ (sxi HS25 [0, 1, 2, 3, 4] rfl) fun hx26 => ?_
    clear HS11 H11 H20 HS20 hx21 H22 HS22 hx23
    refine wpAnyH_done (by kernel_rfl) ?_ _
    clear hx26
    exact nx ⟨g7, _, H24.sel [0, 7] rfl, ss HS25 [0, 1, 2, 3, 4]⟩
   refine ho_ rfl <| n_ H10 rfl (fun _ h => dd_new HSh5 (catA [bytesV (zer 32), [.int .i64 0], [.int .i64 0], bytesV (zer 32)]) rfl (z := .agg (catA [bytesV (zer 32), [.int .i64 0], [.int .i64 0], bytesV (zer 32)])) (by kernel_rfl) rfl h) fun g7 _ HS27 _ H27 => sx_ (sxi HS27 [0, 1, 2, 3] rfl) fun hx28 => h1_ 1 rfl <| n_ H27 rfl (fun _ h => dd_lits HS27 #[.slice Aq nq cq] rfl (ps := [(0, .slice Aq nq cq)]) (pr1 (H27.ev 12 rfl) (pr0)) (z := .slice none 0 0) (sz := 1) Tryd.underlying67 (by kernel_rfl) rfl rfl (by kernel_rfl) h) fun g13 W29 HS29 _ H29 => sx_ (sxi HS29 [0, 1, 2, 3, 4] rfl) fun hx30 => h1_ 2 rfl <| c_ H29 rfl HS29 (dcs Tryd.func25 rfl (args1 (H29.ev 13 rfl)) (sum_one q _ W29 (HT _ HS29.chg) (parts_one1 (HS29.row 4 rfl) (HQ _ HS29.chg)) (by rw [hq]; omega)) (.agg (bs (sha q)))) fun _ HS31 _ H31 => sx_ (sxi HS31 [0, 1, 2, 3, 4] rfl) fun hx32 => ht_ H31 7 hx32 rfl rfl (v := .agg (catA [bytesV (sha q), [.int .i64 i], [.int .i64 e], bytesV (zer 32)])) (fun _ _ _ => dd_bld rfl (ps := [(0, .agg (bs (sha q))), (1, .int .i64 i), (2, .int .i64 e)]) (pr1 (H31.ev 14 rfl) (pr1 (H31.ev 16 rfl) (pr1 (H31.ev 18 rfl) (pr0)))) (Lz := [bytesV (zer 32), [.int .i64 0], [.int .i64 0], bytesV (zer 32)]) (by kernel_rfl) (lens_cons (len_bv (length_zer 32)) (lens_cons rfl (lens_cons rfl (lens_cons (len_bv (length_zer 32)) (lens_nil))))) (fit_cons (i := 0) rfl ((size_bs _).trans (length_sha _)) (fit_cons (i := 1) rfl rfl (fit_cons (i := 2) rfl rfl (fit_nil)))) (cs := catA [bytesV (sha q), [.int .i64 i], [.int .i64 e], bytesV (zer 32)]) rfl) fun _ H33 => h1_ 9 rfl <| t_ rfl (fun _ h => dd_setrow HS31 3 rfl rfl (H33.ev 7 rfl) (H33.ev 19 rfl) (by kernel_rfl) ((cat_size (lens_cons (len_bv (length_sha _)) (lens_cons rfl (lens_cons rfl (lens_cons (len_bv (length_zer 32)) (lens_nil)))))) : (catA [bytesV (sha q), [.int .i64 i], [.int .i64 e], bytesV (zer 32)]).size = 66) ((cat_size (lens_cons (len_bv (length_zer 32)) (lens_cons rfl (lens_cons rfl (lens_cons (len_bv (length_zer 32)) (lens_nil)))))) : (catA [bytesV (zer 32), [.int .i64 0], [.int .i64 0], bytesV (zer 32)]).size = 66) (cat_one (ones_cons (one_bytesV _) (ones_cons (ones_c rfl) (ones_cons (ones_c rfl) (ones_cons (one_bytesV _) (ones_nil)))))) h) fun _ HS34 => ?_
   clear HSh5 H10 HS27 H27 hx28 H29 HS29 hx30 H31
   refine sx_ (sxi HS34 [0, 1, 2, 3, 4] rfl) fun hx35 => ?_
   clear HS31 hx32
   refine wpAnyH_done (by kernel_rfl) ?_ _
   clear hx35
   exact nx ⟨g7, _, H33.sel [0, 7] rfl, ss HS34 [0, 1, 2, 4, 3]⟩
  rintro aj5 wj5 ⟨g7, g13, Hj5, HSj5⟩
  refine nx <| sq_ <| rl_ <| wl_ <| i_ Hj5 rfl (v := .agg (catA [bytesV (sha q), [.int .i64 i], [.int .i64 e], bytesV (zer 32)])) (dd_load HSj5 4 0 rfl rfl (Hj5.ev 7 rfl) (slab_whole _) Tryd.underlying59 rfl (by rw [show (catA [bytesV (sha q), [.int .i64 i], [.int .i64 e], bytesV (zer 32)]).size = 66 from (cat_size (lens_cons (len_bv (length_sha _)) (lens_cons rfl (lens_cons rfl (lens_cons (len_bv (length_zer 32)) (lens_nil))))))]; kernel_rfl)) fun _ H37 => ?_
  clear Hj5
  refine wl_ <| d_ H37 rfl (R := fun v w9 => ∃ gc39 cc39 cbc39, v = .tuple #[.slice (some ⟨gc39, 0, none⟩) 40 cc39, .int .i64 0] ∧ (wj5.heap.size ≤ gc39) ∧ (Row w9 gc39 5 cbc39) ∧ (OwnC cbc39 cc39 40 1 (bytesV (recA (sha q) i e))) ∧ Below wj5.heap.size wj5 w9) (dc_ Tryd.func26 rfl (args1 (H37.ev 21 rfl)) (audent_good (sha q) i e (zer 32) wj5 (length_sha _) (length_zer 32) hc) (fun _ w9 ⟨g9, c9, cb9, he, h1, h2, h3, hb⟩ => ⟨_, he, g9, c9, cb9, rfl, h1, h2, h3, hb⟩)) ?_
  rintro _ W38 ⟨gc39, cc39, cbc39, rfl, hg39, hr39, Oc39, hb38⟩ a38 H38
  have HS38 := HSj5.same hb38
  clear H37
  have HS38j : St w F [⟨g, 30, #[.slice (some ⟨ge, 0, none⟩) (K + 1) c]⟩, ⟨ge, 59, cb⟩, ⟨g5, 38, #[.int .i64 i, .int .i64 e, u]⟩, ⟨g13, 35, #[.slice Aq nq cq]⟩, ⟨g7, 59, catA [bytesV (sha q), [.int .i64 i], [.int .i64 e], bytesV (zer 32)]⟩, ⟨gc39, 5, cbc39⟩] W38 := HSj5.joins hb38 hr39 hg39
  clear HS38 hr39 hg39
  clear HSj5 hb38
  refine wl_ <| p_ H38 rfl rfl fun _ H40 => wl_ <| i_ H40 rfl (v := .slice (some ⟨gc39, 0, none⟩) 40 cc39) (dd_ext rfl (H40.ev 20 rfl) rfl) fun _ H41 => wl_ <| i_ H41 rfl (v := .int .i64 0) (dd_ext rfl (H41.ev 20 rfl) rfl) fun _ H42 => q_ H42 2 rfl fun _ H43 => ln_ <| nx <| sq_ <| sq_ <| rl_ <| wl_ <| p_ H43 rfl rfl fun _ H44 => wl_ <| i_ H44 rfl (dd_cmp rfl (H44.ev 25 rfl) rfl (ne_f (by decide))) fun _ H45 => ln_ <| nx <| cf_ H45 rfl <| wp_skip <| nx <| sq_ <| rl_ <| wl_ <| p_ H45 rfl rfl fun _ H46 => wl_ <| c_ H46 rfl HS38j (dcs Tryd.func13 rfl (args1 (H46.ev 28 rfl)) (audlast_pos _ _ K _ X W38 (HS38j.row 0 rfl) (cat_own (HS38j.row 1 rfl) O) hn hw hm) (.agg (bs (lk X (K + 1))))) fun _ HS47 _ H47 => ?_
  clear H38 H40 H41 H42 H43 H44 H45
  refine wl_ <| p_ H47 rfl rfl fun _ H48 => wl_ <| n_ H48 rfl (S := fun g31 => [⟨g, 30, #[.slice (some ⟨ge, 0, none⟩) (K + 1) c]⟩, ⟨ge, 59, cb⟩, ⟨g5, 38, #[.int .i64 i, .int .i64 e, u]⟩, ⟨g13, 35, #[.slice Aq nq cq]⟩, ⟨g7, 59, catA [bytesV (sha q), [.int .i64 i], [.int .i64 e], bytesV (zer 32)]⟩, ⟨gc39, 5, cbc39⟩, ⟨g31, 35, #[.slice (some ⟨gc39, 0, none⟩) 40 cc39]⟩]) (fun _ h => dd_lits HS47 #[.slice (some ⟨gc39, 0, none⟩) 40 cc39] rfl (ps := [(0, .slice (some ⟨gc39, 0, none⟩) 40 cc39)]) (pr1 (H48.ev 30 rfl) (pr0)) (z := .slice none 0 0) (sz := 1) Tryd.underlying67 (by kernel_rfl) rfl rfl (by kernel_rfl) h) fun g31 W49 HS49 _ H49 => wl_ <| c_ H49 rfl HS49 (dcs Tryd.func24 rfl (args2 (H49.ev 29 rfl) (H49.ev 31 rfl)) (step_one (lk X (K + 1)) (recA (sha q) i e) _ W49 (HT _ HS49.chg) (length_lk hw _) (parts_one1 (HS49.row 6 rfl) (slice_own (HS49.row 5 rfl) Oc39 (length_recA (length_sha _)))) (by rw [(length_recA (length_sha _))]; decide) (nextL (lk X (K + 1)) (sha q, i, e, [])) rfl) (.agg (bs (nextL (lk X (K + 1)) (sha q, i, e, []))))) fun _ HS50 _ H50 => wl_ <| i_ H50 rfl (xf 34 34 rfl (H50.ev 7 rfl)) fun _ H51 => wl_ <| t_ rfl (S := [⟨g, 30, #[.slice (some ⟨ge, 0, none⟩) (K + 1) c]⟩, ⟨ge, 59, cb⟩, ⟨g5, 38, #[.int .i64 i, .int .i64 e, u]⟩, ⟨g13, 35, #[.slice Aq nq cq]⟩, ⟨g7, 59, catA [bytesV (sha q), [.int .i64 i], [.int .i64 e], bytesV (nextL (lk X (K + 1)) (sha q, i, e, []))]⟩, ⟨gc39, 5, cbc39⟩, ⟨g31, 35, #[.slice (some ⟨gc39, 0, none⟩) 40 cc39]⟩]) (fun _ h => dd_setpart HS50 4 34 3 rfl (lens_cons (len_bv (length_sha _)) (lens_cons rfl (lens_cons rfl (lens_cons (len_bv (length_zer 32)) (lens_nil))))) rfl (H51.ev 33 rfl) (H51.ev 32 rfl) (by kernel_rfl) ((size_bs _).trans (len_next _ _)) rfl rfl (one_bs _) h) fun _ HS52 => ln_ <| nx <| sq_ <| ?_
  clear H46 HS38j H47 HS47 H48 H49 HS49 H50 HS50
  refine wp_cut (fun a9 w9 => ∃ g41_64 : Nat, ∃ c41_64 : Nat, ∃ g40 : Nat, ∃ cb41_64 : Array Value, OwnC cb41_64 c41_64 (K + 1 + 1) 66 ((entsL X) ++ (catA [bytesV (sha q), [.int .i64 i], [.int .i64 e], bytesV (nextL (lk X (K + 1)) (sha q, i, e, []))]).toList) ∧ En 44 [] a9 ∧ St w F [⟨g, 30, #[.slice (some ⟨g41_64, 0, none⟩) (K + 1 + 1) c41_64]⟩, ⟨g5, 38, #[.int .i64 i, .int .i64 e, u]⟩, ⟨g13, 35, #[.slice Aq nq cq]⟩, ⟨g7, 59, catA [bytesV (sha q), [.int .i64 i], [.int .i64 e], bytesV (nextL (lk X (K + 1)) (sha q, i, e, []))]⟩, ⟨gc39, 5, cbc39⟩, ⟨g31, 35, #[.slice (some ⟨gc39, 0, none⟩) 40 cc39]⟩, ⟨g40, 59, catA [bytesV (sha q), [.int .i64 i], [.int .i64 e], bytesV (nextL (lk X (K + 1)) (sha q, i, e, []))]⟩, ⟨g41_64, 59, cb41_64⟩] w9) ?_ ?_
  ·
   refine wi_ HS52 [2, 3, 4, 6] rfl [2, 3, 4, 6, 0, 1, 5] rfl fun HSh53 hx53 => hp_ H51 0 hx53 rfl rfl rfl fun _ H54 => hp_ H54 1 hx53 rfl rfl rfl fun _ H55 => ht_ H55 2 hx53 rfl rfl (fun _ _ _ => dd_nilc rfl (H55.ev 35 rfl)) fun _ H56 => ht_ H56 3 hx53 rfl rfl (fun _ _ _ => xf 0 0 rfl (H56.ev 36 rfl)) fun _ H57 => ht_ H57 5 hx53 rfl rfl (v := .agg (catA [bytesV (sha q), [.int .i64 i], [.int .i64 e], bytesV (nextL (lk X (K + 1)) (sha q, i, e, []))])) (fun _ _ HS9 => dd_load HS9 2 0 rfl rfl (H57.ev 7 rfl) (slab_whole _) Tryd.underlying59 rfl (by rw [show (catA [bytesV (sha q), [.int .i64 i], [.int .i64 e], bytesV (nextL (lk X (K + 1)) (sha q, i, e, []))]).size = 66 from (cat_size (lens_cons (len_bv (length_sha _)) (lens_cons rfl (lens_cons rfl (lens_cons (len_bv (len_next _ _)) (lens_nil))))))]; kernel_rfl)) fun _ H58 => ?_
   clear HS52 H51 H54 H55 H56 H57
   refine wpAnyH_all (rs := [4, 6]) (by kernel_rfl) (by decide) (hm_cons ?_ (hm_cons ?_ hm_nil))
   ·
    refine ho_ rfl <| i_ H58 rfl (dd_get HSh53 0 0 rfl rfl (H58.ev 37 rfl) rfl Tryd.underlying28 rfl) fun _ H59 => sx_ (sxi HSh53 [2, 3, 4, 6, 0, 1, 5] rfl) fun hx60 => h1_ 6 rfl <| n_ H59 rfl (fun _ h => dd_lit1 HSh53 (z := .agg (catA [bytesV (zer 32), [.int .i64 0], [.int .i64 0], bytesV (zer 32)])) (sz := 66) rfl (H59.ev 39 rfl) Tryd.underlying28 (by kernel_rfl) (cat_size (lens_cons (len_bv (length_sha _)) (lens_cons rfl (lens_cons rfl (lens_cons (len_bv (len_next _ _)) (lens_nil)))))) rfl rfl h) fun g40 _ HS61 _ H61 => sx_ (sxi HS61 [2, 3, 4, 6, 0, 1, 5, 7] rfl) fun hx62 => h1_ 7 rfl <| a_ H61 rfl (fun g41_64 c41_64 => .slice (some ⟨g41_64, 0, none⟩) (K + 1 + 1) c41_64) (T := fun _ c41_64 cb41_64 => OwnC cb41_64 c41_64 (K + 1 + 1) 66 ((entsL X) ++ (catA [bytesV (sha q), [.int .i64 i], [.int .i64 e], bytesV (nextL (lk X (K + 1)) (sha q, i, e, []))]).toList)) (fun _ h => dd_app HS61 1 rfl O rfl (H61.ev 38 rfl) (z := .agg (catA [bytesV (zer 32), [.int .i64 0], [.int .i64 0], bytesV (zer 32)])) (bytes := 80) Tryd.underlying28 (by kernel_rfl) rfl (by decide) ((catA [bytesV (sha q), [.int .i64 i], [.int .i64 e], bytesV (nextL (lk X (K + 1)) (sha q, i, e, []))]).toList) (H61.ev 40 rfl) (lenA (cat_size (lens_cons (len_bv (length_sha _)) (lens_cons rfl (lens_cons rfl (lens_cons (len_bv (len_next _ _)) (lens_nil))))))) (row_news (HS61.row 7 rfl) 0 (slabA (slab_whole _))) (all_one (cat_one (ones_cons (one_bytesV _) (ones_cons (ones_c rfl) (ones_cons (ones_c rfl) (ones_cons (one_bytesV _) (ones_nil))))))) (by unfold maxLen; omega) (by omega) h) fun g41_64 c41_64 cb41_64 _ O41_64 HS63 _ H63 => sx_ (sxi HS63 [1, 2, 3, 5, 0, 4, 6, 7] rfl) fun hx65 => ht_ H63 8 hx65 rfl rfl (fun _ _ _ => dd_nilc rfl (H63.ev 34 rfl)) fun _ H66 => ht_ H66 9 hx65 rfl rfl (fun _ _ _ => xf 0 0 rfl (H66.ev 42 rfl)) fun _ H67 => ?_
    clear H58 HSh53 H59 hx60 HS61 H61 hx62 H63
    refine h1_ 10 rfl <| t_ rfl (fun _ h => dd_put (cs := #[.slice (some ⟨g41_64, 0, none⟩) (K + 1 + 1) c41_64]) HS63 0 0 rfl rfl (H67.ev 43 rfl) (H67.ev 41 rfl) (by kernel_rfl) rfl rfl rfl rfl h) fun _ HS68 => sx_ (sxi HS68 [1, 2, 3, 5, 0, 4, 6, 7] rfl) fun hx69 => ?_
    clear H66 HS63 hx65
    refine wpAnyH_done (by kernel_rfl) ?_ _
    clear hx69
    exact nx ⟨g41_64, c41_64, _, cb41_64, O41_64, H67.sel [] rfl, ss HS68 [0, 1, 2, 3, 4, 5, 6, 7]⟩
   refine ho_ rfl <| n_ H58 rfl (fun _ h => dd_lit1 HSh53 (z := .agg (catA [bytesV (zer 32), [.int .i64 0], [.int .i64 0], bytesV (zer 32)])) (sz := 66) rfl (H58.ev 39 rfl) Tryd.underlying28 (by kernel_rfl) (cat_size (lens_cons (len_bv (length_sha _)) (lens_cons rfl (lens_cons rfl (lens_cons (len_bv (len_next _ _)) (lens_nil)))))) rfl rfl h) fun g40 _ HS70 _ H70 => sx_ (sxi HS70 [2, 3, 4, 6, 0, 1, 5, 7] rfl) fun hx71 => h1_ 4 rfl <| i_ H70 rfl (dd_get HS70 0 0 rfl rfl (H70.ev 37 rfl) rfl Tryd.underlying28 rfl) fun _ H72 => sx_ (sxi HS70 [2, 3, 4, 6, 0, 1, 5, 7] rfl) fun hx73 => h1_ 7 rfl <| a_ H72 rfl (fun g41_75 c41_75 => .slice (some ⟨g41_75, 0, none⟩) (K + 1 + 1) c41_75) (T := fun _ c41_75 cb41_75 => OwnC cb41_75 c41_75 (K + 1 + 1) 66 ((entsL X) ++ (catA [bytesV (sha q), [.int .i64 i], [.int .i64 e], bytesV (nextL (lk X (K + 1)) (sha q, i, e, []))]).toList)) (fun _ h => dd_app HS70 1 rfl O rfl (H72.ev 38 rfl) (z := .agg (catA [bytesV (zer 32), [.int .i64 0], [.int .i64 0], bytesV (zer 32)])) (bytes := 80) Tryd.underlying28 (by kernel_rfl) rfl (by decide) ((catA [bytesV (sha q), [.int .i64 i], [.int .i64 e], bytesV (nextL (lk X (K + 1)) (sha q, i, e, []))]).toList) (H72.ev 40 rfl) (lenA (cat_size (lens_cons (len_bv (length_sha _)) (lens_cons rfl (lens_cons rfl (lens_cons (len_bv (len_next _ _)) (lens_nil))))))) (row_news (HS70.row 7 rfl) 0 (slabA (slab_whole _))) (all_one (cat_one (ones_cons (one_bytesV _) (ones_cons (ones_c rfl) (ones_cons (ones_c rfl) (ones_cons (one_bytesV _) (ones_nil))))))) (by unfold maxLen; omega) (by omega) h) fun g41_75 c41_75 cb41_75 _ O41_75 HS74 _ H74 => sx_ (sxi HS74 [1, 2, 3, 5, 0, 4, 6, 7] rfl) fun hx76 => ht_ H74 8 hx76 rfl rfl (fun _ _ _ => dd_nilc rfl (H74.ev 34 rfl)) fun _ H77 => ht_ H77 9 hx76 rfl rfl (fun _ _ _ => xf 0 0 rfl (H77.ev 42 rfl)) fun _ H78 => ?_
   clear HSh53 H58 H70 hx71 HS70 H72 hx73 H74
   refine h1_ 10 rfl <| t_ rfl (fun _ h => dd_put (cs := #[.slice (some ⟨g41_75, 0, none⟩) (K + 1 + 1) c41_75]) HS74 0 0 rfl rfl (H78.ev 43 rfl) (H78.ev 41 rfl) (by kernel_rfl) rfl rfl rfl rfl h) fun _ HS79 => sx_ (sxi HS79 [1, 2, 3, 5, 0, 4, 6, 7] rfl) fun hx80 => ?_
   clear H77 HS74 hx76
   refine wpAnyH_done (by kernel_rfl) ?_ _
   clear hx80
   exact nx ⟨g41_75, c41_75, _, cb41_75, O41_75, H78.sel [] rfl, ss HS79 [0, 1, 2, 3, 4, 5, 6, 7]⟩
  rintro aj53 wj53 ⟨g41_64, c41_64, g40, cb41_64, O41_64, Hj53, HSj53⟩
  refine nx <| sq_ <| rl_ <| wl_ <| p_ Hj53 rfl rfl fun _ H82 => ln_ <| nx <| wp_ret <| ret_run H82.env0 (res_t Tryd.results11 (H82.get 6 rfl)) <| ?_
  clear Hj53
  exact ⟨g41_64, c41_64, cb41_64, rfl, (by rw [ents_snoc]; exact O41_64), ss HSj53 [0, 7]⟩
set_option maxHeartbeats 1600000 in
theorem audadd_first (F : Nat → Prop) (g : Nat) (Aq : Option Addr) (nq cq : Nat) (q : List (BitVec 8)) (i e : Int) (u : Value) (w : World) (HS : St w F [⟨g, 30, #[.slice none 0 0]⟩] w) (hT : Tab w) (hF0 : ¬ F 0) (HQ : ∀ W, Chg F w W → Slice W (.slice Aq nq cq) q) (hq : q.length = nq) (hnq : nq ≤ 1000000) (hc : mayR i e 0 = true) :
    Calls Tryd.prog 11 #[.pointer (some ⟨g, 0, none⟩), .slice Aq nq cq, .agg #[.int .i64 i, .int .i64 e, u]] w fun x w' => ∃ ge' c' cb', x = .returned (.int .i64 0) ∧ OwnC cb' c' 1 66 (entsL ([] ++ [mkA [] q i e])) ∧ St w F [⟨g, 30, #[.slice (some ⟨ge', 0, none⟩) 1 c']⟩, ⟨ge', 59, cb'⟩] w' := by
  have HT : ∀ W, Chg F w W → Tab W := fun W k i hi => (k.cellF (p := ⟨0, i, none⟩) hT.pos hF0).trans (hT i hi)
  refine enter_en Tryd.func11 rfl Tryd.ntmps11 (Nat.le_of_ble_eq_true rfl) fun a0 (HA0 : En 44 [(0, .pointer (some ⟨g, 0, none⟩)), (1, .slice Aq nq cq), (2, .agg #[.int .i64 i, .int .i64 e, u])] a0) => ?_
  refine sq_ <| rl_ <| wl_ <| n_ HA0 rfl (fun _ h => dd_box HS rfl (HA0.ev 2 rfl) (cs := #[.int .i64 i, .int .i64 e, u]) rfl h) fun g5 _ HS1 _ H1 => wl_ <| p_ H1 rfl rfl fun _ H2 => ln_ <| nx <| sq_ <| sq_ <| rl_ <| wl_ <| p_ H2 rfl rfl fun _ H3 => wl_ <| i_ H3 rfl (v := .bool false) (dd_eqp rfl (H3.ev 10 rfl) rfl Tryd.underlying27 rfl) fun _ H4 => ln_ <| nx <| cf_ H4 rfl <| wp_skip <| nx <| sq_ <| ?_
  clear HS HA0 H1 H2 H3
  refine wp_cut (fun a9 w9 => ∃ g7 : Nat, ∃ g13 : Nat, En 44 [(7, .pointer (some ⟨g7, 0, none⟩)), (0, .pointer (some ⟨g, 0, none⟩))] a9 ∧ St w F [⟨g, 30, #[.slice none 0 0]⟩, ⟨g5, 38, #[.int .i64 i, .int .i64 e, u]⟩, ⟨g13, 35, #[.slice Aq nq cq]⟩, ⟨g7, 59, catA [bytesV (sha q), [.int .i64 i], [.int .i64 e], bytesV (zer 32)]⟩] w9) ?_ ?_
  ·
   refine wi_ HS1 [0, 1] rfl [0, 1] rfl fun HSh5 hx5 => hp_ H4 0 hx5 rfl rfl rfl fun _ H6 => ht_ H6 3 hx5 rfl rfl (fun _ _ _ => xf 0 0 rfl (H6.ev 5 rfl)) fun _ H7 => ht_ H7 4 hx5 rfl rfl (fun _ _ HS9 => dd_get HS9 1 0 rfl rfl (H7.ev 15 rfl) rfl Tryd.underlying3 rfl) fun _ H8 => ht_ H8 5 hx5 rfl rfl (fun _ _ _ => xf 1 1 rfl (H8.ev 5 rfl)) fun a9 H9 => ht_ H9 6 hx5 rfl rfl (fun _ _ HS9 => dd_get HS9 1 1 rfl rfl (H9.ev 17 rfl) rfl Tryd.underlying36 rfl) fun _ H10 => ?_
   clear HS1 H4 H6 H7 H8 H9
   refine wpAnyH_all (rs := [1, 8]) (by kernel_rfl) (by decide) (hm_cons ?_ (hm_cons ?_ hm_nil))
   ·
    refine ho_ rfl <| n_ H10 rfl (fun _ h => dd_lits HSh5 #[.slice Aq nq cq] rfl (ps := [(0, .slice Aq nq cq)]) (pr1 (H10.ev 12 rfl) (pr0)) (z := .slice none 0 0) (sz := 1) Tryd.underlying67 (by kernel_rfl) rfl rfl (by kernel_rfl) h) fun g13 W11 HS11 _ H11 => sx_ (sxi HS11 [0, 1, 2] rfl) fun _ => ?_
    clear HSh5 H10
    refine wpAnyH_all (rs := [2, 8]) (by kernel_rfl) (by decide) (hm_cons ?_ (hm_cons ?_ hm_nil))
    ·
     refine ho_ rfl <| c_ H11 rfl HS11 (dcs Tryd.func25 rfl (args1 (H11.ev 13 rfl)) (sum_one q _ W11 (HT _ HS11.chg) (parts_one1 (HS11.row 2 rfl) (HQ _ HS11.chg)) (by rw [hq]; omega)) (.agg (bs (sha q)))) fun _ HS13 _ H13 => sx_ (sxi HS13 [0, 1, 2] rfl) fun hx14 => ht_ H13 7 hx14 rfl rfl (v := .agg (catA [bytesV (sha q), [.int .i64 i], [.int .i64 e], bytesV (zer 32)])) (fun _ _ _ => dd_bld rfl (ps := [(0, .agg (bs (sha q))), (1, .int .i64 i), (2, .int .i64 e)]) (pr1 (H13.ev 14 rfl) (pr1 (H13.ev 16 rfl) (pr1 (H13.ev 18 rfl) (pr0)))) (Lz := [bytesV (zer 32), [.int .i64 0], [.int .i64 0], bytesV (zer 32)]) (by kernel_rfl) (lens_cons (len_bv (length_zer 32)) (lens_cons rfl (lens_cons rfl (lens_cons (len_bv (length_zer 32)) (lens_nil))))) (fit_cons (i := 0) rfl ((size_bs _).trans (length_sha _)) (fit_cons (i := 1) rfl rfl (fit_cons (i := 2) rfl rfl (fit_nil)))) (cs := catA [bytesV (sha q), [.int .i64 i], [.int .i64 e], bytesV (zer 32)]) rfl) fun _ H15 => h1_ 8 rfl <| n_ H15 rfl (fun _ h => dd_new HS13 (catA [bytesV (zer 32), [.int .i64 0], [.int .i64 0], bytesV (zer 32)]) rfl (z := .agg (catA [bytesV (zer 32), [.int .i64 0], [.int .i64 0], bytesV (zer 32)])) (by kernel_rfl) rfl h) fun g7 _ HS16 _ H16 => sx_ (sxi HS16 [0, 1, 2, 3] rfl) fun hx17 => h1_ 9 rfl <| t_ rfl (fun _ h => dd_setrow HS16 3 rfl rfl (H16.ev 7 rfl) (H16.ev 19 rfl) (by kernel_rfl) ((cat_size (lens_cons (len_bv (length_sha _)) (lens_cons rfl (lens_cons rfl (lens_cons (len_bv (length_zer 32)) (lens_nil)))))) : (catA [bytesV (sha q), [.int .i64 i], [.int .i64 e], bytesV (zer 32)]).size = 66) ((cat_size (lens_cons (len_bv (length_zer 32)) (lens_cons rfl (lens_cons rfl (lens_cons (len_bv (length_zer 32)) (lens_nil)))))) : (catA [bytesV (zer 32), [.int .i64 0], [.int .i64 0], bytesV (zer 32)]).size = 66) (cat_one (ones_cons (one_bytesV _) (ones_cons (ones_c rfl) (ones_cons (ones_c rfl) (ones_cons (one_bytesV _) (ones_nil)))))) h) fun _ HS18 => sx_ (sxi HS18 [0, 1, 2, 3] rfl) fun hx19 => ?_
     clear H11 HS11 H13 HS13 H15 hx14 HS16 hx17
     refine wpAnyH_done (by kernel_rfl) ?_ _
     clear hx19
     exact nx ⟨g7, _, H16.sel [0, 7] rfl, ss HS18 [0, 1, 2, 3]⟩
    refine ho_ rfl <| n_ H11 rfl (fun _ h => dd_new HS11 (catA [bytesV (zer 32), [.int .i64 0], [.int .i64 0], bytesV (zer 32)]) rfl (z := .agg (catA [bytesV (zer 32), [.int .i64 0], [.int .i64 0], bytesV (zer 32)])) (by kernel_rfl) rfl h) fun g7 W20 HS20 _ H20 => sx_ (sxi HS20 [0, 1, 2, 3] rfl) fun hx21 => h1_ 2 rfl <| c_ H20 rfl HS20 (dcs Tryd.func25 rfl (args1 (H20.ev 13 rfl)) (sum_one q _ W20 (HT _ HS20.chg) (parts_one1 (HS20.row 2 rfl) (HQ _ HS20.chg)) (by rw [hq]; omega)) (.agg (bs (sha q)))) fun _ HS22 _ H22 => sx_ (sxi HS22 [0, 1, 2, 3] rfl) fun hx23 => ht_ H22 7 hx23 rfl rfl (v := .agg (catA [bytesV (sha q), [.int .i64 i], [.int .i64 e], bytesV (zer 32)])) (fun _ _ _ => dd_bld rfl (ps := [(0, .agg (bs (sha q))), (1, .int .i64 i), (2, .int .i64 e)]) (pr1 (H22.ev 14 rfl) (pr1 (H22.ev 16 rfl) (pr1 (H22.ev 18 rfl) (pr0)))) (Lz := [bytesV (zer 32), [.int .i64 0], [.int .i64 0], bytesV (zer 32)]) (by kernel_rfl) (lens_cons (len_bv (length_zer 32)) (lens_cons rfl (lens_cons rfl (lens_cons (len_bv (length_zer 32)) (lens_nil))))) (fit_cons (i := 0) rfl ((size_bs _).trans (length_sha _)) (fit_cons (i := 1) rfl rfl (fit_cons (i := 2) rfl rfl (fit_nil)))) (cs := catA [bytesV (sha q), [.int .i64 i], [.int .i64 e], bytesV (zer 32)]) rfl) fun _ H24 => h1_ 9 rfl <| t_ rfl (fun _ h => dd_setrow HS22 3 rfl rfl (H24.ev 7 rfl) (H24.ev 19 rfl) (by kernel_rfl) ((cat_size (lens_cons (len_bv (length_sha _)) (lens_cons rfl (lens_cons rfl (lens_cons (len_bv (length_zer 32)) (lens_nil)))))) : (catA [bytesV (sha q), [.int .i64 i], [.int .i64 e], bytesV (zer 32)]).size = 66) ((cat_size (lens_cons (len_bv (length_zer 32)) (lens_cons rfl (lens_cons rfl (lens_cons (len_bv (length_zer 32)) (lens_nil)))))) : (catA [bytesV (zer 32), [.int .i64 0], [.int .i64 0], bytesV (zer 32)]).size = 66) (cat_one (ones_cons (one_bytesV _) (ones_cons (ones_c rfl) (ones_cons (ones_c rfl) (ones_cons (one_bytesV _) (ones_nil)))))) h) fun _ HS25 => sx_ (sxi HS25 [0, 1, 2, 3] rfl) fun hx26 => ?_
    clear HS11 H11 H20 HS20 hx21 H22 HS22 hx23
    refine wpAnyH_done (by kernel_rfl) ?_ _
    clear hx26
    exact nx ⟨g7, _, H24.sel [0, 7] rfl, ss HS25 [0, 1, 2, 3]⟩
   refine ho_ rfl <| n_ H10 rfl (fun _ h => dd_new HSh5 (catA [bytesV (zer 32), [.int .i64 0], [.int .i64 0], bytesV (zer 32)]) rfl (z := .agg (catA [bytesV (zer 32), [.int .i64 0], [.int .i64 0], bytesV (zer 32)])) (by kernel_rfl) rfl h) fun g7 _ HS27 _ H27 => sx_ (sxi HS27 [0, 1, 2] rfl) fun hx28 => h1_ 1 rfl <| n_ H27 rfl (fun _ h => dd_lits HS27 #[.slice Aq nq cq] rfl (ps := [(0, .slice Aq nq cq)]) (pr1 (H27.ev 12 rfl) (pr0)) (z := .slice none 0 0) (sz := 1) Tryd.underlying67 (by kernel_rfl) rfl rfl (by kernel_rfl) h) fun g13 W29 HS29 _ H29 => sx_ (sxi HS29 [0, 1, 2, 3] rfl) fun hx30 => h1_ 2 rfl <| c_ H29 rfl HS29 (dcs Tryd.func25 rfl (args1 (H29.ev 13 rfl)) (sum_one q _ W29 (HT _ HS29.chg) (parts_one1 (HS29.row 3 rfl) (HQ _ HS29.chg)) (by rw [hq]; omega)) (.agg (bs (sha q)))) fun _ HS31 _ H31 => sx_ (sxi HS31 [0, 1, 2, 3] rfl) fun hx32 => ht_ H31 7 hx32 rfl rfl (v := .agg (catA [bytesV (sha q), [.int .i64 i], [.int .i64 e], bytesV (zer 32)])) (fun _ _ _ => dd_bld rfl (ps := [(0, .agg (bs (sha q))), (1, .int .i64 i), (2, .int .i64 e)]) (pr1 (H31.ev 14 rfl) (pr1 (H31.ev 16 rfl) (pr1 (H31.ev 18 rfl) (pr0)))) (Lz := [bytesV (zer 32), [.int .i64 0], [.int .i64 0], bytesV (zer 32)]) (by kernel_rfl) (lens_cons (len_bv (length_zer 32)) (lens_cons rfl (lens_cons rfl (lens_cons (len_bv (length_zer 32)) (lens_nil))))) (fit_cons (i := 0) rfl ((size_bs _).trans (length_sha _)) (fit_cons (i := 1) rfl rfl (fit_cons (i := 2) rfl rfl (fit_nil)))) (cs := catA [bytesV (sha q), [.int .i64 i], [.int .i64 e], bytesV (zer 32)]) rfl) fun _ H33 => h1_ 9 rfl <| t_ rfl (fun _ h => dd_setrow HS31 2 rfl rfl (H33.ev 7 rfl) (H33.ev 19 rfl) (by kernel_rfl) ((cat_size (lens_cons (len_bv (length_sha _)) (lens_cons rfl (lens_cons rfl (lens_cons (len_bv (length_zer 32)) (lens_nil)))))) : (catA [bytesV (sha q), [.int .i64 i], [.int .i64 e], bytesV (zer 32)]).size = 66) ((cat_size (lens_cons (len_bv (length_zer 32)) (lens_cons rfl (lens_cons rfl (lens_cons (len_bv (length_zer 32)) (lens_nil)))))) : (catA [bytesV (zer 32), [.int .i64 0], [.int .i64 0], bytesV (zer 32)]).size = 66) (cat_one (ones_cons (one_bytesV _) (ones_cons (ones_c rfl) (ones_cons (ones_c rfl) (ones_cons (one_bytesV _) (ones_nil)))))) h) fun _ HS34 => ?_
   clear HSh5 H10 HS27 H27 hx28 H29 HS29 hx30 H31
   refine sx_ (sxi HS34 [0, 1, 2, 3] rfl) fun hx35 => ?_
   clear HS31 hx32
   refine wpAnyH_done (by kernel_rfl) ?_ _
   clear hx35
   exact nx ⟨g7, _, H33.sel [0, 7] rfl, ss HS34 [0, 1, 3, 2]⟩
  rintro aj5 wj5 ⟨g7, g13, Hj5, HSj5⟩
  refine nx <| sq_ <| rl_ <| wl_ <| i_ Hj5 rfl (v := .agg (catA [bytesV (sha q), [.int .i64 i], [.int .i64 e], bytesV (zer 32)])) (dd_load HSj5 3 0 rfl rfl (Hj5.ev 7 rfl) (slab_whole _) Tryd.underlying59 rfl (by rw [show (catA [bytesV (sha q), [.int .i64 i], [.int .i64 e], bytesV (zer 32)]).size = 66 from (cat_size (lens_cons (len_bv (length_sha _)) (lens_cons rfl (lens_cons rfl (lens_cons (len_bv (length_zer 32)) (lens_nil))))))]; kernel_rfl)) fun _ H37 => ?_
  clear Hj5
  refine wl_ <| d_ H37 rfl (R := fun v w9 => ∃ gc39 cc39 cbc39, v = .tuple #[.slice (some ⟨gc39, 0, none⟩) 40 cc39, .int .i64 0] ∧ (wj5.heap.size ≤ gc39) ∧ (Row w9 gc39 5 cbc39) ∧ (OwnC cbc39 cc39 40 1 (bytesV (recA (sha q) i e))) ∧ Below wj5.heap.size wj5 w9) (dc_ Tryd.func26 rfl (args1 (H37.ev 21 rfl)) (audent_good (sha q) i e (zer 32) wj5 (length_sha _) (length_zer 32) hc) (fun _ w9 ⟨g9, c9, cb9, he, h1, h2, h3, hb⟩ => ⟨_, he, g9, c9, cb9, rfl, h1, h2, h3, hb⟩)) ?_
  rintro _ W38 ⟨gc39, cc39, cbc39, rfl, hg39, hr39, Oc39, hb38⟩ a38 H38
  have HS38 := HSj5.same hb38
  clear H37
  have HS38j : St w F [⟨g, 30, #[.slice none 0 0]⟩, ⟨g5, 38, #[.int .i64 i, .int .i64 e, u]⟩, ⟨g13, 35, #[.slice Aq nq cq]⟩, ⟨g7, 59, catA [bytesV (sha q), [.int .i64 i], [.int .i64 e], bytesV (zer 32)]⟩, ⟨gc39, 5, cbc39⟩] W38 := HSj5.joins hb38 hr39 hg39
  clear HS38 hr39 hg39
  clear HSj5 hb38
  refine wl_ <| p_ H38 rfl rfl fun _ H40 => wl_ <| i_ H40 rfl (v := .slice (some ⟨gc39, 0, none⟩) 40 cc39) (dd_ext rfl (H40.ev 20 rfl) rfl) fun _ H41 => wl_ <| i_ H41 rfl (v := .int .i64 0) (dd_ext rfl (H41.ev 20 rfl) rfl) fun _ H42 => q_ H42 2 rfl fun _ H43 => ln_ <| nx <| sq_ <| sq_ <| rl_ <| wl_ <| p_ H43 rfl rfl fun _ H44 => wl_ <| i_ H44 rfl (dd_cmp rfl (H44.ev 25 rfl) rfl (ne_f (by decide))) fun _ H45 => ln_ <| nx <| cf_ H45 rfl <| wp_skip <| nx <| sq_ <| rl_ <| wl_ <| p_ H45 rfl rfl fun _ H46 => wl_ <| c_ H46 rfl HS38j (dcs Tryd.func13 rfl (args1 (H46.ev 28 rfl)) (audlast_zero g W38 (HS38j.row 0 rfl)) (.agg (bs (lk [] 0)))) fun _ HS47 _ H47 => ?_
  clear H38 H40 H41 H42 H43 H44 H45
  refine wl_ <| p_ H47 rfl rfl fun _ H48 => wl_ <| n_ H48 rfl (S := fun g31 => [⟨g, 30, #[.slice none 0 0]⟩, ⟨g5, 38, #[.int .i64 i, .int .i64 e, u]⟩, ⟨g13, 35, #[.slice Aq nq cq]⟩, ⟨g7, 59, catA [bytesV (sha q), [.int .i64 i], [.int .i64 e], bytesV (zer 32)]⟩, ⟨gc39, 5, cbc39⟩, ⟨g31, 35, #[.slice (some ⟨gc39, 0, none⟩) 40 cc39]⟩]) (fun _ h => dd_lits HS47 #[.slice (some ⟨gc39, 0, none⟩) 40 cc39] rfl (ps := [(0, .slice (some ⟨gc39, 0, none⟩) 40 cc39)]) (pr1 (H48.ev 30 rfl) (pr0)) (z := .slice none 0 0) (sz := 1) Tryd.underlying67 (by kernel_rfl) rfl rfl (by kernel_rfl) h) fun g31 W49 HS49 _ H49 => wl_ <| c_ H49 rfl HS49 (dcs Tryd.func24 rfl (args2 (H49.ev 29 rfl) (H49.ev 31 rfl)) (step_one (lk [] 0) (recA (sha q) i e) _ W49 (HT _ HS49.chg) (length_zer 32) (parts_one1 (HS49.row 5 rfl) (slice_own (HS49.row 4 rfl) Oc39 (length_recA (length_sha _)))) (by rw [(length_recA (length_sha _))]; decide) (nextL (lk [] 0) (sha q, i, e, [])) rfl) (.agg (bs (nextL (lk [] 0) (sha q, i, e, []))))) fun _ HS50 _ H50 => wl_ <| i_ H50 rfl (xf 34 34 rfl (H50.ev 7 rfl)) fun _ H51 => wl_ <| t_ rfl (S := [⟨g, 30, #[.slice none 0 0]⟩, ⟨g5, 38, #[.int .i64 i, .int .i64 e, u]⟩, ⟨g13, 35, #[.slice Aq nq cq]⟩, ⟨g7, 59, catA [bytesV (sha q), [.int .i64 i], [.int .i64 e], bytesV (nextL (lk [] 0) (sha q, i, e, []))]⟩, ⟨gc39, 5, cbc39⟩, ⟨g31, 35, #[.slice (some ⟨gc39, 0, none⟩) 40 cc39]⟩]) (fun _ h => dd_setpart HS50 3 34 3 rfl (lens_cons (len_bv (length_sha _)) (lens_cons rfl (lens_cons rfl (lens_cons (len_bv (length_zer 32)) (lens_nil))))) rfl (H51.ev 33 rfl) (H51.ev 32 rfl) (by kernel_rfl) ((size_bs _).trans (len_next _ _)) rfl rfl (one_bs _) h) fun _ HS52 => ln_ <| nx <| sq_ <| ?_
  clear H46 HS38j H47 HS47 H48 H49 HS49 H50 HS50
  refine wp_cut (fun a9 w9 => ∃ g41_64 : Nat, ∃ c41_64 : Nat, ∃ g40 : Nat, ∃ cb41_64 : Array Value, OwnC cb41_64 c41_64 1 66 ((catA [bytesV (sha q), [.int .i64 i], [.int .i64 e], bytesV (nextL (lk [] 0) (sha q, i, e, []))]).toList) ∧ En 44 [] a9 ∧ St w F [⟨g, 30, #[.slice (some ⟨g41_64, 0, none⟩) 1 c41_64]⟩, ⟨g5, 38, #[.int .i64 i, .int .i64 e, u]⟩, ⟨g13, 35, #[.slice Aq nq cq]⟩, ⟨g7, 59, catA [bytesV (sha q), [.int .i64 i], [.int .i64 e], bytesV (nextL (lk [] 0) (sha q, i, e, []))]⟩, ⟨gc39, 5, cbc39⟩, ⟨g31, 35, #[.slice (some ⟨gc39, 0, none⟩) 40 cc39]⟩, ⟨g40, 59, catA [bytesV (sha q), [.int .i64 i], [.int .i64 e], bytesV (nextL (lk [] 0) (sha q, i, e, []))]⟩, ⟨g41_64, 59, cb41_64⟩] w9) ?_ ?_
  ·
   refine wi_ HS52 [1, 2, 3, 5] rfl [1, 2, 3, 5, 0, 4] rfl fun HSh53 hx53 => hp_ H51 0 hx53 rfl rfl rfl fun _ H54 => hp_ H54 1 hx53 rfl rfl rfl fun _ H55 => ht_ H55 2 hx53 rfl rfl (fun _ _ _ => dd_nilc rfl (H55.ev 35 rfl)) fun _ H56 => ht_ H56 3 hx53 rfl rfl (fun _ _ _ => xf 0 0 rfl (H56.ev 36 rfl)) fun _ H57 => ht_ H57 5 hx53 rfl rfl (v := .agg (catA [bytesV (sha q), [.int .i64 i], [.int .i64 e], bytesV (nextL (lk [] 0) (sha q, i, e, []))])) (fun _ _ HS9 => dd_load HS9 2 0 rfl rfl (H57.ev 7 rfl) (slab_whole _) Tryd.underlying59 rfl (by rw [show (catA [bytesV (sha q), [.int .i64 i], [.int .i64 e], bytesV (nextL (lk [] 0) (sha q, i, e, []))]).size = 66 from (cat_size (lens_cons (len_bv (length_sha _)) (lens_cons rfl (lens_cons rfl (lens_cons (len_bv (len_next _ _)) (lens_nil))))))]; kernel_rfl)) fun _ H58 => ?_
   clear HS52 H51 H54 H55 H56 H57
   refine wpAnyH_all (rs := [4, 6]) (by kernel_rfl) (by decide) (hm_cons ?_ (hm_cons ?_ hm_nil))
   ·
    refine ho_ rfl <| i_ H58 rfl (dd_get HSh53 0 0 rfl rfl (H58.ev 37 rfl) rfl Tryd.underlying28 rfl) fun _ H59 => sx_ (sxi HSh53 [1, 2, 3, 5, 0, 4] rfl) fun hx60 => h1_ 6 rfl <| n_ H59 rfl (fun _ h => dd_lit1 HSh53 (z := .agg (catA [bytesV (zer 32), [.int .i64 0], [.int .i64 0], bytesV (zer 32)])) (sz := 66) rfl (H59.ev 39 rfl) Tryd.underlying28 (by kernel_rfl) (cat_size (lens_cons (len_bv (length_sha _)) (lens_cons rfl (lens_cons rfl (lens_cons (len_bv (len_next _ _)) (lens_nil)))))) rfl rfl h) fun g40 _ HS61 _ H61 => sx_ (sxi HS61 [1, 2, 3, 5, 0, 4, 6] rfl) fun hx62 => h1_ 7 rfl <| a_ H61 rfl (fun g41_64 c41_64 => .slice (some ⟨g41_64, 0, none⟩) 1 c41_64) (T := fun _ c41_64 cb41_64 => OwnC cb41_64 c41_64 1 66 ((catA [bytesV (sha q), [.int .i64 i], [.int .i64 e], bytesV (nextL (lk [] 0) (sha q, i, e, []))]).toList)) (fun _ h => dd_app0 HS61 rfl (H61.ev 38 rfl) (z := .agg (catA [bytesV (zer 32), [.int .i64 0], [.int .i64 0], bytesV (zer 32)])) (bytes := 80) (sz := 66) Tryd.underlying28 (by kernel_rfl) rfl (by decide) ((catA [bytesV (sha q), [.int .i64 i], [.int .i64 e], bytesV (nextL (lk [] 0) (sha q, i, e, []))]).toList) (H61.ev 40 rfl) (lenA (cat_size (lens_cons (len_bv (length_sha _)) (lens_cons rfl (lens_cons rfl (lens_cons (len_bv (len_next _ _)) (lens_nil))))))) (row_news (HS61.row 6 rfl) 0 (slabA (slab_whole _))) (all_one (cat_one (ones_cons (one_bytesV _) (ones_cons (ones_c rfl) (ones_cons (ones_c rfl) (ones_cons (one_bytesV _) (ones_nil))))))) (by unfold maxLen; omega) (by omega) h) fun g41_64 c41_64 cb41_64 _ O41_64 HS63 _ H63 => sx_ (sxi HS63 [1, 2, 3, 5, 0, 4, 6, 7] rfl) fun hx65 => ht_ H63 8 hx65 rfl rfl (fun _ _ _ => dd_nilc rfl (H63.ev 34 rfl)) fun _ H66 => ht_ H66 9 hx65 rfl rfl (fun _ _ _ => xf 0 0 rfl (H66.ev 42 rfl)) fun _ H67 => ?_
    clear H58 HSh53 H59 hx60 HS61 H61 hx62 H63
    refine h1_ 10 rfl <| t_ rfl (fun _ h => dd_put (cs := #[.slice (some ⟨g41_64, 0, none⟩) 1 c41_64]) HS63 0 0 rfl rfl (H67.ev 43 rfl) (H67.ev 41 rfl) (by kernel_rfl) rfl rfl rfl rfl h) fun _ HS68 => sx_ (sxi HS68 [1, 2, 3, 5, 0, 4, 6, 7] rfl) fun hx69 => ?_
    clear H66 HS63 hx65
    refine wpAnyH_done (by kernel_rfl) ?_ _
    clear hx69
    exact nx ⟨g41_64, c41_64, _, cb41_64, O41_64, H67.sel [] rfl, ss HS68 [0, 1, 2, 3, 4, 5, 6, 7]⟩
   refine ho_ rfl <| n_ H58 rfl (fun _ h => dd_lit1 HSh53 (z := .agg (catA [bytesV (zer 32), [.int .i64 0], [.int .i64 0], bytesV (zer 32)])) (sz := 66) rfl (H58.ev 39 rfl) Tryd.underlying28 (by kernel_rfl) (cat_size (lens_cons (len_bv (length_sha _)) (lens_cons rfl (lens_cons rfl (lens_cons (len_bv (len_next _ _)) (lens_nil)))))) rfl rfl h) fun g40 _ HS70 _ H70 => sx_ (sxi HS70 [1, 2, 3, 5, 0, 4, 6] rfl) fun hx71 => h1_ 4 rfl <| i_ H70 rfl (dd_get HS70 0 0 rfl rfl (H70.ev 37 rfl) rfl Tryd.underlying28 rfl) fun _ H72 => sx_ (sxi HS70 [1, 2, 3, 5, 0, 4, 6] rfl) fun hx73 => h1_ 7 rfl <| a_ H72 rfl (fun g41_75 c41_75 => .slice (some ⟨g41_75, 0, none⟩) 1 c41_75) (T := fun _ c41_75 cb41_75 => OwnC cb41_75 c41_75 1 66 ((catA [bytesV (sha q), [.int .i64 i], [.int .i64 e], bytesV (nextL (lk [] 0) (sha q, i, e, []))]).toList)) (fun _ h => dd_app0 HS70 rfl (H72.ev 38 rfl) (z := .agg (catA [bytesV (zer 32), [.int .i64 0], [.int .i64 0], bytesV (zer 32)])) (bytes := 80) (sz := 66) Tryd.underlying28 (by kernel_rfl) rfl (by decide) ((catA [bytesV (sha q), [.int .i64 i], [.int .i64 e], bytesV (nextL (lk [] 0) (sha q, i, e, []))]).toList) (H72.ev 40 rfl) (lenA (cat_size (lens_cons (len_bv (length_sha _)) (lens_cons rfl (lens_cons rfl (lens_cons (len_bv (len_next _ _)) (lens_nil))))))) (row_news (HS70.row 6 rfl) 0 (slabA (slab_whole _))) (all_one (cat_one (ones_cons (one_bytesV _) (ones_cons (ones_c rfl) (ones_cons (ones_c rfl) (ones_cons (one_bytesV _) (ones_nil))))))) (by unfold maxLen; omega) (by omega) h) fun g41_75 c41_75 cb41_75 _ O41_75 HS74 _ H74 => sx_ (sxi HS74 [1, 2, 3, 5, 0, 4, 6, 7] rfl) fun hx76 => ht_ H74 8 hx76 rfl rfl (fun _ _ _ => dd_nilc rfl (H74.ev 34 rfl)) fun _ H77 => ht_ H77 9 hx76 rfl rfl (fun _ _ _ => xf 0 0 rfl (H77.ev 42 rfl)) fun _ H78 => ?_
   clear HSh53 H58 H70 hx71 HS70 H72 hx73 H74
   refine h1_ 10 rfl <| t_ rfl (fun _ h => dd_put (cs := #[.slice (some ⟨g41_75, 0, none⟩) 1 c41_75]) HS74 0 0 rfl rfl (H78.ev 43 rfl) (H78.ev 41 rfl) (by kernel_rfl) rfl rfl rfl rfl h) fun _ HS79 => sx_ (sxi HS79 [1, 2, 3, 5, 0, 4, 6, 7] rfl) fun hx80 => ?_
   clear H77 HS74 hx76
   refine wpAnyH_done (by kernel_rfl) ?_ _
   clear hx80
   exact nx ⟨g41_75, c41_75, _, cb41_75, O41_75, H78.sel [] rfl, ss HS79 [0, 1, 2, 3, 4, 5, 6, 7]⟩
  rintro aj53 wj53 ⟨g41_64, c41_64, g40, cb41_64, O41_64, Hj53, HSj53⟩
  refine nx <| sq_ <| rl_ <| wl_ <| p_ Hj53 rfl rfl fun _ H82 => ln_ <| nx <| wp_ret <| ret_run H82.env0 (res_t Tryd.results11 (H82.get 6 rfl)) <| ?_
  clear Hj53
  exact ⟨g41_64, c41_64, cb41_64, rfl, (by rw [List.nil_append, ents_one]; exact O41_64), ss HSj53 [0, 7]⟩
set_option maxHeartbeats 800000 in
theorem audadd_bad (g : Nat) (Aq : Option Addr) (nq cq : Nat) (q : List (BitVec 8)) (i e : Int) (u : Value) (w : World) (hT : Tab w) (hs : Slice w (.slice Aq nq cq) q) (hq : q.length = nq) (hnq : nq ≤ 1000000) (hc : mayR i e 0 = false) :
    Calls Tryd.prog 11 #[.pointer (some ⟨g, 0, none⟩), .slice Aq nq cq, .agg #[.int .i64 i, .int .i64 e, u]] w fun x w' => x = .returned (.int .i64 11) ∧ Below w.heap.size w w' := by
  have HS := St.nil w noF
  have HT : ∀ W, Below w.heap.size w W → Tab W := fun W hb => hT.below hb hT.pos
  have HQ : ∀ W, Below w.heap.size w W → Slice W (.slice Aq nq cq) q := fun W hb => hs.below hb (Nat.le_refl _)
  refine enter_en Tryd.func11 rfl Tryd.ntmps11 (Nat.le_of_ble_eq_true rfl) fun a0 (HA0 : En 44 [(0, .pointer (some ⟨g, 0, none⟩)), (1, .slice Aq nq cq), (2, .agg #[.int .i64 i, .int .i64 e, u])] a0) => ?_
  refine sq_ <| rl_ <| wl_ <| n_ HA0 rfl (fun _ h => dd_box HS rfl (HA0.ev 2 rfl) (cs := #[.int .i64 i, .int .i64 e, u]) rfl h) fun g5 _ HS1 _ H1 => wl_ <| p_ H1 rfl rfl fun _ H2 => ln_ <| nx <| sq_ <| sq_ <| rl_ <| wl_ <| p_ H2 rfl rfl fun _ H3 => wl_ <| i_ H3 rfl (v := .bool false) (dd_eqp rfl (H3.ev 10 rfl) rfl Tryd.underlying27 rfl) fun _ H4 => ln_ <| nx <| cf_ H4 rfl <| wp_skip <| nx <| sq_ <| ?_
  clear HS HA0 H1 H2 H3
  refine wp_cut (fun a9 w9 => ∃ g7 : Nat, ∃ g13 : Nat, En 44 [(7, .pointer (some ⟨g7, 0, none⟩)), (0, .pointer (some ⟨g, 0, none⟩))] a9 ∧ St w noF [⟨g5, 38, #[.int .i64 i, .int .i64 e, u]⟩, ⟨g13, 35, #[.slice Aq nq cq]⟩, ⟨g7, 59, catA [bytesV (sha q), [.int .i64 i], [.int .i64 e], bytesV (zer 32)]⟩] w9) ?_ ?_
  ·
   refine wi_ HS1 [0] rfl [0] rfl fun HSh5 hx5 => hp_ H4 0 hx5 rfl rfl rfl fun _ H6 => ht_ H6 3 hx5 rfl rfl (fun _ _ _ => xf 0 0 rfl (H6.ev 5 rfl)) fun _ H7 => ht_ H7 4 hx5 rfl rfl (fun _ _ HS9 => dd_get HS9 0 0 rfl rfl (H7.ev 15 rfl) rfl Tryd.underlying3 rfl) fun _ H8 => ht_ H8 5 hx5 rfl rfl (fun _ _ _ => xf 1 1 rfl (H8.ev 5 rfl)) fun a9 H9 => ht_ H9 6 hx5 rfl rfl (fun _ _ HS9 => dd_get HS9 0 1 rfl rfl (H9.ev 17 rfl) rfl Tryd.underlying36 rfl) fun _ H10 => ?_
   clear HS1 H4 H6 H7 H8 H9
   refine wpAnyH_all (rs := [1, 8]) (by kernel_rfl) (by decide) (hm_cons ?_ (hm_cons ?_ hm_nil))
   ·
    refine ho_ rfl <| n_ H10 rfl (fun _ h => dd_lits HSh5 #[.slice Aq nq cq] rfl (ps := [(0, .slice Aq nq cq)]) (pr1 (H10.ev 12 rfl) (pr0)) (z := .slice none 0 0) (sz := 1) Tryd.underlying67 (by kernel_rfl) rfl rfl (by kernel_rfl) h) fun g13 W11 HS11 _ H11 => sx_ (sxi HS11 [0, 1] rfl) fun _ => ?_
    clear HSh5 H10
    refine wpAnyH_all (rs := [2, 8]) (by kernel_rfl) (by decide) (hm_cons ?_ (hm_cons ?_ hm_nil))
    ·
     refine ho_ rfl <| c_ H11 rfl HS11 (dcs Tryd.func25 rfl (args1 (H11.ev 13 rfl)) (sum_one q _ W11 (HT _ HS11.below) (parts_one1 (HS11.row 1 rfl) (HQ _ HS11.below)) (by rw [hq]; omega)) (.agg (bs (sha q)))) fun _ HS13 _ H13 => sx_ (sxi HS13 [0, 1] rfl) fun hx14 => ht_ H13 7 hx14 rfl rfl (v := .agg (catA [bytesV (sha q), [.int .i64 i], [.int .i64 e], bytesV (zer 32)])) (fun _ _ _ => dd_bld rfl (ps := [(0, .agg (bs (sha q))), (1, .int .i64 i), (2, .int .i64 e)]) (pr1 (H13.ev 14 rfl) (pr1 (H13.ev 16 rfl) (pr1 (H13.ev 18 rfl) (pr0)))) (Lz := [bytesV (zer 32), [.int .i64 0], [.int .i64 0], bytesV (zer 32)]) (by kernel_rfl) (lens_cons (len_bv (length_zer 32)) (lens_cons rfl (lens_cons rfl (lens_cons (len_bv (length_zer 32)) (lens_nil))))) (fit_cons (i := 0) rfl ((size_bs _).trans (length_sha _)) (fit_cons (i := 1) rfl rfl (fit_cons (i := 2) rfl rfl (fit_nil)))) (cs := catA [bytesV (sha q), [.int .i64 i], [.int .i64 e], bytesV (zer 32)]) rfl) fun _ H15 => h1_ 8 rfl <| n_ H15 rfl (fun _ h => dd_new HS13 (catA [bytesV (zer 32), [.int .i64 0], [.int .i64 0], bytesV (zer 32)]) rfl (z := .agg (catA [bytesV (zer 32), [.int .i64 0], [.int .i64 0], bytesV (zer 32)])) (by kernel_rfl) rfl h) fun g7 _ HS16 _ H16 => sx_ (sxi HS16 [0, 1, 2] rfl) fun hx17 => h1_ 9 rfl <| t_ rfl (fun _ h => dd_setrow HS16 2 rfl rfl (H16.ev 7 rfl) (H16.ev 19 rfl) (by kernel_rfl) ((cat_size (lens_cons (len_bv (length_sha _)) (lens_cons rfl (lens_cons rfl (lens_cons (len_bv (length_zer 32)) (lens_nil)))))) : (catA [bytesV (sha q), [.int .i64 i], [.int .i64 e], bytesV (zer 32)]).size = 66) ((cat_size (lens_cons (len_bv (length_zer 32)) (lens_cons rfl (lens_cons rfl (lens_cons (len_bv (length_zer 32)) (lens_nil)))))) : (catA [bytesV (zer 32), [.int .i64 0], [.int .i64 0], bytesV (zer 32)]).size = 66) (cat_one (ones_cons (one_bytesV _) (ones_cons (ones_c rfl) (ones_cons (ones_c rfl) (ones_cons (one_bytesV _) (ones_nil)))))) h) fun _ HS18 => sx_ (sxi HS18 [0, 1, 2] rfl) fun hx19 => ?_
     clear H11 HS11 H13 HS13 H15 hx14 HS16 hx17
     refine wpAnyH_done (by kernel_rfl) ?_ _
     clear hx19
     exact nx ⟨g7, _, H16.sel [0, 7] rfl, ss HS18 [0, 1, 2]⟩
    refine ho_ rfl <| n_ H11 rfl (fun _ h => dd_new HS11 (catA [bytesV (zer 32), [.int .i64 0], [.int .i64 0], bytesV (zer 32)]) rfl (z := .agg (catA [bytesV (zer 32), [.int .i64 0], [.int .i64 0], bytesV (zer 32)])) (by kernel_rfl) rfl h) fun g7 W20 HS20 _ H20 => sx_ (sxi HS20 [0, 1, 2] rfl) fun hx21 => h1_ 2 rfl <| c_ H20 rfl HS20 (dcs Tryd.func25 rfl (args1 (H20.ev 13 rfl)) (sum_one q _ W20 (HT _ HS20.below) (parts_one1 (HS20.row 1 rfl) (HQ _ HS20.below)) (by rw [hq]; omega)) (.agg (bs (sha q)))) fun _ HS22 _ H22 => sx_ (sxi HS22 [0, 1, 2] rfl) fun hx23 => ht_ H22 7 hx23 rfl rfl (v := .agg (catA [bytesV (sha q), [.int .i64 i], [.int .i64 e], bytesV (zer 32)])) (fun _ _ _ => dd_bld rfl (ps := [(0, .agg (bs (sha q))), (1, .int .i64 i), (2, .int .i64 e)]) (pr1 (H22.ev 14 rfl) (pr1 (H22.ev 16 rfl) (pr1 (H22.ev 18 rfl) (pr0)))) (Lz := [bytesV (zer 32), [.int .i64 0], [.int .i64 0], bytesV (zer 32)]) (by kernel_rfl) (lens_cons (len_bv (length_zer 32)) (lens_cons rfl (lens_cons rfl (lens_cons (len_bv (length_zer 32)) (lens_nil))))) (fit_cons (i := 0) rfl ((size_bs _).trans (length_sha _)) (fit_cons (i := 1) rfl rfl (fit_cons (i := 2) rfl rfl (fit_nil)))) (cs := catA [bytesV (sha q), [.int .i64 i], [.int .i64 e], bytesV (zer 32)]) rfl) fun _ H24 => h1_ 9 rfl <| t_ rfl (fun _ h => dd_setrow HS22 2 rfl rfl (H24.ev 7 rfl) (H24.ev 19 rfl) (by kernel_rfl) ((cat_size (lens_cons (len_bv (length_sha _)) (lens_cons rfl (lens_cons rfl (lens_cons (len_bv (length_zer 32)) (lens_nil)))))) : (catA [bytesV (sha q), [.int .i64 i], [.int .i64 e], bytesV (zer 32)]).size = 66) ((cat_size (lens_cons (len_bv (length_zer 32)) (lens_cons rfl (lens_cons rfl (lens_cons (len_bv (length_zer 32)) (lens_nil)))))) : (catA [bytesV (zer 32), [.int .i64 0], [.int .i64 0], bytesV (zer 32)]).size = 66) (cat_one (ones_cons (one_bytesV _) (ones_cons (ones_c rfl) (ones_cons (ones_c rfl) (ones_cons (one_bytesV _) (ones_nil)))))) h) fun _ HS25 => sx_ (sxi HS25 [0, 1, 2] rfl) fun hx26 => ?_
    clear HS11 H11 H20 HS20 hx21 H22 HS22 hx23
    refine wpAnyH_done (by kernel_rfl) ?_ _
    clear hx26
    exact nx ⟨g7, _, H24.sel [0, 7] rfl, ss HS25 [0, 1, 2]⟩
   refine ho_ rfl <| n_ H10 rfl (fun _ h => dd_new HSh5 (catA [bytesV (zer 32), [.int .i64 0], [.int .i64 0], bytesV (zer 32)]) rfl (z := .agg (catA [bytesV (zer 32), [.int .i64 0], [.int .i64 0], bytesV (zer 32)])) (by kernel_rfl) rfl h) fun g7 _ HS27 _ H27 => sx_ (sxi HS27 [0, 1] rfl) fun hx28 => h1_ 1 rfl <| n_ H27 rfl (fun _ h => dd_lits HS27 #[.slice Aq nq cq] rfl (ps := [(0, .slice Aq nq cq)]) (pr1 (H27.ev 12 rfl) (pr0)) (z := .slice none 0 0) (sz := 1) Tryd.underlying67 (by kernel_rfl) rfl rfl (by kernel_rfl) h) fun g13 W29 HS29 _ H29 => sx_ (sxi HS29 [0, 1, 2] rfl) fun hx30 => h1_ 2 rfl <| c_ H29 rfl HS29 (dcs Tryd.func25 rfl (args1 (H29.ev 13 rfl)) (sum_one q _ W29 (HT _ HS29.below) (parts_one1 (HS29.row 2 rfl) (HQ _ HS29.below)) (by rw [hq]; omega)) (.agg (bs (sha q)))) fun _ HS31 _ H31 => sx_ (sxi HS31 [0, 1, 2] rfl) fun hx32 => ht_ H31 7 hx32 rfl rfl (v := .agg (catA [bytesV (sha q), [.int .i64 i], [.int .i64 e], bytesV (zer 32)])) (fun _ _ _ => dd_bld rfl (ps := [(0, .agg (bs (sha q))), (1, .int .i64 i), (2, .int .i64 e)]) (pr1 (H31.ev 14 rfl) (pr1 (H31.ev 16 rfl) (pr1 (H31.ev 18 rfl) (pr0)))) (Lz := [bytesV (zer 32), [.int .i64 0], [.int .i64 0], bytesV (zer 32)]) (by kernel_rfl) (lens_cons (len_bv (length_zer 32)) (lens_cons rfl (lens_cons rfl (lens_cons (len_bv (length_zer 32)) (lens_nil))))) (fit_cons (i := 0) rfl ((size_bs _).trans (length_sha _)) (fit_cons (i := 1) rfl rfl (fit_cons (i := 2) rfl rfl (fit_nil)))) (cs := catA [bytesV (sha q), [.int .i64 i], [.int .i64 e], bytesV (zer 32)]) rfl) fun _ H33 => h1_ 9 rfl <| t_ rfl (fun _ h => dd_setrow HS31 1 rfl rfl (H33.ev 7 rfl) (H33.ev 19 rfl) (by kernel_rfl) ((cat_size (lens_cons (len_bv (length_sha _)) (lens_cons rfl (lens_cons rfl (lens_cons (len_bv (length_zer 32)) (lens_nil)))))) : (catA [bytesV (sha q), [.int .i64 i], [.int .i64 e], bytesV (zer 32)]).size = 66) ((cat_size (lens_cons (len_bv (length_zer 32)) (lens_cons rfl (lens_cons rfl (lens_cons (len_bv (length_zer 32)) (lens_nil)))))) : (catA [bytesV (zer 32), [.int .i64 0], [.int .i64 0], bytesV (zer 32)]).size = 66) (cat_one (ones_cons (one_bytesV _) (ones_cons (ones_c rfl) (ones_cons (ones_c rfl) (ones_cons (one_bytesV _) (ones_nil)))))) h) fun _ HS34 => ?_
   clear HSh5 H10 HS27 H27 hx28 H29 HS29 hx30 H31
   refine sx_ (sxi HS34 [0, 1, 2] rfl) fun hx35 => ?_
   clear HS31 hx32
   refine wpAnyH_done (by kernel_rfl) ?_ _
   clear hx35
   exact nx ⟨g7, _, H33.sel [0, 7] rfl, ss HS34 [0, 2, 1]⟩
  rintro aj5 wj5 ⟨g7, g13, Hj5, HSj5⟩
  refine nx <| sq_ <| rl_ <| wl_ <| i_ Hj5 rfl (v := .agg (catA [bytesV (sha q), [.int .i64 i], [.int .i64 e], bytesV (zer 32)])) (dd_load HSj5 2 0 rfl rfl (Hj5.ev 7 rfl) (slab_whole _) Tryd.underlying59 rfl (by rw [show (catA [bytesV (sha q), [.int .i64 i], [.int .i64 e], bytesV (zer 32)]).size = 66 from (cat_size (lens_cons (len_bv (length_sha _)) (lens_cons rfl (lens_cons rfl (lens_cons (len_bv (length_zer 32)) (lens_nil))))))]; kernel_rfl)) fun _ H37 => wl_ <| c_ H37 rfl HSj5 (dcs Tryd.func26 rfl (args1 (H37.ev 21 rfl)) (audent_bad (sha q) i e (zer 32) wj5 (length_sha _) (length_zer 32) hc) (.tuple #[.slice none 0 0, .int .i64 11])) fun _ HS38 _ H38 => wl_ <| p_ H38 rfl rfl fun _ H39 => wl_ <| i_ H39 rfl (v := .slice none 0 0) (dd_ext rfl (H39.ev 20 rfl) rfl) fun _ H40 => wl_ <| i_ H40 rfl (v := .int .i64 11) (dd_ext rfl (H40.ev 20 rfl) rfl) fun _ H41 => q_ H41 2 rfl fun _ H42 => ln_ <| nx <| sq_ <| sq_ <| rl_ <| wl_ <| p_ H42 rfl rfl fun _ H43 => wl_ <| i_ H43 rfl (dd_cmp rfl (H43.ev 25 rfl) rfl (ne_t (by decide))) fun _ H44 => ?_
  clear Hj5 H37 HSj5 H38 H39 H40 H41 H42
  refine ln_ <| nx <| ct_ H44 rfl <| sq_ <| rl_ <| q_ H44 2 rfl fun _ H45 => ln_ <| nx <| wp_ret <| tr <| ret_run H45.env0 (res_t Tryd.results11 (H45.get 6 rfl)) <| ?_
  clear H43 H44
  exact ⟨rfl, HS38.below⟩
end Go.Proofs.YtbhmgnhiglpmhaaDoor
