/- Merged: Aw AwS AwD AwM AwH AwL AwN AwQ AwT AwR StF Res DskR WalRr TabFresh AwW AwX NdFn NdFn2 NdFn3 NdLaw AwZ WPlay9. -/
import Derived.OrdersHeld
import Derived.Deep.DeepAppendWide
import Derived.Lib.SliceRun
import Derived.Test.YtcdcongeogmfkaaMGen0
import Derived.Test.YtcdcongeogmfkaaMStr0
import Derived.Test.YtcdcongeogmfkaaMDisk0
import Derived.Test.YtcdcongeogmfkaaMWal0
import Derived.Test.YtcdcongeogmfkaaMSeal0
import Derived.Test.YtcdcongeogmfkaaMNode0
import Derived.Test.YtcdcongeogmfkaaMLabel0
import Derived.Test.YtcdcongeogmfkaaMWal1
/- Walks whose every step is one lemma: the frame as a list of slots that are known; regions in order, and regions that draw. No function of the program is named here. -/
set_option maxRecDepth 4000
namespace Go.Proofs.Ytcdcongeogmfkaa
open Go Go.RowKit
/- the frame, as far as it is known -/
structure Env (N : Nat) (L : List (Nat × Value)) (a : Act) : Prop where
  size : a.tmps.size = N
  defers : a.defers = []
  at_ : ∀ (i k : Nat) (v : Value), L[i]? = some (k, v) → a.tmps[k]? = some v
def kp (L : List (Nat × Value)) : List Nat → List (Nat × Value)
  | [] => []
  | i :: is => match L[i]? with
    | some p => p :: kp L is
    | none => kp L is
def setd : Option Tmp → Value → List (Nat × Value) → List (Nat × Value)
  | some d, v, L => (d, v) :: L
  | none, _, L => L
def okd : Option Tmp → Nat → List (Nat × Value) → Bool
  | some d, N, L => Nat.blt d N && L.all fun p => !Nat.beq p.1 d
  | none, _, _ => true
theorem kp_at (L : List (Nat × Value)) : ∀ (is : List Nat) (i : Nat) (p : Nat × Value), (kp L is)[i]? = some p → ∃ j : Nat, L[j]? = some p
  | [], i, p, h => by simp [kp] at h
  | j :: is, i, p, h => by
    unfold kp at h
    cases hj : L[j]? with
    | none => rw [hj] at h; exact kp_at L is i p h
    | some q =>
      rw [hj] at h
      cases i with
      | zero => exact ⟨j, by rw [hj]; simpa using h⟩
      | succ i => exact kp_at L is i p (by simpa using h)
section
variable {P : Program} {N : Nat} {L : List (Nat × Value)} {a : Act}
theorem Env.ev (h : Env N L a) (i : Nat) {k : Nat} {v : Value} (hi : L[i]? = some (k, v)) : a.eval (.tmp k) = v := eval_of_get (h.at_ i k v hi)
theorem Env.get (h : Env N L a) (i : Nat) {k : Nat} {v : Value} (hi : L[i]? = some (k, v)) : a.tmps[k]? = some v := h.at_ i k v hi
theorem Env.keep (h : Env N L a) (is : List Nat) : Env N (kp L is) a := ⟨h.size, h.defers, fun i k v hi => by obtain ⟨j, hj⟩ := kp_at L is i (k, v) hi; exact h.at_ j k v hj⟩
theorem Env.put (h : Env N L a) (is : List Nat) (d : Option Tmp) (v : Value) (hk : okd d N (kp L is) = true) : Env N (setd d v (kp L is)) (a.put d v) := by
  cases d with
  | none => exact h.keep is
  | some d =>
    simp only [okd, Bool.and_eq_true, List.all_eq_true] at hk
    have hd : d < N := by have := hk.1; unfold Nat.blt at this; exact Nat.le_of_ble_eq_true this
    refine ⟨by simp [Act.put, h.size], h.defers, fun i k u hi => ?_⟩
    cases i with
    | zero =>
      have hi : (d, v) = (k, u) := by simpa [setd] using hi
      injection hi with h1 h2
      subst h1 h2
      simp [Act.put, h.size, hd]
    | succ i =>
      have hi : (kp L is)[i]? = some (k, u) := by simpa [setd] using hi
      have h1 := hk.2 _ (List.mem_of_getElem? hi)
      have hne : d ≠ k := fun e => by subst e; simp at h1
      obtain ⟨j, hj⟩ := kp_at L is i (k, u) hi
      simp only [Act.put]
      rw [Array.getElem?_setIfInBounds_ne hne]
      exact h.at_ j k u hj
theorem env_nil (hs : a.tmps.size = N) (hd : a.defers = []) : Env N [] a := ⟨hs, hd, fun i k v h => by simp at h⟩
def argL : List Value → Nat → List (Nat × Value)
  | [], _ => []
  | v :: vs, i => (i, v) :: argL vs (i + 1)
end
/- code -/
section
variable {P : Program} {Q Q' : Exit → Act → World → Prop} {K : Act → World → Prop} {a : Act} {w : World} {id j : Nat} {x y : Code}
theorem nx (h : K a w) : Exit.then K Q .normal a w := h
theorem tx (h : Q (.exit id) a w) : Exit.then K Q (.exit id) a w := h
theorem tr (h : Q .ret a w) : Exit.then K Q .ret a w := h
theorem bn (h : Q .normal a w) : Exit.inBlock id Q .normal a w := h
theorem bx (h : Q .normal a w) : Exit.inBlock id Q (.exit id) a w := by simpa [Exit.inBlock] using h
/- a loop with what counts it down standing in no slot -/
theorem wp_loopG {ι : Type} {c : Code} (I : ι → Act → World → Prop) (μ : ι → Nat) (i0 : ι) (h0 : I i0 a w)
    (round : ∀ i a w, I i a w → c.wp P (Exit.then (fun a' w' => ∃ i', I i' a' w' ∧ μ i' < μ i) Q) a w) : (Code.loop c).wp P Q a w := by
  classical
  have key : ∀ n, ∀ i a w, μ i = n → I i a w → ∃ m, (∃ i, I i a w ∧ μ i = m) ∧ ∀ k, (∃ i, I i a w ∧ μ i = k) → m ≤ k := by
    intro n
    induction n using Nat.strongRecOn with
    | _ n ih =>
      intro i a w hn hi
      by_cases h : ∃ i', I i' a w ∧ μ i' < n
      · obtain ⟨i', h1, h2⟩ := h
        exact ih (μ i') h2 i' a w rfl h1
      · exact ⟨n, ⟨i, hi, hn⟩, fun k ⟨i', h1, h2⟩ => by
          apply Decidable.byContradiction
          intro hk
          exact h ⟨i', h1, by omega⟩⟩
  refine wp_loop (fun a w => ∃ i, I i a w) (fun a w => if h : ∃ m, (∃ i, I i a w ∧ μ i = m) ∧ ∀ k, (∃ i, I i a w ∧ μ i = k) → m ≤ k then h.choose else 0) ⟨i0, h0⟩ fun a w hI => ?_
  obtain ⟨i1, h1⟩ := hI
  have hex := key _ i1 a w rfl h1
  obtain ⟨⟨i, hi, him⟩, hmin⟩ := hex.choose_spec
  refine wp_mono (round i a w hi) fun e a' w' hq => ?_
  cases e with
  | normal =>
    obtain ⟨i', h2, h3⟩ := hq
    refine ⟨⟨i', h2⟩, ?_⟩
    have hex' := key _ i' a' w' rfl h2
    have := hex'.choose_spec.2 (μ i') ⟨i', h2, rfl⟩
    rw [dif_pos hex, dif_pos hex']
    omega
  | _ => exact hq
end
/- what a call tells when it returns -/
section
variable {P : Program} {fn : Func} {R : Ending → World → Prop} {N : Nat} {L : List (Nat × Value)} {a : Act} {w : World}
theorem ret_run (HA : Env N L a) {v : Value} (hv : (results fn a.tmps).run P w = .ok v w) (h : R (.returned v) w) : bodyPost P fn R .ret a w := ⟨HA.defers, v, hv, h⟩
theorem getD_get2 {t : Array Value} {k : Nat} {v : Value} (h : t[k]? = some v) : (t[k]?).getD undef = v := by rw [h]; rfl
theorem res_t {t : Array Value} {i : Nat} {v : Value} (hr : fn.results = #[.tmp i]) (h1 : t[i]? = some v) : (results fn t).run P w = .ok v w := by
  unfold results; simp [hr, getD_get2 h1]
end
end Go.Proofs.Ytcdcongeogmfkaa

/- The steps of a walk: one operation in a region that goes in order, or that draws. No function of the program is named here. -/
set_option maxRecDepth 4000
namespace Go.Proofs.Ytcdcongeogmfkaa
open Go Go.RowKit
section
variable {P : Program} {Q : Exit → Act → World → Prop} {ops : Array Oper} {rest : List Oper} {o : Oper} {N : Nat} {L : List (Nat × Value)} {a : Act} {w : World}
theorem want_n (hg : o.guard = none) : Region.wanted o (yielded ops a.tmps) = true := by simp [Region.wanted, hg]
theorem want_g {j t : Nat} {b c d : Bool} (hg : o.guard = some (j, b)) (hd : dstAt ops j = some t) (ht : a.tmps[t]? = some (.bool c)) (h : (c == b) = d) : Region.wanted o (yielded ops a.tmps) = d := by
  unfold dstAt at hd
  simp only [Region.wanted, hg, yielded, hd, Option.bind_some, ht]
  rw [← h]; cases c <;> cases b <;> rfl
end
/- what a step knows of the slots -/
section
variable {ops : Array Oper} {n : Nat} {Vl : List (Value → World → Prop)} {a a0 : Act} {x : Nat → Value} {w : World} {o : Oper} {N : Nat} {L : List (Nat × Value)}
end
end Go.Proofs.Ytcdcongeogmfkaa

/- What the operations yield, one by one. No function of the program is named here. -/
set_option maxRecDepth 4000
namespace Go.Proofs.Ytcdcongeogmfkaa
open Go Go.RowKit
def fieldOff (P : Program) (s : TypeId) (f : Nat) : Option Nat :=
  match P.underlying s with
  | some (.struct fields) => match fields[f]? with
    | some fd => match (P.info? fd.type).map (·.size) with
      | some (_ + 1) => some fd.offset
      | _ => none
    | none => none
  | _ => none
def arrOf (P : Program) (t : TypeId) : Option (Nat × Nat) :=
  match P.underlying t with
  | some (.array n e) => (P.info? e).map fun i => (n, i.size)
  | _ => none
def slOf (P : Program) (t : TypeId) : Option Nat :=
  match P.underlying t with
  | some (.slice e) => (P.info? e).map fun i => i.size
  | _ => none
def cmpI : BinOp → Int → Int → Option Bool
  | .eql, x, y => some (x == y)
  | .neq, x, y => some (x != y)
  | .lss, x, y => some (decide (x < y))
  | .leq, x, y => some (decide (x ≤ y))
  | .gtr, x, y => some (decide (x > y))
  | .geq, x, y => some (decide (x ≥ y))
  | _, _, _ => none
def ariI : BinOp → Int → Int → Option Int
  | .add, x, y => some (x + y)
  | .sub, x, y => some (x - y)
  | .mul, x, y => some (x * y)
  | _, _, _ => none
section
variable {P : Program} {o : Oper} {a : Act} {w : World} {R : Value → World → Prop}
theorem dd_mv {x : Operand} {v : Value} (ho : o.op = .move x) (hx : a.eval x = v) : (execOp a.eval o).run P w = .ok (.value v) w :=
  by simp only [execOp, ho, hx, Sem.run_pure]
theorem dd_as {x : Operand} {v : Value} (ho : o.op = .assign x) (hx : a.eval x = v) : (execOp a.eval o).run P w = .ok (.value v) w :=
  by simp only [execOp, ho, hx, Sem.run_pure]
theorem dd_pickT {c x y : Operand} {v : Value} (ho : o.op = .pick c x y) (hc : a.eval c = .bool true) (hx : a.eval x = v) : (execOp a.eval o).run P w = .ok (.value v) w :=
  by simp [execOp, ho, hc, hx, asBool]
theorem dd_pickF {c x y : Operand} {v : Value} (ho : o.op = .pick c x y) (hc : a.eval c = .bool false) (hy : a.eval y = v) : (execOp a.eval o).run P w = .ok (.value v) w :=
  by simp [execOp, ho, hc, hy, asBool]
theorem dd_nt {ty : TypeId} {x : Operand} {b c : Bool} (ho : o.op = .unOp .not ty x) (hx : a.eval x = .bool b) (hc : (!b) = c) : (execOp a.eval o).run P w = .ok (.value (.bool c)) w :=
  by simp [execOp, ho, hx, Op.unary, ← hc]
theorem dd_ext {x : Operand} {i : Nat} {vs : Array Value} {v : Value} (ho : o.op = .extract x i) (hx : a.eval x = .tuple vs) (hv : vs[i]? = some v) : (execOp a.eval o).run P w = .ok (.value v) w :=
  by simp [execOp, ho, hx, Instr.extract, hv]
theorem dd_cmp {op : BinOp} {ty ty2 : TypeId} {x y : Operand} {k : IntKind} {m n : Int} {b : Bool} (ho : o.op = .binOp op ty x y ty2) (hx : a.eval x = .int k m) (hy : a.eval y = .int k n) (hb : cmpI op m n = some b) : (execOp a.eval o).run P w = .ok (.value (.bool b)) w := by
  cases op <;> simp [cmpI] at hb <;> simp [execOp, ho, hx, hy, eqGuard, binOp, Op.intCmp, ← hb]
theorem dd_ari {op : BinOp} {ty ty2 : TypeId} {x y : Operand} {k : IntKind} {m n z z' : Int} (ho : o.op = .binOp op ty x y ty2) (hx : a.eval x = .int k m) (hy : a.eval y = .int k n) (hz : ariI op m n = some z') (hk : k.wrap z' = z) : (execOp a.eval o).run P w = .ok (.value (.int k z)) w := by
  cases op <;> simp [ariI] at hz <;> simp [execOp, ho, hx, hy, eqGuard, binOp, Op.intArith, hz, hk]
theorem dd_nea {ty ty2 : TypeId} {x y : Operand} {cs ds : Array Value} {b c : Bool} (ho : o.op = .binOp .neq ty x y ty2) (hx : a.eval x = .agg cs) (hy : a.eval y = .agg ds) (hg : P.eqGuardType P.depth ty = false) (hb : ∀ w, (Op.equalIn 10000 ty (.agg cs) (.agg ds)).run P w = .ok b w) (hc : (!b) = c) : (execOp a.eval o).run P w = .ok (.value (.bool c)) w := by
  have e : (Op.equal ty (.agg cs) (.agg ds)).run P w = .ok b w := hb w
  simp [execOp, ho, hx, hy, eqGuard, binOp, e, hg, ← hc]
theorem dd_field {s : TypeId} {x : Operand} {f g i off j : Nat} (ho : o.op = .fieldAddr s x f) (hx : a.eval x = .pointer (some ⟨g, i, none⟩)) (hf : fieldOff P s f = some off) (hj : i + off = j) : (execOp a.eval o).run P w = .ok (.value (.pointer (some ⟨g, j, none⟩))) w := by
  subst hj
  unfold fieldOff at hf
  cases hu : P.underlying s with
  | none => rw [hu] at hf; cases hf
  | some d =>
    rw [hu] at hf
    cases d with
    | struct fields =>
      simp only at hf
      cases hfd : fields[f]? with
      | none => rw [hfd] at hf; cases hf
      | some fd =>
        rw [hfd] at hf
        simp only at hf
        cases hi : P.info? fd.type with
        | none => rw [hi] at hf; cases hf
        | some inf =>
          rw [hi] at hf
          simp only [Option.map_some] at hf
          cases hs : inf.size with
          | zero => rw [hs] at hf; cases hf
          | succ m =>
            rw [hs] at hf
            simp only [Option.some.injEq] at hf
            simp [execOp, ho, hx, Instr.fieldAt, Instr.sureAddr, run_underlying hu, hfd, fieldPlace, sizeOf, typeInfo, hi, hs, Addr.add_mid, hf]
    | _ => simp only at hf; cases hf
theorem dd_idxA {t : TypeId} {x ix : Operand} {g i n sz j : Nat} {k : IntKind} {m : Int} (ho : o.op = .indexAddr t x ix) (hx : a.eval x = .pointer (some ⟨g, i, none⟩)) (hi : a.eval ix = .int k m) (ht : arrOf P t = some (n, sz)) (h0 : 0 ≤ m) (hn : m < (n : Int)) (hj : i + m.toNat * sz = j) : (execOp a.eval o).run P w = .ok (.value (.pointer (some ⟨g, j, none⟩))) w := by
  subst hj
  unfold arrOf at ht
  cases hu : P.underlying t with
  | none => rw [hu] at ht; cases ht
  | some d =>
    rw [hu] at ht
    cases d with
    | array n' e =>
      simp only at ht
      cases hq : P.info? e with
      | none => rw [hq] at ht; cases ht
      | some inf =>
        rw [hq] at ht
        simp only [Option.map_some, Option.some.injEq, Prod.mk.injEq] at ht
        obtain ⟨rfl, rfl⟩ := ht
        simp [execOp, ho, hx, hi, Instr.indexAt, Instr.sureAddr, asIntOf, run_underlying hu, sizeOf, typeInfo, hq, h0, hn, Addr.add_mid]
    | _ => simp only at ht; cases ht
theorem dd_idxS {t : TypeId} {x ix : Operand} {g i n c sz j : Nat} {k : IntKind} {m : Int} (ho : o.op = .indexAddr t x ix) (hx : a.eval x = .slice (some ⟨g, i, none⟩) n c) (hi : a.eval ix = .int k m) (ht : slOf P t = some sz) (h0 : 0 ≤ m) (hn : m < (n : Int)) (hj : i + m.toNat * sz = j) : (execOp a.eval o).run P w = .ok (.value (.pointer (some ⟨g, j, none⟩))) w := by
  subst hj
  unfold slOf at ht
  cases hu : P.underlying t with
  | none => rw [hu] at ht; cases ht
  | some d =>
    rw [hu] at ht
    cases d with
    | slice e =>
      simp only at ht
      cases hq : P.info? e with
      | none => rw [hq] at ht; cases ht
      | some inf =>
        rw [hq] at ht
        simp only [Option.map_some, Option.some.injEq] at ht
        subst ht
        simp [execOp, ho, hx, hi, Instr.indexAt, asIntOf, run_underlying hu, sizeOf, typeInfo, hq, h0, hn, Addr.add_mid]
    | _ => simp only at ht; cases ht
theorem dd_nilc {x : Operand} {p : Addr} (ho : o.op = .nilCheck x) (hx : a.eval x = .pointer (some p)) : (execOp a.eval o).run P w = .ok (.value (.pointer (some p))) w :=
  by simp [execOp, ho, hx]
theorem dd_len {x : Operand} {t : TypeId} {A : Option Addr} {n c : Nat} {e : TypeId} (ho : o.op = .call { callee := .builtin .len, args := #[x], argTypes := #[t] }) (hx : a.eval x = .slice A n c) (hu : P.underlying t = some (.slice e)) : (execOp a.eval o).run P w = .ok (.value (.int .i64 (n : Int))) w :=
  by simp [execOp, ho, resolve, invoke, builtin, Builtin.len_, hx, run_underlying hu, goInt]
theorem dd_rn {v : Value} (hr : (execOp a.eval o).run P w = .ok (.value v) w) (h : R v w) : Does P o a w R := does_run hr h
theorem dd_at {ty : TypeId} {x : Operand} (ho : o.op = .load ty x) {p : Addr} (hx : a.eval x = .pointer (some p)) {v : Value} (hc : w.cell? p = some v) {d : TypeDesc} (hu : P.underlying ty = some d) (hd : d.isRow = false) : (execOp a.eval o).run P w = .ok (.value v) w := by
  have hagg : (isAgg ty).run P w = .ok false w := by
    unfold isAgg
    rw [Sem.run_bind, run_underlying hu w]
    cases d <;> simp_all
  simp [execOp, ho, hx, Instr.loadAt, Instr.sureAddr, loadVar, Sem.run_bind, hagg, hc]
/- memory that is known as a list of blocks -/
variable {w0 : World} {F : Nat → Prop} {S : List Blk}
theorem dd_get (HS : St w0 F S w) (k i : Nat) {ty : TypeId} {x : Operand} (ho : o.op = .load ty x) {r : Blk} (hk : S[k]? = some r) (hx : a.eval x = .pointer (some ⟨r.g, i, none⟩)) {v : Value} (hv : r.cs[i]? = some v) {d : TypeDesc} (hu : P.underlying ty = some d) (hd : d.isRow = false) : (execOp a.eval o).run P w = .ok (.value v) w :=
  dd_at ho hx ((HS.row k hk).get hv) hu hd
theorem dd_load (HS : St w0 F S w) (k i : Nat) {ty : TypeId} {x : Operand} (ho : o.op = .load ty x) {r : Blk} (hk : S[k]? = some r) (hx : a.eval x = .pointer (some ⟨r.g, i, none⟩)) {cs : Array Value} (hv : (r.cs.toList.drop i).take cs.size = cs.toList) {d : TypeDesc} (hu : P.underlying ty = some d) (hd : d.isRow = true) (hi : (P.info? ty).map (·.size) = some cs.size) : (execOp a.eval o).run P w = .ok (.value (.agg cs)) w := by
  have hc := (HS.row k hk).slab i cs.toList (by simpa using hv)
  unfold execOp
  simp only [ho, hx, Instr.loadAt, Instr.sureAddr, Sem.run_bind, Sem.run_pure, Result.andThen_ok, run_loadVar_mid w r.g i ty cs.toList d hc hu hd (by simpa using hi)]
theorem dd_atN {ty : TypeId} {x : Operand} (ho : o.op = .load ty x) {g i : Nat} (hx : a.eval x = .pointer (some ⟨g, i, none⟩)) {L : List Value} (hc : w.rangeAt g i L) {d : TypeDesc} (hu : P.underlying ty = some d) (hd : d.isRow = true) (hi : (P.info? ty).map (·.size) = some L.length) : (execOp a.eval o).run P w = .ok (.value (.agg L.toArray)) w := by
  unfold execOp
  simp only [ho, hx, Instr.loadAt, Instr.sureAddr, Sem.run_bind, Sem.run_pure, Result.andThen_ok, run_loadVar_mid w g i ty L d hc hu hd hi]
theorem dd_new (HS : St w0 F S w) {e : TypeId} (cs : Array Value) (ho : o.op = .alloc e) {z : Value} (hz : (P.info? e).bind (·.zero) = some z) (hc : z.cells = cs) (h : ∀ g w', St w0 F (S ++ [⟨g, e, cs⟩]) w' → R (.pointer (some ⟨g, 0, none⟩)) w') : Does P o a w R := fun _ _ hK =>
  wp_st_alloc HS e cs ho z hz hc fun g w' h1 => hK _ _ (h g w' h1)
theorem dd_box (HS : St w0 F S w) {e : TypeId} {x : Operand} (ho : o.op = .box e x) {v : Value} (hx : a.eval x = v) {cs : Array Value} (hc : v.cells = cs) (h : ∀ g w', St w0 F (S ++ [⟨g, e, cs⟩]) w' → R (.pointer (some ⟨g, 0, none⟩)) w') : Does P o a w R := fun _ _ hK =>
  wp_st_box HS e x ho v hx cs hc fun g w' h1 => hK _ _ (h g w' h1)
theorem dd_store (HS : St w0 F S w) (k i : Nat) {ty : TypeId} {x y : Operand} (ho : o.op = .store ty x y) {r : Blk} (hk : S[k]? = some r) (hx : a.eval x = .pointer (some ⟨r.g, i, none⟩)) {v : Value} (hy : a.eval y = v) (hi : (P.info? ty).map (·.size) = some v.cells.size) (hfit : i + v.cells.size ≤ r.cs.size) (h1 : v.cells.all (·.oneCell') = true)
    {cs : Array Value} (hcs : (spl r.cs.toList i v.cells.toList).toArray = cs) (h : ∀ w', St w0 F (S.set k ⟨r.g, r.t, cs⟩) w' → R undef w') : Does P o a w R := fun _ _ hK =>
  wp_st_store HS k i ty x y ho hk hx v hy hi hfit h1 cs hcs fun w' h1 => hK _ _ (h w' h1)
/- calls -/
theorem dd_call {f : FuncId} {fn : Func} {xs : Array Operand} {ts : Array TypeId} {l : List Value} {R' : Ending → World → Prop} (hf : P.funcs[f]? = some fn) (hn : (fn.name == "runtime.NumGoroutine") = false) (hb : fn.body.isNone = false) (ho : o.op = .call { callee := .value (.func f), args := xs, argTypes := ts }) (hx : (xs.map a.eval) = l.toArray) (C : Calls P f l.toArray w R')
    (h : ∀ e w', R' e w' → ∃ v, e = .returned v ∧ R v w') : Does P o a w R := fun K Q hK => by
  have hcf : (callFunc f (#[] ++ l.toArray ++ #[])).run P w = .ok (.enter f l.toArray) w := by
    have hn' : ¬ fn.name = "runtime.NumGoroutine" := by simpa using hn
    have hb' : ¬ fn.body = none := fun e => by rw [e] at hb; cases hb
    simp [callFunc, hf, hn', hb']
  have he : execOp a.eval o = callFunc f (#[] ++ l.toArray ++ #[]) := by
    unfold execOp
    rw [ho]
    simp only [resolve, Act.eval, Deferred.ofValue]
    rw [← hx]
    rfl
  unfold Oper.wp
  rw [he, hcf]
  refine Calls.mono C fun e w' hr => ?_
  obtain ⟨v, rfl, hv⟩ := h e w' hr
  exact hK v w' hv
end
/- comparisons -/
theorem lt_t {m n : Int} (h : m < n) : cmpI .lss m n = some true := by simp [cmpI, h]
theorem lt_f {m n : Int} (h : ¬ m < n) : cmpI .lss m n = some false := by simp [cmpI]; omega
theorem gt_t {m n : Int} (h : n < m) : cmpI .gtr m n = some true := by simp [cmpI, h]
theorem gt_f {m n : Int} (h : ¬ n < m) : cmpI .gtr m n = some false := by simp [cmpI]; omega
theorem eq_t {m n : Int} (h : m = n) : cmpI .eql m n = some true := by simp [cmpI, h]
theorem eq_f {m n : Int} (h : ¬ m = n) : cmpI .eql m n = some false := by simp [cmpI, h]
theorem ne_f {m n : Int} (h : m = n) : cmpI .neq m n = some false := by simp [cmpI, h]
end Go.Proofs.Ytcdcongeogmfkaa

/- Memory in a walk: rows side by side, literals, slices of the call's own that grow. No function of the program is named here. -/
set_option maxRecDepth 4000
namespace Go.Proofs.Ytcdcongeogmfkaa
open Go Go.RowKit
/- cells as pieces, one behind the other -/
def catA (L : List (List Value)) : Array Value := L.flatten.toArray
theorem lens_nil : ([] : List (List Value)).map List.length = [] := rfl
theorem lens_cons {l : List Value} {L : List (List Value)} {n : Nat} {ns : List Nat} (h : l.length = n) (t : L.map List.length = ns) : (l :: L).map List.length = n :: ns := by rw [List.map_cons, h, t]
theorem len_bv {q : List (BitVec 8)} {n : Nat} (h : q.length = n) : (bytesV q).length = n := by rw [len_bytesV, h]
section
variable {L M : List (List Value)} {ns : List Nat}
theorem cat_size (h : L.map List.length = ns) : (catA L).size = ns.sum := by unfold catA; rw [List.size_toArray, List.length_flatten, h]
theorem take_sum (h : L.map List.length = ns) (j : Nat) : (L.take j).flatten.length = (ns.take j).sum := by rw [List.length_flatten, List.map_take, h]
theorem cat_split (L : List (List Value)) (j : Nat) : L.flatten = (L.take j).flatten ++ (L.drop j).flatten := by rw [← List.flatten_append, List.take_append_drop]
theorem cat_store (h : L.map List.length = ns) (j m : Nat) {off : Nat} (ho : (ns.take j).sum = off) (hm : M.flatten.length = ((ns.drop j).take m).sum) : (spl (catA L).toList off M.flatten).toArray = catA (L.take j ++ M ++ L.drop (j + m)) := by
  unfold catA spl
  have e1 : (L.take j).flatten.length = off := by rw [take_sum h j, ho]
  have e2 : ((L.drop j).take m).flatten.length = M.flatten.length := by rw [hm, List.length_flatten, List.map_take, List.map_drop, h]
  rw [List.flatten_append, List.flatten_append]
  congr 1
  rw [cat_split L j, List.take_left' e1, List.append_assoc, List.append_assoc]
  congr 2
  rw [← List.drop_drop, List.drop_left' e1, cat_split (L.drop j) m, List.drop_left' e2, List.drop_drop]
theorem cat_store1 (h : L.map List.length = ns) (j : Nat) {off n : Nat} {cs : Array Value} (ho : (ns.take j).sum = off) (hm : cs.size = n) (hn : ns[j]? = some n) : (spl (catA L).toList off (Value.agg cs).cells.toList).toArray = catA (L.set j cs.toList) := by
  have hj : j < ns.length := (List.getElem?_eq_some_iff.1 hn).1
  have hjL : j < L.length := by rw [← h] at hj; simpa using hj
  have e := cat_store (M := [cs.toList]) h j 1 ho (by
    rw [List.drop_eq_getElem_cons hj, List.take_succ_cons, List.take_zero]
    have := (List.getElem?_eq_some_iff.1 hn).2
    simp [this, hm])
  have e3 : (Value.agg cs).cells.toList = [cs.toList].flatten := by simp [Value.cells]
  rw [e3, e, List.set_eq_take_append_cons_drop, if_pos hjL]
  simp
end
/- literals of structs and arrays, field by field; what is not given is zero -/
def setSegs : List (List Value) → List (Nat × Value) → List (List Value)
  | L, [] => L
  | L, (i, v) :: r => setSegs (L.set i v.cells.toList) r
def zsegs (P : Program) (t : TypeId) : Option (List (List Value)) :=
  match P.info? t, P.underlying t with
  | some it, some (.struct fields) => match it.zero, fields.toList.mapM (fun f => (P.info? f.type).map fun i => (f.offset, i.size)) with
    | some z, some places => if fits 0 (places.map (·.2)) places && ((places.map (·.2)).sum == z.cells.size) then some (places.map fun p => (z.cells.toList.drop p.1).take p.2) else none
    | _, _ => none
  | _, _ => none
theorem set_same {l : List Nat} {i : Nat} {x : Nat} (h : l[i]? = some x) : l.set i x = l := by
  apply List.ext_getElem?
  intro k
  by_cases hk : i = k
  · subst hk
    rw [List.getElem?_set_self (List.getElem?_eq_some_iff.1 h).1, h]
  · rw [List.getElem?_set_ne hk]
theorem fill_segs (place : Nat → Option (Nat × Nat)) : ∀ (ps : List (Nat × Value)) (L : List (List Value)) (ns : List Nat), L.map List.length = ns → (∀ i s, ns[i]? = some s → place i = some ((ns.take i).sum, s)) → (∀ p ∈ ps, ns[p.1]? = some p.2.cells.size) →
    Instr.fill place (catA L) ps = some (catA (setSegs L ps))
  | [], L, ns, _, _, _ => by simp [Instr.fill, setSegs]
  | (i, v) :: ps, L, ns, h, hp, hf => by
    have h1 := hf (i, v) (by simp)
    have hplace := hp i _ h1
    simp only at h1 hplace
    have hi : i < ns.length := (List.getElem?_eq_some_iff.1 h1).1
    have hv : v.cells.toList.length = v.cells.size := Array.length_toList
    have hle : (ns.take i).sum + v.cells.size ≤ (catA L).size := by
      rw [cat_size h]
      have e := congrArg List.sum (List.take_append_drop i ns)
      rw [List.sum_append, List.drop_eq_getElem_cons hi, List.sum_cons, (List.getElem?_eq_some_iff.1 h1).2] at e
      omega
    have e := fill_set (ns.take i).sum v.cells (catA L) hle
    have e2 := cat_store1 (L := L) (cs := v.cells) h i rfl rfl h1
    have e3 : (Value.agg v.cells).cells.toList = v.cells.toList := rfl
    rw [e3] at e2
    simp only [Instr.fill, hplace]
    rw [if_neg (by simp; omega), e, e2, setSegs]
    refine fill_segs place ps _ ns ?_ hp fun p hp => hf p (by simp [hp])
    rw [List.map_set, h, hv]
    exact set_same h1
theorem zsegs_flat {P : Program} {t : TypeId} {Lz : List (List Value)} (hz : zsegs P t = some Lz) (ps : List (Nat × Value)) (hf : ∀ p ∈ ps, (Lz.map List.length)[p.1]? = some p.2.cells.size) : P.built t ps = some (catA (setSegs Lz ps)) := by
  unfold zsegs at hz
  unfold Program.built
  cases hit : P.info? t with
  | none => simp [hit] at hz
  | some it =>
    cases hu : P.underlying t with
    | none => simp [hit, hu] at hz
    | some d =>
      cases d <;> try (simp [hit, hu] at hz; done)
      case struct fields =>
        simp only [hit, hu] at hz ⊢
        cases hzz : it.zero with
        | none => simp [hzz] at hz
        | some z =>
          cases hm : fields.toList.mapM (fun f => (P.info? f.type).map fun i => (f.offset, i.size)) with
          | none => simp [hzz, hm] at hz
          | some pl =>
            simp only [hzz, hm] at hz ⊢
            split at hz
            · rename_i hc
              simp only [Bool.and_eq_true, beq_iff_eq] at hc
              obtain ⟨hfit, hsum⟩ := hc
              injection hz with hz
              have hzl : z.cells.toList.length = z.cells.size := Array.length_toList
              have hat := fits_at _ 0 pl hfit
              have hlens : Lz.map List.length = pl.map (·.2) := by
                rw [← hz, List.map_map]
                refine List.map_congr_left fun p hp => ?_
                obtain ⟨k, hk⟩ := List.getElem?_of_mem hp
                have h2 := hat k p.2 (by simp [hk])
                rw [hk] at h2
                injection h2 with h2
                have h3 : p.1 = ((pl.map (·.2)).take k).sum := by rw [h2]; simp
                have hlt : k < (pl.map (·.2)).length := by have := (List.getElem?_eq_some_iff.1 hk).1; simpa using this
                have e := congrArg List.sum (List.take_append_drop k (pl.map (·.2)))
                rw [List.sum_append, List.drop_eq_getElem_cons hlt, List.sum_cons] at e
                have h4 : (pl.map (·.2))[k] = p.2 := by have := (List.getElem?_eq_some_iff.1 hk).2; simp [this]
                simp only [Function.comp, List.length_take, List.length_drop]
                omega
              have hflat : ∀ (ss : List Nat) (o : Nat) (pl : List (Nat × Nat)) (l : List Value), fits o ss pl = true → (pl.map fun p => (l.drop p.1).take p.2).flatten = (l.drop o).take ss.sum := by
                intro ss
                induction ss with
                | nil => intro o pl l h
                         cases pl with
                         | nil => simp
                         | cons => simp [fits] at h
                | cons s ss ih =>
                  intro o pl l h
                  cases pl with
                  | nil => simp [fits] at h
                  | cons p pl =>
                    obtain ⟨o', s'⟩ := p
                    simp only [fits, Bool.and_eq_true, beq_iff_eq] at h
                    obtain ⟨⟨rfl, rfl⟩, h⟩ := h
                    simp only [List.map_cons, List.flatten_cons, List.sum_cons]
                    rw [ih _ _ _ h, List.take_add, List.drop_drop]
              have hcat : catA Lz = z.cells := by
                unfold catA
                rw [← hz, hflat _ 0 pl _ hfit, List.drop_zero, hsum, List.take_of_length_le (by omega)]
              rw [← hcat]
              refine fill_segs _ ps Lz _ rfl (fun i s hs => ?_) hf
              rw [hlens] at hs ⊢
              rw [List.getElem?_toArray, hat i s hs, Nat.zero_add]
            · cases hz
section
variable {P : Program} {o : Oper} {a : Act} {w : World} {R : Value → World → Prop}
theorem fit_nil {ns : List Nat} : ∀ p ∈ ([] : List (Nat × Value)), ns[p.1]? = some p.2.cells.size := fun p h => by cases h
theorem fit_cons {ns : List Nat} {i n : Nat} {v : Value} {ps : List (Nat × Value)} (h : ns[i]? = some n) (hv : v.cells.size = n) (t : ∀ p ∈ ps, ns[p.1]? = some p.2.cells.size) : ∀ p ∈ (i, v) :: ps, ns[p.1]? = some p.2.cells.size := fun p hp => by
  cases hp with
  | head => rw [h, hv]
  | tail _ hp => exact t p hp
theorem dd_bld {t : TypeId} {parts : Array (Nat × Operand)} {ps : List (Nat × Value)} {Lz : List (List Value)} {ns : List Nat} {cs : Array Value} (ho : o.op = .build t parts) (hp : (parts.map fun (i, x) => (i, a.eval x)).toList = ps) (hz : zsegs P t = some Lz) (hL : Lz.map List.length = ns) (hf : ∀ p ∈ ps, ns[p.1]? = some p.2.cells.size)
    (hc : catA (setSegs Lz ps) = cs) : (execOp a.eval o).run P w = .ok (.value (.agg cs)) w := by
  subst hL hc
  have hb := zsegs_flat hz ps hf
  rw [← hp] at hb ⊢
  unfold execOp
  simp only [ho, Sem.run_bind, run_build w t _ _ hb, Result.andThen_ok, Sem.run_pure]
end
/- slices of the call's own: the block that they lie in -/
structure OwnC (cb : Array Value) (c n sz : Nat) (L : List Value) : Prop where
  le : n ≤ c
  cap : c ≤ maxLen
  size : cb.size = c * sz
  len : L.length = n * sz
  take : cb.toList.take (n * sz) = L
theorem ownc_to {w : World} {g e c n sz b : Nat} {cb : Array Value} {L : List Value} (h : Row w g e cb) (O : OwnC cb c n sz L) (hb : b ≤ g) : w.ownsRow b e sz (.slice (some ⟨g, 0, none⟩) n c) n L :=
  ⟨O.len, .inr ⟨g, c, cb, rfl, hb, h, O.le, O.cap, O.size, O.take⟩⟩
theorem ownc_of {w : World} {b e n sz : Nat} {v : Value} {L : List Value} (h : w.ownsRow b e sz v n L) (h0 : v ≠ .slice none 0 0) : ∃ g c cb, v = .slice (some ⟨g, 0, none⟩) n c ∧ b ≤ g ∧ Row w g e cb ∧ OwnC cb c n sz L := by
  obtain ⟨hl, h | ⟨g, cap, cur, h1, h2, h3, h4, h5, h6, h7⟩⟩ := h
  · exact absurd h.1 h0
  · exact ⟨g, cap, cur, h1, h2, h3, h4, h5, h6, hl, h7⟩
theorem ownc_pos {w : World} {b e n sz : Nat} {v : Value} {L : List Value} (h : w.ownsRow b e sz v n L) (h0 : 0 < n) : ∃ g c cb, v = .slice (some ⟨g, 0, none⟩) n c ∧ b ≤ g ∧ Row w g e cb ∧ OwnC cb c n sz L := by
  refine ownc_of h fun e => ?_
  rcases h.2 with h | ⟨g, cap, cur, h1, _⟩
  · omega
  · rw [e] at h1; cases h1
/- memory as a list of blocks: one goes, one comes -/
theorem st_erase {w0 w : World} {F : Nat → Prop} {S : List Blk} (h : St w0 F S w) (k : Nat) : St w0 F (S.eraseIdx k) w := by
  have at_ : ∀ j r, (S.eraseIdx k)[j]? = some r → ∃ i, S[i]? = some r ∧ i = (if j < k then j else j + 1) := fun j r hj => by
    rw [List.getElem?_eraseIdx] at hj
    split at hj
    · exact ⟨j, hj, by rw [if_pos (by assumption)]⟩
    · exact ⟨j + 1, hj, by rw [if_neg (by assumption)]⟩
  refine ⟨h.chg, fun j r hj => ?_, fun i j r s hij hi hj => ?_, fun j r hj => ?_⟩
  · obtain ⟨i, hi, _⟩ := at_ j r hj; exact h.rows i r hi
  · obtain ⟨i', hi', ei⟩ := at_ i r hi
    obtain ⟨j', hj', ej⟩ := at_ j s hj
    refine h.apart i' j' r s (fun e => hij ?_) hi' hj'
    rw [ei, ej] at e
    split at e <;> split at e <;> omega
  · obtain ⟨i, hi, _⟩ := at_ j r hj; exact h.own i r hi
theorem st_snoc {w0 w : World} {F : Nat → Prop} {S : List Blk} (h : St w0 F S w) {g : Nat} {t : TypeId} {cs : Array Value} (hr : Row w g t cs) (hg : F g ∨ w0.heap.size ≤ g) (hne : ∀ b ∈ S, b.g ≠ g) : St w0 F (S ++ [⟨g, t, cs⟩]) w := by
  have at_ : ∀ (j : Nat) (s : Blk), (S ++ [(⟨g, t, cs⟩ : Blk)])[j]? = some s → (j < S.length ∧ S[j]? = some s) ∨ (j = S.length ∧ s = ⟨g, t, cs⟩) := fun j s hj => by
    by_cases e : j < S.length
    · rw [List.getElem?_append_left e] at hj; exact .inl ⟨e, hj⟩
    · rw [List.getElem?_append_right (by omega)] at hj
      have e2 : j - S.length = 0 := by
        rcases Nat.eq_zero_or_pos (j - S.length) with h0 | h0
        · exact h0
        · rw [List.getElem?_eq_none (by simp; omega)] at hj; cases hj
      rw [e2] at hj
      exact .inr ⟨by omega, (Option.some.inj hj).symm⟩
  refine ⟨h.chg, fun j s hj => ?_, fun i j s u hij hi hj => ?_, fun j s hj => ?_⟩
  · rcases at_ j s hj with ⟨_, hk⟩ | ⟨_, rfl⟩
    · exact h.rows j s hk
    · exact hr
  · rcases at_ i s hi with ⟨_, hk⟩ | ⟨e1, rfl⟩ <;> rcases at_ j u hj with ⟨_, hu⟩ | ⟨e2, rfl⟩
    · exact h.apart _ _ _ _ hij hk hu
    · exact hne s (List.mem_of_getElem? hk)
    · exact fun e => hne u (List.mem_of_getElem? hu) e.symm
    · omega
  · rcases at_ j s hj with ⟨_, hk⟩ | ⟨_, rfl⟩
    · exact h.own j s hk
    · exact hg
section
variable {P : Program} {o : Oper} {a : Act} {w w0 : World} {R : Value → World → Prop} {F : Nat → Prop} {S : List Blk}
/- append to a slice whose block is known -/
theorem dd_app (HS : St w0 F S w) (k : Nat) {g c n sz : Nat} {cb : Array Value} {e t : TypeId} {L : List Value} (hk : S[k]? = some ⟨g, e, cb⟩) (O : OwnC cb c n sz L) {s x : Operand} (ho : o.op = .call { callee := .builtin .append, args := #[s, x], argTypes := #[t, t] })
    (hs : a.eval s = .slice (some ⟨g, 0, none⟩) n c) {z : Value} {bytes : Nat} (ht : P.underlying t = some (.slice e)) (hi : (P.info? e).map (fun i => (i.zero, i.size, i.bytes)) = some (some z, sz, bytes)) (hzs : z.cells.size = sz) (hsz : 0 < sz)
    {ad : Addr} {m c2 : Nat} (news : List Value) (hx : a.eval x = .slice (some ad) m c2) (hl : news.length = m * sz) (hnews : ∀ j u, news[j]? = some u → w.cell? (ad.add j) = some u) (h1 : ∀ u ∈ news, u.oneCell' = true)
    (h63 : n + m ≤ maxLen) (hbytes : (n + m) * bytes ≤ 140737488355328)
    (h : ∀ g' c' cb' w', OwnC cb' c' (n + m) sz (L ++ news) → St w0 F (S.eraseIdx k ++ [⟨g', e, cb'⟩]) w' → R (.slice (some ⟨g', 0, none⟩) (n + m) c') w') : Does P o a w R := fun _ _ hK => by
  have hrow := HS.row k hk
  have hown := ownc_to hrow O (Nat.zero_le g)
  obtain ⟨i, hi1, hz1, hz2, hz3⟩ := info_parts hi
  obtain ⟨v', w', hr, h2, h3, h4⟩ := run_append_where (P := P) w 0 t o.type e i z sz bytes ht hi1 hz1 hz2 hz3 hzs hsz _ n L hown ad m c2 news hl hnews h1 h63 hbytes (Nat.zero_le _)
  obtain ⟨v3, w3, hr3, _, _, h6⟩ := run_append_own (P := P) w 0 t o.type e i z sz bytes ht hi1 hz1 hz2 hz3 hzs hsz _ n L hown ad m c2 news hl hnews h1 h63 hbytes (Nat.zero_le _)
  rw [hr] at hr3
  injection hr3 with hr3 _
  subst hr3
  obtain ⟨g', c', cb', rfl, _, hrow', O'⟩ := ownc_of h2 (fun ev => by have := (h6.1 ev).1; cases this)
  have hne : ∀ j r, S[j]? = some r → j ≠ k → r.g ≠ g' := fun j r hj hjk e' => by
    have hjr := HS.rows j r hj
    rcases h4.cases (k := g') rfl with h5 | h5
    · injection h5 with h5
      have h5 : g = g' := h5
      exact HS.apart j k r _ hjk hj hk (by rw [e', ← h5])
    · have := hjr.lt; omega
  have hS1 : St w0 F (S.eraseIdx k) w' := by
    have hE := st_erase HS k
    have hg : F g ∨ w0.heap.size ≤ g := HS.own k _ hk
    have hrows : ∀ b ∈ S.eraseIdx k, b.g ≠ g := fun b hb e' => by
      obtain ⟨j, hj⟩ := List.getElem?_of_mem hb
      rw [List.getElem?_eraseIdx] at hj
      split at hj
      · exact HS.apart j k b _ (by omega) hj hk e'
      · exact HS.apart (j + 1) k b _ (by omega) hj hk e'
    exact ⟨hE.chg.grown h3 (fun j e' => by injection e' with e'; have e' : g = j := e'; subst e'; exact hg), fun j r hj => (hE.rows j r hj).only h3 (hrows r (List.mem_of_getElem? hj)), hE.apart, hE.own⟩
  have hg' : F g' ∨ w0.heap.size ≤ g' := by
    rcases h4.cases (k := g') rfl with h5 | h5
    · injection h5 with h5
      have h5 : g = g' := h5
      rw [← h5]; exact HS.own k _ hk
    · exact .inr (Nat.le_trans HS.chg.size h5)
  have hS2 := st_snoc hS1 hrow' hg' (fun b hb => by
    obtain ⟨j, hj⟩ := List.getElem?_of_mem hb
    rw [List.getElem?_eraseIdx] at hj
    split at hj
    · exact hne j b hj (by omega)
    · exact hne (j + 1) b hj (by omega))
  unfold Oper.wp execOp
  simp only [ho, resolve, invoke, builtin, Sem.run_bind, Sem.run_pure, Result.andThen_ok, List.map_toArray, List.map_cons, List.map_nil, hs, hx, hr]
  exact hK _ _ (h g' c' cb' w' O' hS2)
theorem dd_setrow (HS : St w0 F S w) (k : Nat) {ty : TypeId} {x y : Operand} (ho : o.op = .store ty x y) {g n : Nat} {t : TypeId} {old cs : Array Value} (hk : S[k]? = some ⟨g, t, old⟩) (hx : a.eval x = .pointer (some ⟨g, 0, none⟩)) (hy : a.eval y = .agg cs) (hi : (P.info? ty).map (·.size) = some n) (hn : cs.size = n) (hn2 : old.size = n) (h1 : (Value.agg cs).cells.all (·.oneCell') = true)
    (h : ∀ w', St w0 F (S.set k ⟨g, t, cs⟩) w' → R undef w') : Does P o a w R :=
  dd_store HS k 0 ho hk hx hy (by rw [hi, show (Value.agg cs).cells.size = n from hn]) (by show 0 + cs.size ≤ old.size; omega) h1 (spl_agg _ _ _ rfl (by show old.size = cs.size; omega)) h
end
theorem ao_nil : ∀ v ∈ ([] : List Value), Value.oneCell' v = true := fun v h => by cases h
theorem ao_cons {v : Value} {l : List Value} (h : Value.oneCell' v = true) (t : ∀ v ∈ l, Value.oneCell' v = true) : ∀ u ∈ v :: l, Value.oneCell' u = true := fun u hu => by
  cases hu with
  | head => exact h
  | tail _ hu => exact t u hu
theorem one_l {l : List Value} (h : ∀ v ∈ l, Value.oneCell' v = true) : (Value.agg l.toArray).cells.all (·.oneCell') = true := by
  show l.toArray.all _ = true
  simpa using h
theorem args0 {f : Operand → Value} : (#[] : Array Operand).map f = ([] : List Value).toArray := by simp
theorem args1 {f : Operand → Value} {x1 : Operand} {v1 : Value} (h1 : f x1 = v1) : (#[x1] : Array Operand).map f = [v1].toArray := by simp [h1]
theorem args2 {f : Operand → Value} {x1 x2 : Operand} {v1 v2 : Value} (h1 : f x1 = v1) (h2 : f x2 = v2) : (#[x1, x2] : Array Operand).map f = [v1, v2].toArray := by simp [h1, h2]
theorem args3 {f : Operand → Value} {x1 x2 x3 : Operand} {v1 v2 v3 : Value} (h1 : f x1 = v1) (h2 : f x2 = v2) (h3 : f x3 = v3) : (#[x1, x2, x3] : Array Operand).map f = [v1, v2, v3].toArray := by simp [h1, h2, h3]
theorem pr1 {i : Nat} {f : Operand → Value} {x : Operand} {v : Value} {l : List (Nat × Operand)} {ps : List (Nat × Value)} (h : f x = v) (t : (l.toArray.map fun (i, x) => (i, f x)).toList = ps) : (((i, x) :: l).toArray.map fun (i, x) => (i, f x)).toList = (i, v) :: ps := by
  simp only [List.map_toArray, List.map_cons, h] at *
  simpa using t
theorem pr0 {f : Operand → Value} : (([] : List (Nat × Operand)).toArray.map fun (i, x) => (i, f x)).toList = [] := by simp
/- bytes that a slice reads, as what is appended -/
theorem slice_news {w : World} {ad : Addr} {m c : Nat} {q : List (BitVec 8)} (h : Slice w (.slice (some ad) m c) q) : ∀ (j : Nat) (u : Value), (bytesV q)[j]? = some u → w.cell? (ad.add j) = some u := fun j u hu => by
  have hj : j < (bytesV q).length := (List.getElem?_eq_some_iff.1 hu).1
  rw [len_bytesV] at hj
  obtain ⟨A, c', e, _, h3⟩ := h
  injection e with e1 _ _
  subst e1
  obtain ⟨b, o, e2, _, h4⟩ := h3 (fun e => by rw [e] at hj; simp at hj)
  injection e2 with e2
  subst e2
  have h5 := h4 j q[j] (List.getElem?_eq_getElem hj)
  rw [Addr.add_mid, h5]
  simp [bytesV, List.getElem?_eq_getElem hj] at hu
  rw [hu]
theorem slice_own {w : World} {g c n : Nat} {cb : Array Value} {t : TypeId} {q : List (BitVec 8)} (h : Row w g t cb) (O : OwnC cb c n 1 (bytesV q)) (hq : q.length = n) : Slice w (.slice (some ⟨g, 0, none⟩) n c) q := by
  subst hq
  refine ⟨_, c, rfl, O.le, fun _ => ⟨g, 0, rfl, h.lt, fun j x hx => ?_⟩⟩
  have hj : j < q.length := (List.getElem?_eq_some_iff.1 hx).1
  rw [Nat.zero_add]
  refine h.get ?_
  have h1 := O.take
  rw [Nat.mul_one] at h1
  rw [← Array.getElem?_toList, ← List.getElem?_take_of_lt hj, h1]
  simp [bytesV, hx]
theorem slice_nil0 (w : World) : Slice w (.slice none 0 0) [] := ⟨none, 0, rfl, Nat.le_refl _, fun h => absurd rfl h⟩
theorem ownc_app {cb : Array Value} {c n : Nat} {p q : List (BitVec 8)} (h : OwnC cb c n 1 (bytesV p ++ bytesV q)) : OwnC cb c n 1 (bytesV (p ++ q)) := (show bytesV (p ++ q) = bytesV p ++ bytesV q by simp [bytesV]) ▸ h
section
variable {P : Program} {o : Oper} {a : Act} {w : World} {R : Value → World → Prop}
end
end Go.Proofs.Ytcdcongeogmfkaa

/- Regions that draw, order by order, what only reads taken first; ways that meet again. No function of the program is named here. -/
set_option maxRecDepth 4000
namespace Go.Proofs.Ytcdcongeogmfkaa
open Go Go.RowKit
def PQ (Q : Exit → Act → World → Prop) : Prop := ∀ c (a : Act) (d : Option Tmp) (v : Value) (w : World), Q (.panic c) (a.put d v) w → Q (.panic c) a w
theorem pq_then {K : Act → World → Prop} {Q : Exit → Act → World → Prop} (h : PQ Q) : PQ (Exit.then K Q) := h
theorem pq_block {id : Nat} {Q : Exit → Act → World → Prop} (h : PQ Q) : PQ (Exit.inBlock id Q) := h
theorem pq_body {P : Program} {fn : Func} {R : Ending → World → Prop} : PQ (bodyPost P fn R) := fun c a d v w h => by
  cases d <;> exact h
section
variable {P : Program} {Q : Exit → Act → World → Prop} {ops : Array Oper} {o : Oper} {N i fuel : Nat} {L : List (Nat × Value)} {a : Act} {w : World} {listed : Array Bool} {S : World → Prop}
theorem wp_held {id : Nat} {l : List Oper} {M : Nat} (S : World → Prop) (hm : P.follows .mixedOrders = true) (hM : l.length = M) (h : wpAnyH P .any l.toArray Q S M (Array.replicate M false) a w.drew) : (Code.region id l.toArray true).wp P Q a w := by
  subst hM
  refine wp_region_held (S := S) hm ?_
  have e : l.toArray.size = l.length := by simp
  rw [e]; exact h
end
/- some of the blocks, in whatever order -/
def selB (S : List Blk) : List Nat → List Blk
  | [] => []
  | i :: is => match S[i]? with
    | some r => r :: selB S is
    | none => selB S is
theorem sel_at (S : List Blk) : ∀ (is : List Nat), is.Nodup → ∀ (i j : Nat) (r s : Blk), (selB S is)[i]? = some r → (selB S is)[j]? = some s → ∃ i' j', i' ∈ is ∧ j' ∈ is ∧ S[i']? = some r ∧ S[j']? = some s ∧ (i ≠ j → i' ≠ j')
  | [], _, i, j, r, s, h, _ => by simp [selB] at h
  | k :: is, hn, i, j, r, s, hi, hj => by
    obtain ⟨hk, hn⟩ := List.nodup_cons.1 hn
    unfold selB at hi hj
    cases hs : S[k]? with
    | none =>
      rw [hs] at hi hj
      obtain ⟨i', j', h1, h2, h3⟩ := sel_at S is hn i j r s hi hj
      exact ⟨i', j', by simp [h1], by simp [h2], h3⟩
    | some u =>
      rw [hs] at hi hj
      cases i with
      | zero =>
        obtain rfl : u = r := by simpa using hi
        cases j with
        | zero => obtain rfl : u = s := by simpa using hj
                  exact ⟨k, k, by simp, by simp, hs, hs, fun h => absurd rfl h⟩
        | succ j =>
          obtain ⟨j', _, h1, _, h3, _, _⟩ := sel_at S is hn j j s s (by simpa using hj) (by simpa using hj)
          exact ⟨k, j', by simp, by simp [h1], hs, h3, fun _ e => hk (e ▸ h1)⟩
      | succ i =>
        cases j with
        | zero =>
          obtain rfl : u = s := by simpa using hj
          obtain ⟨i', _, h1, _, h3, _, _⟩ := sel_at S is hn i i r r (by simpa using hi) (by simpa using hi)
          exact ⟨i', k, by simp [h1], by simp, h3, hs, fun _ e => hk (e ▸ h1)⟩
        | succ j =>
          obtain ⟨i', j', h1, h2, h3, h4, h5⟩ := sel_at S is hn i j r s (by simpa using hi) (by simpa using hj)
          exact ⟨i', j', by simp [h1], by simp [h2], h3, h4, fun h => h5 (by omega)⟩
theorem st_sel {w0 w : World} {F : Nat → Prop} {S : List Blk} (h : St w0 F S w) (is : List Nat) (hn : is.Nodup) : St w0 F (selB S is) w :=
  ⟨h.chg, fun j r hj => by obtain ⟨i', _, _, _, h1, _⟩ := sel_at S is hn j j r r hj hj; exact h.rows i' r h1,
    fun i j r s hij hi hj => by obtain ⟨i', j', _, _, h1, h2, h3⟩ := sel_at S is hn i j r s hi hj; exact h.apart i' j' r s (h3 hij) h1 h2,
    fun j r hj => by obtain ⟨i', _, _, _, h1, _⟩ := sel_at S is hn j j r r hj hj; exact h.own i' r h1⟩
end Go.Proofs.Ytcdcongeogmfkaa

/- Loops in a walk; rows of bytes, cell by cell; slices that are made. No function of the program is named here. -/
set_option maxRecDepth 4000
namespace Go.Proofs.Ytcdcongeogmfkaa
open Go Go.RowKit
theorem i64_of {z : Int} (h0 : -9223372036854775808 ≤ z) (h1 : z < 9223372036854775808) : IntKind.i64.wrap z = z := by rw [IntKind.wrap_i64]; omega
section
variable {P : Program} {o : Oper} {a : Act} {w w0 : World} {R : Value → World → Prop} {F : Nat → Prop} {S : List Blk}
end
section
variable {o : Oper} {a : Act} {w w0 : World} {R : Value → World → Prop} {F : Nat → Prop} {S : List Blk}
end
end Go.Proofs.Ytcdcongeogmfkaa

/- More operations of a walk: rows that are far, appends to nothing. No function of the program is named here. -/
set_option maxRecDepth 4000
namespace Go.Proofs.Ytcdcongeogmfkaa
open Go Go.RowKit
theorem sl_at {x : Value} {A : Option Addr} {p : Addr} {n c : Nat} (h : x = .slice A n c) (hA : A = some p) : x = .slice (some p) n c := hA ▸ h
section
variable {P : Program} {o : Oper} {a : Act} {w w0 : World} {R : Value → World → Prop} {F : Nat → Prop} {S : List Blk}
theorem run_eqB {P : Program} (ty : TypeId) (w : World) (p q : Bool) (hu : P.underlying ty = some .bool) : (Op.equal ty (.bool p) (.bool q)).run P w = .ok (p == q) w := by
  show (Op.equalIn 10000 ty (.bool p) (.bool q)).run P w = .ok (p == q) w
  rw [show (10000 : Nat) = 9999 + 1 from rfl]
  unfold Op.equalIn
  simp [Sem.run_bind, run_underlying hu]
theorem dd_neb {ty ty2 : TypeId} {x y : Operand} {p q b : Bool} (ho : o.op = .binOp .neq ty x y ty2) (hx : a.eval x = .bool p) (hy : a.eval y = .bool q) (hu : P.underlying ty = some .bool) (hb : (p != q) = b) : (execOp a.eval o).run P w = .ok (.value (.bool b)) w := by
  subst hb
  simp [execOp, ho, hx, hy, eqGuard, binOp, run_eqB ty w p q hu, bne]
end
end Go.Proofs.Ytcdcongeogmfkaa

/- Short steps of a walk: the frame by its slots' numbers, an operation apart from where it stands. No function of the program is named here. -/
set_option maxRecDepth 4000
namespace Go.Proofs.Ytcdcongeogmfkaa
open Go Go.RowKit
def look : List (Nat × Value) → Nat → Option Value
  | [], _ => none
  | (j, v) :: L, k => bif Nat.beq j k then some v else look L k
def sels (L : List (Nat × Value)) : List Nat → List (Nat × Value) → Option (List (Nat × Value))
  | [], acc => some acc
  | k :: ks, acc => match look L k with
    | some v => sels L ks ((k, v) :: acc)
    | none => none
structure En (N : Nat) (L : List (Nat × Value)) (a : Act) : Prop where
  size : a.tmps.size = N
  defers : a.defers = []
  at_ : ∀ (k : Nat) (v : Value), look L k = some v → a.tmps[k]? = some v
def dq (N : Nat) (o : Oper) : Option Nat := match o.dst with
  | some d => bif Nat.blt d N then some d else none
  | none => none
def dg (N : Nat) (o : Oper) : Option Nat := match o.guard with
  | none => dq N o
  | some _ => none
def dn (o : Oper) : Bool := match o.guard, o.dst with
  | none, none => true
  | _, _ => false
theorem dq_is {N : Nat} {o : Oper} {d : Nat} (h : dq N o = some d) : o.dst = some d ∧ d < N := by
  unfold dq at h
  split at h
  · rename_i e he
    cases hb : Nat.blt e N with
    | false => rw [hb] at h; cases h
    | true =>
      rw [hb] at h
      injection h with h
      subst h
      exact ⟨he, Nat.le_of_ble_eq_true hb⟩
  · cases h
theorem dg_is {N : Nat} {o : Oper} {d : Nat} (h : dg N o = some d) : o.guard = none ∧ dq N o = some d := by
  unfold dg at h
  split at h
  · exact ⟨by assumption, h⟩
  · cases h
theorem dn_is {o : Oper} (h : dn o = true) : o.guard = none ∧ o.dst = none := by
  unfold dn at h
  split at h
  · exact ⟨by assumption, by assumption⟩
  · cases h
section
variable {P : Program} {N : Nat} {L : List (Nat × Value)} {a : Act}
theorem En.ev (h : En N L a) (k : Nat) {v : Value} (hi : look L k = some v) : a.eval (.tmp k) = v := eval_of_get (h.at_ k v hi)
theorem En.get (h : En N L a) (k : Nat) {v : Value} (hi : look L k = some v) : a.tmps[k]? = some v := h.at_ k v hi
theorem En.sub (h : En N L a) {L2 : List (Nat × Value)} (hs : ∀ k v, look L2 k = some v → look L k = some v) : En N L2 a := ⟨h.size, h.defers, fun k v hi => h.at_ k v (hs k v hi)⟩
theorem sels_sub {L : List (Nat × Value)} : ∀ (ks : List Nat) (acc L2 : List (Nat × Value)), (∀ k v, look acc k = some v → look L k = some v) → sels L ks acc = some L2 → ∀ k v, look L2 k = some v → look L k = some v
  | [], acc, L2, h, e => by
    injection e with e
    subst e; exact h
  | j :: ks, acc, L2, h, e => by
    unfold sels at e
    cases hj : look L j with
    | none => rw [hj] at e; cases e
    | some u =>
      rw [hj] at e
      refine sels_sub ks _ L2 (fun k v hk => ?_) e
      unfold look at hk
      cases hb : Nat.beq j k with
      | false => simp only [hb] at hk; exact h k v hk
      | true =>
        simp only [hb] at hk
        have := Nat.eq_of_beq_eq_true hb
        subst this
        rw [hj]; exact hk
theorem En.sel (h : En N L a) (ks : List Nat) {L2 : List (Nat × Value)} (e : sels L ks [] = some L2) : En N L2 a := h.sub (sels_sub ks [] L2 (fun k v hk => by cases hk) e)
theorem En.env0 (h : En N L a) : Env N [] a := env_nil h.size h.defers
theorem En.put (h : En N L a) {d : Nat} (hd : d < N) (v : Value) : En N ((d, v) :: L) (a.put (some d) v) := by
  refine ⟨by simp [Act.put, h.size], h.defers, fun k u hi => ?_⟩
  unfold look at hi
  simp only [Act.put]
  cases hb : Nat.beq d k with
  | true =>
    simp only [hb] at hi
    have := Nat.eq_of_beq_eq_true hb
    subst this
    have hi : v = u := Option.some.inj hi
    subst hi
    simp [h.size, hd]
  | false =>
    simp only [hb] at hi
    have hne : d ≠ k := fun e => by subst e; simp at hb
    rw [Array.getElem?_setIfInBounds_ne hne]
    exact h.at_ k u hi
theorem look_arg : ∀ (vs : List Value) (i k : Nat) (v : Value), look (argL vs i) k = some v → i ≤ k ∧ vs[k - i]? = some v
  | [], i, k, v, h => by cases h
  | u :: vs, i, k, v, h => by
    unfold argL look at h
    cases hb : Nat.beq i k with
    | true =>
      simp only [hb] at h
      have := Nat.eq_of_beq_eq_true hb
      subst this
      simpa using h
    | false =>
      simp only [hb] at h
      have hne : i ≠ k := fun e => by subst e; simp at hb
      obtain ⟨h1, h2⟩ := look_arg vs (i + 1) k v h
      refine ⟨by omega, ?_⟩
      have e : k - i = (k - (i + 1)) + 1 := by omega
      rw [e]; simpa using h2
theorem enter_en {f : FuncId} {fn : Func} {c : Code} {l : List Value} {w : World} {R : Ending → World → Prop} (hf : P.funcs[f]? = some fn) (hb : fn.body = some c) (hN : fn.ntmps = N) (hl : l.length ≤ N)
    (h : ∀ a, En N (argL l 0) a → c.wp P (bodyPost P fn R) a w) : Calls P f l.toArray w R := by
  refine calls_of_wp hf hb (h _ ⟨by simp [hN]; omega, rfl, fun k v hi => ?_⟩)
  obtain ⟨_, h2⟩ := look_arg l 0 k v hi
  have hlt := (List.getElem?_eq_some_iff.1 h2).1
  simp only
  rw [Array.getElem?_append_left (by simpa using hlt)]
  simpa using h2
end
/- an operation, wherever it stands: K is what must hold behind it -/
def Og (P : Program) (ops : Array Oper) (Q : Exit → Act → World → Prop) (o : Oper) (K : Act → World → Prop) (a : Act) (w : World) : Prop :=
  ∀ K' : Act → World → Prop, (∀ a w, K a w → K' a w) → if Region.wanted o (yielded ops a.tmps) = true then Oper.wp P o a w K' Q else K' (a.put o.dst undef) w
section
variable {P : Program} {ops : Array Oper} {Q : Exit → Act → World → Prop} {rest : List Oper} {o : Oper} {K : Act → World → Prop} {N i fuel : Nat} {L : List (Nat × Value)} {a : Act} {w w0 : World} {listed : Array Bool} {S : World → Prop} {F : Nat → Prop} {B : List Blk} {d : Nat}
theorem wl_ (h : Og P ops Q o (wpList P ops Q rest) a w) : wpList P ops Q (o :: rest) a w := wpList_step h
theorem h1_ (i : Nat) {o : Oper} (ho : ops[i]? = some o) (h : Og P ops Q o (fun a' w' => S w' ∧ wpAnyH P .any ops Q S fuel (listed.setIfInBounds i true) a' w') a w) (hr : Region.ready .any ops listed = [i] := by kernel_rfl) : wpAnyH P .any ops Q S (fuel + 1) listed a w :=
  wpAnyH_all hr (by simp) fun j hj => by
    obtain rfl : j = i := by simpa using hj
    exact wpOp_step ho h
theorem wg_ (H : En N L a) {j t : Nat} {b c e : Bool} (hg : o.guard = some (j, b)) (hd : dstAt ops j = some t) (ht : look L t = some (.bool c)) (h : (c == b) = e) : Region.wanted o (yielded ops a.tmps) = e := want_g hg hd (H.get t ht) h
theorem dr_ (H : En N L a) (hw : Region.wanted o (yielded ops a.tmps) = true) (hd : dq N o = some d) {R : Value → World → Prop} (hD : Does P o a w R) (h : ∀ v w', R v w' → ∀ a', En N ((d, v) :: L) a' → K a' w') : Og P ops Q o K a w := fun K' hK => by
  obtain ⟨h1, h2⟩ := dq_is hd
  rw [if_pos hw]
  exact hD K' Q fun v w' hR => by rw [h1]; exact hK _ _ (h v w' hR _ (H.put h2 v))
theorem d_ (H : En N L a) (hd : dg N o = some d) {R : Value → World → Prop} (hD : Does P o a w R) (h : ∀ v w', R v w' → ∀ a', En N ((d, v) :: L) a' → K a' w') : Og P ops Q o K a w := dr_ H (want_n (dg_is hd).1) (dg_is hd).2 hD h
theorem k_ (H : En N L a) (hw : Region.wanted o (yielded ops a.tmps) = false) (hd : dq N o = some d) (h : ∀ a', En N ((d, undef) :: L) a' → K a' w) : Og P ops Q o K a w := fun K' hK => by
  obtain ⟨h1, h2⟩ := dq_is hd
  rw [hw, if_neg (by decide), h1]
  exact hK _ _ (h _ (H.put h2 undef))
theorem i_ (H : En N L a) (hd : dg N o = some d) {v : Value} (hD : (execOp a.eval o).run P w = .ok (.value v) w) (h : ∀ a', En N ((d, v) :: L) a' → K a' w) : Og P ops Q o K a w :=
  d_ H hd (R := fun u w' => u = v ∧ w' = w) (dd_rn hD ⟨rfl, rfl⟩) fun v' w' hR a' HA' => by obtain ⟨rfl, rfl⟩ := hR; exact h a' HA'
theorem ig (H : En N L a) (hw : Region.wanted o (yielded ops a.tmps) = true) (hd : dq N o = some d) {v : Value} (hD : (execOp a.eval o).run P w = .ok (.value v) w) (h : ∀ a', En N ((d, v) :: L) a' → K a' w) : Og P ops Q o K a w :=
  dr_ H hw hd (R := fun u w' => u = v ∧ w' = w) (dd_rn hD ⟨rfl, rfl⟩) fun v' w' hR a' HA' => by obtain ⟨rfl, rfl⟩ := hR; exact h a' HA'
theorem i0 (hd : dn o = true) {v : Value} (hD : (execOp a.eval o).run P w = .ok (.value v) w) (h : K a w) : Og P ops Q o K a w := fun K' hK => by
  rw [if_pos (want_n (dn_is hd).1)]
  exact dd_rn (R := fun u w' => u = v ∧ w' = w) hD ⟨rfl, rfl⟩ K' Q fun v' w' hR => by
    obtain ⟨rfl, rfl⟩ := hR
    rw [(dn_is hd).2]; exact hK _ _ h
/- a new block -/
theorem n_ (H : En N L a) (hd : dg N o = some d) {S : Nat → List Blk} {A : Nat → Value} (hD : ∀ R : Value → World → Prop, (∀ g w', St w0 F (S g) w' → R (A g) w') → Does P o a w R) (h : ∀ g w', St w0 F (S g) w' → ∀ a', En N ((d, A g) :: L) a' → K a' w') : Og P ops Q o K a w :=
  d_ H hd (hD (fun v w' => ∃ g, v = A g ∧ St w0 F (S g) w') fun g w' k => ⟨g, rfl, k⟩) fun v w' hR a' HA' => by
    obtain ⟨g, rfl, k⟩ := hR; exact h g w' k a' HA'
/- a store -/
theorem t_ (hd : dn o = true) {S : List Blk} (hD : ∀ R : Value → World → Prop, (∀ w', St w0 F S w' → R undef w') → Does P o a w R) (h : ∀ w', St w0 F S w' → K a w') : Og P ops Q o K a w := fun K' hK => by
  rw [if_pos (want_n (dn_is hd).1)]
  refine hD (fun _ w' => St w0 F S w') (fun _ k => k) K' Q fun v w' k => ?_
  rw [(dn_is hd).2]; exact hK _ _ (h w' k)
/- bytes or values behind a slice of the call's own -/
theorem a_ (H : En N L a) (hd : dg N o = some d) {S : Nat → Array Value → List Blk} (A : Nat → Nat → Value) {T : Nat → Nat → Array Value → Prop} (hD : ∀ R : Value → World → Prop, (∀ g c cb w', T g c cb → St w0 F (S g cb) w' → R (A g c) w') → Does P o a w R) (h : ∀ g c cb w', T g c cb → St w0 F (S g cb) w' → ∀ a', En N ((d, A g c) :: L) a' → K a' w') : Og P ops Q o K a w :=
  d_ H hd (hD (fun v w' => ∃ g c cb, v = A g c ∧ T g c cb ∧ St w0 F (S g cb) w') fun g c cb w' k1 k2 => ⟨g, c, cb, rfl, k1, k2⟩) fun v w' hR a' HA' => by
    obtain ⟨g, c, cb, rfl, k1, k2⟩ := hR; exact h g c cb w' k1 k2 a' HA'
/- a call that leaves what was there -/
theorem c_ (H : En N L a) (hd : dg N o = some d) (HS : St w0 F B w) {v : Value} (hD : Does P o a w fun u w' => u = v ∧ Below w.heap.size w w') (h : ∀ w', St w0 F B w' → ∀ a', En N ((d, v) :: L) a' → K a' w') : Og P ops Q o K a w :=
  d_ H hd hD fun u w' hR a' HA' => by obtain ⟨rfl, k⟩ := hR; exact h w' (HS.same k) a' HA'
theorem cg (H : En N L a) (hw : Region.wanted o (yielded ops a.tmps) = true) (hd : dq N o = some d) (HS : St w0 F B w) {v : Value} (hD : Does P o a w fun u w' => u = v ∧ Below w.heap.size w w') (h : ∀ w', St w0 F B w' → ∀ a', En N ((d, v) :: L) a' → K a' w') : Og P ops Q o K a w :=
  dr_ H hw hd hD fun u w' hR a' HA' => by obtain ⟨rfl, k⟩ := hR; exact h w' (HS.same k) a' HA'
theorem dc_ {f : FuncId} {fn : Func} {xs : Array Operand} {ts : Array TypeId} {l : List Value} {R' : Ending → World → Prop} {R : Value → World → Prop} (hf : P.funcs[f]? = some fn) (ho : o.op = .call { callee := .value (.func f), args := xs, argTypes := ts }) (hx : (xs.map a.eval) = l.toArray) (C : Calls P f l.toArray w R')
    (h : ∀ e w', R' e w' → ∃ v, e = .returned v ∧ R v w') (hn : (fn.name == "runtime.NumGoroutine") = false := by kernel_rfl) (hb : fn.body.isNone = false := by kernel_rfl) : Does P o a w R := dd_call hf hn hb ho hx C h
theorem dcs {f : FuncId} {fn : Func} {xs : Array Operand} {ts : Array TypeId} {l : List Value} (hf : P.funcs[f]? = some fn) (ho : o.op = .call { callee := .value (.func f), args := xs, argTypes := ts }) (hx : (xs.map a.eval) = l.toArray) {v : Value} (C : Calls P f l.toArray w fun e w' => e = .returned v ∧ Below w.heap.size w w') (v' : Value)
    (hv : v = v' := by rfl) (hn : (fn.name == "runtime.NumGoroutine") = false := by kernel_rfl) (hb : fn.body.isNone = false := by kernel_rfl) : Does P o a w fun u w' => u = v' ∧ Below w.heap.size w w' := dd_call hf hn hb ho hx C fun _ _ h => ⟨v, h.1, hv, h.2⟩
/- several operations that only move values, in order -/
def opv (L : List (Nat × Value)) : Operand → Option Value
  | .tmp k => look L k
  | .const v => some v
  | _ => none
theorem opv_is (H : En N L a) {x : Operand} {v : Value} (h : opv L x = some v) : a.eval x = v := by
  cases x with
  | tmp k => exact H.ev k h
  | const u => exact Option.some.inj h
  | _ => cases h
def pur (L : List (Nat × Value)) (o : Oper) : Option Value := match o.op with
  | .move x => opv L x
  | .assign x => opv L x
  | .pick c x y => match opv L c with
    | some (.bool true) => opv L x
    | some (.bool false) => opv L y
    | _ => none
  | _ => none
theorem pur_is (H : En N L a) {v : Value} (h : pur L o = some v) : (execOp a.eval o).run P w = .ok (.value v) w := by
  unfold pur at h
  split at h
  · exact dd_mv (by assumption) (opv_is H h)
  · exact dd_as (by assumption) (opv_is H h)
  · split at h
    · exact dd_pickT (by assumption) (opv_is H (by assumption)) (opv_is H h)
    · exact dd_pickF (by assumption) (opv_is H (by assumption)) (opv_is H h)
    · cases h
  · cases h
def purs (N : Nat) : Nat → List (Nat × Value) → List Oper → Option (List (Nat × Value) × List Oper)
  | 0, L, l => some (L, l)
  | _ + 1, _, [] => none
  | n + 1, L, o :: l => match dg N o with
    | none => none
    | some d => match pur L o with
      | none => none
      | some v => purs N n ((d, v) :: L) l
theorem purs_is : ∀ (n : Nat) {L L' : List (Nat × Value)} {l l' : List Oper} {a : Act}, En N L a → purs N n L l = some (L', l') → (∀ a', En N L' a' → wpList P ops Q l' a' w) → wpList P ops Q l a w
  | 0, L, L', l, l', a, H, e, h => by
    injection e with e
    injection e with e1 e2
    subst e1 e2
    exact h a H
  | n + 1, L, L', [], l', a, H, e, h => by cases e
  | n + 1, L, L', o :: l, l', a, H, e, h => by
    unfold purs at e
    split at e
    · cases e
    · split at e
      · cases e
      · rename_i d hd _ v hv
        exact wl_ (i_ H hd (pur_is H hv) fun a' H' => purs_is n H' e h)
theorem q_ (H : En N L a) (n : Nat) {l l' : List Oper} {L' : List (Nat × Value)} (e : purs N n L l = some (L', l')) (h : ∀ a', En N L' a' → wpList P ops Q l' a' w) : wpList P ops Q l a w := purs_is n H e h
theorem p_ (H : En N L a) (hd : dg N o = some d) {v : Value} (hp : pur L o = some v) (h : ∀ a', En N ((d, v) :: L) a' → K a' w) : Og P ops Q o K a w := i_ H hd (pur_is H hp) h
/- regions that draw -/
class PQc (Q : Exit → Act → World → Prop) : Prop where
  pq : PQ Q
instance {K : Act → World → Prop} {Q : Exit → Act → World → Prop} [h : PQc Q] : PQc (Exit.then K Q) := ⟨pq_then h.pq⟩
instance {id : Nat} {Q : Exit → Act → World → Prop} [h : PQc Q] : PQc (Exit.inBlock id Q) := ⟨pq_block h.pq⟩
instance {fn : Func} {R : Ending → World → Prop} : PQc (bodyPost P fn R) := ⟨pq_body⟩
def Sx (w0 : World) (F : Nat → Prop) (B : List Blk) (w : World) : Prop := ∃ R9, St w0 F (B ++ R9) w
theorem sxi {S R9 : List Blk} (h : St w0 F S w) (is : List Nat) (e : selB S is = B ++ R9) (hn : is.Nodup := by decide) : Sx w0 F B w := ⟨R9, e ▸ st_sel h is hn⟩
theorem ss {S : List Blk} (h : St w0 F S w) (is : List Nat) (hn : is.Nodup := by decide) : St w0 F (selB S is) w := st_sel h is hn
def hck (ops : Array Oper) (listed : Array Bool) (i : Nat) : Bool := Region.noSelect ops && Region.free .any ops listed i && (Region.ready .any ops listed).contains i
theorem hck_is (h : hck ops listed i = true) : Region.noSelect ops = true ∧ Region.free .any ops listed i = true ∧ (Region.ready .any ops listed).contains i = true := by
  unfold hck at h
  simp only [Bool.and_eq_true] at h
  exact ⟨h.1.1, h.1.2, h.2⟩
theorem htg [hq : PQc Q] (H : En N L a) (i : Nat) {o : Oper} (hS : Sx w0 F B w) (hi : ops[i]? = some o) (hw : Region.wanted o (yielded ops a.tmps) = true) (hd : dq N o = some d) {v : Value} (hy : ∀ w R9, St w0 F (B ++ R9) w → (execOp a.eval o).run P w = .ok (.value v) w)
    (h : ∀ a', En N ((d, v) :: L) a' → wpAnyH P .any ops Q (Sx w0 F B) fuel (listed.setIfInBounds i true) a' w) (hc : hck ops listed i = true := by kernel_rfl) : wpAnyH P .any ops Q (Sx w0 F B) (fuel + 1) listed a w := by
  obtain ⟨h1, h2, h3⟩ := hck_is hc
  refine wpAnyH_take hi h1 h2 h3 (fun c a w => hq.pq c a o.dst v w) (.inl ⟨hw, fun w ⟨R9, k⟩ => hy w R9 k⟩) hS ?_
  rw [(dq_is hd).1]
  exact h _ (H.put (dq_is hd).2 v)
theorem ht_ [PQc Q] (H : En N L a) (i : Nat) {o : Oper} (hS : Sx w0 F B w) (hi : ops[i]? = some o) (hd : dg N o = some d) {v : Value} (hy : ∀ w R9, St w0 F (B ++ R9) w → (execOp a.eval o).run P w = .ok (.value v) w)
    (h : ∀ a', En N ((d, v) :: L) a' → wpAnyH P .any ops Q (Sx w0 F B) fuel (listed.setIfInBounds i true) a' w) (hc : hck ops listed i = true := by kernel_rfl) : wpAnyH P .any ops Q (Sx w0 F B) (fuel + 1) listed a w :=
  htg H i hS hi (want_n (dg_is hd).1) (dg_is hd).2 hy h hc
theorem hp_ [PQc Q] (H : En N L a) (i : Nat) {o : Oper} (hS : Sx w0 F B w) (hi : ops[i]? = some o) (hd : dg N o = some d) {v : Value} (hp : pur L o = some v)
    (h : ∀ a', En N ((d, v) :: L) a' → wpAnyH P .any ops Q (Sx w0 F B) fuel (listed.setIfInBounds i true) a' w) (hc : hck ops listed i = true := by kernel_rfl) : wpAnyH P .any ops Q (Sx w0 F B) (fuel + 1) listed a w :=
  ht_ H i hS hi hd (fun _ _ _ => pur_is H hp) h hc
theorem sx_ {A B : Prop} (h : A) (k : A → B) : A ∧ B := ⟨h, k h⟩
theorem wh_ {S : List Blk} (HS : St w0 F S w) (B : List Blk) {id : Nat} {l : List Oper} {M : Nat} (hM : l.length = M) (hx : Sx w0 F B w) (h : St w0 F S w.drew → Sx w0 F B w.drew → wpAnyH P .any l.toArray Q (Sx w0 F B) M (Array.replicate M false) a w.drew) (hm : P.follows .mixedOrders = true := by kernel_rfl) : (Code.region id l.toArray true).wp P Q a w :=
  wp_held _ hm hM (h HS.drew (let ⟨R9, k⟩ := hx; ⟨R9, k.drew⟩))
theorem wi_ {S : List Blk} (HS : St w0 F S w) (is : List Nat) {id : Nat} {l : List Oper} {M : Nat} (hM : l.length = M) {R9 : List Blk} (js : List Nat) (e : selB S js = selB S is ++ R9) (h : St w0 F S w.drew → Sx w0 F (selB S is) w.drew → wpAnyH P .any l.toArray Q (Sx w0 F (selB S is)) M (Array.replicate M false) a w.drew) (hn : js.Nodup := by decide) (hm : P.follows .mixedOrders = true := by kernel_rfl) : (Code.region id l.toArray true).wp P Q a w :=
  wh_ HS (selB S is) hM (sxi HS js e hn) h hm
end
/- shorter names -/
section
variable {P : Program} {o : Oper} {a : Act} {w : World}
theorem xA (n sz j : Nat) {t : TypeId} {x y : Operand} {g i : Nat} {k : IntKind} {m : Int} (ho : o.op = .indexAddr t x y) (hx : a.eval x = .pointer (some ⟨g, i, none⟩)) (hy : a.eval y = .int k m) (ht : arrOf P t = some (n, sz) := by kernel_rfl) (h0 : 0 ≤ m := by decide) (hn : m < (n : Int) := by decide) (hj : i + m.toNat * sz = j := by rfl) : (execOp a.eval o).run P w = .ok (.value (.pointer (some ⟨g, j, none⟩))) w := dd_idxA ho hx hy ht h0 hn hj
theorem xSo (sz j : Nat) {t : TypeId} {x y : Operand} {g i n c : Nat} {k : IntKind} {m : Int} (ho : o.op = .indexAddr t x y) (hx : a.eval x = .slice (some ⟨g, i, none⟩) n c) (hy : a.eval y = .int k m) (ht : slOf P t = some sz := by kernel_rfl) (h0 : 0 ≤ m := by omega) (hn : m < (n : Int) := by omega) (hj : i + m.toNat * sz = j := by omega) : (execOp a.eval o).run P w = .ok (.value (.pointer (some ⟨g, j, none⟩))) w := dd_idxS ho hx hy ht h0 hn hj
theorem xf (off j : Nat) {s : TypeId} {x : Operand} {f g i : Nat} (ho : o.op = .fieldAddr s x f) (hx : a.eval x = .pointer (some ⟨g, i, none⟩)) (hf : fieldOff P s f = some off := by kernel_rfl) (hj : i + off = j := by rfl) : (execOp a.eval o).run P w = .ok (.value (.pointer (some ⟨g, j, none⟩))) w := dd_field ho hx hf hj
end
/- code -/
section
variable {P : Program} {Q : Exit → Act → World → Prop} {a : Act} {w : World} {N : Nat} {L : List (Nat × Value)} {x y : Code} {id : Nat}
theorem sq_ (h : x.wp P (Exit.then (y.wp P Q) Q) a w) : (Code.seq x y).wp P Q a w := wp_seq h
theorem rl_ {l : List Oper} (h : wpList P l.toArray Q l a w) : (Code.region id l.toArray false).wp P Q a w := wp_region_lit h
theorem ln_ {ops : Array Oper} (h : Q .normal a w) : wpList P ops Q [] a w := h
theorem ct_ (H : En N L a) {k : Nat} (hk : look L k = some (.bool true)) (h : x.wp P Q a w) : (Code.cond (.tmp k) x y).wp P Q a w := wp_cond_true (H.ev k hk) h
theorem cf_ (H : En N L a) {k : Nat} (hk : look L k = some (.bool false)) (h : y.wp P Q a w) : (Code.cond (.tmp k) x y).wp P Q a w := wp_cond_false (H.ev k hk) h
end
end Go.Proofs.Ytcdcongeogmfkaa

/- Strings and copies in a walk. No function of the program is named here. -/
set_option maxRecDepth 4000
namespace Go.Proofs.Ytcdcongeogmfkaa
open Go Go.RowKit
section
variable {o : Oper} {a : Act} {w w0 : World} {R : Value → World → Prop} {F : Nat → Prop} {S : List Blk}
end
theorem ownc_nil : OwnC #[] 0 0 1 (bytesV []) := ⟨Nat.le_refl _, by decide, rfl, rfl, rfl⟩
section
variable {o : Oper} {a : Act} {w w0 : World} {R : Value → World → Prop} {F : Nat → Prop} {S : List Blk}
theorem dd_lit0 {P : Program} (HS : St w0 F S w) {t e : TypeId} {parts : Array (Nat × Operand)} (ho : o.op = .buildSlice t 0 parts) (hp : parts = #[]) (hu : P.underlying t = some (.slice e)) {sz : Nat} (hie : (P.info? e).map (fun i => i.size) = some sz)
    (h : ∀ g w', St w0 F (S ++ [⟨g, e, #[]⟩]) w' → R (.slice (some ⟨g, 0, none⟩) 0 0) w') : Does P o a w R := fun _ _ hK => by
  obtain ⟨ie, hi, _⟩ := Option.map_eq_some_iff.1 hie
  have hrun : (execOp a.eval o).run P w = .ok (.value (.slice (some ⟨w.heap.size, 0, none⟩) 0 0)) (w.alloc (.cells #[] e)) := by
    unfold execOp
    have e0 : (Array.range 0).map (fun _ : Nat => (default : Value)) = #[] := by simp [Array.range]
    simp [ho, hp, Instr.buildSlice, run_underlying hu, sizeOf, typeInfo, hi, Instr.fill, newRow, e0]
  unfold Oper.wp
  rw [hrun]
  exact hK _ _ (h _ _ (HS.snoc e #[]))
/- bytes behind bytes of the call's own, whatever slice they stand in -/
theorem dd_appB (HS : St w0 F S w) (k : Nat) {g c n n2 : Nat} {cb : Array Value} {q r q2 : List (BitVec 8)} (hk : S[k]? = some ⟨g, 5, cb⟩) (O : OwnC cb c n 1 (bytesV q)) {s x : Operand} (ho : o.op = .call { callee := .builtin .append, args := #[s, x], argTypes := #[37, 37] })
    (hs : a.eval s = .slice (some ⟨g, 0, none⟩) n c) {A : Option Addr} {m c2 : Nat} (hx : a.eval x = .slice A m c2) (hr : Slice w (.slice A m c2) r) (hA : A = none → c2 = 0) (hn : n + m = n2) (hq : q ++ r = q2) (h63 : n2 ≤ maxLen) (hbytes : n2 ≤ 140737488355328)
    (h : ∀ g' c' cb' w', OwnC cb' c' n2 1 (bytesV q2) → St w0 F (S.eraseIdx k ++ [⟨g', 5, cb'⟩]) w' → R (.slice (some ⟨g', 0, none⟩) n2 c') w') : Does Try.prog o a w R := by
  subst hn hq
  have hm : r.length = m := by obtain ⟨A', c', e, _⟩ := hr; injection e with _ e _; exact e.symm
  cases A with
  | none =>
    have hr0 : r = [] := by
      apply Decidable.byContradiction
      intro hne
      obtain ⟨A', c', e, _, h3⟩ := hr
      obtain ⟨_, _, h4, _⟩ := h3 hne
      injection e with e _ _
      rw [h4] at e; cases e
    obtain rfl := hA rfl
    subst hr0
    have hm0 : m = 0 := by simpa using hm.symm
    subst hm0
    intro K Q hK
    obtain ⟨i0, hi, hz0, hz1, hz2⟩ := info_parts info_u8
    have hrow := HS.row k hk
    have hown := ownc_to hrow O (Nat.zero_le g)
    have hrun := run_append_owned_none (P := Try.prog) (w := w) 0 37 o.type 5 i0 1 Try.underlying37 hi _ n _ hown
    unfold Oper.wp
    simp [execOp, ho, resolve, invoke, builtin, hs, hx, hrun, Result.andThen]
    have hS2 := st_snoc (st_erase HS k) hrow (HS.own k _ hk) (fun b hb e => by
      obtain ⟨j, hj⟩ := List.getElem?_of_mem hb
      rw [List.getElem?_eraseIdx] at hj
      split at hj
      · exact HS.apart j k b _ (by omega) hj hk e
      · exact HS.apart (j + 1) k b _ (by omega) hj hk e)
    exact hK _ _ (h g c cb w (by simpa using O) hS2)
  | some ad =>
    refine dd_app HS k hk O ho hs (z := .int .u8 0) (bytes := 1) Try.underlying37 (by kernel_rfl) rfl (by decide) (bytesV r) hx (by rw [len_bytesV, hm, Nat.mul_one]) (slice_news hr) (one_bytesV _) h63 (by omega) fun g' c' cb' w' O' h' => ?_
    exact h g' c' cb' w' (ownc_app O') h'
end
end Go.Proofs.Ytcdcongeogmfkaa

/- Bytes of a constant text, made a slice: their block bears a mark, so it is no row; what is told of it stays. No function of the program is named here. -/
set_option maxRecDepth 4000
namespace Go.Proofs.Ytcdcongeogmfkaa
open Go Go.RowKit
def MarkAt (w : World) (g : Nat) (q : List (BitVec 8)) : Prop := ∃ fr, w.heap[g]? = some (.cells (bs q) 5 fr)
theorem MarkAt.lt {w : World} {g : Nat} {q : List (BitVec 8)} (h : MarkAt w g q) : g < w.heap.size := by
  obtain ⟨fr, h⟩ := h
  exact (Array.getElem?_eq_some_iff.1 h).1
theorem MarkAt.of {w w' : World} {g : Nat} {q : List (BitVec 8)} (h : MarkAt w g q) (e : w'.heap[g]? = w.heap[g]?) : MarkAt w' g q := by
  obtain ⟨fr, h⟩ := h
  exact ⟨fr, e.trans h⟩
theorem MarkAt.call {w w' : World} {g : Nat} {q : List (BitVec 8)} (h : MarkAt w g q) (hb : Below w.heap.size w w') : MarkAt w' g q := h.of (hb.block g h.lt)
theorem MarkAt.slice {w : World} {g n : Nat} {q : List (BitVec 8)} (h : MarkAt w g q) (hn : q.length = n) : Slice w (.slice (some ⟨g, 0, none⟩) n n) q := by
  obtain ⟨fr, h⟩ := h
  subst hn
  refine ⟨_, _, rfl, Nat.le_refl _, fun _ => ⟨g, 0, rfl, (Array.getElem?_eq_some_iff.1 h).1, fun j x hx => ?_⟩⟩
  rw [Nat.zero_add, cell_of_row w g j (bs q) 5 fr h, ← Array.getElem?_toList, bs_toList]
  simp [bytesV, hx]
def inS (S : List Blk) (k : Nat) : Prop := ∃ r ∈ S, r.g = k
theorem MarkAt.chg {w w' : World} {g : Nat} {q : List (BitVec 8)} {S S' : List Blk} (h : MarkAt w g q) (HS : St w (inS S) S' w') (hg : ∀ r ∈ S, r.g ≠ g) : MarkAt w' g q := h.of (HS.chg.block g h.lt fun ⟨r, h1, h2⟩ => hg r h1 h2)
/- the rows' own frame: what lies elsewhere stays, for a while -/
theorem St.frame {w0 w : World} {F : Nat → Prop} {S : List Blk} (h : St w0 F S w) : St w (inS S) S w :=
  ⟨Chg.refl _ _, h.rows, h.apart, fun _ r hk => .inl ⟨r, List.mem_of_getElem? hk, rfl⟩⟩
end Go.Proofs.Ytcdcongeogmfkaa

/- Rows handed to a call, the others staying, whatever the frame. No function of the program is named here. -/
set_option maxRecDepth 4000
namespace Go.Proofs.Ytcdcongeogmfkaa
open Go Go.RowKit
theorem St.reframeF {F : Nat → Prop} {w0 w w' : World} {S1 S2 S1' : List Blk} (h : St w0 F (S1 ++ S2) w) (k : St w (inS S1) S1' w') : St w0 F (S1' ++ S2) w' := by
  have hw : ∀ j, inS S1 j → F j ∨ w0.heap.size ≤ j := fun j ⟨r, h1, h2⟩ => by
    obtain ⟨i, hi⟩ := List.getElem?_of_mem (List.mem_append_left S2 h1)
    exact h2 ▸ h.own i r hi
  have hap : ∀ (r s : Blk), r ∈ S1 → ∀ (j : Nat), S2[j]? = some s → r.g ≠ s.g := fun r s hr j hj => by
    obtain ⟨i, hi⟩ := List.getElem?_of_mem hr
    have hlt := (List.getElem?_eq_some_iff.1 hi).1
    exact h.apart i (S1.length + j) r s (by omega) (by rw [List.getElem?_append_left hlt]; exact hi) (by rw [List.getElem?_append_right (by omega), Nat.add_sub_cancel_left]; exact hj)
  have hS2 : ∀ (j : Nat) (s : Blk), S2[j]? = some s → ¬ inS S1 s.g ∧ s.g < w.heap.size ∧ (F s.g ∨ w0.heap.size ≤ s.g) ∧ Row w s.g s.t s.cs := fun j s hj => by
    have hi : (S1 ++ S2)[S1.length + j]? = some s := by rw [List.getElem?_append_right (by omega), Nat.add_sub_cancel_left]; exact hj
    exact ⟨fun ⟨r, h1, h2⟩ => hap r s h1 j hj h2, (h.rows _ _ hi).lt, h.own _ _ hi, h.rows _ _ hi⟩
  have hx : ∀ (i j : Nat) (r s : Blk), S1'[i]? = some r → S2[j]? = some s → r.g ≠ s.g := fun i j r s hi hj e => by
    obtain ⟨h1, h2, _⟩ := hS2 j s hj
    rcases k.own i r hi with hf | hf
    · exact h1 (e ▸ hf)
    · omega
  refine ⟨⟨k.chg.os.trans h.chg.os, k.chg.tape.trans h.chg.tape, k.chg.output.trans h.chg.output, Nat.le_trans h.chg.size k.chg.size, fun j hj hn => ?_⟩, fun i r hi => ?_, fun i j r s hij hi hj => ?_, fun i r hi => ?_⟩
  · exact (k.chg.block j (Nat.lt_of_lt_of_le hj h.chg.size) fun hf => (hw j hf).elim hn fun h9 => by omega).trans (h.chg.block j hj hn)
  · by_cases hlt : i < S1'.length
    · rw [List.getElem?_append_left hlt] at hi; exact k.rows i r hi
    · rw [List.getElem?_append_right (by omega)] at hi
      obtain ⟨h1, h2, _, h4⟩ := hS2 _ _ hi
      exact (k.chg.block r.g h2 h1).trans h4
  · by_cases hli : i < S1'.length <;> by_cases hlj : j < S1'.length
    · rw [List.getElem?_append_left hli] at hi; rw [List.getElem?_append_left hlj] at hj; exact k.apart i j r s hij hi hj
    · rw [List.getElem?_append_left hli] at hi; rw [List.getElem?_append_right (by omega)] at hj; exact hx _ _ _ _ hi hj
    · rw [List.getElem?_append_right (by omega)] at hi; rw [List.getElem?_append_left hlj] at hj; exact fun e => hx _ _ _ _ hj hi e.symm
    · rw [List.getElem?_append_right (by omega)] at hi hj
      exact h.apart (S1.length + (i - S1'.length)) (S1.length + (j - S1'.length)) r s (by omega) (by rw [List.getElem?_append_right (by omega), Nat.add_sub_cancel_left]; exact hi) (by rw [List.getElem?_append_right (by omega), Nat.add_sub_cancel_left]; exact hj)
  · by_cases hlt : i < S1'.length
    · rw [List.getElem?_append_left hlt] at hi
      rcases k.own i r hi with hf | hf
      · exact hw _ hf
      · exact .inr (Nat.le_trans h.chg.size hf)
    · rw [List.getElem?_append_right (by omega)] at hi
      exact (hS2 _ _ hi).2.2.1
end Go.Proofs.Ytcdcongeogmfkaa

/- Things in memory besides rows, each with a footprint of its own; what is known of the memory as rows and things; calls that change some of them. No function of the program is named here. -/
set_option maxRecDepth 4000
namespace Go.Proofs.Ytcdcongeogmfkaa
open Go Go.RowKit
structure Thing where
  at_ : World → (Nat → Prop) → Prop
  lt : ∀ {w : World} {f : Nat → Prop}, at_ w f → ∀ k, f k → k < w.heap.size
  keep : ∀ {w w' : World} {f G : Nat → Prop}, at_ w f → Chg G w w' → (∀ k, f k → ¬ G k) → at_ w' f
def selT : List Thing → List Nat → List Thing
  | _, [] => []
  | S, i :: is => match S[i]? with
    | some r => r :: selT S is
    | none => selT S is
abbrev Tp := Thing × (Nat → Prop)
def selP : List Tp → List Nat → List Tp
  | _, [] => []
  | S, i :: is => match S[i]? with
    | some r => r :: selP S is
    | none => selP S is
theorem selP_map (P : List Tp) : ∀ is : List Nat, (selP P is).map (·.1) = selT (P.map (·.1)) is
  | [] => rfl
  | i :: is => by
    unfold selP selT
    rw [List.getElem?_map]
    cases P[i]? with
    | none => exact selP_map P is
    | some x => rw [List.map_cons, selP_map P is]; rfl
theorem selP_at (S : List Tp) : ∀ (is : List Nat), is.Nodup → ∀ (i j : Nat) (r s : Tp), (selP S is)[i]? = some r → (selP S is)[j]? = some s → ∃ i' j', i' ∈ is ∧ j' ∈ is ∧ S[i']? = some r ∧ S[j']? = some s ∧ (i ≠ j → i' ≠ j')
  | [], _, i, j, r, s, h, _ => by simp [selP] at h
  | k :: is, hn, i, j, r, s, hi, hj => by
    obtain ⟨hk, hn⟩ := List.nodup_cons.1 hn
    unfold selP at hi hj
    cases hs : S[k]? with
    | none =>
      rw [hs] at hi hj
      obtain ⟨i', j', h1, h2, h3⟩ := selP_at S is hn i j r s hi hj
      exact ⟨i', j', by simp [h1], by simp [h2], h3⟩
    | some u =>
      rw [hs] at hi hj
      cases i with
      | zero =>
        obtain rfl : u = r := by simpa using hi
        cases j with
        | zero => obtain rfl : u = s := by simpa using hj
                  exact ⟨k, k, by simp, by simp, hs, hs, fun h => absurd rfl h⟩
        | succ j =>
          obtain ⟨j', _, h1, _, h3, _, _⟩ := selP_at S is hn j j s s (by simpa using hj) (by simpa using hj)
          exact ⟨k, j', by simp, by simp [h1], hs, h3, fun _ e => hk (e ▸ h1)⟩
      | succ i =>
        cases j with
        | zero =>
          obtain rfl : u = s := by simpa using hj
          obtain ⟨i', _, h1, _, h3, _, _⟩ := selP_at S is hn i i r r (by simpa using hi) (by simpa using hi)
          exact ⟨i', k, by simp [h1], by simp, h3, hs, fun _ e => hk (e ▸ h1)⟩
        | succ j =>
          obtain ⟨i', j', h1, h2, h3, h4, h5⟩ := selP_at S is hn i j r s (by simpa using hi) (by simpa using hj)
          exact ⟨i', j', by simp [h1], by simp [h2], h3, h4, fun h => h5 (by omega)⟩
structure Rs (w0 : World) (F : Nat → Prop) (R : List Blk) (Q : List Thing) (w : World) : Prop where
  st : St w0 F R w
  th : ∃ P : List Tp, P.map (·.1) = Q ∧ (∀ (i : Nat) (x : Tp), P[i]? = some x → x.1.at_ w x.2 ∧ ∀ k, x.2 k → (F k ∨ w0.heap.size ≤ k) ∧ ¬ inS R k) ∧ ∀ (i j : Nat) (x y : Tp), i ≠ j → P[i]? = some x → P[j]? = some y → ∀ k, x.2 k → ¬ y.2 k
theorem St.after {w0 w1 w : World} {F : Nat → Prop} {R R' : List Blk} (h : St w0 F R w1) (k : St w1 (inS R) R' w) : St w0 F R' w := by
  have := St.reframeF (S2 := []) (by rw [List.append_nil]; exact h) k
  rwa [List.append_nil] at this
section
variable {w0 w1 w w' : World} {F G : Nat → Prop} {R R' R1 R2 : List Blk} {Q Q' Q1 Q2 : List Thing}
theorem Rs.of (h : St w0 F R w) : Rs w0 F R [] w := ⟨h, [], rfl, fun i x hx => by simp at hx, fun i j x y _ hx => by simp at hx⟩
theorem Rs.move (h : Rs w0 F R Q w1) (k : St w1 (inS R) R' w) : Rs w0 F R' Q w := by
  obtain ⟨P, h0, h1, h2⟩ := h.th
  refine ⟨h.st.after k, P, h0, fun i x hx => ?_, h2⟩
  obtain ⟨h3, h4⟩ := h1 i x hx
  refine ⟨x.1.keep h3 k.chg fun j hj => (h4 j hj).2, fun j hj => ⟨(h4 j hj).1, ?_⟩⟩
  rintro ⟨r, hr, rfl⟩
  obtain ⟨n, hn⟩ := List.getElem?_of_mem hr
  rcases k.own n r hn with hf | hf
  · exact (h4 _ hj).2 hf
  · have := x.1.lt h3 r.g hj; omega
theorem Rs.sel (h : Rs w0 F R Q w) (is js : List Nat) (hn : is.Nodup := by decide) (hm : js.Nodup := by decide) : Rs w0 F (selB R is) (selT Q js) w := by
  obtain ⟨P, h0, h1, h2⟩ := h.th
  refine ⟨st_sel h.st is hn, selP P js, by rw [selP_map, h0], fun i x hx => ?_, fun i j x y hij hx hy => ?_⟩
  · obtain ⟨i', _, _, _, h3, _⟩ := selP_at P js hm i i x x hx hx
    obtain ⟨h4, h5⟩ := h1 i' x h3
    refine ⟨h4, fun k hk => ⟨(h5 k hk).1, ?_⟩⟩
    rintro ⟨r, hr, rfl⟩
    obtain ⟨n, hn'⟩ := List.getElem?_of_mem hr
    obtain ⟨n', _, _, _, h6, _⟩ := sel_at R is hn n n r r hn' hn'
    exact (h5 _ hk).2 ⟨r, List.mem_of_getElem? h6, rfl⟩
  · obtain ⟨i', j', _, _, h3, h4, h5⟩ := selP_at P js hm i j x y hx hy
    exact h2 i' j' x y (h5 hij) h3 h4
/- some rows and things handed to a call -/
theorem Rs.reframe (h : Rs w0 F (R1 ++ R2) (Q1 ++ Q2) w) : ∃ G, Rs w G R1 Q1 w ∧ (∀ k, G k → (F k ∨ w0.heap.size ≤ k) ∧ k < w.heap.size ∧ ¬ inS R2 k) ∧ (∀ R1' Q1' w', Rs w G R1' Q1' w' → Rs w0 F (R1' ++ R2) (Q1' ++ Q2) w') ∧ ∀ (i : Nat) (q : Thing), Q2[i]? = some q → ∃ f, q.at_ w f ∧ ∀ k, f k → ¬ G k := by
  obtain ⟨P, h0, h1, h2⟩ := h.th
  obtain ⟨P1, P2, rfl, rfl, rfl⟩ := List.map_eq_append_iff.1 h0
  have hR : ∀ r ∈ R1, (F r.g ∨ w0.heap.size ≤ r.g) ∧ r.g < w.heap.size ∧ ¬ inS R2 r.g := fun r hr => by
    obtain ⟨i, hi⟩ := List.getElem?_of_mem hr
    have hlt := (List.getElem?_eq_some_iff.1 hi).1
    have hi2 : (R1 ++ R2)[i]? = some r := by rw [List.getElem?_append_left hlt]; exact hi
    refine ⟨h.st.own i r hi2, (h.st.rows i r hi2).lt, ?_⟩
    rintro ⟨s, hs, e⟩
    obtain ⟨j, hj⟩ := List.getElem?_of_mem hs
    exact h.st.apart i (R1.length + j) r s (by omega) hi2 (by rw [List.getElem?_append_right (by omega), Nat.add_sub_cancel_left]; exact hj) e.symm
  have a1 : ∀ (i : Nat) (x : Tp), P1[i]? = some x → (P1 ++ P2)[i]? = some x := fun i x hx => by
    rw [List.getElem?_append_left (List.getElem?_eq_some_iff.1 hx).1]; exact hx
  have a2 : ∀ (i : Nat) (x : Tp), P2[i]? = some x → (P1 ++ P2)[P1.length + i]? = some x := fun i x hx => by
    rw [List.getElem?_append_right (by omega), Nat.add_sub_cancel_left]; exact hx
  have b1 : ∀ k, inS R1 k → inS (R1 ++ R2) k := fun k ⟨r, hr, e⟩ => ⟨r, List.mem_append_left _ hr, e⟩
  have b2 : ∀ k, inS R2 k → inS (R1 ++ R2) k := fun k ⟨r, hr, e⟩ => ⟨r, List.mem_append_right _ hr, e⟩
  refine ⟨fun k => inS R1 k ∨ ∃ x ∈ P1, x.2 k, ⟨?_, P1, rfl, fun i x hx => ?_, fun i j x y hij hx hy => h2 i j x y hij (a1 i x hx) (a1 j y hy)⟩, fun k hk => ?_, fun R1' Q1' w' k => ?_, fun i q hq => ?_⟩
  · refine ⟨Chg.refl _ _, fun i r hi => h.st.rows i r (by rw [List.getElem?_append_left (List.getElem?_eq_some_iff.1 hi).1]; exact hi), fun i j r s hij hi hj => h.st.apart i j r s hij (by rw [List.getElem?_append_left (List.getElem?_eq_some_iff.1 hi).1]; exact hi) (by rw [List.getElem?_append_left (List.getElem?_eq_some_iff.1 hj).1]; exact hj), fun i r hi => .inl (.inl ⟨r, List.mem_of_getElem? hi, rfl⟩)⟩
  · obtain ⟨h3, h4⟩ := h1 i x (a1 i x hx)
    exact ⟨h3, fun k hk => ⟨.inl (.inr ⟨x, List.mem_of_getElem? hx, hk⟩), fun h9 => (h4 k hk).2 (b1 k h9)⟩⟩
  · rcases hk with ⟨r, hr, rfl⟩ | ⟨x, hx, hk⟩
    · exact hR r hr
    · obtain ⟨i, hi⟩ := List.getElem?_of_mem hx
      obtain ⟨h3, h4⟩ := h1 i x (a1 i x hi)
      exact ⟨(h4 k hk).1, x.1.lt h3 k hk, fun h9 => (h4 k hk).2 (b2 k h9)⟩
  · have hG : ∀ k, (inS R1 k ∨ ∃ x ∈ P1, x.2 k) → (F k ∨ w0.heap.size ≤ k) ∧ k < w.heap.size ∧ ¬ inS R2 k := fun k hk => by
      rcases hk with ⟨r, hr, rfl⟩ | ⟨x, hx, hk⟩
      · exact hR r hr
      · obtain ⟨i, hi⟩ := List.getElem?_of_mem hx
        obtain ⟨h3, h4⟩ := h1 i x (a1 i x hi)
        exact ⟨(h4 k hk).1, x.1.lt h3 k hk, fun h9 => (h4 k hk).2 (b2 k h9)⟩
    have hsz := k.st.chg.size
    have hw0 := h.st.chg.size
    have hR2 : ∀ (i : Nat) (r : Blk), R2[i]? = some r → (R1 ++ R2)[R1.length + i]? = some r := fun i r hi => by
      rw [List.getElem?_append_right (by omega), Nat.add_sub_cancel_left]; exact hi
    have hn2 : ∀ (i : Nat) (r : Blk), R2[i]? = some r → r.g < w.heap.size ∧ ¬ (inS R1 r.g ∨ ∃ x ∈ P1, x.2 r.g) := fun i r hi =>
      ⟨(h.st.rows _ _ (hR2 i r hi)).lt, fun h9 => (hG _ h9).2.2 ⟨r, List.mem_of_getElem? hi, rfl⟩⟩
    have hx2 : ∀ (i j : Nat) (r s : Blk), R1'[i]? = some r → R2[j]? = some s → r.g ≠ s.g := fun i j r s hi hj e => by
      obtain ⟨h3, h4⟩ := hn2 j s hj
      rcases k.st.own i r hi with h5 | h5
      · exact h4 (e ▸ h5)
      · omega
    obtain ⟨P1', e1, k1, k2⟩ := k.th
    have hnx : ∀ (i : Nat) (x : Tp), P2[i]? = some x → ∀ j, x.2 j → j < w.heap.size ∧ ¬ (inS R1 j ∨ ∃ y ∈ P1, y.2 j) := fun i x hx j hj => by
      obtain ⟨h3, h4⟩ := h1 _ x (a2 i x hx)
      refine ⟨x.1.lt h3 j hj, ?_⟩
      rintro (h5 | ⟨y, hy, h5⟩)
      · exact (h4 j hj).2 (b1 j h5)
      · obtain ⟨n, hn⟩ := List.getElem?_of_mem hy
        have hlt := (List.getElem?_eq_some_iff.1 hn).1
        exact h2 n (P1.length + i) y x (by omega) (a1 n y hn) (a2 i x hx) j h5 hj
    obtain ⟨P1', e1, k1, k2⟩ := k.th
    refine ⟨⟨⟨k.st.chg.os.trans h.st.chg.os, k.st.chg.tape.trans h.st.chg.tape, k.st.chg.output.trans h.st.chg.output, Nat.le_trans hw0 hsz, fun j hj hn => ?_⟩, fun i r hi => ?_, fun i j r s hij hi hj => ?_, fun i r hi => ?_⟩, P1' ++ P2, by rw [List.map_append, e1], fun i x hx => ?_, fun i j x y hij hx hy => ?_⟩
    · exact (k.st.chg.block j (Nat.lt_of_lt_of_le hj hw0) fun hf => (hG j hf).1.elim hn fun h9 => by omega).trans (h.st.chg.block j hj hn)
    · by_cases hlt : i < R1'.length
      · rw [List.getElem?_append_left hlt] at hi; exact k.st.rows i r hi
      · rw [List.getElem?_append_right (by omega)] at hi
        obtain ⟨h3, h4⟩ := hn2 _ _ hi
        exact (k.st.chg.block r.g h3 h4).trans (h.st.rows _ _ (hR2 _ _ hi))
    · by_cases hli : i < R1'.length <;> by_cases hlj : j < R1'.length
      · rw [List.getElem?_append_left hli] at hi; rw [List.getElem?_append_left hlj] at hj; exact k.st.apart i j r s hij hi hj
      · rw [List.getElem?_append_left hli] at hi; rw [List.getElem?_append_right (by omega)] at hj; exact hx2 _ _ _ _ hi hj
      · rw [List.getElem?_append_right (by omega)] at hi; rw [List.getElem?_append_left hlj] at hj; exact fun e => hx2 _ _ _ _ hj hi e.symm
      · rw [List.getElem?_append_right (by omega)] at hi hj
        exact h.st.apart (R1.length + (i - R1'.length)) (R1.length + (j - R1'.length)) r s (by omega) (hR2 _ _ hi) (hR2 _ _ hj)
    · by_cases hlt : i < R1'.length
      · rw [List.getElem?_append_left hlt] at hi
        rcases k.st.own i r hi with h5 | h5
        · exact (hG _ h5).1
        · exact .inr (Nat.le_trans hw0 h5)
      · rw [List.getElem?_append_right (by omega)] at hi
        exact h.st.own _ _ (hR2 _ _ hi)
    · by_cases hlt : i < P1'.length
      · rw [List.getElem?_append_left hlt] at hx
        obtain ⟨h3, h4⟩ := k1 i x hx
        refine ⟨h3, fun j hj => ⟨(h4 j hj).1.elim (fun h5 => (hG j h5).1) (fun h5 => .inr (Nat.le_trans hw0 h5)), ?_⟩⟩
        rintro ⟨r, hr, rfl⟩
        rcases List.mem_append.1 hr with hr | hr
        · exact (h4 _ hj).2 ⟨r, hr, rfl⟩
        · obtain ⟨n, hn⟩ := List.getElem?_of_mem hr
          obtain ⟨h5, h6⟩ := hn2 n r hn
          rcases (h4 _ hj).1 with h7 | h7
          · exact h6 h7
          · omega
      · rw [List.getElem?_append_right (by omega)] at hx
        obtain ⟨h3, h4⟩ := h1 _ x (a2 _ x hx)
        refine ⟨x.1.keep h3 k.st.chg fun j hj => (hnx _ x hx j hj).2, fun j hj => ⟨(h4 j hj).1, ?_⟩⟩
        rintro ⟨r, hr, rfl⟩
        obtain ⟨h5, h6⟩ := hnx _ x hx _ hj
        rcases List.mem_append.1 hr with hr | hr
        · obtain ⟨n, hn⟩ := List.getElem?_of_mem hr
          rcases k.st.own n r hn with h7 | h7
          · exact h6 h7
          · omega
        · exact (h4 _ hj).2 (b2 _ ⟨r, hr, rfl⟩)
    · have hcr : ∀ (i j : Nat) (x y : Tp), P1'[i]? = some x → P2[j]? = some y → ∀ k, x.2 k → ¬ y.2 k := fun i j x y hx hy n hn hn' => by
        obtain ⟨h5, h6⟩ := hnx j y hy n hn'
        rcases ((k1 i x hx).2 n hn).1 with h7 | h7
        · exact h6 h7
        · omega
      by_cases hli : i < P1'.length <;> by_cases hlj : j < P1'.length
      · rw [List.getElem?_append_left hli] at hx; rw [List.getElem?_append_left hlj] at hy; exact k2 i j x y hij hx hy
      · rw [List.getElem?_append_left hli] at hx; rw [List.getElem?_append_right (by omega)] at hy; exact hcr _ _ _ _ hx hy
      · rw [List.getElem?_append_right (by omega)] at hx; rw [List.getElem?_append_left hlj] at hy; exact fun n h8 h9 => hcr _ _ _ _ hy hx n h9 h8
      · rw [List.getElem?_append_right (by omega)] at hx hy
        exact h2 (P1.length + (i - P1'.length)) (P1.length + (j - P1'.length)) x y (by omega) (a2 _ _ hx) (a2 _ _ hy)
  · rw [List.getElem?_map] at hq
    cases hx : P2[i]? with
    | none => rw [hx] at hq; cases hq
    | some x =>
      rw [hx] at hq
      injection hq with hq
      subst hq
      obtain ⟨h3, h4⟩ := h1 _ x (a2 i x hx)
      refine ⟨x.2, h3, fun j hj => ?_⟩
      rintro (h5 | ⟨y, hy, h5⟩)
      · exact (h4 j hj).2 (b1 j h5)
      · obtain ⟨n, hn⟩ := List.getElem?_of_mem hy
        have hlt := (List.getElem?_eq_some_iff.1 hn).1
        exact h2 n (P1.length + i) y x (by omega) (a1 n y hn) (a2 i x hx) j h5 hj
theorem Rs.same (h : Rs w0 F R Q w) (hb : Below w.heap.size w w') : Rs w0 F R Q w' :=
  h.move (R' := R) (h.st.frame.same hb)
theorem Rs.fresh {q : Thing} {f : Nat → Prop} (hb : Below w.heap.size w w') (hq : q.at_ w' f) (hf : ∀ k, f k → w.heap.size ≤ k) : Rs w F [] [q] w' :=
  ⟨⟨Chg.of_below hb, fun i r h => by simp at h, fun i j r s _ h => by simp at h, fun i r h => by simp at h⟩, [(q, f)], rfl, fun i x hx => by
    match i, hx with
    | 0, hx =>
      obtain rfl : (q, f) = x := by simpa using hx
      exact ⟨hq, fun k hk => ⟨.inr (hf k hk), fun ⟨r, hr, _⟩ => by cases hr⟩⟩, fun i j x y hij hx hy => by
    have h1 := (List.getElem?_eq_some_iff.1 hx).1
    have h2 := (List.getElem?_eq_some_iff.1 hy).1
    simp at h1 h2; omega⟩
theorem Rs.addT {q : Thing} {f : Nat → Prop} (h : Rs w0 F R Q w) (hb : Below w.heap.size w w') (hq : q.at_ w' f) (hf : ∀ k, f k → w.heap.size ≤ k) : Rs w0 F R (q :: Q) w' := by
  obtain ⟨G, h1, h2, h3, _⟩ := Rs.reframe (R1 := []) (Q1 := []) h
  exact h3 [] [q] w' (Rs.fresh hb hq hf)
/- the first thing: what it is, and another one in its place, in the same blocks -/
theorem Rs.head {q : Thing} (h : Rs w0 F R (q :: Q) w) : ∃ f, q.at_ w f ∧ (∀ k, f k → (F k ∨ w0.heap.size ≤ k) ∧ ¬ inS R k) ∧ ∀ q' : Thing, q'.at_ w f → Rs w0 F R (q' :: Q) w := by
  obtain ⟨P, h0, h1, h2⟩ := h.th
  obtain ⟨⟨q0, f⟩, P, rfl⟩ : ∃ x P', P = x :: P' := by
    cases P with
    | nil => cases h0
    | cons x P => exact ⟨x, P, rfl⟩
  rw [List.map_cons] at h0
  injection h0 with h0 h0'
  have h0 : q0 = q := h0
  subst h0 h0'
  refine ⟨f, (h1 0 _ rfl).1, (h1 0 _ rfl).2, fun q' hq' => ⟨h.st, (q', f) :: P, rfl, fun i x hx => ?_, fun i j x y hij hx hy => ?_⟩⟩
  · cases i with
    | zero => obtain rfl : (q', f) = x := by simpa using hx
              exact ⟨hq', (h1 0 _ rfl).2⟩
    | succ i => exact h1 (i + 1) x (by simpa using hx)
  · cases i with
    | zero =>
      obtain rfl : (q', f) = x := by simpa using hx
      cases j with
      | zero => exact absurd rfl hij
      | succ j => exact h2 0 (j + 1) (q0, f) y hij rfl (by simpa using hy)
    | succ i =>
      cases j with
      | zero => obtain rfl : (q', f) = y := by simpa using hy
                exact h2 (i + 1) 0 x (q0, f) hij (by simpa using hx) rfl
      | succ j => exact h2 (i + 1) (j + 1) x y hij (by simpa using hx) (by simpa using hy)
/- a call that changes one thing alone -/
theorem Rs.one {q : Thing} (h : Rs w F [] [q] w) : ∃ f, q.at_ w f ∧ (∀ k, f k → F k) ∧ ∀ q' f' w', q'.at_ w' f' → Chg f w w' → (∀ k, f' k → f k ∨ w.heap.size ≤ k) → Rs w F [] [q'] w' := by
  obtain ⟨f, h1, h2, _⟩ := h.head
  have h3 : ∀ k, f k → F k := fun k hk => (h2 k hk).1.resolve_right fun h9 => by have := q.lt h1 k hk; omega
  refine ⟨f, h1, h3, fun q' f' w' hq hc hf => ⟨⟨hc.mono fun k hk => .inl (h3 k hk), fun i r h => by simp at h, fun i j r s _ h => by simp at h, fun i r h => by simp at h⟩, [(q', f')], rfl, fun i x hx => ?_, fun i j x y hij hx hy => ?_⟩⟩
  · match i, hx with
    | 0, hx =>
      obtain rfl : (q', f') = x := by simpa using hx
      exact ⟨hq, fun k hk => ⟨(hf k hk).imp (h3 k) id, fun ⟨r, hr, _⟩ => by cases hr⟩⟩
  · have h1 := (List.getElem?_eq_some_iff.1 hx).1
    have h2 := (List.getElem?_eq_some_iff.1 hy).1
    simp at h1 h2; omega
theorem Rs.mono (h : Rs w F R Q w) (hF : ∀ k, F k → G k) : Rs w G R Q w := by
  obtain ⟨P, h0, h1, h2⟩ := h.th
  exact ⟨⟨Chg.refl _ _, h.st.rows, h.st.apart, fun i r hi => (h.st.own i r hi).imp (hF _) id⟩, P, h0, fun i x hx => ⟨(h1 i x hx).1, fun k hk => ⟨((h1 i x hx).2 k hk).1.imp (hF k) id, ((h1 i x hx).2 k hk).2⟩⟩, h2⟩
theorem Rs.keep (h : Rs w F R Q w) (c : Chg G w w') (hF : ∀ k, F k → ¬ G k) : Rs w' F R Q w' := by
  obtain ⟨P, h0, h1, h2⟩ := h.th
  refine ⟨⟨Chg.refl _ _, fun i r hi => ?_, h.st.apart, fun i r hi => ?_⟩, P, h0, fun i x hx => ?_, h2⟩
  · have h3 := h.st.rows i r hi
    have h4 : F r.g := (h.st.own i r hi).resolve_right fun h9 => by have := h3.lt; omega
    exact (c.block r.g h3.lt (hF _ h4)).trans h3
  · have h3 := h.st.rows i r hi
    exact .inl ((h.st.own i r hi).resolve_right fun h9 => by have := h3.lt; omega)
  · obtain ⟨h3, h4⟩ := h1 i x hx
    have h5 : ∀ k, x.2 k → F k := fun k hk => (h4 k hk).1.resolve_right fun h9 => by have := x.1.lt h3 k hk; omega
    exact ⟨x.1.keep h3 c fun k hk => hF k (h5 k hk), fun k hk => ⟨.inl (h5 k hk), (h4 k hk).2⟩⟩
end
/- rows and things that are one thing -/
def pkT (R : List Blk) (Q : List Thing) : Thing where
  at_ := fun w f => Rs w f R Q w ∧ ∀ k, f k → k < w.heap.size
  lt := fun h => h.2
  keep := fun h c hF => ⟨h.1.keep c hF, fun k hk => Nat.lt_of_lt_of_le (h.2 k hk) c.size⟩
def exT {α : Type} (q : α → Thing) : Thing where
  at_ := fun w f => ∃ x, (q x).at_ w f
  lt := fun ⟨x, h⟩ => (q x).lt h
  keep := fun ⟨x, h⟩ c hF => ⟨x, (q x).keep h c hF⟩
section
variable {w0 w1 w w' : World} {F G : Nat → Prop} {R R' R1 R2 : List Blk} {Q Q' Q1 Q2 : List Thing}
theorem Rs.unpack (h : Rs w0 F R2 (pkT R1 Q1 :: Q2) w) : Rs w0 F (R1 ++ R2) (Q1 ++ Q2) w := by
  obtain ⟨G, h1, h2, h3, _⟩ := Rs.reframe (R1 := []) (Q1 := [pkT R1 Q1]) h
  obtain ⟨f, h4, h5, _⟩ := h1.one
  exact h3 R1 Q1 w (h4.1.mono h5)
theorem Rs.shut {α : Type} {q : α → Thing} (x : α) (h : Rs w0 F R (q x :: Q) w) : Rs w0 F R (exT q :: Q) w := by
  obtain ⟨f, h1, _, h3⟩ := h.head
  exact h3 _ ⟨x, h1⟩
/- a walk from one call to the next: rows alone are written -/
def Rz (w0 : World) (F : Nat → Prop) (Q : List Thing) (w1 : World) (G : Nat → Prop) : Prop := ∃ R, Rs w0 F R Q w1 ∧ G = inS R
theorem Rs.anchor (h : Rs w0 F R Q w) : ∃ G, Rz w0 F Q w G ∧ St w G R w := ⟨inS R, ⟨R, h, rfl⟩, h.st.frame⟩
theorem Rz.move (h : Rz w0 F Q w1 G) (k : St w1 G R w) : Rs w0 F R Q w := by
  obtain ⟨R1, h1, rfl⟩ := h; exact h1.move k
theorem Rz.chg (h : Rz w0 F Q w1 G) (k : St w1 G R w) : Chg F w0 w := (h.move k).st.chg
theorem Rz.bel (h : Rz w0 noF Q w1 G) (k : St w1 G R w) : Below w0.heap.size w0 w := (h.move k).st.below
end
section
variable {P : Program} {ops : Array Oper} {Q : Exit → Act → World → Prop} {o : Oper} {K : Act → World → Prop} {N : Nat} {a : Act} {w w0 : World} {F : Nat → Prop} {R : List Blk} {Th : List Thing}
theorem Rs.drew (h : Rs w0 F R Th w) : Rs w0 F R Th w.drew := h.same (Below.refl _ _).drew
theorem wr_ (HX : Rs w0 F R Th w) (is js : List Nat) {id : Nat} {l : List Oper} {M : Nat} (hM : l.length = M) {R9 : List Blk} (e : selB R js = selB R is ++ R9) (h : Rs w0 F R Th w.drew → Sx w0 F (selB R is) w.drew → wpAnyH P .any l.toArray Q (Sx w0 F (selB R is)) M (Array.replicate M false) a w.drew) (hn : js.Nodup := by decide) (hm : P.follows .mixedOrders = true := by kernel_rfl) : (Code.region id l.toArray true).wp P Q a w :=
  wi_ HX.st is hM js e (fun _ hx => h HX.drew hx) hn hm
theorem d0_ (hw : Region.wanted o (yielded ops a.tmps) = true) (hd : o.dst = none) {R : Value → World → Prop} (hD : Does P o a w R) (h : ∀ v w', R v w' → K a w') : Og P ops Q o K a w := fun K' hK => by
  rw [if_pos hw]
  exact hD K' Q fun v w' hR => by rw [hd]; exact hK _ _ (h v w' hR)
theorem d0n (hd : dn o = true) {R : Value → World → Prop} (hD : Does P o a w R) (h : ∀ v w', R v w' → K a w') : Og P ops Q o K a w := d0_ (want_n (dn_is hd).1) (dn_is hd).2 hD h
end
theorem Chg.bel {w w' : World} (h : Chg noF w w') : Below w.heap.size w w' := h.below (fun _ hf => hf.elim) (Nat.le_refl _)
end Go.Proofs.Ytcdcongeogmfkaa

/- The program's disk and log as things: what each call tells, and leaves. -/
set_option maxRecDepth 4000
namespace Go.Proofs.Ytcdcongeogmfkaa
open Go Go.RowKit
theorem puts_chgT {w w' : World} {v : Value} {l : List (Int × List (BitVec 8))} {F : Nat → Prop} (h : PutsAt w v l) (c : Chg F w w') (hA : l ≠ [] → ∀ k, v.ownBlock = some k → ¬ F k) : PutsAt w' v l := by
  obtain ⟨A, n, rfl, h2, h3, h4⟩ := h
  refine ⟨A, n, rfl, h2, h3, fun hne => ?_⟩
  obtain ⟨b, o, rfl, h6, h7⟩ := h4 hne
  refine ⟨b, o, rfl, Nat.lt_of_lt_of_le h6 c.size, fun k x hx j u hu => ?_⟩
  have := h7 k x hx j u hu
  rw [← this]
  unfold World.cell?
  rw [c.block b h6 (hA hne b rfl)]
def dskT (D : DiskOps) (p : Value) (M : DiskM) : Thing where
  at_ := fun w f => D.A 0 w p M f
  lt := fun h k hk => (D.lt h k hk).2
  keep := fun h c hF => D.keep h c hF
section
variable {D : DiskOps} {w w0 : World} {F F0 : Nat → Prop} {R : List Blk} {Q : List Thing} {p : Value} {M : DiskM}
theorem acts_rs (h : Rs w F [] [dskT D p M] w) : ∃ f, D.A 0 w p M f ∧ (∀ k, f k → F k) ∧ ∀ {M' : DiskM} {r : Value} {e : Ending} {w' : World}, Acts D.A 0 w p f M' r e w' → e = .returned r ∧ Rs w F [] [dskT D p M'] w' := by
  obtain ⟨f, h1, h2, h3⟩ := h.one
  exact ⟨f, h1, h2, fun ⟨he, F', a, c, s⟩ => ⟨he, h3 _ F' _ a c s⟩⟩
theorem dr_write (i : Int) (b : List (BitVec 8)) (h : Rs w F [] [dskT D p M] w) (hb : b.length = 32) (hl : M.l.length ≤ few) (hi : -9223372036854775808 ≤ i ∧ i < 9223372036854775808) : Calls Try.prog 21 #[p, .int .i64 i, .agg (bs b)] w fun e w' => e = .returned (.int .i64 (M.wRes i b).1) ∧ Rs w F [] [dskT D p (M.wRes i b).2] w' := by
  obtain ⟨f, h1, _, h3⟩ := acts_rs h
  exact (D.write 0 w p M f i b h1 hb hl hi).mono fun e w' q => h3 q
theorem dr_fuse (n : Int) (h : Rs w F [] [dskT D p M] w) (hi : -9223372036854775808 ≤ n ∧ n < 9223372036854775808) : Calls Try.prog 23 #[p, .int .i64 n] w fun e w' => e = .returned (.tuple #[]) ∧ Rs w F [] [dskT D p (M.fused n)] w' := by
  obtain ⟨f, h1, _, h3⟩ := acts_rs h
  exact (D.fuse 0 w p M f n h1 hi).mono fun e w' q => h3 q
theorem dr_up (v : Value) (keep : List (BitVec 8)) (h : Rs w F [] [dskT D p M] w) (hl : M.l.length ≤ few) (hv : Slice w v keep) (hk : keep.length ≤ few) (hF : ∀ k, v.ownBlock = some k → ¬ F k) : Calls Try.prog 18 #[p, v] w fun e w' => e = .returned (.tuple #[]) ∧ Rs w F [] [dskT D p (M.upped keep)] w' := by
  obtain ⟨f, h1, h2, h3⟩ := acts_rs h
  exact (D.up 0 w p M f v keep h1 hl hv hk fun k hk hf => hF k hk (h2 k hf)).mono fun e w' q => h3 q
theorem dr_read (i : Int) (h : Rs w0 F0 R (dskT D p M :: Q) w) (hl : M.l.length ≤ few) (hi : -9223372036854775808 ≤ i ∧ i < 9223372036854775808) : Calls Try.prog 26 #[p, .int .i64 i] w fun e w' => e = .returned (.tuple #[.agg (bs (M.rRes i).1), .int .i64 (M.rRes i).2]) ∧ Below w.heap.size w w' := by
  obtain ⟨f, h1, _⟩ := h.head
  exact D.read 0 w p M f i h1 hl hi
theorem dr_new (D : DiskOps) (F : Nat → Prop) (w : World) (n : Nat) (h : 1 ≤ n ∧ n ≤ 1024) : Calls Try.prog 10 #[.int .i64 n] w fun e w' => ∃ g, e = .returned (.tuple #[.pointer (some ⟨g, 0, none⟩), .int .i64 0]) ∧ Rs w F [] [dskT D (.pointer (some ⟨g, 0, none⟩)) (DiskM.new n)] w' := by
  refine (D.new 0 w n (Nat.zero_le _) (by omega)).mono fun e w' q => ?_
  unfold Makes at q
  rw [if_pos (by omega), Int.toNat_natCast] at q
  obtain ⟨g, f, he, ha, hb, hf⟩ := q
  exact ⟨g, he, Rs.fresh hb ha hf⟩
theorem dr_newno (D : DiskOps) (w : World) (n : Int) (h : ¬ (1 ≤ n ∧ n ≤ 1024)) (hi : -9223372036854775808 ≤ n ∧ n < 9223372036854775808) : Calls Try.prog 10 #[.int .i64 n] w fun e w' => e = .returned (.tuple #[.pointer none, .int .i64 1]) ∧ Below w.heap.size w w' := by
  refine (D.new 0 w n (Nat.zero_le _) hi).mono fun e w' q => ?_
  unfold Makes at q
  rwa [if_neg h] at q
theorem wr_put (W : WalOps D) (i : Int) (e0 s0 : BitVec 32) (A : Option Addr) (n c : Nat) (l : List (Int × List (BitVec 8))) (h : Rs w F [] [dskT D p M] w) (hi : -9223372036854775808 ≤ i ∧ i < 9223372036854775808) (hn : l.length = n) (hp : PutsAt w (.slice A n c) l) (hm : n ≤ maxLen) (hk : l ≠ [] → ∀ k, (Value.slice A n c).ownBlock = some k → k < w.heap.size ∧ ¬ F k) (hl : M.l.length + 10 ≤ few) :
    Calls Try.prog 12 #[p, .int .i64 i, .agg (recW ⟨e0, s0, l⟩ (.slice A n c))] w fun e w' => e = .returned (.int .i64 (walPut M i ⟨e0, s0, l⟩).1) ∧ Rs w F [] [dskT D p (walPut M i ⟨e0, s0, l⟩).2] w' := by
  subst hn
  obtain ⟨f, h1, h2, h3⟩ := acts_rs h
  exact (W.put 0 w p M f i e0 s0 A c l h1 hi hp hm (fun hne k hk' => ⟨(hk hne k hk').1, fun hf => (hk hne k hk').2 (h2 k hf)⟩) hl (Nat.zero_le _)).mono fun e w' q => h3 q
theorem wr_get (W : WalOps D) (i : Int) (h : Rs w0 F0 R (dskT D p M :: Q) w) (hi : -9223372036854775808 ≤ i ∧ i < 9223372036854775808) (hl : M.l.length ≤ few) : Calls Try.prog 15 #[p, .int .i64 i] w (ToldP w (walGet M i).1 (walGet M i).2) := by
  obtain ⟨f, h1, _⟩ := h.head
  exact W.get 0 w p M f i h1 hi hl
end
/- puts that lie somewhere, by nobody written any more -/
def putsT (v : Value) (l : List (Int × List (BitVec 8))) : Thing where
  at_ := fun w f => PutsAt w v l ∧ (∀ k, f k → k < w.heap.size) ∧ (l ≠ [] → ∀ k, v.ownBlock = some k → f k)
  lt := fun h => h.2.1
  keep := fun h c hF => ⟨puts_chgT h.1 c fun hne k hk => hF k (h.2.2 hne k hk), fun k hk => Nat.lt_of_lt_of_le (h.2.1 k hk) c.size, h.2.2⟩
theorem putsT_new {w' : World} {v : Value} {l : List (Int × List (BitVec 8))} {B : Nat} (h : PutsAt w' v l) (ho : ∀ k, v.ownBlock = some k → B ≤ k) : ∃ f, (putsT v l).at_ w' f ∧ ∀ k, f k → B ≤ k := by
  refine ⟨fun k => l ≠ [] ∧ v.ownBlock = some k, ⟨h, fun k hk => ?_, fun hne k hk => ⟨hne, hk⟩⟩, fun k hk => ho k hk.2⟩
  obtain ⟨A, c, rfl, h2, h3, h4⟩ := h
  obtain ⟨b, o, rfl, h6, _⟩ := h4 hk.1
  obtain rfl : b = k := Option.some.inj hk.2
  exact h6
end Go.Proofs.Ytcdcongeogmfkaa

/- The document's disk and log as things; the steps of law 8, opened. -/
set_option maxRecDepth 4000
namespace Go.Proofs.Ytcdcongeogmfkaa
open Go Go.RowKit
def rdkT (p : Value) (M : DiskM) : Thing where
  at_ := fun w f => RefAt 0 w p M f
  lt := fun h k hk => (ref_lt h k hk).2
  keep := fun h c hF => ref_keep h c hF
section
variable {w w0 : World} {F F0 : Nat → Prop} {R : List Blk} {Q : List Thing} {p : Value} {M : DiskM}
theorem racts_rs (h : Rs w F [] [rdkT p M] w) : ∃ f, RefAt 0 w p M f ∧ (∀ k, f k → F k) ∧ ∀ {M' : DiskM} {r : Value} {e : Ending} {w' : World}, Acts RefAt 0 w p f M' r e w' → e = .returned r ∧ Rs w F [] [rdkT p M'] w' := by
  obtain ⟨f, h1, h2, h3⟩ := h.one
  exact ⟨f, h1, h2, fun ⟨he, F', a, c, s⟩ => ⟨he, h3 _ F' _ a c s⟩⟩
theorem rr_write (i : Int) (b : List (BitVec 8)) (h : Rs w F [] [rdkT p M] w) (hb : b.length = 32) (hl : M.l.length ≤ few) : Calls Try.prog 22 #[p, .int .i64 i, .agg (bs b)] w fun e w' => e = .returned (.int .i64 (M.wRes i b).1) ∧ Rs w F [] [rdkT p (M.wRes i b).2] w' := by
  obtain ⟨f, h1, _, h3⟩ := racts_rs h
  exact (ref_write 0 w p M f i b h1 hb hl).mono fun e w' q => h3 q
theorem rr_up (v : Value) (keep : List (BitVec 8)) (h : Rs w F [] [rdkT p M] w) (hl : M.l.length ≤ few) (hv : Slice w v keep) (hk : keep.length ≤ few) (hF : keep ≠ [] → ∀ k, v.ownBlock = some k → ¬ F k) : Calls Try.prog 19 #[p, v] w fun e w' => e = .returned (.tuple #[]) ∧ Rs w F [] [rdkT p (M.upped keep)] w' := by
  obtain ⟨f, h1, h2, h3⟩ := racts_rs h
  exact (ref_up 0 w p M f v keep h1 hl hv hk fun hne k hk hf => hF hne k hk (h2 k hf)).mono fun e w' q => h3 q
theorem rr_new (F : Nat → Prop) (w : World) (n : Nat) (h : 1 ≤ n ∧ n ≤ 1024) : Calls Try.prog 11 #[.int .i64 n] w fun e w' => ∃ g, e = .returned (.tuple #[.pointer (some ⟨g, 0, none⟩), .int .i64 0]) ∧ Rs w F [] [rdkT (.pointer (some ⟨g, 0, none⟩)) (DiskM.new n)] w' := by
  refine (ref_new 0 w n (Nat.zero_le _)).mono fun e w' q => ?_
  unfold Makes at q
  rw [if_pos (by omega), Int.toNat_natCast] at q
  obtain ⟨g, f, he, ha, hb, hf⟩ := q
  exact ⟨g, he, Rs.fresh hb ha hf⟩
theorem rr_newno (w : World) (n : Int) (h : ¬ (1 ≤ n ∧ n ≤ 1024)) : Calls Try.prog 11 #[.int .i64 n] w fun e w' => e = .returned (.tuple #[.pointer none, .int .i64 1]) ∧ Below w.heap.size w w' := by
  refine (ref_new 0 w n (Nat.zero_le _)).mono fun e w' q => ?_
  unfold Makes at q
  rwa [if_neg h] at q
theorem rr_put (i : Int) (e0 s0 : BitVec 32) (A : Option Addr) (n c : Nat) (l : List (Int × List (BitVec 8))) (h : Rs w F [] [rdkT p M] w) (hi : -9223372036854775808 ≤ i ∧ i < 9223372036854775808) (hn : l.length = n) (hp : PutsAt w (.slice A n c) l) (hm : n ≤ maxLen) (hk : l ≠ [] → ∀ k, (Value.slice A n c).ownBlock = some k → k < w.heap.size ∧ ¬ F k) (hl : M.l.length + 10 ≤ few) :
    Calls Try.prog 13 #[p, .int .i64 i, .agg (recC ⟨e0, s0, l⟩ (.slice A n c) 0)] w fun e w' => e = .returned (.int .i64 (walPut M i ⟨e0, s0, l⟩).1) ∧ Rs w F [] [rdkT p (walPut M i ⟨e0, s0, l⟩).2] w' := by
  subst hn
  obtain ⟨f, h1, h2, h3⟩ := racts_rs h
  exact (refwput_any 0 w p M f i e0 s0 A c l 0 h1 hi hp hm (fun hne k hk' => ⟨(hk hne k hk').1, fun hf => (hk hne k hk').2 (h2 k hf)⟩) hl).mono fun e w' q => h3 q
theorem rr_get (i : Int) (h : Rs w0 F0 R (rdkT p M :: Q) w) (hi : -9223372036854775808 ≤ i ∧ i < 9223372036854775808) (hl : M.l.length ≤ few) : Calls Try.prog 16 #[p, .int .i64 i] w fun e w' => ∃ A c, e = .returned (.agg (recC (walGet M i).1 (.slice A (walGet M i).1.l.length c) (walGet M i).2)) ∧ PutsAt w' (.slice A (walGet M i).1.l.length c) (walGet M i).1.l ∧ Below w.heap.size w w' ∧ ∀ k, (Value.slice A (walGet M i).1.l.length c).ownBlock = some k → w.heap.size ≤ k := by
  obtain ⟨f, h1, _⟩ := h.head
  refine (refwget_any 0 w p M f i h1 hi hl).mono ?_
  rintro e w' ⟨v, he, hp, hb, ho⟩
  obtain ⟨A, c, rfl, _⟩ := id hp
  exact ⟨A, c, he, hp, hb, ho⟩
theorem own8_T (e0 s0 : BitVec 32) (A : Option Addr) (n c : Nat) (l : List (Int × List (BitVec 8))) (w : World) (hv : PutsAt w (.slice A n c) l) (hl : n ≤ 1000000) :
    Calls Try.prog 14 #[.agg #[.int .u32 (wd e0), .int .u32 (wd s0), .slice A n c]] w fun e w' => ∃ A9 c9, e = .returned (.agg #[.int .u32 (wd e0), .int .u32 (wd s0), .slice A9 n c9, .int .i64 0]) ∧ PutsAt w' (.slice A9 n c9) l ∧ Below w.heap.size w w' ∧ ∀ k, (Value.slice A9 n c9).ownBlock = some k → w.heap.size ≤ k := by
  obtain ⟨_, _, e, _, _, _⟩ := id hv
  injection e with _ e _
  subst e
  refine (own8_any e0 s0 A c l w hv hl).mono ?_
  rintro e w' ⟨v, he, hp, hb, ho, _⟩
  obtain ⟨A9, c9, rfl, _⟩ := id hp
  exact ⟨A9, c9, he, hp, hb, ho⟩
end
/- its fuse is set by a store -/
theorem st_row1 {w : World} {g : Nat} {t : TypeId} {cs : Array Value} (h : Row w g t cs) : St w (fun k => k = g) [⟨g, t, cs⟩] w :=
  ⟨Chg.refl _ _, fun j r hj => by
    have : j = 0 := by have := (List.getElem?_eq_some_iff.1 hj).1; simp at this; exact this
    subst this; simp at hj; subst hj; exact h, fun i j r s hij hi hj => by
    have h1 := (List.getElem?_eq_some_iff.1 hi).1
    have h2 := (List.getElem?_eq_some_iff.1 hj).1
    simp at h1 h2
    omega, fun j r hj => by
    have : j = 0 := by have := (List.getElem?_eq_some_iff.1 hj).1; simp at this; exact this
    subst this; simp at hj; subst hj; exact .inl rfl⟩
theorem rr_fuse {w : World} {F : Nat → Prop} {M : DiskM} {o : Oper} {a : Act} {g : Nat} {n : Int} {ty : TypeId} {x y : Operand} {R : Value → World → Prop} (h : Rs w F [] [rdkT (.pointer (some ⟨g, 0, none⟩)) M] w) (hn : -9223372036854775808 ≤ n ∧ n < 9223372036854775808) (ho : o.op = .store ty x y) (hx : a.eval x = .pointer (some ⟨g, 2, none⟩)) (hy : a.eval y = .int .i64 n) (hi : (Try.prog.info? ty).map (·.size) = some 1)
    (hK : ∀ w', Rs w F [] [rdkT (.pointer (some ⟨g, 0, none⟩)) (M.fused n)] w' → R undef w') : Does Try.prog o a w R := by
  obtain ⟨f, h1, h2, h3⟩ := h.one
  obtain ⟨g', vs, vl, e, h, hG⟩ := id h1
  injection e with e
  injection e with e
  injection e with e _ _
  subst e
  have hok : (M.fused n).Ok := ⟨h.ok.lo, h.ok.hi, h.ok.s, h.ok.l, hn⟩
  exact fun _ _ hQ => wp_st_put (st_row1 h.row) 0 2 ty x y ho rfl hx (.int .i64 n) hy hi rfl rfl (show 2 < 4 by decide) _ rfl fun w' hS => by
    have hc : Chg (fun k => k = g) w w' := hS.chg
    exact hQ _ _ (hK w' (h3 _ f _ ⟨g, vs, vl, rfl, h.next rfl rfl hok (hS.row 0 rfl) hc, hG⟩ (hc.mono fun k hk => .inl (by rw [hk, hG]; exact .inl rfl)) fun k hk => .inl hk))
section
variable {w w0 : World} {F0 : Nat → Prop} {R : List Blk} {Q : List Thing} {M : DiskM} {g : Nat}
end
theorem dr_newZ (D : DiskOps) (F : Nat → Prop) (w : World) (n : Int) (N : Nat) (hN : n = N) (h : 1 ≤ N ∧ N ≤ 1024) : Calls Try.prog 10 #[.int .i64 n] w fun e w' => ∃ g, e = .returned (.tuple #[.pointer (some ⟨g, 0, none⟩), .int .i64 0]) ∧ Rs w F [] [dskT D (.pointer (some ⟨g, 0, none⟩)) (DiskM.new N)] w' := by
  subst hN; exact dr_new D F w N h
theorem rr_newZ (F : Nat → Prop) (w : World) (n : Int) (N : Nat) (hN : n = N) (h : 1 ≤ N ∧ N ≤ 1024) : Calls Try.prog 11 #[.int .i64 n] w fun e w' => ∃ g, e = .returned (.tuple #[.pointer (some ⟨g, 0, none⟩), .int .i64 0]) ∧ Rs w F [] [rdkT (.pointer (some ⟨g, 0, none⟩)) (DiskM.new N)] w' := by
  subst hN; exact rr_new F w N h
theorem putsT_at {w w0 : World} {F0 : Nat → Prop} {R : List Blk} {Q : List Thing} {v : Value} {l : List (Int × List (BitVec 8))} (h : Rs w0 F0 R (putsT v l :: Q) w) : PutsAt w v l := by
  obtain ⟨f, h1, _⟩ := h.head
  exact h1.1
theorem slice_lt9 {w : World} {v : Value} {q : List (BitVec 8)} (h : Slice w v q) (hne : q ≠ []) (k : Nat) (hk : v.ownBlock = some k) : k < w.heap.size := by
  obtain ⟨A, c, rfl, _, hs⟩ := h
  obtain ⟨b, o, rfl, hb, _⟩ := hs hne
  obtain rfl : b = k := Option.some.inj hk
  exact hb
theorem far_offB {w w0 : World} {G : Nat → Prop} {R2 : List Blk} {v : Value} {q : List (BitVec 8)} (hp : Slice w0 v q) (hf : ∀ k, G k → (noF k ∨ w0.heap.size ≤ k) ∧ k < w.heap.size ∧ ¬ inS R2 k) : q ≠ [] → ∀ k, v.ownBlock = some k → ¬ G k := fun hne k hk hg => by
  have h := slice_lt9 hp hne k hk
  exact (hf k hg).1.elim id fun h9 => Nat.not_lt.2 h9 h
theorem refenc57 (q : List (BitVec 8)) (v : Value) (w : World) (hv : Item w v q) : Calls Try.prog 20 #[.int .u8 87, v] w fun e w' => e = .returned (.tuple #[.agg (bs (encB 87#8 q)), .int .i64 (encE 87#8 q)]) ∧ Below w.heap.size w w' := by
  have h := refenc_any 87#8 q v w hv
  rwa [show bd 87#8 = 87 from by decide] at h
theorem puts_ownr {w : World} {g c n : Nat} {cb : Array Value} {l : List (Int × List (BitVec 8))} (h : Row w g 70 cb) (O : OwnC cb c n 33 (l.map pcell).flatten) (hn : l.length = n) (hl : ∀ x ∈ l, x.2.length = 32 ∧ -9223372036854775808 ≤ x.1 ∧ x.1 < 9223372036854775808) : PutsAt w (.slice (some ⟨g, 0, none⟩) n c) l := by
  subst hn
  exact puts_own (ownc_to h O (Nat.zero_le _)) hl
/- the steps, opened -/
structure StpsAt (w : World) (A : Option Addr) (n : Nat) (X : List Step8) : Prop where
  len : X.length = n
  at_ : 0 < n → ∃ b o, A = some ⟨b, o, none⟩ ∧ b < w.heap.size ∧ ∀ (k : Nat) (z : Step8), X[k]? = some z → ∃ Ap cp Ab cb Ak ck, w.rangeAt b (o + k * 7) [.int .i64 z.kind, .int .i64 z.i, .int .u32 (wd z.r.e), .int .u32 (wd z.r.s), .slice Ap z.r.l.length cp, .slice Ab z.body.length cb, .slice Ak z.keep.length ck] ∧ PutsAt w (.slice Ap z.r.l.length cp) z.r.l ∧ z.r.l.length ≤ maxLen ∧
    Slice w (.slice Ab z.body.length cb) z.body ∧ (Ab = none → cb = 0) ∧ Slice w (.slice Ak z.keep.length ck) z.keep ∧ (Ak = none → ck = 0) ∧ (-9223372036854775808 ≤ z.kind ∧ z.kind < 9223372036854775808) ∧ (-9223372036854775808 ≤ z.i ∧ z.i < 9223372036854775808)
theorem stps_of {w : World} {A : Option Addr} {n c : Nat} {l : List Step8} (h : rdSl 7 rdStep8 w [.slice A n c] l) : StpsAt w A n l := by
  have hx := h
  obtain ⟨A', c', h1, _, _, _, h5⟩ := hx
  injection h1 with h1 _
  injection h1 with h1 h2 _
  subst h1
  refine ⟨h2.symm, fun hn => ?_⟩
  obtain ⟨b, o, h6, h7, _⟩ := h5 (by intro e; rw [e] at h2; simp at h2; omega)
  refine ⟨b, o, h6, h7, fun k z hk => ?_⟩
  obtain ⟨b', o', e, _, s⟩ := steps_at8 h hk
  rw [h6] at e
  injection e with e
  injection e with e1 e2 _
  subst e1 e2
  obtain ⟨Ap, cp, hr, hp, hm⟩ := s.rec_
  obtain ⟨u, hu, Ab, cb, rfl, hb, hb0, _⟩ := s.body
  obtain ⟨u, hv, Ak, ck, rfl, hk', hk0, _⟩ := s.keep
  refine ⟨Ap, cp, Ab, cb, Ak, ck, fun j v hj => ?_, hp, hm, hb, hb0, hk', hk0, s.wk, s.wi⟩
  have hlt := (List.getElem?_eq_some_iff.1 hj).1
  simp only [List.length_cons, List.length_nil] at hlt
  match j, hj with
  | 0, hj => simp at hj; subst hj; exact s.kind
  | 1, hj => simp at hj; subst hj; exact s.i
  | 2, hj => have := hr 0 v hj; exact this
  | 3, hj => have := hr 1 v hj; exact this
  | 4, hj => have := hr 2 v hj; exact this
  | 5, hj => simp at hj; subst hj; exact hu
  | 6, hj => simp at hj; subst hj; exact hv
  | j + 7, hj => omega
end Go.Proofs.Ytcdcongeogmfkaa

/- A block of the call's own is new. No function of the program is named here. -/
set_option maxRecDepth 4000
namespace Go.Proofs.Ytcdcongeogmfkaa
open Go Go.RowKit
end Go.Proofs.Ytcdcongeogmfkaa

/- More of memory in a walk: cells that are far, rows that come back from a call, slices of slices of one's own. No function of the program is named here. -/
set_option maxRecDepth 4000
namespace Go.Proofs.Ytcdcongeogmfkaa
open Go Go.RowKit
/- block b has these cells from o on -/
structure CAt (w : World) (b o : Nat) (L : List Value) : Prop where
  lt : b < w.heap.size
  at_ : w.rangeAt b o L
theorem CAt.call {w w' : World} {b o : Nat} {L : List Value} (h : CAt w b o L) (hb : Below w.heap.size w w') : CAt w' b o L :=
  ⟨Nat.lt_of_lt_of_le h.lt hb.size, fun j v hv => (hb.cell (p := ⟨b, o + j, none⟩) h.lt).trans (h.at_ j v hv)⟩
theorem CAt.post {w : World} {b o n : Nat} {L M : List Value} (h : CAt w b o (L ++ M)) (hn : L.length = n) : CAt w b (o + n) M := by
  subst hn
  exact ⟨h.lt, fun j v hv => by
    have := h.at_ (L.length + j) v (by rw [List.getElem?_append_right (by omega), Nat.add_sub_cancel_left]; exact hv)
    rwa [← Nat.add_assoc] at this⟩
theorem CAt.news {w : World} {b o : Nat} {L : List Value} (h : CAt w b o L) : ∀ (j : Nat) (u : Value), L[j]? = some u → w.cell? ((⟨b, o, none⟩ : Addr).add j) = some u := fun j u hu => by
  rw [Addr.add_mid]; exact h.at_ j u hu
/- rows handed to a call, the others staying -/
theorem St.reframe {w0 w w' : World} {S1 S2 S1' : List Blk} (h : St w0 noF (S1 ++ S2) w) (k : St w (inS S1) S1' w') : St w0 noF (S1' ++ S2) w' := by
  have hw : ∀ j, inS S1 j → w0.heap.size ≤ j := fun j ⟨r, h1, h2⟩ => by
    obtain ⟨i, hi⟩ := List.getElem?_of_mem (List.mem_append_left S2 h1)
    rcases h.own i r hi with hf | hf
    · exact hf.elim
    · omega
  have hap : ∀ (r s : Blk), r ∈ S1 → ∀ (j : Nat), S2[j]? = some s → r.g ≠ s.g := fun r s hr j hj => by
    obtain ⟨i, hi⟩ := List.getElem?_of_mem hr
    have hlt := (List.getElem?_eq_some_iff.1 hi).1
    exact h.apart i (S1.length + j) r s (by omega) (by rw [List.getElem?_append_left hlt]; exact hi) (by rw [List.getElem?_append_right (by omega), Nat.add_sub_cancel_left]; exact hj)
  have hS2 : ∀ (j : Nat) (s : Blk), S2[j]? = some s → ¬ inS S1 s.g ∧ s.g < w.heap.size ∧ w0.heap.size ≤ s.g ∧ Row w s.g s.t s.cs := fun j s hj => by
    have hi : (S1 ++ S2)[S1.length + j]? = some s := by rw [List.getElem?_append_right (by omega), Nat.add_sub_cancel_left]; exact hj
    exact ⟨fun ⟨r, h1, h2⟩ => hap r s h1 j hj h2, (h.rows _ _ hi).lt, (h.own _ _ hi).resolve_left fun e => e, h.rows _ _ hi⟩
  have hx : ∀ (i j : Nat) (r s : Blk), S1'[i]? = some r → S2[j]? = some s → r.g ≠ s.g := fun i j r s hi hj e => by
    obtain ⟨h1, h2, _⟩ := hS2 j s hj
    rcases k.own i r hi with hf | hf
    · exact h1 (e ▸ hf)
    · omega
  refine ⟨⟨k.chg.os.trans h.chg.os, k.chg.tape.trans h.chg.tape, k.chg.output.trans h.chg.output, Nat.le_trans h.chg.size k.chg.size, fun j hj hn => ?_⟩, fun i r hi => ?_, fun i j r s hij hi hj => ?_, fun i r hi => .inr ?_⟩
  · exact (k.chg.block j (Nat.lt_of_lt_of_le hj h.chg.size) fun hf => by have := hw j hf; omega).trans (h.chg.block j hj hn)
  · by_cases hlt : i < S1'.length
    · rw [List.getElem?_append_left hlt] at hi; exact k.rows i r hi
    · rw [List.getElem?_append_right (by omega)] at hi
      obtain ⟨h1, h2, _, h4⟩ := hS2 _ _ hi
      exact (k.chg.block r.g h2 h1).trans h4
  · by_cases hli : i < S1'.length <;> by_cases hlj : j < S1'.length
    · rw [List.getElem?_append_left hli] at hi; rw [List.getElem?_append_left hlj] at hj; exact k.apart i j r s hij hi hj
    · rw [List.getElem?_append_left hli] at hi; rw [List.getElem?_append_right (by omega)] at hj; exact hx _ _ _ _ hi hj
    · rw [List.getElem?_append_right (by omega)] at hi; rw [List.getElem?_append_left hlj] at hj; exact fun e => hx _ _ _ _ hj hi e.symm
    · rw [List.getElem?_append_right (by omega)] at hi hj
      exact h.apart (S1.length + (i - S1'.length)) (S1.length + (j - S1'.length)) r s (by omega) (by rw [List.getElem?_append_right (by omega), Nat.add_sub_cancel_left]; exact hi) (by rw [List.getElem?_append_right (by omega), Nat.add_sub_cancel_left]; exact hj)
  · by_cases hlt : i < S1'.length
    · rw [List.getElem?_append_left hlt] at hi
      rcases k.own i r hi with hf | hf
      · exact hw _ hf
      · exact Nat.le_trans h.chg.size hf
    · rw [List.getElem?_append_right (by omega)] at hi
      exact (hS2 _ _ hi).2.2.1
theorem Owns.nil (w : World) : Owns w w (.slice none 0 0) [] := ⟨[], World.ownsRow_nil _ _ _ _, Below.refl _ _, fun j q h => by simp at h⟩
theorem Owns.call {w wr w' : World} {v : Value} {ps : List (List (BitVec 8))} (h : Owns w wr v ps) (hb : Below wr.heap.size wr w') : Owns w w' v ps := by
  obtain ⟨vs, h1, h2, h3⟩ := h
  exact ⟨vs, owns_call h1 hb, h2.trans (hb.mono h2.size), fun j q hq => by obtain ⟨u, h4, h5⟩ := h3 j q hq; exact ⟨u, h4, owns_call h5 hb⟩⟩
section
variable {o : Oper} {a : Act} {w w0 w1 : World} {R : Value → World → Prop} {S : List Blk}
end
end Go.Proofs.Ytcdcongeogmfkaa

/- Comparisons with nil; what stays while rows that were handed over are written. No function of the program is named here. -/
set_option maxRecDepth 4000
namespace Go.Proofs.Ytcdcongeogmfkaa
open Go Go.RowKit
section
variable {P : Program} {o : Oper} {a : Act} {w : World}
theorem run_eqP (ty e : TypeId) (w : World) (p : Option Addr) (hu : P.underlying ty = some (.pointer e)) : (Op.equal ty (.pointer p) (.pointer none)).run P w = .ok p.isNone w := by
  show (Op.equalIn 10000 ty (.pointer p) (.pointer none)).run P w = .ok p.isNone w
  rw [show (10000 : Nat) = 9999 + 1 from rfl]
  unfold Op.equalIn
  cases p <;> simp [Sem.run_bind, run_underlying hu]
theorem dd_eqp {ty ty2 e : TypeId} {x y : Operand} {p : Option Addr} {b : Bool} (ho : o.op = .binOp .eql ty x y ty2) (hx : a.eval x = .pointer p) (hy : a.eval y = .pointer none) (hu : P.underlying ty = some (.pointer e)) (hb : p.isNone = b) : (execOp a.eval o).run P w = .ok (.value (.bool b)) w := by
  subst hb
  simp [execOp, ho, hx, hy, eqGuard, binOp, run_eqP ty e w p hu]
end
theorem Chg.cellF {F : Nat → Prop} {w w' : World} (h : Chg F w w') {p : Addr} (hp : p.block < w.heap.size) (hF : ¬ F p.block) : w'.cell? p = w.cell? p := World.cell?_of_block (w := w) (h.block p.block hp hF)
theorem Slice.chg {F : Nat → Prop} {w w' : World} {A : Option Addr} {n c : Nat} {q : List (BitVec 8)} (h : Slice w (.slice A n c) q) (k : Chg F w w') (hF : ∀ ad, A = some ad → ¬ F ad.block) : Slice w' (.slice A n c) q := by
  obtain ⟨A', c', e, h2, h3⟩ := h
  injection e with e1 e2 e3
  subst e1 e2 e3
  refine ⟨_, _, rfl, h2, fun hne => ?_⟩
  obtain ⟨b, o, rfl, h5, h6⟩ := h3 hne
  exact ⟨b, o, rfl, Nat.lt_of_lt_of_le h5 k.size, fun j x hx => (k.cellF (p := ⟨b, o + j, none⟩) h5 (hF ⟨b, o, none⟩ rfl)).trans (h6 j x hx)⟩
theorem ownc_nil0 (sz : Nat) : OwnC #[] 0 0 sz [] := ⟨Nat.le_refl _, by decide, by simp, by simp, by simp⟩
end Go.Proofs.Ytcdcongeogmfkaa

/- The program's node: its functions, over the disk as a thing. -/
set_option maxRecDepth 4000
namespace Go.Proofs.Ytcdcongeogmfkaa
open Go Go.RowKit
theorem puts_open {w : World} {A : Option Addr} {n c : Nat} {l : List (Int × List (BitVec 8))} (h : PutsAt w (.slice A n c) l) : l.length = n ∧ n ≤ c ∧ (∀ x ∈ l, x.2.length = 32 ∧ -9223372036854775808 ≤ x.1 ∧ x.1 < 9223372036854775808) ∧ (0 < n → ∃ b o, A = some ⟨b, o, none⟩) := by
  obtain ⟨A', c', e, h2, h3, h4⟩ := h
  injection e with e1 e2 e3
  subst e1 e2 e3
  exact ⟨rfl, h2, h3, fun h0 => by obtain ⟨b, o, e, _⟩ := h4 (by intro e; rw [e] at h0; simp at h0); exact ⟨b, o, e⟩⟩
variable (D : DiskOps)
end Go.Proofs.Ytcdcongeogmfkaa

/- The program's node: SetLabel, writeBlocks, carryOut. -/
set_option maxRecDepth 4000
namespace Go.Proofs.Ytcdcongeogmfkaa
open Go Go.RowKit
variable (D : DiskOps)
end Go.Proofs.Ytcdcongeogmfkaa

/- The program's node: carryOut, catchUp, Open, Apply. -/
set_option maxRecDepth 4000
namespace Go.Proofs.Ytcdcongeogmfkaa
open Go Go.RowKit
variable (D : DiskOps)
variable (O : WalOps D)
end Go.Proofs.Ytcdcongeogmfkaa

/- The program's node at rest, as the statements meet it: each call of theirs. -/
set_option maxRecDepth 4000
namespace Go.Proofs.Ytcdcongeogmfkaa
open Go Go.RowKit
theorem inS_at {S : List Blk} (i : Nat) {r : Blk} (h : S[i]? = some r) : inS S r.g := ⟨r, List.mem_of_getElem? h, rfl⟩
theorem puts_lt {w : World} {v : Value} {l : List (Int × List (BitVec 8))} (h : PutsAt w v l) (hne : l ≠ []) (k : Nat) (hk : v.ownBlock = some k) : k < w.heap.size := by
  obtain ⟨A, c, rfl, _, _, h4⟩ := h
  obtain ⟨b, o, rfl, h5, _⟩ := h4 hne
  obtain rfl : b = k := Option.some.inj hk
  exact h5
/- puts of one's own row, at a call that is handed other rows -/
theorem own_off {w w0 : World} {F G : Nat → Prop} {R2 : List Blk} {g n c : Nat} {l : List (Int × List (BitVec 8))} (hp : PutsAt w (.slice (some ⟨g, 0, none⟩) n c) l) (hf : ∀ k, G k → (F k ∨ w0.heap.size ≤ k) ∧ k < w.heap.size ∧ ¬ inS R2 k) (i : Nat) {r : Blk} (hi : R2[i]? = some r) (hr : r.g = g) : l ≠ [] → ∀ k, (Value.slice (some ⟨g, 0, none⟩) n c).ownBlock = some k → k < w.heap.size ∧ ¬ G k := fun hne k hk => by
  refine ⟨puts_lt hp hne k hk, fun hg => (hf k hg).2.2 ?_⟩
  obtain rfl : g = k := Option.some.inj hk
  exact hr ▸ inS_at i hi
section
variable {D : DiskOps} {O : WalOps D} {w w0 : World} {F F0 : Nat → Prop} {R : List Blk} {Q : List Thing} {p : Value} {s : Secs} {L L' : Lab} {B : Bks} {g : Nat} {f : Int}
abbrev rest (s : Secs) (f : Int) : DiskM := ⟨s, [], f, false⟩
section
variable {r : Rec} {A : Option Addr} {n c : Nat} {d : BitVec 16}
end
end
theorem own_off1 {w w0 : World} {F G : Nat → Prop} {R2 : List Blk} {g n c : Nat} (hf : ∀ k, G k → (F k ∨ w0.heap.size ≤ k) ∧ k < w.heap.size ∧ ¬ inS R2 k) (i : Nat) {r : Blk} (hi : R2[i]? = some r) (hr : r.g = g) : ∀ k, (Value.slice (some ⟨g, 0, none⟩) n c).ownBlock = some k → ¬ G k := fun k hk hg => by
  obtain rfl : g = k := Option.some.inj hk
  exact (hf _ hg).2.2 (hr ▸ inS_at i hi)
end Go.Proofs.Ytcdcongeogmfkaa

/- Appends of whatever slice, be it of none. No function of the program is named here. -/
set_option maxRecDepth 4000
namespace Go.Proofs.Ytcdcongeogmfkaa
open Go Go.RowKit
section
variable {P : Program} {o : Oper} {a : Act} {w w0 : World} {R : Value → World → Prop} {F : Nat → Prop} {S : List Blk}
theorem dd_appE {e t : TypeId} {s x : Operand} {A : Option Addr} {n c n2 sz : Nat} (ho : o.op = .call { callee := .builtin .append, args := #[s, x], argTypes := #[t, t] }) (hs : a.eval s = .slice A n c) (hx : a.eval x = .slice none 0 n2) (hc : n ≤ c) (ht : P.underlying t = some (.slice e)) (hi : (P.info? e).map (fun i => i.size) = some sz) : (execOp a.eval o).run P w = .ok (.value (.slice A n c)) w := by
  obtain ⟨i, hi1, hi2⟩ := Option.map_eq_some_iff.1 hi
  cases A <;> simp [execOp, ho, resolve, invoke, builtin, hs, hx, Builtin.append_, run_underlying ht, sizeOf, typeInfo, hi1, Builtin.lenOf, Builtin.firstCells, storeCells, hc]
theorem st_move (h : St w0 F S w) (k : Nat) {r : Blk} (hk : S[k]? = some r) : St w0 F (S.eraseIdx k ++ [r]) w := by
  refine st_snoc (st_erase h k) (h.row k hk) (h.own k r hk) fun b hb e => ?_
  obtain ⟨j, hj⟩ := List.getElem?_of_mem hb
  rw [List.getElem?_eraseIdx] at hj
  split at hj
  · exact h.apart j k b r (by omega) hj hk e
  · exact h.apart (j + 1) k b r (by omega) hj hk e
theorem dd_appX (HS : St w0 F S w) (k : Nat) {g c n sz : Nat} {cb : Array Value} {e t : TypeId} {L : List Value} (hk : S[k]? = some ⟨g, e, cb⟩) (O : OwnC cb c n sz L) {s x : Operand} (ho : o.op = .call { callee := .builtin .append, args := #[s, x], argTypes := #[t, t] })
    (hs : a.eval s = .slice (some ⟨g, 0, none⟩) n c) {z : Value} {bytes : Nat} (ht : P.underlying t = some (.slice e)) (hi : (P.info? e).map (fun i => (i.zero, i.size, i.bytes)) = some (some z, sz, bytes)) (hzs : z.cells.size = sz) (hsz : 0 < sz)
    {A : Option Addr} {m c2 : Nat} (news : List Value) (hx : a.eval x = .slice A m c2) (hl : news.length = m * sz) (hA : m ≠ 0 → ∃ b o, A = some ⟨b, o, none⟩ ∧ CAt w b o news) (h1 : ∀ u ∈ news, u.oneCell' = true)
    (h63 : n + m ≤ maxLen) (hbytes : (n + m) * bytes ≤ 140737488355328)
    (h : ∀ g' c' cb' w', OwnC cb' c' (n + m) sz (L ++ news) → St w0 F (S.eraseIdx k ++ [⟨g', e, cb'⟩]) w' → R (.slice (some ⟨g', 0, none⟩) (n + m) c') w') : Does P o a w R := by
  cases A with
  | some ad =>
    refine dd_app HS k hk O ho hs ht hi hzs hsz news hx hl (fun j u hu => ?_) h1 h63 hbytes h
    have hm : m ≠ 0 := fun e => by
      subst e
      rw [Nat.zero_mul] at hl
      rw [List.eq_nil_of_length_eq_zero hl] at hu; simp at hu
    obtain ⟨b, o2, e2, h2⟩ := hA hm
    injection e2 with e2
    subst e2; exact h2.news j u hu
  | none =>
    obtain rfl : m = 0 := Decidable.byContradiction fun hm => by obtain ⟨_, _, e2, _⟩ := hA hm; cases e2
    rw [Nat.zero_mul] at hl
    obtain rfl := List.eq_nil_of_length_eq_zero hl
    have hi' : (P.info? e).map (fun i => i.size) = some sz := by
      obtain ⟨i, k1, k2⟩ := Option.map_eq_some_iff.1 hi
      rw [k1]; injection k2 with _ k2; injection k2 with k2 _; rw [← k2]; rfl
    refine dd_rn (dd_appE ho hs hx O.le ht hi') ?_
    have h2 := h g c cb w (by rw [List.append_nil]; exact O) (st_move HS k hk)
    rwa [Nat.add_zero] at h2
end
end Go.Proofs.Ytcdcongeogmfkaa

/- The statement WalPlays: its walk. -/
set_option maxRecDepth 4000
namespace Go.Proofs.Ytcdcongeogmfkaa
open Go Go.RowKit
theorem dd_nep {P : Program} {o : Oper} {a : Act} {w : World} {ty ty2 e : TypeId} {x y : Operand} {p : Option Addr} {b : Bool} (ho : o.op = .binOp .neq ty x y ty2) (hx : a.eval x = .pointer p) (hy : a.eval y = .pointer none) (hu : P.underlying ty = some (.pointer e)) (hb : p.isSome = b) : (execOp a.eval o).run P w = .ok (.value (.bool b)) w := by
  subst hb
  cases p <;> simp [execOp, ho, hx, hy, eqGuard, binOp, run_eqP ty e w _ hu]
theorem put0_size8 : (Value.agg (catA [[Value.int .i64 0], bytesV (zer 32)])).cells.size = 33 := by kernel_rfl
theorem dd_app8 {P : Program} {o : Oper} {a : Act} {w w0 : World} {R : Value → World → Prop} {F : Nat → Prop} {S : List Blk} (HS : St w0 F S w) (k : Nat) {g sz : Nat} {cb : Array Value} {e t : TypeId} (hk : S[k]? = some ⟨g, e, cb⟩) (O : OwnC cb 0 0 sz []) {s x : Operand} (ho : o.op = .call { callee := .builtin .append, args := #[s, x], argTypes := #[t, t] })
    (hs : a.eval s = .slice (some ⟨g, 0, none⟩) 0 0) {z : Value} {bytes : Nat} (ht : P.underlying t = some (.slice e)) (hi : (P.info? e).map (fun i => (i.zero, i.size, i.bytes)) = some (some z, sz, bytes)) (hzs : z.cells.size = sz) (hsz : 0 < sz)
    {A : Option Addr} {m c2 : Nat} (news : List Value) (hx : a.eval x = .slice A m c2) (hl : news.length = m * sz) (hA : m ≠ 0 → ∃ b o, A = some ⟨b, o, none⟩ ∧ CAt w b o news) (h1 : ∀ u ∈ news, u.oneCell' = true) (h63 : m ≤ maxLen) (hbytes : m * bytes ≤ 140737488355328)
    (h : ∀ g' c' cb' w', OwnC cb' c' m sz news → St w0 F (S.eraseIdx k ++ [⟨g', e, cb'⟩]) w' → R (.slice (some ⟨g', 0, none⟩) m c') w') : Does P o a w R :=
  dd_appX HS k hk O ho hs ht hi hzs hsz news hx hl hA h1 (by rw [Nat.zero_add]; exact h63) (by rw [Nat.zero_add]; exact hbytes) fun g' c' cb' w' o s => by
    rw [Nat.zero_add] at o ⊢
    exact h g' c' cb' w' o s
theorem len_putsc (l : List (Int × List (BitVec 8))) (h : ∀ x ∈ l, x.2.length = 32) : ((l.map pcell).flatten).length = l.length * 33 := by
  induction l with
  | nil => rfl
  | cons x l ih =>
    rw [List.map_cons, List.flatten_cons, List.length_append, ih fun y hy => h y (List.mem_cons_of_mem _ hy), List.length_cons]
    have : (pcell x).length = 33 := by unfold pcell; simp [len_bytesV, h x (List.mem_cons_self ..)]
    omega
theorem one_putsc (l : List (Int × List (BitVec 8))) : ∀ v ∈ (l.map pcell).flatten, Value.oneCell' v = true := fun v hv => by
  obtain ⟨c, hc, hv⟩ := List.mem_flatten.1 hv
  obtain ⟨x, _, rfl⟩ := List.mem_map.1 hc
  unfold pcell at hv
  rcases List.mem_cons.1 hv with rfl | hv
  · rfl
  · exact one_bytesV _ v hv
theorem puts_cat9 {w : World} {A : Option Addr} {n c : Nat} {l : List (Int × List (BitVec 8))} (h : PutsAt w (.slice A n c) l) (hn : n ≠ 0) : ∃ b o, A = some ⟨b, o, none⟩ ∧ CAt w b o (l.map pcell).flatten := by
  obtain ⟨A', c', e, _, h32, h4⟩ := h
  injection e with e1 e2 e3
  subst e1
  obtain ⟨b, o, e4, h5, h6⟩ := h4 (by rintro rfl; exact hn e2)
  refine ⟨b, o, e4, h5, fun j v hv => ?_⟩
  have hl : ∀ c ∈ l.map pcell, c.length = 33 := fun c hc => by
    obtain ⟨y, hy, rfl⟩ := List.mem_map.1 hc
    exact len_pcell (h32 y hy).1
  have hj : j < l.length * 33 := by rw [← len_putsc l fun x hx => (h32 x hx).1]; exact (List.getElem?_eq_some_iff.1 hv).1
  obtain ⟨k, m, hm, rfl⟩ : ∃ k m, m < 33 ∧ j = k * 33 + m := ⟨j / 33, j % 33, Nat.mod_lt _ (by decide), by omega⟩
  obtain ⟨x, hx⟩ : ∃ x, l[k]? = some x := ⟨_, List.getElem?_eq_getElem (by omega)⟩
  rw [flat_get (sz := 33) (l.map pcell) hl k m (pcell x) (by rw [List.getElem?_map, hx]; rfl) hm] at hv
  rw [← Nat.add_assoc]
  exact h6 k x hx m v hv
set_option maxHeartbeats 800000 in
theorem range_stay8 {w w' : World} {b o : Nat} {l : List Value} (h : w.rangeAt b o l) (hb : b < w.heap.size) (k : Below w.heap.size w w') : w'.rangeAt b o l := fun j v hv => (k.cell (p := ⟨b, o + j, none⟩) hb).trans (h j v hv)
theorem at0_get {s : Secs} {i : Nat} (h : i < s.length) : s[i]? = some (at0 s i) := by unfold at0; rw [List.getD_eq_getElem?_getD, List.getElem?_eq_getElem h]; rfl
theorem getR_l1 (M : DiskM) (f : Int) : (walGet M f).1.l.length ≤ 1000000 := Nat.le_trans (getR_l false M f) (by decide)
theorem rr_rows {w w0 : World} {F0 : Nat → Prop} {R : List Blk} {Q : List Thing} {M : DiskM} {g n : Nat} (h : Rs w0 F0 R (rdkT (.pointer (some ⟨g, 0, none⟩)) M :: Q) w) (hn : M.s.length = n) (h0 : 0 < n) :
    ∃ b cs cb vl, OwnC cb cs n 32 (M.s.map bytesV).flatten ∧ M.Ok ∧ Rs w0 F0 ([⟨g, 61, #[.slice (some ⟨b, 0, none⟩) n cs, vl, .int .i64 M.f, .bool M.down]⟩, ⟨b, 52, cb⟩] ++ R) ([] ++ Q) w := by
  obtain ⟨f, h1, _, h3⟩ := h.head
  obtain ⟨g', vs, vl, e, h, hG⟩ := id h1
  injection e with e
  injection e with e
  injection e with e _ _
  subst e
  have hs := h.sec
  rw [hn] at hs
  obtain ⟨b, cs, cb, rfl, _, hb, O⟩ := ownc_pos hs h0
  refine ⟨b, cs, cb, vl, O, h.ok, Rs.unpack (h3 _ ⟨Rs.of ⟨Chg.refl _ _, fun j r hj => ?_, fun i j r s hij hi hj => ?_, fun j r hj => ?_⟩, fun k hk => (ref_lt h1 k hk).2⟩)⟩
  · match j, hj with
    | 0, hj => simp at hj; subst hj; exact h.row
    | 1, hj => simp at hj; subst hj; exact hb
    | j + 2, hj => simp at hj
  · have hne : g ≠ b := row_ne h.row hb (by decide)
    have h1 := (List.getElem?_eq_some_iff.1 hi).1
    have h2 := (List.getElem?_eq_some_iff.1 hj).1
    simp only [List.length_cons, List.length_nil] at h1 h2
    match i, j, hi, hj, h1, h2 with
    | 0, 0, _, _, _, _ => exact absurd rfl hij
    | 0, 1, hi, hj, _, _ => simp at hi hj; subst hi hj; exact hne
    | 1, 0, hi, hj, _, _ => simp at hi hj; subst hi hj; exact hne.symm
    | 1, 1, _, _, _, _ => exact absurd rfl hij
    | i + 2, _, _, _, h1, _ => omega
    | _, j + 2, _, _, _, h2 => omega
  · match j, hj with
    | 0, hj => simp at hj; subst hj; exact .inl (by rw [hG]; exact .inl rfl)
    | 1, hj => simp at hj; subst hj; exact .inl (by rw [hG]; exact .inr (.inl rfl))
    | j + 2, hj => simp at hj
theorem rr_blk9 {w : World} {b n cs : Nat} {cb : Array Value} {s : Secs} (h : Row w b 52 cb) (O : OwnC cb cs n 32 (s.map bytesV).flatten) (hok : ∀ q ∈ s, q.length = 32) {i : Nat} {q : List (BitVec 8)} (hq : s[i]? = some q) : w.rangeAt b (i * 32) (bytesV q) :=
  own_elem (ownc_to h O (Nat.zero_le _)) (fun c hc => by obtain ⟨q', hq', rfl⟩ := List.mem_map.1 hc; rw [len_bytesV]; exact hok q' hq') (by rw [List.getElem?_map, hq]; rfl)
theorem rr_getno (w : World) (f : Int) : Calls Try.prog 16 #[.pointer none, .int .i64 f] w fun e w' => ∃ A c, e = .returned (.agg (recC rec0 (.slice A rec0.l.length c) 1)) ∧ PutsAt w' (.slice A rec0.l.length c) rec0.l ∧ Below w.heap.size w w' ∧ ∀ k, (Value.slice A rec0.l.length c).ownBlock = some k → w.heap.size ≤ k := by
  refine (refwget_nil w f).mono ?_
  rintro e w' ⟨v, he, hp, hb, ho⟩
  obtain ⟨A, c, rfl, _⟩ := id hp
  exact ⟨A, c, he, hp, hb, ho⟩
attribute [local irreducible] blk zer spl
variable (D : DiskOps) (O : WalOps D)
include O in
set_option maxHeartbeats 3200000 in
theorem wplay9_walk (n0 f0 : Int) (A : Option Addr) (n c : Nat) (X : List Step8) (w : World) (hn64 : -9223372036854775808 ≤ n0 ∧ n0 < 9223372036854775808) (hf64 : -9223372036854775808 ≤ f0 ∧ f0 < 9223372036854775808) (h0 : rdSl 7 rdStep8 w [.slice A n c] X) : Calls Try.prog 3 #[.agg #[.int .i64 n0, .int .i64 f0], .slice A n c] w fun x w' => x = .returned (.bool true) ∧ Below w.heap.size w w' := by
  have hX := stps_of h0
  have HS := St.nil w noF
  have HX : Rs w noF [] [] w := Rs.of HS
  clear HS
  obtain ⟨G1, HZ1, HS1⟩ := HX.anchor
  clear HX
  refine enter_en Try.func3 rfl Try.ntmps3 (Nat.le_of_ble_eq_true rfl) fun a0 (HA0 : En 209 [(0, .agg #[.int .i64 n0, .int .i64 f0]), (1, .slice A n c)] a0) => ?_
  refine sq_ <| rl_ <| wl_ <| n_ HA0 rfl (fun _ h => dd_box HS1 rfl (HA0.ev 0 rfl) (cs := #[.int .i64 n0, .int .i64 f0]) rfl h) fun g2 W2 HS2 _ H2 => wl_ <| p_ H2 rfl rfl fun _ H3 => ln_ <| nx <| sq_ <| sq_ <| rl_ <| wl_ <| p_ H3 rfl rfl fun _ H4 => ?_
  clear HS1 HA0 H2 H3
  refine wl_ <| d_ H4 rfl (R := fun v w9 => ∃ bf, v = .bool bf ∧ (bf = true → X.length ≤ 80 ∧ ∀ x ∈ X, x.r.l.length ≤ 50 ∧ x.body.length ≤ 29 ∧ x.keep.length ≤ 300) ∧ Below W2.heap.size W2 w9) (dc_ Try.func8 rfl (args1 (H4.ev 19 rfl)) (fair8_any W2 A n c X (stays_steps8 w.heap.size w W2 _ _ h0 (HZ1.bel HS2) (Nat.le_refl _))) (fun _ w9 ⟨b9, he, hf, hw⟩ => ⟨_, he, b9, rfl, hf, hw ▸ Below.refl _ _⟩)) ?_
  rintro _ W5 ⟨bf, rfl, hfa, hb5⟩ a5 H5
  have HS5 := HS2.same hb5
  clear H4
  clear HS2 hb5
  cases hb7 : bf
  ·
   refine wl_ <| i_ H5 rfl (v := .bool true) (dd_nt rfl ((H5.ev 20 rfl).trans (congrArg Value.bool hb7)) rfl) fun _ H8 => wl_ <| p_ H8 rfl rfl fun a9 H9 => wl_ <| k_ H9 (wg_ H9 rfl rfl rfl rfl) rfl fun _ H10 => wl_ <| k_ H10 (wg_ H10 rfl rfl rfl rfl) rfl fun _ H11 => wl_ <| k_ H11 (wg_ H11 rfl rfl rfl rfl) rfl fun _ H12 => wl_ <| p_ H12 rfl rfl fun _ H13 => ln_ <| nx <| ct_ H13 rfl <| sq_ <| rl_ <| wl_ <| c_ H13 rfl HS5 (dcs Try.func9 rfl (args0 ) (wwakes_any D O W5) (.bool true)) fun _ HS14 _ H14 => wl_ <| p_ H14 rfl rfl fun _ H15 => ?_
   clear H5 H8 H9 H10 H11 H12 H13 HS5
   refine ln_ <| nx <| wp_ret <| tr <| ret_run H15.env0 (res_t Try.results3 (H15.get 4 rfl)) <| ?_
   clear H14
   exact ⟨rfl, (HZ1.bel HS14)⟩
  refine wl_ <| i_ H5 rfl (v := .bool false) (dd_nt rfl ((H5.ev 20 rfl).trans (congrArg Value.bool hb7)) rfl) fun _ H16 => wl_ <| p_ H16 rfl rfl fun _ H17 => wl_ <| ig H17 (wg_ H17 rfl rfl rfl rfl) rfl (xA 2 1 0 rfl (H17.ev 2 rfl) rfl) fun _ H18 => wl_ <| ig H18 (wg_ H18 rfl rfl rfl rfl) rfl (dd_get HS5 0 0 rfl rfl (H18.ev 23 rfl) rfl Try.underlying3 rfl) fun _ H19 => ?_
  clear H5 H16 H17 H18
  by_cases hc21 : (40 : Int) < n0
  ·
   refine wl_ <| ig H19 (wg_ H19 rfl rfl rfl rfl) rfl (dd_cmp rfl (H19.ev 24 rfl) rfl (gt_t hc21)) fun _ H22 => wl_ <| p_ H22 rfl rfl fun _ H23 => ln_ <| nx <| ct_ H23 rfl <| sq_ <| rl_ <| wl_ <| c_ H23 rfl HS5 (dcs Try.func9 rfl (args0 ) (wwakes_any D O W5) (.bool true)) fun _ HS24 _ H24 => wl_ <| p_ H24 rfl rfl fun _ H25 => ln_ <| nx <| wp_ret <| tr <| ret_run H25.env0 (res_t Try.results3 (H25.get 4 rfl)) <| ?_
   clear H19 H22 H23 HS5 H24
   exact ⟨rfl, (HZ1.bel HS24)⟩
  refine wl_ <| ig H19 (wg_ H19 rfl rfl rfl rfl) rfl (dd_cmp rfl (H19.ev 24 rfl) rfl (gt_f hc21)) fun _ H26 => wl_ <| p_ H26 rfl rfl fun _ H27 => ln_ <| nx <| cf_ H27 rfl <| wp_skip <| nx <| sq_ <| ?_
  clear H19 H26
  have hXn := hX.len
  obtain ⟨hl80, hfr⟩ := hfa hb7
  refine rl_ <| wl_ <| i_ H27 rfl (xA 2 1 0 rfl (H27.ev 2 rfl) rfl) fun _ H28 => wl_ <| i_ H28 rfl (dd_get HS5 0 0 rfl rfl (H28.ev 29 rfl) rfl Try.underlying3 rfl) fun _ H29 => ?_
  clear H27 H28
  by_cases hc30 : (n0 : Int) < 1
  ·
   refine wl_ <| c_ H29 rfl HS5 (v := .tuple #[.pointer none, .int .i64 1]) (dc_ Try.func10 rfl (args1 (H29.ev 30 rfl)) (dr_newno D W5 n0 (by omega) hn64) (fun _ w9 h9 => ⟨_, h9.1, rfl, h9.2⟩)) fun W31 HS31 _ H31 => wl_ <| p_ H31 rfl rfl fun _ H32 => wl_ <| i_ H32 rfl (v := .pointer none) (dd_ext rfl (H32.ev 28 rfl) rfl) fun _ H33 => wl_ <| i_ H33 rfl (v := .int .i64 1) (dd_ext rfl (H33.ev 28 rfl) rfl) fun _ H34 => q_ H34 2 rfl fun _ H35 => ln_ <| ?_
   clear H29 HS5 H31 H32 H33 H34
   have H36 := H35.sel [1, 2, 5] rfl
   refine nx <| sq_ <| rl_ <| wl_ <| i_ H36 rfl (xA 2 1 0 rfl (H36.ev 2 rfl) rfl) fun _ H37 => wl_ <| i_ H37 rfl (dd_get HS31 0 0 rfl rfl (H37.ev 35 rfl) rfl Try.underlying3 rfl) fun _ H38 => wl_ <| c_ H38 rfl HS31 (v := .tuple #[.pointer none, .int .i64 1]) (dc_ Try.func11 rfl (args1 (H38.ev 36 rfl)) (rr_newno W31 n0 (by omega)) (fun _ w9 h9 => ⟨_, h9.1, rfl, h9.2⟩)) fun _ HS39 _ H39 => wl_ <| p_ H39 rfl rfl fun _ H40 => wl_ <| i_ H40 rfl (v := .pointer none) (dd_ext rfl (H40.ev 34 rfl) rfl) fun _ H41 => wl_ <| i_ H41 rfl (v := .int .i64 1) (dd_ext rfl (H41.ev 34 rfl) rfl) fun _ H42 => q_ H42 2 rfl fun _ H43 => ln_ <| nx <| sq_ <| sq_ <| rl_ <| wl_ <| p_ H43 rfl rfl fun _ H44 => ?_
   clear H35 H36 H37 H38 HS31 H39 H40 H41 H42
   refine ln_ <| nx <| wp_block <| ?_
   clear H43
   refine wp_loopG (ι := Nat) (fun i a9 w9 => (i ≤ n) ∧ En 209 [(9, .int .i64 i), (7, .pointer none), (5, .pointer none), (2, .pointer (some ⟨g2, 0, none⟩)), (1, .slice A n c)] a9 ∧ Rs w noF [⟨g2, 22, #[.int .i64 n0, .int .i64 f0]⟩] [] w9) (fun i => n - i) (0) ⟨(Nat.zero_le _), H44.sel [1, 2, 5, 7, 9] rfl, (HZ1.move HS39).sel [0] []⟩ ?_
   clear H44 HS39 HZ1
   rintro i aL45 wL45 ⟨hi, HL45, HXL45⟩
   obtain ⟨G46, HZ46, HS46⟩ := HXL45.anchor
   clear HXL45
   refine sq_ <| sq_ <| rl_ <| q_ HL45 2 rfl fun _ H47 => wl_ <| i_ H47 rfl (v := .int .i64 n) (dd_len rfl (H47.ev 41 rfl) Try.underlying23) fun _ H48 => ?_
   clear HL45 H47
   by_cases hc50 : (i : Int) < n
   ·
    refine wl_ <| i_ H48 rfl (dd_cmp rfl (H48.ev 40 rfl) (H48.ev 42 rfl) (lt_t hc50)) fun _ H51 => ln_ <| nx <| ct_ H51 rfl <| wp_skip <| nx <| sq_ <| wp_block <| sq_ <| ?_
    clear H48
    obtain ⟨b8, o8, hA8, hb8, hall⟩ := hX.at_ (by omega)
    obtain ⟨z, hz⟩ : ∃ x, X[i]? = some x := ⟨_, List.getElem?_eq_getElem (by rw [hX.len]; omega)⟩
    obtain ⟨Ap, cp, Ab, cb, Ak, ck, hc2, hp2, hm2, hS2, hb2, hK2, hk2, hwk, hwi⟩ := hall i z hz
    obtain ⟨hz50, hz29, hz300⟩ := hfr z (List.mem_of_getElem? hz)
    obtain ⟨np, hnp⟩ : ∃ n, z.r.l.length = n := ⟨_, rfl⟩
    obtain ⟨nb, hnb⟩ : ∃ n, z.body.length = n := ⟨_, rfl⟩
    obtain ⟨nk, hnk⟩ : ∃ n, z.keep.length = n := ⟨_, rfl⟩
    rw [hnp, hnb, hnk] at hc2
    rw [hnp] at hp2 hm2 hz50
    rw [hnb] at hS2 hz29
    rw [hnk] at hK2 hz300
    have HC2 := fun (W9 : World) (hb9 : Below w.heap.size w W9) => range_stay8 hc2 hb8 hb9
    have HP := fun (W9 : World) (hb9 : Below w.heap.size w W9) => hp2.below hb9 (Nat.le_refl _)
    have HSB := fun (W9 : World) (hb9 : Below w.heap.size w W9) => hS2.below hb9 (Nat.le_refl _)
    have HK := fun (W9 : World) (hb9 : Below w.heap.size w W9) => hK2.below hb9 (Nat.le_refl _)
    have hwf := (puts_open hp2).2.2.1
    have hA0 := (puts_open hp2).2.2.2
    refine rl_ <| q_ H51 2 rfl fun _ H52 => wl_ <| i_ H52 rfl (dd_idxS (sz := 7) (j := o8 + i * 7) rfl (sl_at (H52.ev 46 rfl) hA8) (H52.ev 47 rfl) (by kernel_rfl) (by omega) (by omega) (by omega)) fun _ H53 => wl_ <| i_ H53 rfl (v := .agg #[.int .i64 z.kind, .int .i64 z.i, .int .u32 (wd z.r.e), .int .u32 (wd z.r.s), .slice Ap np cp, .slice Ab nb cb, .slice Ak nk ck]) (dd_atN rfl (H53.ev 48 rfl) (HC2 _ (HZ46.bel HS46)) Try.underlying39 rfl (by kernel_rfl)) fun _ H54 => wl_ <| n_ H54 rfl (fun _ h => dd_new HS46 #[.int .i64 0, .int .i64 0, .int .u32 0, .int .u32 0, .slice none 0 0, .slice none 0 0, .slice none 0 0] rfl (z := .agg #[.int .i64 0, .int .i64 0, .int .u32 0, .int .u32 0, .slice none 0 0, .slice none 0 0, .slice none 0 0]) (by kernel_rfl) rfl h) fun g10 _ HS55 _ H55 => wl_ <| t_ rfl (fun _ h => dd_setrow HS55 1 rfl rfl (H55.ev 10 rfl) (H55.ev 49 rfl) (by kernel_rfl) (rfl : #[.int .i64 z.kind, .int .i64 z.i, .int .u32 (wd z.r.e), .int .u32 (wd z.r.s), .slice Ap np cp, .slice Ab nb cb, .slice Ak nk ck].size = 7) (rfl : #[.int .i64 0, .int .i64 0, .int .u32 0, .int .u32 0, .slice none 0 0, .slice none 0 0, .slice none 0 0].size = 7) (one_l (ao_cons rfl (ao_cons rfl (ao_cons rfl (ao_cons rfl (ao_cons rfl (ao_cons rfl (ao_cons rfl ao_nil)))))))) h) fun W56 HS56 => ln_ <| nx <| sq_ <| sq_ <| rl_ <| wl_ <| i_ H55 rfl (xf 0 0 rfl (H55.ev 10 rfl)) fun _ H57 => wl_ <| i_ H57 rfl (dd_get HS56 1 0 rfl rfl (H57.ev 50 rfl) rfl Try.underlying3 rfl) fun _ H58 => ln_ <| nx <| wp_block <| sq_ <| rl_ <| ?_
    clear H51 H52 H53 HS46 H54 HS55 H55 H57
    by_cases hc60 : (z.kind : Int) = 0
    ·
     refine wl_ <| i_ H58 rfl (dd_cmp rfl (H58.ev 51 rfl) rfl (eq_t hc60)) fun _ H61 => wl_ <| p_ H61 rfl rfl fun _ H62 => ln_ <| nx <| ct_ H62 rfl <| sq_ <| ?_
     clear H58 H61
     refine wr_ (HZ46.move HS56) [0, 1] [0, 1] rfl rfl fun HXd64 hx63 => ?_
     obtain ⟨G65, HZ65, HS65⟩ := HXd64.anchor
     clear HXd64
     refine hp_ H62 0 hx63 rfl rfl rfl fun _ H66 => ht_ H66 1 hx63 rfl rfl (fun _ _ _ => xA 2 1 1 rfl (H66.ev 2 rfl) rfl) fun _ H67 => ht_ H67 2 hx63 rfl rfl (fun _ _ HS9 => dd_get HS9 0 1 rfl rfl (H67.ev 55 rfl) rfl Try.underlying3 rfl) fun _ H68 => ht_ H68 3 hx63 rfl rfl (fun _ _ _ => xf 2 2 rfl (H68.ev 10 rfl)) fun _ H69 => ht_ H69 4 hx63 rfl rfl (fun _ _ _ => xf 0 2 rfl (H69.ev 57 rfl)) fun _ H70 => ht_ H70 5 hx63 rfl rfl (fun _ _ HS9 => dd_get HS9 1 2 rfl rfl (H70.ev 58 rfl) rfl Try.underlying33 rfl) fun _ H71 => ht_ H71 6 hx63 rfl rfl (fun _ _ _ => xf 2 2 rfl (H71.ev 10 rfl)) fun _ H72 => ht_ H72 7 hx63 rfl rfl (fun _ _ _ => xf 1 3 rfl (H72.ev 60 rfl)) fun _ H73 => ?_
     clear H62 H66 H67 H68 H69 H70 H71
     refine ht_ H73 8 hx63 rfl rfl (fun _ _ HS9 => dd_get HS9 1 3 rfl rfl (H73.ev 61 rfl) rfl Try.underlying33 rfl) fun _ H74 => ht_ H74 10 hx63 rfl rfl (fun _ _ _ => xf 2 2 rfl (H74.ev 10 rfl)) fun _ H75 => ht_ H75 11 hx63 rfl rfl (fun _ _ _ => xf 2 4 rfl (H75.ev 64 rfl)) fun _ H76 => ht_ H76 12 hx63 rfl rfl (fun _ _ HS9 => dd_get HS9 1 4 rfl rfl (H76.ev 65 rfl) rfl Try.underlying34 rfl) fun _ H77 => hp_ H77 16 hx63 rfl rfl rfl fun _ H78 => ht_ H78 17 hx63 rfl rfl (fun _ _ _ => xA 2 1 1 rfl (H78.ev 2 rfl) rfl) fun _ H79 => ht_ H79 18 hx63 rfl rfl (fun _ _ HS9 => dd_get HS9 0 1 rfl rfl (H79.ev 71 rfl) rfl Try.underlying3 rfl) fun _ H80 => ht_ H80 19 hx63 rfl rfl (fun _ _ _ => xf 2 2 rfl (H80.ev 10 rfl)) fun _ H81 => ?_
     clear H72 H73 H74 H75 H76 H77 H78 H79
     refine ht_ H81 20 hx63 rfl rfl (v := .agg #[.int .u32 (wd z.r.e), .int .u32 (wd z.r.s), .slice Ap np cp]) (fun _ _ HS9 => dd_load HS9 1 2 rfl rfl (H81.ev 73 rfl) rfl Try.underlying36 rfl (by kernel_rfl)) fun _ H82 => h1_ 9 rfl <| n_ H82 rfl (A := fun g63 => .slice (some ⟨g63, 0, none⟩) 0 0) (fun _ h => dd_lit0 HS65 rfl rfl Try.underlying34 (sz := 33) (by kernel_rfl) h) fun g63 _ HS83 _ H83 => sx_ (sxi (HZ65.move HS83).st [0, 1, 2] rfl) fun hx84 => h1_ 13 rfl <| a_ H83 rfl (S := fun g67_87 cb67_87 => [⟨g2, 22, #[.int .i64 n0, .int .i64 f0]⟩, ⟨g10, 39, #[.int .i64 z.kind, .int .i64 z.i, .int .u32 (wd z.r.e), .int .u32 (wd z.r.s), .slice Ap np cp, .slice Ab nb cb, .slice Ak nk ck]⟩, ⟨g67_87, 70, cb67_87⟩]) (fun g67_87 c67_87 => .slice (some ⟨g67_87, 0, none⟩) np c67_87) (T := fun _ c67_87 cb67_87 => OwnC cb67_87 c67_87 np 33 ((z.r.l.map pcell).flatten)) (fun _ h => dd_app8 HS83 2 rfl (ownc_nil0 33) rfl (H83.ev 63 rfl) (z := .agg (catA [[.int .i64 0], bytesV (zer 32)])) (bytes := 40) Try.underlying34 (by kernel_rfl) put0_size8 (by decide) ((z.r.l.map pcell).flatten) (H83.ev 66 rfl) (by rw [len_putsc _ fun x9 hx9 => (hwf x9 hx9).1, hnp]) (fun hne9 => puts_cat9 (HP _ (HZ65.bel HS83)) hne9) (one_putsc _) (by unfold maxLen; omega) (by omega) h) fun g67_87 c67_87 cb67_87 W86 O67_87 HS86 _ H86 => sx_ (sxi (HZ65.move HS86).st [0, 1, 2] rfl) fun hx88 => ht_ H86 14 hx88 rfl rfl (v := .agg #[.int .u32 (wd z.r.e), .int .u32 (wd z.r.s), .slice (some ⟨g67_87, 0, none⟩) np c67_87]) (fun _ _ _ => dd_bld rfl (ps := [(0, .int .u32 (wd z.r.e)), (1, .int .u32 (wd z.r.s)), (2, .slice (some ⟨g67_87, 0, none⟩) np c67_87)]) (pr1 (H86.ev 59 rfl) (pr1 (H86.ev 62 rfl) (pr1 (H86.ev 67 rfl) (pr0)))) (Lz := [[.int .u32 0], [.int .u32 0], [.slice none 0 0]]) (by kernel_rfl) (lens_cons rfl (lens_cons rfl (lens_cons rfl (lens_nil)))) (fit_cons (i := 0) rfl rfl (fit_cons (i := 1) rfl rfl (fit_cons (i := 2) rfl rfl (fit_nil)))) (cs := #[.int .u32 (wd z.r.e), .int .u32 (wd z.r.s), .slice (some ⟨g67_87, 0, none⟩) np c67_87]) rfl) fun _ H89 => h1_ 15 rfl <| c_ H89 rfl HS86 (v := .int .i64 1) (dc_ Try.func12 rfl (args3 (H89.ev 54 rfl) (H89.ev 56 rfl) (H89.ev 68 rfl)) ((hnp ▸ O.putNil W86 f0 z.r.e z.r.s (some ⟨g67_87, 0, none⟩) c67_87 z.r.l hf64 (hnp.symm ▸ (puts_ownr (HS86.row 2 rfl) O67_87 hnp hwf)) (hnp.symm ▸ hm2))) (fun _ w9 h9 => ⟨_, h9.1, rfl, h9.2⟩)) fun W90 HS90 _ H90 => sx_ (sxi (HZ65.move HS90).st [0, 1, 2] rfl) fun hx91 => ?_
     clear H80 H81 HS65 H82 hx63 HS83 H83 hx84 H86 H89 HS86
     clear hx88
     refine h1_ 21 rfl <| d_ H90 rfl (R := fun v w9 => ∃ A9 c9, v = .agg #[.int .u32 (wd z.r.e), .int .u32 (wd z.r.s), .slice A9 np c9, .int .i64 0] ∧ (PutsAt w9 (.slice A9 np c9) z.r.l) ∧ (∀ k, (Value.slice A9 np c9).ownBlock = some k → W90.heap.size ≤ k) ∧ Below W90.heap.size W90 w9) (dc_ Try.func14 rfl (args1 (H90.ev 74 rfl)) (own8_T z.r.e z.r.s Ap np cp z.r.l W90 (HP _ (HZ65.bel HS90)) (by omega)) (fun _ w9 ⟨A9, c9, he, hp, hb, ho⟩ => ⟨_, he, A9, c9, rfl, hp, ho, hb⟩)) ?_
     rintro _ W92 ⟨A9, c9, rfl, hp9, ho9, hb92⟩ a92 H92
     have HS92 := HS90.same hb92
     clear H90
     obtain ⟨f9, hf9, hfb9⟩ := putsT_new hp9 ho9
     have HXt92 := Rs.addT (HZ65.move HS90) hb92 hf9 hfb9
     clear HS92 HZ65
     obtain ⟨G93, HZ93, HS93⟩ := HXt92.anchor
     clear HXt92
     clear HS90 hb92
     refine sx_ (sxi (HZ93.move HS93).st [0, 1, 2] rfl) fun hx94 => h1_ 22 rfl <| c_ H92 rfl HS93 (v := .int .i64 1) (dc_ Try.func13 rfl (args3 (H92.ev 70 rfl) (H92.ev 72 rfl) (H92.ev 75 rfl)) (refwput_nil W92 f0 _) (fun _ w9 h9 => ⟨_, h9.1, rfl, h9.2⟩)) fun W95 HS95 _ H95 => sx_ (sxi (HZ93.move HS95).st [0, 1, 2] rfl) fun hx96 => ht_ H95 23 hx96 rfl rfl (fun _ _ _ => dd_cmp rfl (H95.ev 69 rfl) (H95.ev 76 rfl) (ne_f (by decide))) fun _ H97 => ?_
     clear hx91 H92 HS93 hx94 H95
     refine wpAnyH_done (by kernel_rfl) ?_ _
     clear hx96
     refine nx <| cf_ H97 rfl <| wp_skip <| bn <| nx <| sq_ <| ?_
     refine wr_ (HZ93.move HS95) [0, 1] [0, 1, 2] rfl rfl fun HXd99 hx98 => ?_
     obtain ⟨G100, HZ100, HS100⟩ := HXd99.anchor
     clear HXd99
     refine ht_ H97 0 hx98 rfl rfl (fun _ _ _ => xf 2 2 rfl (H97.ev 10 rfl)) fun _ H101 => ht_ H101 1 hx98 rfl rfl (fun _ _ _ => xf 2 4 rfl (H101.ev 164 rfl)) fun _ H102 => ht_ H102 2 hx98 rfl rfl (fun _ _ HS9 => dd_get HS9 1 4 rfl rfl (H102.ev 165 rfl) rfl Try.underlying34 rfl) fun _ H103 => ht_ H103 4 hx98 rfl rfl (fun _ _ _ => xf 2 2 rfl (H103.ev 10 rfl)) fun _ H104 => ht_ H104 5 hx98 rfl rfl (fun _ _ _ => xf 2 4 rfl (H104.ev 168 rfl)) fun _ H105 => ht_ H105 6 hx98 rfl rfl (fun _ _ HS9 => dd_get HS9 1 4 rfl rfl (H105.ev 169 rfl) rfl Try.underlying34 rfl) fun _ H106 => h1_ 3 rfl <| c_ H106 rfl HS100 (dcs Try.func24 rfl (args1 (H106.ev 166 rfl)) (O.good z.r.l _ W95.drew (HP _ (HZ100.bel HS100)) (by rw [hnp]; exact hm2)) (.bool (goodB (z.r.l.map (·.1))))) fun W107 HS107 _ H107 => sx_ (sxi (HZ100.move HS107).st [0, 1, 2] rfl) fun hx108 => ?_
     clear H97 H101 H102 H103 H104 H105 H106 HS100
     refine h1_ 7 rfl <| c_ H107 rfl HS107 (dcs Try.func25 rfl (args1 (H107.ev 170 rfl)) (refgood_any z.r.l _ W107 (HP _ (HZ100.bel HS107)) (by rw [hnp]; exact hm2)) (.bool (goodB (z.r.l.map (·.1))))) fun _ HS109 _ H109 => sx_ (sxi (HZ100.move HS109).st [0, 1, 2] rfl) fun hx110 => ht_ H109 8 hx110 rfl rfl (v := .bool false) (fun _ _ _ => dd_neb rfl (H109.ev 167 rfl) (H109.ev 171 rfl) Try.underlying4 (bne_self_eq_false _)) fun _ H111 => ?_
     clear hx98 H107 HS107 hx108 H109
     refine wpAnyH_done (by kernel_rfl) ?_ _
     clear hx110
     refine nx <| cf_ H111 rfl <| wp_skip <| bn <| nx <| rl_ <| wl_ <| p_ H111 rfl rfl fun _ H112 => wl_ <| i_ H112 rfl (v := .int .i64 (i + 1)) (dd_ari rfl (H112.ev 44 rfl) rfl rfl (i64_of (by first | omega | (have := bd_lo; omega)) (by omega))) fun _ H113 => wl_ <| p_ H113 rfl rfl fun _ H114 => ln_ <| ?_
     clear H111 H112 H113
     have H115 := H114.sel [1, 2, 5, 7, 9] rfl
     clear H114
     refine nx ⟨i + 1, ⟨(by omega), H115.sel [1, 2, 5, 7, 9] rfl, (HZ100.move HS109).sel [0] []⟩, (by omega)⟩
    refine wl_ <| i_ H58 rfl (dd_cmp rfl (H58.ev 51 rfl) rfl (eq_f hc60)) fun _ H116 => wl_ <| p_ H116 rfl rfl fun _ H117 => ln_ <| nx <| cf_ H117 rfl <| sq_ <| rl_ <| ?_
    clear H58 H116
    by_cases hc119 : (z.kind : Int) = 1
    ·
     refine wl_ <| i_ H117 rfl (dd_cmp rfl (H117.ev 51 rfl) rfl (eq_t hc119)) fun _ H120 => wl_ <| p_ H120 rfl rfl fun _ H121 => ln_ <| nx <| ct_ H121 rfl <| sq_ <| rl_ <| wl_ <| p_ H121 rfl rfl fun _ H122 => wl_ <| i_ H122 rfl (xA 2 1 1 rfl (H122.ev 2 rfl) rfl) fun _ H123 => wl_ <| i_ H123 rfl (dd_get HS56 0 1 rfl rfl (H123.ev 82 rfl) rfl Try.underlying3 rfl) fun _ H124 => ?_
     clear H117 H120 H121 H122 H123
     refine wl_ <| d_ H124 rfl (R := fun v w9 => ∃ A6 c6, v = .tuple #[.agg #[.int .u32 (wd rec0.e), .int .u32 (wd rec0.s), .slice A6 rec0.l.length c6], .int .i64 1] ∧ (PutsAt w9 (.slice A6 rec0.l.length c6) rec0.l) ∧ (∀ k, (Value.slice A6 rec0.l.length c6).ownBlock = some k → W56.heap.size ≤ k) ∧ Below W56.heap.size W56 w9) (dc_ Try.func15 rfl (args2 (H124.ev 81 rfl) (H124.ev 83 rfl)) (O.getNil W56 f0 hf64) (fun _ w9 ⟨A9, c9, he, hp, hb, ho⟩ => ⟨_, he, A9, c9, rfl, hp, ho, hb⟩)) ?_
     rintro _ W125 ⟨A6, c6, rfl, hp6, ho6, hb125⟩ a125 H125
     have HS125 := HS56.same hb125
     clear H124
     obtain ⟨f6, hf6, hfb6⟩ := putsT_new hp6 ho6
     have HXt125 := Rs.addT (HZ46.move HS56) hb125 hf6 hfb6
     clear HS125 HZ46
     obtain ⟨G126, HZ126, HS126⟩ := HXt125.anchor
     clear HXt125
     clear HS56 hb125
     refine wl_ <| p_ H125 rfl rfl fun _ H127 => wl_ <| i_ H127 rfl (v := .agg #[.int .u32 (wd rec0.e), .int .u32 (wd rec0.s), .slice A6 rec0.l.length c6]) (dd_ext rfl (H127.ev 80 rfl) rfl) fun _ H128 => wl_ <| i_ H128 rfl (v := .int .i64 1) (dd_ext rfl (H128.ev 80 rfl) rfl) fun _ H129 => wl_ <| n_ H129 rfl (fun _ h => dd_new HS126 #[.int .u32 0, .int .u32 0, .slice none 0 0] rfl (z := .agg #[.int .u32 0, .int .u32 0, .slice none 0 0]) (by kernel_rfl) rfl h) fun g11 _ HS130 _ H130 => wl_ <| t_ rfl (S := [⟨g2, 22, #[.int .i64 n0, .int .i64 f0]⟩, ⟨g10, 39, #[.int .i64 z.kind, .int .i64 z.i, .int .u32 (wd z.r.e), .int .u32 (wd z.r.s), .slice Ap np cp, .slice Ab nb cb, .slice Ak nk ck]⟩, ⟨g11, 36, #[.int .u32 (wd rec0.e), .int .u32 (wd rec0.s), .slice A6 rec0.l.length c6]⟩]) (fun _ h => dd_setrow HS130 2 rfl rfl (H130.ev 11 rfl) (H130.ev 85 rfl) (by kernel_rfl) (rfl : #[.int .u32 (wd rec0.e), .int .u32 (wd rec0.s), .slice A6 rec0.l.length c6].size = 3) (rfl : #[.int .u32 0, .int .u32 0, .slice none 0 0].size = 3) (one_l (ao_cons rfl (ao_cons rfl (ao_cons rfl ao_nil)))) h) fun W131 HS131 => wl_ <| p_ H130 rfl rfl fun _ H132 => ln_ <| ?_
     clear H125 H127 H128 HS126 H129 HS130 H130
     have H133 := H132.sel [1, 2, 5, 7, 9, 10, 11, 12] rfl
     refine nx <| sq_ <| rl_ <| wl_ <| p_ H133 rfl rfl fun _ H134 => wl_ <| i_ H134 rfl (xA 2 1 1 rfl (H134.ev 2 rfl) rfl) fun _ H135 => wl_ <| i_ H135 rfl (dd_get HS131 0 1 rfl rfl (H135.ev 88 rfl) rfl Try.underlying3 rfl) fun _ H136 => ?_
     clear H132 H133 H134 H135
     refine wl_ <| d_ H136 rfl (R := fun v w9 => ∃ A7 c7, v = .agg #[.int .u32 (wd rec0.e), .int .u32 (wd rec0.s), .slice A7 rec0.l.length c7, .int .i64 1] ∧ (PutsAt w9 (.slice A7 rec0.l.length c7) rec0.l) ∧ (∀ k, (Value.slice A7 rec0.l.length c7).ownBlock = some k → W131.heap.size ≤ k) ∧ Below W131.heap.size W131 w9) (dc_ Try.func16 rfl (args2 (H136.ev 87 rfl) (H136.ev 89 rfl)) (rr_getno W131 f0) (fun _ w9 ⟨A9, c9, he, hp, hb, ho⟩ => ⟨_, he, A9, c9, rfl, hp, ho, hb⟩)) ?_
     rintro _ W137 ⟨A7, c7, rfl, hp7, ho7, hb137⟩ a137 H137
     have HS137 := HS131.same hb137
     clear H136
     obtain ⟨f7, hf7, hfb7⟩ := putsT_new hp7 ho7
     have HXt137 := Rs.addT (HZ126.move HS131) hb137 hf7 hfb7
     clear HS137 HZ126
     obtain ⟨G138, HZ138, HS138⟩ := HXt137.anchor
     clear HXt137
     clear HS131 hb137
     refine wl_ <| n_ H137 rfl (fun _ h => dd_new HS138 #[.int .u32 0, .int .u32 0, .slice none 0 0, .int .i64 0] rfl (z := .agg #[.int .u32 0, .int .u32 0, .slice none 0 0, .int .i64 0]) (by kernel_rfl) rfl h) fun g13 _ HS139 _ H139 => wl_ <| t_ rfl (fun _ h => dd_setrow HS139 3 rfl rfl (H139.ev 13 rfl) (H139.ev 90 rfl) (by kernel_rfl) (rfl : #[.int .u32 (wd rec0.e), .int .u32 (wd rec0.s), .slice A7 rec0.l.length c7, .int .i64 1].size = 4) (rfl : #[.int .u32 0, .int .u32 0, .slice none 0 0, .int .i64 0].size = 4) (one_l (ao_cons rfl (ao_cons rfl (ao_cons rfl (ao_cons rfl ao_nil))))) h) fun W140 HS140 => ln_ <| nx <| sq_ <| rl_ <| wl_ <| p_ H139 rfl rfl fun _ H141 => wl_ <| i_ H141 rfl (xf 3 3 rfl (H141.ev 13 rfl)) fun _ H142 => wl_ <| i_ H142 rfl (dd_get HS140 3 3 rfl rfl (H142.ev 92 rfl) rfl Try.underlying3 rfl) fun _ H143 => wl_ <| i_ H143 rfl (dd_cmp rfl (H143.ev 91 rfl) (H143.ev 93 rfl) (ne_f (by decide))) fun _ H144 => wl_ <| p_ H144 rfl rfl fun _ H145 => wl_ <| ig H145 (wg_ H145 rfl rfl rfl rfl) rfl (xf 0 0 rfl (H145.ev 11 rfl)) fun _ H146 => ?_
     clear HS138 H137 HS139 H139 H141 H142 H143 H144
     refine wl_ <| ig H146 (wg_ H146 rfl rfl rfl rfl) rfl (dd_get HS140 2 0 rfl rfl (H146.ev 96 rfl) rfl Try.underlying33 rfl) fun _ H147 => wl_ <| ig H147 (wg_ H147 rfl rfl rfl rfl) rfl (xf 0 0 rfl (H147.ev 13 rfl)) fun _ H148 => wl_ <| ig H148 (wg_ H148 rfl rfl rfl rfl) rfl (dd_get HS140 3 0 rfl rfl (H148.ev 98 rfl) rfl Try.underlying33 rfl) fun _ H149 => wl_ <| ig H149 (wg_ H149 rfl rfl rfl rfl) rfl (dd_cmp rfl (H149.ev 97 rfl) (H149.ev 99 rfl) (ne_f rfl)) fun _ H150 => q_ H150 2 rfl fun _ H151 => wl_ <| ig H151 (wg_ H151 rfl rfl rfl rfl) rfl (xf 1 1 rfl (H151.ev 11 rfl)) fun _ H152 => wl_ <| ig H152 (wg_ H152 rfl rfl rfl rfl) rfl (dd_get HS140 2 1 rfl rfl (H152.ev 103 rfl) rfl Try.underlying33 rfl) fun _ H153 => wl_ <| ig H153 (wg_ H153 rfl rfl rfl rfl) rfl (xf 1 1 rfl (H153.ev 13 rfl)) fun _ H154 => ?_
     clear H145 H146 H147 H148 H149 H150 H151 H152
     refine wl_ <| ig H154 (wg_ H154 rfl rfl rfl rfl) rfl (dd_get HS140 3 1 rfl rfl (H154.ev 105 rfl) rfl Try.underlying33 rfl) fun _ H155 => wl_ <| ig H155 (wg_ H155 rfl rfl rfl rfl) rfl (dd_cmp rfl (H155.ev 104 rfl) (H155.ev 106 rfl) (ne_f rfl)) fun _ H156 => q_ H156 2 rfl fun _ H157 => wl_ <| ig H157 (wg_ H157 rfl rfl rfl rfl) rfl (xf 2 2 rfl (H157.ev 11 rfl)) fun _ H158 => wl_ <| ig H158 (wg_ H158 rfl rfl rfl rfl) rfl (dd_get HS140 2 2 rfl rfl (H158.ev 110 rfl) rfl Try.underlying34 rfl) fun _ H159 => wl_ <| ig H159 (wg_ H159 rfl rfl rfl rfl) rfl (xf 2 2 rfl (H159.ev 13 rfl)) fun _ H160 => wl_ <| ig H160 (wg_ H160 rfl rfl rfl rfl) rfl (dd_get HS140 3 2 rfl rfl (H160.ev 112 rfl) rfl Try.underlying34 rfl) fun _ H161 => wl_ <| cg H161 (wg_ H161 rfl rfl rfl rfl) rfl HS140 (v := .bool true) (dc_ Try.func17 rfl (args2 (H161.ev 111 rfl) (H161.ev 113 rfl)) (keepputs_any rec0.l rec0.l _ _ W140 (putsT_at ((HZ138.move HS140).sel [] [1])) (putsT_at ((HZ138.move HS140).sel [] [0])) (by decide)) (fun _ w9 h9 => ⟨_, by rw [decide_eq_true rfl] at h9; exact h9.1, rfl, h9.2⟩)) fun W162 HS162 _ H162 => ?_
     clear H153 H154 H155 H156 H157 H158 H159 H160
     refine wl_ <| ig H162 (wg_ H162 rfl rfl rfl rfl) rfl (v := .bool false) (dd_nt rfl (H162.ev 114 rfl) rfl) fun _ H163 => wl_ <| p_ H163 rfl rfl fun _ H164 => ln_ <| ?_
     clear H161 HS140 H162 H163
     have H165 := H164.sel [1, 2, 5, 7, 9, 10, 116] rfl
     refine nx <| cf_ H165 rfl <| wp_skip <| bn <| nx <| sq_ <| ?_
     clear H164
     refine wr_ (HZ138.move HS162) [0, 1, 2, 3] [0, 1, 2, 3] rfl rfl fun HXd167 hx166 => ?_
     obtain ⟨G168, HZ168, HS168⟩ := HXd167.anchor
     clear HXd167
     refine ht_ H165 0 hx166 rfl rfl (fun _ _ _ => xf 2 2 rfl (H165.ev 10 rfl)) fun _ H169 => ht_ H169 1 hx166 rfl rfl (fun _ _ _ => xf 2 4 rfl (H169.ev 164 rfl)) fun _ H170 => ht_ H170 2 hx166 rfl rfl (fun _ _ HS9 => dd_get HS9 1 4 rfl rfl (H170.ev 165 rfl) rfl Try.underlying34 rfl) fun _ H171 => ht_ H171 4 hx166 rfl rfl (fun _ _ _ => xf 2 2 rfl (H171.ev 10 rfl)) fun _ H172 => ht_ H172 5 hx166 rfl rfl (fun _ _ _ => xf 2 4 rfl (H172.ev 168 rfl)) fun _ H173 => ht_ H173 6 hx166 rfl rfl (fun _ _ HS9 => dd_get HS9 1 4 rfl rfl (H173.ev 169 rfl) rfl Try.underlying34 rfl) fun _ H174 => h1_ 3 rfl <| c_ H174 rfl HS168 (dcs Try.func24 rfl (args1 (H174.ev 166 rfl)) (O.good z.r.l _ W162.drew (HP _ (HZ168.bel HS168)) (by rw [hnp]; exact hm2)) (.bool (goodB (z.r.l.map (·.1))))) fun W175 HS175 _ H175 => sx_ (sxi (HZ168.move HS175).st [0, 1, 2, 3] rfl) fun hx176 => ?_
     clear H165 H169 H170 H171 H172 H173 H174 HS168
     refine h1_ 7 rfl <| c_ H175 rfl HS175 (dcs Try.func25 rfl (args1 (H175.ev 170 rfl)) (refgood_any z.r.l _ W175 (HP _ (HZ168.bel HS175)) (by rw [hnp]; exact hm2)) (.bool (goodB (z.r.l.map (·.1))))) fun _ HS177 _ H177 => sx_ (sxi (HZ168.move HS177).st [0, 1, 2, 3] rfl) fun hx178 => ht_ H177 8 hx178 rfl rfl (v := .bool false) (fun _ _ _ => dd_neb rfl (H177.ev 167 rfl) (H177.ev 171 rfl) Try.underlying4 (bne_self_eq_false _)) fun _ H179 => ?_
     clear hx166 H175 HS175 hx176 H177
     refine wpAnyH_done (by kernel_rfl) ?_ _
     clear hx178
     refine nx <| cf_ H179 rfl <| wp_skip <| bn <| nx <| rl_ <| wl_ <| p_ H179 rfl rfl fun _ H180 => wl_ <| i_ H180 rfl (v := .int .i64 (i + 1)) (dd_ari rfl (H180.ev 44 rfl) rfl rfl (i64_of (by first | omega | (have := bd_lo; omega)) (by omega))) fun _ H181 => wl_ <| p_ H181 rfl rfl fun _ H182 => ln_ <| ?_
     clear H179 H180 H181
     refine nx ⟨i + 1, ⟨(by omega), H182.sel [1, 2, 5, 7, 9] rfl, (HZ168.move HS177).sel [0] []⟩, (by omega)⟩
    refine wl_ <| i_ H117 rfl (dd_cmp rfl (H117.ev 51 rfl) rfl (eq_f hc119)) fun _ H183 => wl_ <| p_ H183 rfl rfl fun _ H184 => ln_ <| nx <| cf_ H184 rfl <| sq_ <| rl_ <| ?_
    clear H117 H183
    by_cases hc186 : (z.kind : Int) = 2
    ·
     refine wl_ <| i_ H184 rfl (dd_cmp rfl (H184.ev 51 rfl) rfl (eq_t hc186)) fun _ H187 => wl_ <| p_ H187 rfl rfl fun _ H188 => ln_ <| nx <| ct_ H188 rfl <| sq_ <| rl_ <| wl_ <| p_ H188 rfl rfl fun _ H189 => wl_ <| n_ H189 rfl (A := fun g120 => .slice (some ⟨g120, 0, none⟩) 0 0) (fun _ h => dd_lit0 HS56 rfl rfl Try.underlying37 (sz := 1) (by kernel_rfl) h) fun g120 _ HS190 _ H190 => wl_ <| i_ H190 rfl (xf 6 6 rfl (H190.ev 10 rfl)) fun _ H191 => wl_ <| i_ H191 rfl (dd_get HS190 1 6 rfl rfl (H191.ev 121 rfl) rfl Try.underlying37 rfl) fun _ H192 => wl_ <| a_ H192 rfl (S := fun g123_195 cb123_195 => [⟨g2, 22, #[.int .i64 n0, .int .i64 f0]⟩, ⟨g10, 39, #[.int .i64 z.kind, .int .i64 z.i, .int .u32 (wd z.r.e), .int .u32 (wd z.r.s), .slice Ap np cp, .slice Ab nb cb, .slice Ak nk ck]⟩, ⟨g123_195, 5, cb123_195⟩]) (fun g123_195 c123_195 => .slice (some ⟨g123_195, 0, none⟩) nk c123_195) (T := fun _ c123_195 cb123_195 => OwnC cb123_195 c123_195 nk 1 (bytesV (z.keep))) (fun _ h => dd_appB HS190 2 rfl ownc_nil rfl (H192.ev 120 rfl) (H192.ev 122 rfl) (HK _ (HZ46.bel HS190)) hk2 (Nat.zero_add _) (List.nil_append _) (by unfold maxLen; omega) (by omega) h) fun g123_195 c123_195 cb123_195 W194 O123_195 HS194 _ H194 => wl_ <| c_ H194 rfl HS194 (v := .tuple #[]) (dc_ Try.func18 rfl (args2 (H194.ev 119 rfl) (H194.ev 123 rfl)) (D.upNil W194 (.slice (some ⟨g123_195, 0, none⟩) nk c123_195) z.keep (slice_own (HS194.row 2 rfl) O123_195 hnk) (by show _ ≤ 1000000000; omega)) (fun _ w9 h9 => ⟨_, h9.1, rfl, h9.2⟩)) fun W196 HS196 _ H196 => ?_
     clear H184 H187 H188 HS56 H189 H190 H191 HS190 H192
     refine ln_ <| ?_
     clear H194 HS194
     have H197 := H196.sel [1, 2, 5, 7, 9, 10] rfl
     refine nx <| sq_ <| rl_ <| wl_ <| p_ H197 rfl rfl fun _ H198 => wl_ <| i_ H198 rfl (v := .bool false) (dd_nep rfl (H198.ev 125 rfl) rfl Try.underlying30 rfl) fun _ H199 => ln_ <| nx <| cf_ H199 rfl <| wp_skip <| bn <| nx <| sq_ <| ?_
     clear H196 H197 H198
     refine wr_ (HZ46.move HS196) [0, 1] [0, 1, 2] rfl rfl fun HXd201 hx200 => ?_
     obtain ⟨G202, HZ202, HS202⟩ := HXd201.anchor
     clear HXd201
     refine ht_ H199 0 hx200 rfl rfl (fun _ _ _ => xf 2 2 rfl (H199.ev 10 rfl)) fun _ H203 => ht_ H203 1 hx200 rfl rfl (fun _ _ _ => xf 2 4 rfl (H203.ev 164 rfl)) fun _ H204 => ht_ H204 2 hx200 rfl rfl (fun _ _ HS9 => dd_get HS9 1 4 rfl rfl (H204.ev 165 rfl) rfl Try.underlying34 rfl) fun _ H205 => ht_ H205 4 hx200 rfl rfl (fun _ _ _ => xf 2 2 rfl (H205.ev 10 rfl)) fun _ H206 => ht_ H206 5 hx200 rfl rfl (fun _ _ _ => xf 2 4 rfl (H206.ev 168 rfl)) fun _ H207 => ht_ H207 6 hx200 rfl rfl (fun _ _ HS9 => dd_get HS9 1 4 rfl rfl (H207.ev 169 rfl) rfl Try.underlying34 rfl) fun _ H208 => h1_ 3 rfl <| c_ H208 rfl HS202 (dcs Try.func24 rfl (args1 (H208.ev 166 rfl)) (O.good z.r.l _ W196.drew (HP _ (HZ202.bel HS202)) (by rw [hnp]; exact hm2)) (.bool (goodB (z.r.l.map (·.1))))) fun W209 HS209 _ H209 => sx_ (sxi (HZ202.move HS209).st [0, 1, 2] rfl) fun hx210 => ?_
     clear H199 H203 H204 H205 H206 H207 H208 HS202
     refine h1_ 7 rfl <| c_ H209 rfl HS209 (dcs Try.func25 rfl (args1 (H209.ev 170 rfl)) (refgood_any z.r.l _ W209 (HP _ (HZ202.bel HS209)) (by rw [hnp]; exact hm2)) (.bool (goodB (z.r.l.map (·.1))))) fun _ HS211 _ H211 => sx_ (sxi (HZ202.move HS211).st [0, 1, 2] rfl) fun hx212 => ht_ H211 8 hx212 rfl rfl (v := .bool false) (fun _ _ _ => dd_neb rfl (H211.ev 167 rfl) (H211.ev 171 rfl) Try.underlying4 (bne_self_eq_false _)) fun _ H213 => ?_
     clear hx200 H209 HS209 hx210 H211
     refine wpAnyH_done (by kernel_rfl) ?_ _
     clear hx212
     refine nx <| cf_ H213 rfl <| wp_skip <| bn <| nx <| rl_ <| wl_ <| p_ H213 rfl rfl fun _ H214 => wl_ <| i_ H214 rfl (v := .int .i64 (i + 1)) (dd_ari rfl (H214.ev 44 rfl) rfl rfl (i64_of (by first | omega | (have := bd_lo; omega)) (by omega))) fun _ H215 => wl_ <| p_ H215 rfl rfl fun _ H216 => ln_ <| ?_
     clear H213 H214 H215
     refine nx ⟨i + 1, ⟨(by omega), H216.sel [1, 2, 5, 7, 9] rfl, (HZ202.move HS211).sel [0] []⟩, (by omega)⟩
    refine wl_ <| i_ H184 rfl (dd_cmp rfl (H184.ev 51 rfl) rfl (eq_f hc186)) fun _ H217 => wl_ <| p_ H217 rfl rfl fun _ H218 => ln_ <| nx <| cf_ H218 rfl <| sq_ <| rl_ <| ?_
    clear H184 H217
    by_cases hc220 : (z.kind : Int) = 3
    ·
     refine wl_ <| i_ H218 rfl (dd_cmp rfl (H218.ev 51 rfl) rfl (eq_t hc220)) fun _ H221 => wl_ <| p_ H221 rfl rfl fun _ H222 => ln_ <| ?_
     clear H218 H221
     have H223 := H222.sel [1, 2, 5, 7, 9, 10, 51, 131] rfl
     refine nx <| ct_ H223 rfl <| sq_ <| rl_ <| wl_ <| i_ H223 rfl (xf 5 5 rfl (H223.ev 10 rfl)) fun _ H224 => wl_ <| i_ H224 rfl (dd_get HS56 1 5 rfl rfl (H224.ev 134 rfl) rfl Try.underlying37 rfl) fun _ H225 => wl_ <| c_ H225 rfl HS56 (v := .tuple #[.agg (bs (encB 87#8 z.body)), .int .i64 (encE 87#8 z.body)]) (dc_ Try.func20 rfl (args2 rfl (H225.ev 135 rfl)) (refenc57 z.body (.slice Ab nb cb) W56 ⟨Ab, cb, by rw [hnb], by rw [hnb]; exact HSB _ (HZ46.bel HS56), hb2, by rw [hnb]; unfold maxLen; omega⟩) (fun _ w9 h9 => ⟨_, h9.1, rfl, h9.2⟩)) fun _ HS226 _ H226 => wl_ <| p_ H226 rfl rfl fun _ H227 => wl_ <| i_ H227 rfl (v := .agg (bs (encB 87#8 z.body))) (dd_ext rfl (H227.ev 133 rfl) rfl) fun _ H228 => wl_ <| i_ H228 rfl (v := .int .i64 (encE 87#8 z.body)) (dd_ext rfl (H228.ev 133 rfl) rfl) fun _ H229 => wl_ <| n_ H229 rfl (fun _ h => dd_new HS226 (bs (zer 32)) rfl (z := .agg (bs (zer 32))) (by kernel_rfl) rfl h) fun g14 _ HS230 _ H230 => wl_ <| t_ rfl (S := [⟨g2, 22, #[.int .i64 n0, .int .i64 f0]⟩, ⟨g10, 39, #[.int .i64 z.kind, .int .i64 z.i, .int .u32 (wd z.r.e), .int .u32 (wd z.r.s), .slice Ap np cp, .slice Ab nb cb, .slice Ak nk ck]⟩, ⟨g14, 52, bs (encB 87#8 z.body)⟩]) (fun _ h => dd_setrow HS230 2 rfl rfl (H230.ev 14 rfl) (H230.ev 137 rfl) (by kernel_rfl) (((size_bs _).trans (length_encB _ _)) : (bs (encB 87#8 z.body)).size = 32) (((size_bs _).trans (length_zer 32)) : (bs (zer 32)).size = 32) (one_bs _) h) fun W231 HS231 => ?_
     clear H222 H223 H224 H225 HS56 H226 H227 H228 HS226 H229
     refine wl_ <| p_ H230 rfl rfl fun _ H232 => ln_ <| nx <| sq_ <| rl_ <| wl_ <| p_ H232 rfl rfl fun _ H233 => wl_ <| i_ H233 rfl (v := .bool false) (dd_nep rfl (H233.ev 139 rfl) rfl Try.underlying30 rfl) fun _ H234 => ln_ <| nx <| cf_ H234 rfl <| wp_skip <| bn <| nx <| sq_ <| ?_
     clear HS230 H230 H232 H233
     refine wr_ (HZ46.move HS231) [0, 1, 2] [0, 1, 2] rfl rfl fun HXd236 hx235 => ?_
     obtain ⟨G237, HZ237, HS237⟩ := HXd236.anchor
     clear HXd236
     refine ht_ H234 0 hx235 rfl rfl (fun _ _ _ => xf 2 2 rfl (H234.ev 10 rfl)) fun _ H238 => ht_ H238 1 hx235 rfl rfl (fun _ _ _ => xf 2 4 rfl (H238.ev 164 rfl)) fun _ H239 => ht_ H239 2 hx235 rfl rfl (fun _ _ HS9 => dd_get HS9 1 4 rfl rfl (H239.ev 165 rfl) rfl Try.underlying34 rfl) fun _ H240 => ht_ H240 4 hx235 rfl rfl (fun _ _ _ => xf 2 2 rfl (H240.ev 10 rfl)) fun _ H241 => ht_ H241 5 hx235 rfl rfl (fun _ _ _ => xf 2 4 rfl (H241.ev 168 rfl)) fun _ H242 => ht_ H242 6 hx235 rfl rfl (fun _ _ HS9 => dd_get HS9 1 4 rfl rfl (H242.ev 169 rfl) rfl Try.underlying34 rfl) fun _ H243 => h1_ 3 rfl <| c_ H243 rfl HS237 (dcs Try.func24 rfl (args1 (H243.ev 166 rfl)) (O.good z.r.l _ W231.drew (HP _ (HZ237.bel HS237)) (by rw [hnp]; exact hm2)) (.bool (goodB (z.r.l.map (·.1))))) fun W244 HS244 _ H244 => sx_ (sxi (HZ237.move HS244).st [0, 1, 2] rfl) fun hx245 => ?_
     clear H234 H238 H239 H240 H241 H242 H243 HS237
     refine h1_ 7 rfl <| c_ H244 rfl HS244 (dcs Try.func25 rfl (args1 (H244.ev 170 rfl)) (refgood_any z.r.l _ W244 (HP _ (HZ237.bel HS244)) (by rw [hnp]; exact hm2)) (.bool (goodB (z.r.l.map (·.1))))) fun _ HS246 _ H246 => sx_ (sxi (HZ237.move HS246).st [0, 1, 2] rfl) fun hx247 => ht_ H246 8 hx247 rfl rfl (v := .bool false) (fun _ _ _ => dd_neb rfl (H246.ev 167 rfl) (H246.ev 171 rfl) Try.underlying4 (bne_self_eq_false _)) fun _ H248 => ?_
     clear hx235 H244 HS244 hx245 H246
     refine wpAnyH_done (by kernel_rfl) ?_ _
     clear hx247
     refine nx <| cf_ H248 rfl <| wp_skip <| bn <| nx <| rl_ <| wl_ <| p_ H248 rfl rfl fun _ H249 => wl_ <| i_ H249 rfl (v := .int .i64 (i + 1)) (dd_ari rfl (H249.ev 44 rfl) rfl rfl (i64_of (by first | omega | (have := bd_lo; omega)) (by omega))) fun _ H250 => wl_ <| p_ H250 rfl rfl fun _ H251 => ln_ <| ?_
     clear H248 H249 H250
     have H252 := H251.sel [1, 2, 5, 7, 9] rfl
     clear H251
     refine nx ⟨i + 1, ⟨(by omega), H252.sel [1, 2, 5, 7, 9] rfl, (HZ237.move HS246).sel [0] []⟩, (by omega)⟩
    refine wl_ <| i_ H218 rfl (dd_cmp rfl (H218.ev 51 rfl) rfl (eq_f hc220)) fun _ H253 => wl_ <| p_ H253 rfl rfl fun _ H254 => ln_ <| ?_
    clear H218 H253
    have H255 := H254.sel [1, 2, 5, 7, 9, 10, 51, 131] rfl
    refine nx <| cf_ H255 rfl <| sq_ <| rl_ <| ?_
    clear H254
    by_cases hc257 : (z.kind : Int) = 4
    ·
     refine wl_ <| i_ H255 rfl (dd_cmp rfl (H255.ev 51 rfl) rfl (eq_t hc257)) fun _ H258 => wl_ <| p_ H258 rfl rfl fun _ H259 => ln_ <| nx <| ct_ H259 rfl <| sq_ <| rl_ <| wl_ <| p_ H259 rfl rfl fun _ H260 => wl_ <| i_ H260 rfl (xf 1 1 rfl (H260.ev 10 rfl)) fun _ H261 => wl_ <| i_ H261 rfl (dd_get HS56 1 1 rfl rfl (H261.ev 154 rfl) rfl Try.underlying3 rfl) fun _ H262 => wl_ <| c_ H262 rfl HS56 (v := .tuple #[]) (dc_ Try.func23 rfl (args2 (H262.ev 153 rfl) (H262.ev 155 rfl)) (D.fuseNil W56 z.i hwi) (fun _ w9 h9 => ⟨_, h9.1, rfl, h9.2⟩)) fun W263 HS263 _ H263 => ln_ <| nx <| sq_ <| rl_ <| wl_ <| p_ H263 rfl rfl fun _ H264 => wl_ <| i_ H264 rfl (v := .bool false) (dd_nep rfl (H264.ev 157 rfl) rfl Try.underlying30 rfl) fun _ H265 => ?_
     clear H255 H258 H259 H260 H261 H262 HS56 H263
     refine ln_ <| nx <| cf_ H265 rfl <| wp_skip <| bn <| nx <| sq_ <| ?_
     clear H264
     refine wr_ (HZ46.move HS263) [0, 1] [0, 1] rfl rfl fun HXd267 hx266 => ?_
     obtain ⟨G268, HZ268, HS268⟩ := HXd267.anchor
     clear HXd267
     refine ht_ H265 0 hx266 rfl rfl (fun _ _ _ => xf 2 2 rfl (H265.ev 10 rfl)) fun _ H269 => ht_ H269 1 hx266 rfl rfl (fun _ _ _ => xf 2 4 rfl (H269.ev 164 rfl)) fun _ H270 => ht_ H270 2 hx266 rfl rfl (fun _ _ HS9 => dd_get HS9 1 4 rfl rfl (H270.ev 165 rfl) rfl Try.underlying34 rfl) fun _ H271 => ht_ H271 4 hx266 rfl rfl (fun _ _ _ => xf 2 2 rfl (H271.ev 10 rfl)) fun _ H272 => ht_ H272 5 hx266 rfl rfl (fun _ _ _ => xf 2 4 rfl (H272.ev 168 rfl)) fun _ H273 => ht_ H273 6 hx266 rfl rfl (fun _ _ HS9 => dd_get HS9 1 4 rfl rfl (H273.ev 169 rfl) rfl Try.underlying34 rfl) fun _ H274 => h1_ 3 rfl <| c_ H274 rfl HS268 (dcs Try.func24 rfl (args1 (H274.ev 166 rfl)) (O.good z.r.l _ W263.drew (HP _ (HZ268.bel HS268)) (by rw [hnp]; exact hm2)) (.bool (goodB (z.r.l.map (·.1))))) fun W275 HS275 _ H275 => sx_ (sxi (HZ268.move HS275).st [0, 1] rfl) fun hx276 => ?_
     clear H265 H269 H270 H271 H272 H273 H274 HS268
     refine h1_ 7 rfl <| c_ H275 rfl HS275 (dcs Try.func25 rfl (args1 (H275.ev 170 rfl)) (refgood_any z.r.l _ W275 (HP _ (HZ268.bel HS275)) (by rw [hnp]; exact hm2)) (.bool (goodB (z.r.l.map (·.1))))) fun _ HS277 _ H277 => sx_ (sxi (HZ268.move HS277).st [0, 1] rfl) fun hx278 => ht_ H277 8 hx278 rfl rfl (v := .bool false) (fun _ _ _ => dd_neb rfl (H277.ev 167 rfl) (H277.ev 171 rfl) Try.underlying4 (bne_self_eq_false _)) fun _ H279 => ?_
     clear hx266 H275 HS275 hx276 H277
     refine wpAnyH_done (by kernel_rfl) ?_ _
     clear hx278
     refine nx <| cf_ H279 rfl <| wp_skip <| bn <| nx <| rl_ <| wl_ <| p_ H279 rfl rfl fun _ H280 => wl_ <| i_ H280 rfl (v := .int .i64 (i + 1)) (dd_ari rfl (H280.ev 44 rfl) rfl rfl (i64_of (by first | omega | (have := bd_lo; omega)) (by omega))) fun _ H281 => wl_ <| p_ H281 rfl rfl fun _ H282 => ln_ <| ?_
     clear H279 H280 H281
     have H283 := H282.sel [1, 2, 5, 7, 9] rfl
     clear H282
     refine nx ⟨i + 1, ⟨(by omega), H283.sel [1, 2, 5, 7, 9] rfl, (HZ268.move HS277).sel [0] []⟩, (by omega)⟩
    refine wl_ <| i_ H255 rfl (dd_cmp rfl (H255.ev 51 rfl) rfl (eq_f hc257)) fun _ H284 => wl_ <| p_ H284 rfl rfl fun _ H285 => ln_ <| nx <| cf_ H285 rfl <| wp_skip <| bn <| nx <| sq_ <| ?_
    clear H255 H284
    refine wr_ (HZ46.move HS56) [0, 1] [0, 1] rfl rfl fun HXd287 hx286 => ?_
    obtain ⟨G288, HZ288, HS288⟩ := HXd287.anchor
    clear HXd287
    refine ht_ H285 0 hx286 rfl rfl (fun _ _ _ => xf 2 2 rfl (H285.ev 10 rfl)) fun _ H289 => ht_ H289 1 hx286 rfl rfl (fun _ _ _ => xf 2 4 rfl (H289.ev 164 rfl)) fun _ H290 => ht_ H290 2 hx286 rfl rfl (fun _ _ HS9 => dd_get HS9 1 4 rfl rfl (H290.ev 165 rfl) rfl Try.underlying34 rfl) fun _ H291 => ht_ H291 4 hx286 rfl rfl (fun _ _ _ => xf 2 2 rfl (H291.ev 10 rfl)) fun _ H292 => ht_ H292 5 hx286 rfl rfl (fun _ _ _ => xf 2 4 rfl (H292.ev 168 rfl)) fun _ H293 => ht_ H293 6 hx286 rfl rfl (fun _ _ HS9 => dd_get HS9 1 4 rfl rfl (H293.ev 169 rfl) rfl Try.underlying34 rfl) fun _ H294 => h1_ 3 rfl <| c_ H294 rfl HS288 (dcs Try.func24 rfl (args1 (H294.ev 166 rfl)) (O.good z.r.l _ W56.drew (HP _ (HZ288.bel HS288)) (by rw [hnp]; exact hm2)) (.bool (goodB (z.r.l.map (·.1))))) fun W295 HS295 _ H295 => sx_ (sxi (HZ288.move HS295).st [0, 1] rfl) fun hx296 => ?_
    clear H285 H289 H290 H291 H292 H293 H294 HS288
    refine h1_ 7 rfl <| c_ H295 rfl HS295 (dcs Try.func25 rfl (args1 (H295.ev 170 rfl)) (refgood_any z.r.l _ W295 (HP _ (HZ288.bel HS295)) (by rw [hnp]; exact hm2)) (.bool (goodB (z.r.l.map (·.1))))) fun _ HS297 _ H297 => sx_ (sxi (HZ288.move HS297).st [0, 1] rfl) fun hx298 => ht_ H297 8 hx298 rfl rfl (v := .bool false) (fun _ _ _ => dd_neb rfl (H297.ev 167 rfl) (H297.ev 171 rfl) Try.underlying4 (bne_self_eq_false _)) fun _ H299 => ?_
    clear hx286 H295 HS295 hx296 H297
    refine wpAnyH_done (by kernel_rfl) ?_ _
    clear hx298
    refine nx <| cf_ H299 rfl <| wp_skip <| bn <| nx <| rl_ <| wl_ <| p_ H299 rfl rfl fun _ H300 => wl_ <| i_ H300 rfl (v := .int .i64 (i + 1)) (dd_ari rfl (H300.ev 44 rfl) rfl rfl (i64_of (by first | omega | (have := bd_lo; omega)) (by omega))) fun _ H301 => wl_ <| p_ H301 rfl rfl fun _ H302 => ln_ <| ?_
    clear H299 H300 H301
    have H303 := H302.sel [1, 2, 5, 7, 9] rfl
    clear H302
    refine nx ⟨i + 1, ⟨(by omega), H303.sel [1, 2, 5, 7, 9] rfl, (HZ288.move HS297).sel [0] []⟩, (by omega)⟩
   refine wl_ <| i_ H48 rfl (dd_cmp rfl (H48.ev 40 rfl) (H48.ev 42 rfl) (lt_f hc50)) fun _ H304 => ln_ <| nx <| cf_ H304 rfl <| wp_exit <| tx <| tx <| bx <| nx <| sq_ <| sq_ <| rl_ <| wl_ <| p_ H304 rfl rfl fun _ H305 => wl_ <| i_ H305 rfl (v := .bool true) (dd_eqp rfl (H305.ev 173 rfl) rfl Try.underlying30 rfl) fun _ H306 => ln_ <| nx <| ct_ H306 rfl <| sq_ <| rl_ <| wl_ <| c_ H306 rfl HS46 (dcs Try.func9 rfl (args0 ) (wwakes_any D O wL45) (.bool true)) fun _ HS307 _ H307 => wl_ <| p_ H307 rfl rfl fun _ H308 => ln_ <| nx <| wp_ret <| tr <| ret_run H308.env0 (res_t Try.results3 (H308.get 4 rfl)) <| ?_
   clear H48 H304 H305 H306 HS46 H307
   exact ⟨rfl, (HZ46.bel HS307)⟩
  obtain ⟨N, hN⟩ : ∃ N : Nat, n0 = N := ⟨n0.toNat, by omega⟩
  obtain ⟨Gc309, hc309, hf309, hk309, hq309⟩ := Rs.reframe (R1 := []) (R2 := [⟨g2, 22, #[.int .i64 n0, .int .i64 f0]⟩]) (Q1 := []) (Q2 := []) ((HZ1.move HS5).sel [0] [])
  refine wl_ <| d_ H29 rfl (R := fun v9 w9 => ∃ gp : Nat, v9 = .tuple #[.pointer (some ⟨gp, 0, none⟩), .int .i64 0] ∧ Rs w noF [⟨g2, 22, #[.int .i64 n0, .int .i64 f0]⟩] [dskT D (.pointer (some ⟨gp, 0, none⟩)) (DiskM.new N)] w9) (dc_ Try.func10 rfl (args1 (H29.ev 30 rfl)) (dr_newZ D Gc309 W5 n0 N hN (by omega)) (fun _ w9 ⟨gp, he, hX⟩ => ⟨_, he, gp, rfl, hk309 _ _ _ hX⟩)) ?_
  rintro _ W309 ⟨gp, rfl, HX309⟩ a309 H309
  clear hc309 hk309 hf309 hq309 HS5 HZ1
  clear H29
  obtain ⟨G310, HZ310, HS310⟩ := HX309.anchor
  clear HX309
  refine wl_ <| p_ H309 rfl rfl fun _ H311 => wl_ <| i_ H311 rfl (v := .pointer (some ⟨gp, 0, none⟩)) (dd_ext rfl (H311.ev 28 rfl) rfl) fun _ H312 => wl_ <| i_ H312 rfl (v := .int .i64 0) (dd_ext rfl (H312.ev 28 rfl) rfl) fun _ H313 => q_ H313 2 rfl fun _ H314 => ln_ <| ?_
  clear H309 H311 H312 H313
  have H315 := H314.sel [1, 2, 5] rfl
  refine nx <| sq_ <| rl_ <| wl_ <| i_ H315 rfl (xA 2 1 0 rfl (H315.ev 2 rfl) rfl) fun _ H316 => wl_ <| i_ H316 rfl (dd_get HS310 0 0 rfl rfl (H316.ev 35 rfl) rfl Try.underlying3 rfl) fun _ H317 => ?_
  clear H314 H315 H316
  obtain ⟨Gc318, hc318, hf318, hk318, hq318⟩ := Rs.reframe (R1 := []) (R2 := [⟨g2, 22, #[.int .i64 n0, .int .i64 f0]⟩]) (Q1 := []) (Q2 := [dskT D (.pointer (some ⟨gp, 0, none⟩)) (DiskM.new N)]) ((HZ310.move HS310).sel [0] [0])
  refine wl_ <| d_ H317 rfl (R := fun v9 w9 => ∃ gq : Nat, v9 = .tuple #[.pointer (some ⟨gq, 0, none⟩), .int .i64 0] ∧ Rs w noF [⟨g2, 22, #[.int .i64 n0, .int .i64 f0]⟩] [rdkT (.pointer (some ⟨gq, 0, none⟩)) (DiskM.new N), dskT D (.pointer (some ⟨gp, 0, none⟩)) (DiskM.new N)] w9) (dc_ Try.func11 rfl (args1 (H317.ev 36 rfl)) (rr_newZ Gc318 W309 n0 N hN (by omega)) (fun _ w9 ⟨gq, he, hX⟩ => ⟨_, he, gq, rfl, hk318 _ _ _ hX⟩)) ?_
  rintro _ W318 ⟨gq, rfl, HX318⟩ a318 H318
  clear hc318 hk318 hf318 hq318 HS310 HZ310
  clear H317
  obtain ⟨G319, HZ319, HS319⟩ := HX318.anchor
  clear HX318
  refine wl_ <| p_ H318 rfl rfl fun _ H320 => wl_ <| i_ H320 rfl (v := .pointer (some ⟨gq, 0, none⟩)) (dd_ext rfl (H320.ev 34 rfl) rfl) fun _ H321 => wl_ <| i_ H321 rfl (v := .int .i64 0) (dd_ext rfl (H321.ev 34 rfl) rfl) fun _ H322 => q_ H322 2 rfl fun _ H323 => ln_ <| nx <| sq_ <| sq_ <| rl_ <| wl_ <| p_ H323 rfl rfl fun _ H324 => ln_ <| nx <| wp_block <| ?_
  clear H318 H320 H321 H322 H323
  refine wp_loopG (ι := Nat) (fun i a9 w9 => ∃ Mk : DiskM, (i ≤ n) ∧ (Mk.l.length ≤ 6 * i) ∧ (Mk.s.length = N) ∧ En 209 [(9, .int .i64 i), (7, .pointer (some ⟨gq, 0, none⟩)), (5, .pointer (some ⟨gp, 0, none⟩)), (2, .pointer (some ⟨g2, 0, none⟩)), (1, .slice A n c)] a9 ∧ Rs w noF [⟨g2, 22, #[.int .i64 n0, .int .i64 f0]⟩] [dskT D (.pointer (some ⟨gp, 0, none⟩)) Mk, rdkT (.pointer (some ⟨gq, 0, none⟩)) Mk] w9) (fun i => n - i) (0) ⟨(DiskM.new N), (Nat.zero_le _), (Nat.zero_le _), List.length_replicate, H324.sel [1, 2, 5, 7, 9] rfl, (HZ319.move HS319).sel [0] [1, 0]⟩ ?_
  clear H324 HS319 HZ319
  rintro i aL325 wL325 ⟨Mk, hi, hMl, hMs, HL325, HXL325⟩
  obtain ⟨G326, HZ326, HS326⟩ := HXL325.anchor
  clear HXL325
  refine sq_ <| sq_ <| rl_ <| q_ HL325 2 rfl fun _ H327 => wl_ <| i_ H327 rfl (v := .int .i64 n) (dd_len rfl (H327.ev 41 rfl) Try.underlying23) fun _ H328 => ?_
  clear HL325 H327
  by_cases hc330 : (i : Int) < n
  ·
   refine wl_ <| i_ H328 rfl (dd_cmp rfl (H328.ev 40 rfl) (H328.ev 42 rfl) (lt_t hc330)) fun _ H331 => ln_ <| nx <| ct_ H331 rfl <| wp_skip <| nx <| sq_ <| wp_block <| sq_ <| ?_
   clear H328
   obtain ⟨b8, o8, hA8, hb8, hall⟩ := hX.at_ (by omega)
   obtain ⟨z, hz⟩ : ∃ x, X[i]? = some x := ⟨_, List.getElem?_eq_getElem (by rw [hX.len]; omega)⟩
   obtain ⟨Ap, cp, Ab, cb, Ak, ck, hc2, hp2, hm2, hS2, hb2, hK2, hk2, hwk, hwi⟩ := hall i z hz
   obtain ⟨hz50, hz29, hz300⟩ := hfr z (List.mem_of_getElem? hz)
   obtain ⟨np, hnp⟩ : ∃ n, z.r.l.length = n := ⟨_, rfl⟩
   obtain ⟨nb, hnb⟩ : ∃ n, z.body.length = n := ⟨_, rfl⟩
   obtain ⟨nk, hnk⟩ : ∃ n, z.keep.length = n := ⟨_, rfl⟩
   rw [hnp, hnb, hnk] at hc2
   rw [hnp] at hp2 hm2 hz50
   rw [hnb] at hS2 hz29
   rw [hnk] at hK2 hz300
   have HC2 := fun (W9 : World) (hb9 : Below w.heap.size w W9) => range_stay8 hc2 hb8 hb9
   have HP := fun (W9 : World) (hb9 : Below w.heap.size w W9) => hp2.below hb9 (Nat.le_refl _)
   have HSB := fun (W9 : World) (hb9 : Below w.heap.size w W9) => hS2.below hb9 (Nat.le_refl _)
   have HK := fun (W9 : World) (hb9 : Below w.heap.size w W9) => hK2.below hb9 (Nat.le_refl _)
   have hwf := (puts_open hp2).2.2.1
   have hA0 := (puts_open hp2).2.2.2
   refine rl_ <| q_ H331 2 rfl fun _ H332 => wl_ <| i_ H332 rfl (dd_idxS (sz := 7) (j := o8 + i * 7) rfl (sl_at (H332.ev 46 rfl) hA8) (H332.ev 47 rfl) (by kernel_rfl) (by omega) (by omega) (by omega)) fun _ H333 => wl_ <| i_ H333 rfl (v := .agg #[.int .i64 z.kind, .int .i64 z.i, .int .u32 (wd z.r.e), .int .u32 (wd z.r.s), .slice Ap np cp, .slice Ab nb cb, .slice Ak nk ck]) (dd_atN rfl (H333.ev 48 rfl) (HC2 _ (HZ326.bel HS326)) Try.underlying39 rfl (by kernel_rfl)) fun _ H334 => wl_ <| n_ H334 rfl (fun _ h => dd_new HS326 #[.int .i64 0, .int .i64 0, .int .u32 0, .int .u32 0, .slice none 0 0, .slice none 0 0, .slice none 0 0] rfl (z := .agg #[.int .i64 0, .int .i64 0, .int .u32 0, .int .u32 0, .slice none 0 0, .slice none 0 0, .slice none 0 0]) (by kernel_rfl) rfl h) fun g10 _ HS335 _ H335 => wl_ <| t_ rfl (fun _ h => dd_setrow HS335 1 rfl rfl (H335.ev 10 rfl) (H335.ev 49 rfl) (by kernel_rfl) (rfl : #[.int .i64 z.kind, .int .i64 z.i, .int .u32 (wd z.r.e), .int .u32 (wd z.r.s), .slice Ap np cp, .slice Ab nb cb, .slice Ak nk ck].size = 7) (rfl : #[.int .i64 0, .int .i64 0, .int .u32 0, .int .u32 0, .slice none 0 0, .slice none 0 0, .slice none 0 0].size = 7) (one_l (ao_cons rfl (ao_cons rfl (ao_cons rfl (ao_cons rfl (ao_cons rfl (ao_cons rfl (ao_cons rfl ao_nil)))))))) h) fun W336 HS336 => ln_ <| nx <| sq_ <| sq_ <| rl_ <| wl_ <| i_ H335 rfl (xf 0 0 rfl (H335.ev 10 rfl)) fun _ H337 => wl_ <| i_ H337 rfl (dd_get HS336 1 0 rfl rfl (H337.ev 50 rfl) rfl Try.underlying3 rfl) fun _ H338 => ln_ <| nx <| wp_block <| sq_ <| rl_ <| ?_
   clear H331 H332 H333 HS326 H334 HS335 H335 H337
   by_cases hc340 : (z.kind : Int) = 0
   ·
    refine wl_ <| i_ H338 rfl (dd_cmp rfl (H338.ev 51 rfl) rfl (eq_t hc340)) fun _ H341 => wl_ <| p_ H341 rfl rfl fun _ H342 => ln_ <| nx <| ct_ H342 rfl <| sq_ <| ?_
    clear H338 H341
    refine wr_ (HZ326.move HS336) [0, 1] [0, 1] rfl rfl fun HXd344 hx343 => ?_
    obtain ⟨G345, HZ345, HS345⟩ := HXd344.anchor
    clear HXd344
    refine hp_ H342 0 hx343 rfl rfl rfl fun _ H346 => ht_ H346 1 hx343 rfl rfl (fun _ _ _ => xA 2 1 1 rfl (H346.ev 2 rfl) rfl) fun _ H347 => ht_ H347 2 hx343 rfl rfl (fun _ _ HS9 => dd_get HS9 0 1 rfl rfl (H347.ev 55 rfl) rfl Try.underlying3 rfl) fun _ H348 => ht_ H348 3 hx343 rfl rfl (fun _ _ _ => xf 2 2 rfl (H348.ev 10 rfl)) fun _ H349 => ht_ H349 4 hx343 rfl rfl (fun _ _ _ => xf 0 2 rfl (H349.ev 57 rfl)) fun _ H350 => ht_ H350 5 hx343 rfl rfl (fun _ _ HS9 => dd_get HS9 1 2 rfl rfl (H350.ev 58 rfl) rfl Try.underlying33 rfl) fun _ H351 => ht_ H351 6 hx343 rfl rfl (fun _ _ _ => xf 2 2 rfl (H351.ev 10 rfl)) fun _ H352 => ht_ H352 7 hx343 rfl rfl (fun _ _ _ => xf 1 3 rfl (H352.ev 60 rfl)) fun _ H353 => ?_
    clear H342 H346 H347 H348 H349 H350 H351
    refine ht_ H353 8 hx343 rfl rfl (fun _ _ HS9 => dd_get HS9 1 3 rfl rfl (H353.ev 61 rfl) rfl Try.underlying33 rfl) fun _ H354 => ht_ H354 10 hx343 rfl rfl (fun _ _ _ => xf 2 2 rfl (H354.ev 10 rfl)) fun _ H355 => ht_ H355 11 hx343 rfl rfl (fun _ _ _ => xf 2 4 rfl (H355.ev 64 rfl)) fun _ H356 => ht_ H356 12 hx343 rfl rfl (fun _ _ HS9 => dd_get HS9 1 4 rfl rfl (H356.ev 65 rfl) rfl Try.underlying34 rfl) fun _ H357 => hp_ H357 16 hx343 rfl rfl rfl fun _ H358 => ht_ H358 17 hx343 rfl rfl (fun _ _ _ => xA 2 1 1 rfl (H358.ev 2 rfl) rfl) fun _ H359 => ht_ H359 18 hx343 rfl rfl (fun _ _ HS9 => dd_get HS9 0 1 rfl rfl (H359.ev 71 rfl) rfl Try.underlying3 rfl) fun _ H360 => ht_ H360 19 hx343 rfl rfl (fun _ _ _ => xf 2 2 rfl (H360.ev 10 rfl)) fun _ H361 => ?_
    clear H352 H353 H354 H355 H356 H357 H358 H359
    refine ht_ H361 20 hx343 rfl rfl (v := .agg #[.int .u32 (wd z.r.e), .int .u32 (wd z.r.s), .slice Ap np cp]) (fun _ _ HS9 => dd_load HS9 1 2 rfl rfl (H361.ev 73 rfl) rfl Try.underlying36 rfl (by kernel_rfl)) fun _ H362 => h1_ 9 rfl <| n_ H362 rfl (A := fun g63 => .slice (some ⟨g63, 0, none⟩) 0 0) (fun _ h => dd_lit0 HS345 rfl rfl Try.underlying34 (sz := 33) (by kernel_rfl) h) fun g63 _ HS363 _ H363 => sx_ (sxi (HZ345.move HS363).st [0, 1, 2] rfl) fun hx364 => h1_ 13 rfl <| a_ H363 rfl (S := fun g67_367 cb67_367 => [⟨g2, 22, #[.int .i64 n0, .int .i64 f0]⟩, ⟨g10, 39, #[.int .i64 z.kind, .int .i64 z.i, .int .u32 (wd z.r.e), .int .u32 (wd z.r.s), .slice Ap np cp, .slice Ab nb cb, .slice Ak nk ck]⟩, ⟨g67_367, 70, cb67_367⟩]) (fun g67_367 c67_367 => .slice (some ⟨g67_367, 0, none⟩) np c67_367) (T := fun _ c67_367 cb67_367 => OwnC cb67_367 c67_367 np 33 ((z.r.l.map pcell).flatten)) (fun _ h => dd_app8 HS363 2 rfl (ownc_nil0 33) rfl (H363.ev 63 rfl) (z := .agg (catA [[.int .i64 0], bytesV (zer 32)])) (bytes := 40) Try.underlying34 (by kernel_rfl) put0_size8 (by decide) ((z.r.l.map pcell).flatten) (H363.ev 66 rfl) (by rw [len_putsc _ fun x9 hx9 => (hwf x9 hx9).1, hnp]) (fun hne9 => puts_cat9 (HP _ (HZ345.bel HS363)) hne9) (one_putsc _) (by unfold maxLen; omega) (by omega) h) fun g67_367 c67_367 cb67_367 _ O67_367 HS366 _ H366 => sx_ (sxi (HZ345.move HS366).st [0, 1, 2] rfl) fun hx368 => ht_ H366 14 hx368 rfl rfl (v := .agg #[.int .u32 (wd z.r.e), .int .u32 (wd z.r.s), .slice (some ⟨g67_367, 0, none⟩) np c67_367]) (fun _ _ _ => dd_bld rfl (ps := [(0, .int .u32 (wd z.r.e)), (1, .int .u32 (wd z.r.s)), (2, .slice (some ⟨g67_367, 0, none⟩) np c67_367)]) (pr1 (H366.ev 59 rfl) (pr1 (H366.ev 62 rfl) (pr1 (H366.ev 67 rfl) (pr0)))) (Lz := [[.int .u32 0], [.int .u32 0], [.slice none 0 0]]) (by kernel_rfl) (lens_cons rfl (lens_cons rfl (lens_cons rfl (lens_nil)))) (fit_cons (i := 0) rfl rfl (fit_cons (i := 1) rfl rfl (fit_cons (i := 2) rfl rfl (fit_nil)))) (cs := #[.int .u32 (wd z.r.e), .int .u32 (wd z.r.s), .slice (some ⟨g67_367, 0, none⟩) np c67_367]) rfl) fun _ H369 => ?_
    clear H360 H361 HS345 H362 hx343 HS363 H363 hx364 H366
    obtain ⟨Gc370, hc370, hf370, hk370, hq370⟩ := Rs.reframe (R1 := []) (R2 := [⟨g2, 22, #[.int .i64 n0, .int .i64 f0]⟩, ⟨g10, 39, #[.int .i64 z.kind, .int .i64 z.i, .int .u32 (wd z.r.e), .int .u32 (wd z.r.s), .slice Ap np cp, .slice Ab nb cb, .slice Ak nk ck]⟩, ⟨g67_367, 70, cb67_367⟩]) (Q1 := [dskT D (.pointer (some ⟨gp, 0, none⟩)) Mk]) (Q2 := [rdkT (.pointer (some ⟨gq, 0, none⟩)) Mk]) ((HZ345.move HS366).sel [0, 1, 2] [0, 1])
    refine h1_ 15 rfl <| d_ H369 rfl (R := fun v9 w9 => v9 = .int .i64 ((walPut Mk f0 ⟨z.r.e, z.r.s, z.r.l⟩).1) ∧ Rs w noF [⟨g2, 22, #[.int .i64 n0, .int .i64 f0]⟩, ⟨g10, 39, #[.int .i64 z.kind, .int .i64 z.i, .int .u32 (wd z.r.e), .int .u32 (wd z.r.s), .slice Ap np cp, .slice Ab nb cb, .slice Ak nk ck]⟩, ⟨g67_367, 70, cb67_367⟩] [dskT D (.pointer (some ⟨gp, 0, none⟩)) ((walPut Mk f0 ⟨z.r.e, z.r.s, z.r.l⟩).2), rdkT (.pointer (some ⟨gq, 0, none⟩)) Mk] w9) (dc_ Try.func12 rfl (args3 (H369.ev 54 rfl) (H369.ev 56 rfl) (H369.ev 68 rfl)) (wr_put O f0 z.r.e z.r.s _ np _ z.r.l hc370 hf64 hnp (puts_ownr (HS366.row 2 rfl) O67_367 hnp hwf) hm2 (own_off (puts_ownr (HS366.row 2 rfl) O67_367 hnp hwf) hf370 2 rfl rfl) (by have h9 : Mk.l.length ≤ _ := hMl; show _ ≤ 1000000000; omega)) (fun _ w9 ⟨he, hX⟩ => ⟨_, he, rfl, hk370 _ _ _ hX⟩)) ?_
    rintro _ W370 ⟨rfl, HX370⟩ a370 H370
    clear hc370 hk370 hf370 hq370 HS366 HZ345
    clear H369
    obtain ⟨G371, HZ371, HS371⟩ := HX370.anchor
    clear HX370
    refine sx_ (sxi (HZ371.move HS371).st [0, 1, 2] rfl) fun hx372 => ?_
    clear hx368
    refine h1_ 21 rfl <| d_ H370 rfl (R := fun v w9 => ∃ A9 c9, v = .agg #[.int .u32 (wd z.r.e), .int .u32 (wd z.r.s), .slice A9 np c9, .int .i64 0] ∧ (PutsAt w9 (.slice A9 np c9) z.r.l) ∧ (∀ k, (Value.slice A9 np c9).ownBlock = some k → W370.heap.size ≤ k) ∧ Below W370.heap.size W370 w9) (dc_ Try.func14 rfl (args1 (H370.ev 74 rfl)) (own8_T z.r.e z.r.s Ap np cp z.r.l W370 (HP _ (HZ371.bel HS371)) (by omega)) (fun _ w9 ⟨A9, c9, he, hp, hb, ho⟩ => ⟨_, he, A9, c9, rfl, hp, ho, hb⟩)) ?_
    rintro _ W373 ⟨A9, c9, rfl, hp9, ho9, hb373⟩ a373 H373
    have HS373 := HS371.same hb373
    clear H370
    obtain ⟨f9, hf9, hfb9⟩ := putsT_new hp9 ho9
    have HXt373 := Rs.addT (HZ371.move HS371) hb373 hf9 hfb9
    clear HS373 HZ371
    obtain ⟨G374, HZ374, HS374⟩ := HXt373.anchor
    clear HXt373
    clear HS371 hb373
    refine sx_ (sxi (HZ374.move HS374).st [0, 1, 2] rfl) fun hx375 => ?_
    clear hx372
    obtain ⟨Gc376, hc376, hf376, hk376, hq376⟩ := Rs.reframe (R1 := []) (R2 := [⟨g2, 22, #[.int .i64 n0, .int .i64 f0]⟩, ⟨g10, 39, #[.int .i64 z.kind, .int .i64 z.i, .int .u32 (wd z.r.e), .int .u32 (wd z.r.s), .slice Ap np cp, .slice Ab nb cb, .slice Ak nk ck]⟩, ⟨g67_367, 70, cb67_367⟩]) (Q1 := [rdkT (.pointer (some ⟨gq, 0, none⟩)) Mk]) (Q2 := [putsT (.slice A9 np c9) z.r.l, dskT D (.pointer (some ⟨gp, 0, none⟩)) ((walPut Mk f0 ⟨z.r.e, z.r.s, z.r.l⟩).2)]) ((HZ374.move HS374).sel [0, 1, 2] [2, 0, 1])
    obtain ⟨fp376, hfp376, hfd376⟩ := hq376 0 _ rfl
    refine h1_ 22 rfl <| d_ H373 rfl (R := fun v9 w9 => v9 = .int .i64 ((walPut Mk f0 ⟨z.r.e, z.r.s, z.r.l⟩).1) ∧ Rs w noF [⟨g2, 22, #[.int .i64 n0, .int .i64 f0]⟩, ⟨g10, 39, #[.int .i64 z.kind, .int .i64 z.i, .int .u32 (wd z.r.e), .int .u32 (wd z.r.s), .slice Ap np cp, .slice Ab nb cb, .slice Ak nk ck]⟩, ⟨g67_367, 70, cb67_367⟩] [rdkT (.pointer (some ⟨gq, 0, none⟩)) ((walPut Mk f0 ⟨z.r.e, z.r.s, z.r.l⟩).2), putsT (.slice A9 np c9) z.r.l, dskT D (.pointer (some ⟨gp, 0, none⟩)) ((walPut Mk f0 ⟨z.r.e, z.r.s, z.r.l⟩).2)] w9) (dc_ Try.func13 rfl (args3 (H373.ev 70 rfl) (H373.ev 72 rfl) (H373.ev 75 rfl)) (rr_put f0 z.r.e z.r.s A9 np c9 z.r.l hc376 hf64 hnp hfp376.1 hm2 (fun hne9 k9 hk9 => ⟨hfp376.2.1 k9 (hfp376.2.2 hne9 k9 hk9), hfd376 k9 (hfp376.2.2 hne9 k9 hk9)⟩) (by have h9 : Mk.l.length ≤ _ := hMl; show _ ≤ 1000000000; omega)) (fun _ w9 ⟨he, hX⟩ => ⟨_, he, rfl, hk376 _ _ _ hX⟩)) ?_
    rintro _ W376 ⟨rfl, HX376⟩ a376 H376
    clear hc376 hk376 hf376 hq376 HS374 HZ374
    clear H373
    obtain ⟨G377, HZ377, HS377⟩ := HX376.anchor
    clear HX376
    refine sx_ (sxi (HZ377.move HS377).st [0, 1, 2] rfl) fun hx378 => ht_ H376 23 hx378 rfl rfl (fun _ _ _ => dd_cmp rfl (H376.ev 69 rfl) (H376.ev 76 rfl) (ne_f rfl)) fun _ H379 => ?_
    clear hx375 H376
    refine wpAnyH_done (by kernel_rfl) ?_ _
    clear hx378
    refine nx <| cf_ H379 rfl <| wp_skip <| bn <| nx <| sq_ <| ?_
    refine wr_ (HZ377.move HS377) [0, 1] [0, 1, 2] rfl rfl fun HXd381 hx380 => ?_
    obtain ⟨G382, HZ382, HS382⟩ := HXd381.anchor
    clear HXd381
    refine ht_ H379 0 hx380 rfl rfl (fun _ _ _ => xf 2 2 rfl (H379.ev 10 rfl)) fun _ H383 => ht_ H383 1 hx380 rfl rfl (fun _ _ _ => xf 2 4 rfl (H383.ev 164 rfl)) fun _ H384 => ht_ H384 2 hx380 rfl rfl (fun _ _ HS9 => dd_get HS9 1 4 rfl rfl (H384.ev 165 rfl) rfl Try.underlying34 rfl) fun _ H385 => ht_ H385 4 hx380 rfl rfl (fun _ _ _ => xf 2 2 rfl (H385.ev 10 rfl)) fun _ H386 => ht_ H386 5 hx380 rfl rfl (fun _ _ _ => xf 2 4 rfl (H386.ev 168 rfl)) fun _ H387 => ht_ H387 6 hx380 rfl rfl (fun _ _ HS9 => dd_get HS9 1 4 rfl rfl (H387.ev 169 rfl) rfl Try.underlying34 rfl) fun _ H388 => h1_ 3 rfl <| c_ H388 rfl HS382 (dcs Try.func24 rfl (args1 (H388.ev 166 rfl)) (O.good z.r.l _ W376.drew (HP _ (HZ382.bel HS382)) (by rw [hnp]; exact hm2)) (.bool (goodB (z.r.l.map (·.1))))) fun W389 HS389 _ H389 => sx_ (sxi (HZ382.move HS389).st [0, 1, 2] rfl) fun hx390 => ?_
    clear H379 H383 H384 H385 H386 H387 H388 HS382
    refine h1_ 7 rfl <| c_ H389 rfl HS389 (dcs Try.func25 rfl (args1 (H389.ev 170 rfl)) (refgood_any z.r.l _ W389 (HP _ (HZ382.bel HS389)) (by rw [hnp]; exact hm2)) (.bool (goodB (z.r.l.map (·.1))))) fun _ HS391 _ H391 => sx_ (sxi (HZ382.move HS391).st [0, 1, 2] rfl) fun hx392 => ht_ H391 8 hx392 rfl rfl (v := .bool false) (fun _ _ _ => dd_neb rfl (H391.ev 167 rfl) (H391.ev 171 rfl) Try.underlying4 (bne_self_eq_false _)) fun _ H393 => ?_
    clear hx380 H389 HS389 hx390 H391
    refine wpAnyH_done (by kernel_rfl) ?_ _
    clear hx392
    refine nx <| cf_ H393 rfl <| wp_skip <| bn <| nx <| rl_ <| wl_ <| p_ H393 rfl rfl fun _ H394 => wl_ <| i_ H394 rfl (v := .int .i64 (i + 1)) (dd_ari rfl (H394.ev 44 rfl) rfl rfl (i64_of (by first | omega | (have := bd_lo; omega)) (by omega))) fun _ H395 => wl_ <| p_ H395 rfl rfl fun _ H396 => ln_ <| ?_
    clear H393 H394 H395
    have H397 := H396.sel [1, 2, 5, 7, 9] rfl
    clear H396
    refine nx ⟨i + 1, ⟨((walPut Mk f0 ⟨z.r.e, z.r.s, z.r.l⟩).2), (by omega), (by have h9 : ((walPut Mk f0 ⟨z.r.e, z.r.s, z.r.l⟩).2).l.length ≤ _ := (Nat.le_trans (putR_l false _ _ _) (Nat.add_le_add_right hMl 6)); omega), ((putR_s false _ _ _).trans hMs), H397.sel [1, 2, 5, 7, 9] rfl, (HZ382.move HS391).sel [0] [2, 0]⟩, (by omega)⟩
   refine wl_ <| i_ H338 rfl (dd_cmp rfl (H338.ev 51 rfl) rfl (eq_f hc340)) fun _ H398 => wl_ <| p_ H398 rfl rfl fun _ H399 => ln_ <| nx <| cf_ H399 rfl <| sq_ <| rl_ <| ?_
   clear H338 H398
   by_cases hc401 : (z.kind : Int) = 1
   ·
    refine wl_ <| i_ H399 rfl (dd_cmp rfl (H399.ev 51 rfl) rfl (eq_t hc401)) fun _ H402 => wl_ <| p_ H402 rfl rfl fun _ H403 => ln_ <| nx <| ct_ H403 rfl <| sq_ <| rl_ <| wl_ <| p_ H403 rfl rfl fun _ H404 => wl_ <| i_ H404 rfl (xA 2 1 1 rfl (H404.ev 2 rfl) rfl) fun _ H405 => wl_ <| i_ H405 rfl (dd_get HS336 0 1 rfl rfl (H405.ev 82 rfl) rfl Try.underlying3 rfl) fun _ H406 => ?_
    clear H399 H402 H403 H404 H405
    refine wl_ <| d_ H406 rfl (R := fun v w9 => ∃ A6 c6, v = .tuple #[.agg #[.int .u32 (wd (walGet Mk f0).1.e), .int .u32 (wd (walGet Mk f0).1.s), .slice A6 ((walGet Mk f0).1.l.length) c6], .int .i64 ((walGet Mk f0).2)] ∧ (PutsAt w9 (.slice A6 (walGet Mk f0).1.l.length c6) (walGet Mk f0).1.l) ∧ (∀ k, (Value.slice A6 (walGet Mk f0).1.l.length c6).ownBlock = some k → W336.heap.size ≤ k) ∧ Below W336.heap.size W336 w9) (dc_ Try.func15 rfl (args2 (H406.ev 81 rfl) (H406.ev 83 rfl)) (wr_get O f0 ((HZ326.move HS336).sel [] [0]) hf64 (by have h9 : Mk.l.length ≤ _ := hMl; show _ ≤ 1000000000; omega)) (fun _ w9 ⟨A9, c9, he, hp, hb, ho⟩ => ⟨_, he, A9, c9, rfl, hp, ho, hb⟩)) ?_
    rintro _ W407 ⟨A6, c6, rfl, hp6, ho6, hb407⟩ a407 H407
    have HS407 := HS336.same hb407
    clear H406
    obtain ⟨f6, hf6, hfb6⟩ := putsT_new hp6 ho6
    have HXt407 := Rs.addT (HZ326.move HS336) hb407 hf6 hfb6
    clear HS407 HZ326
    obtain ⟨G408, HZ408, HS408⟩ := HXt407.anchor
    clear HXt407
    clear HS336 hb407
    refine wl_ <| p_ H407 rfl rfl fun _ H409 => wl_ <| i_ H409 rfl (v := .agg #[.int .u32 (wd (walGet Mk f0).1.e), .int .u32 (wd (walGet Mk f0).1.s), .slice A6 ((walGet Mk f0).1.l.length) c6]) (dd_ext rfl (H409.ev 80 rfl) rfl) fun _ H410 => wl_ <| i_ H410 rfl (v := .int .i64 ((walGet Mk f0).2)) (dd_ext rfl (H410.ev 80 rfl) rfl) fun _ H411 => wl_ <| n_ H411 rfl (fun _ h => dd_new HS408 #[.int .u32 0, .int .u32 0, .slice none 0 0] rfl (z := .agg #[.int .u32 0, .int .u32 0, .slice none 0 0]) (by kernel_rfl) rfl h) fun g11 _ HS412 _ H412 => wl_ <| t_ rfl (S := [⟨g2, 22, #[.int .i64 n0, .int .i64 f0]⟩, ⟨g10, 39, #[.int .i64 z.kind, .int .i64 z.i, .int .u32 (wd z.r.e), .int .u32 (wd z.r.s), .slice Ap np cp, .slice Ab nb cb, .slice Ak nk ck]⟩, ⟨g11, 36, #[.int .u32 (wd (walGet Mk f0).1.e), .int .u32 (wd (walGet Mk f0).1.s), .slice A6 ((walGet Mk f0).1.l.length) c6]⟩]) (fun _ h => dd_setrow HS412 2 rfl rfl (H412.ev 11 rfl) (H412.ev 85 rfl) (by kernel_rfl) (rfl : #[.int .u32 (wd (walGet Mk f0).1.e), .int .u32 (wd (walGet Mk f0).1.s), .slice A6 ((walGet Mk f0).1.l.length) c6].size = 3) (rfl : #[.int .u32 0, .int .u32 0, .slice none 0 0].size = 3) (one_l (ao_cons rfl (ao_cons rfl (ao_cons rfl ao_nil)))) h) fun W413 HS413 => wl_ <| p_ H412 rfl rfl fun _ H414 => ln_ <| ?_
    clear H407 H409 H410 HS408 H411 HS412 H412
    have H415 := H414.sel [1, 2, 5, 7, 9, 10, 11, 12] rfl
    refine nx <| sq_ <| rl_ <| wl_ <| p_ H415 rfl rfl fun _ H416 => wl_ <| i_ H416 rfl (xA 2 1 1 rfl (H416.ev 2 rfl) rfl) fun _ H417 => wl_ <| i_ H417 rfl (dd_get HS413 0 1 rfl rfl (H417.ev 88 rfl) rfl Try.underlying3 rfl) fun _ H418 => ?_
    clear H414 H415 H416 H417
    refine wl_ <| d_ H418 rfl (R := fun v w9 => ∃ A7 c7, v = .agg #[.int .u32 (wd (walGet Mk f0).1.e), .int .u32 (wd (walGet Mk f0).1.s), .slice A7 ((walGet Mk f0).1.l.length) c7, .int .i64 ((walGet Mk f0).2)] ∧ (PutsAt w9 (.slice A7 (walGet Mk f0).1.l.length c7) (walGet Mk f0).1.l) ∧ (∀ k, (Value.slice A7 (walGet Mk f0).1.l.length c7).ownBlock = some k → W413.heap.size ≤ k) ∧ Below W413.heap.size W413 w9) (dc_ Try.func16 rfl (args2 (H418.ev 87 rfl) (H418.ev 89 rfl)) (rr_get f0 ((HZ408.move HS413).sel [] [2]) hf64 (by have h9 : Mk.l.length ≤ _ := hMl; show _ ≤ 1000000000; omega)) (fun _ w9 ⟨A9, c9, he, hp, hb, ho⟩ => ⟨_, he, A9, c9, rfl, hp, ho, hb⟩)) ?_
    rintro _ W419 ⟨A7, c7, rfl, hp7, ho7, hb419⟩ a419 H419
    have HS419 := HS413.same hb419
    clear H418
    obtain ⟨f7, hf7, hfb7⟩ := putsT_new hp7 ho7
    have HXt419 := Rs.addT (HZ408.move HS413) hb419 hf7 hfb7
    clear HS419 HZ408
    obtain ⟨G420, HZ420, HS420⟩ := HXt419.anchor
    clear HXt419
    clear HS413 hb419
    refine wl_ <| n_ H419 rfl (fun _ h => dd_new HS420 #[.int .u32 0, .int .u32 0, .slice none 0 0, .int .i64 0] rfl (z := .agg #[.int .u32 0, .int .u32 0, .slice none 0 0, .int .i64 0]) (by kernel_rfl) rfl h) fun g13 _ HS421 _ H421 => wl_ <| t_ rfl (fun _ h => dd_setrow HS421 3 rfl rfl (H421.ev 13 rfl) (H421.ev 90 rfl) (by kernel_rfl) (rfl : #[.int .u32 (wd (walGet Mk f0).1.e), .int .u32 (wd (walGet Mk f0).1.s), .slice A7 ((walGet Mk f0).1.l.length) c7, .int .i64 ((walGet Mk f0).2)].size = 4) (rfl : #[.int .u32 0, .int .u32 0, .slice none 0 0, .int .i64 0].size = 4) (one_l (ao_cons rfl (ao_cons rfl (ao_cons rfl (ao_cons rfl ao_nil))))) h) fun W422 HS422 => ln_ <| nx <| sq_ <| rl_ <| wl_ <| p_ H421 rfl rfl fun _ H423 => wl_ <| i_ H423 rfl (xf 3 3 rfl (H423.ev 13 rfl)) fun _ H424 => wl_ <| i_ H424 rfl (dd_get HS422 3 3 rfl rfl (H424.ev 92 rfl) rfl Try.underlying3 rfl) fun _ H425 => wl_ <| i_ H425 rfl (dd_cmp rfl (H425.ev 91 rfl) (H425.ev 93 rfl) (ne_f rfl)) fun _ H426 => wl_ <| p_ H426 rfl rfl fun _ H427 => wl_ <| ig H427 (wg_ H427 rfl rfl rfl rfl) rfl (xf 0 0 rfl (H427.ev 11 rfl)) fun _ H428 => ?_
    clear HS420 H419 HS421 H421 H423 H424 H425 H426
    refine wl_ <| ig H428 (wg_ H428 rfl rfl rfl rfl) rfl (dd_get HS422 2 0 rfl rfl (H428.ev 96 rfl) rfl Try.underlying33 rfl) fun _ H429 => wl_ <| ig H429 (wg_ H429 rfl rfl rfl rfl) rfl (xf 0 0 rfl (H429.ev 13 rfl)) fun _ H430 => wl_ <| ig H430 (wg_ H430 rfl rfl rfl rfl) rfl (dd_get HS422 3 0 rfl rfl (H430.ev 98 rfl) rfl Try.underlying33 rfl) fun _ H431 => wl_ <| ig H431 (wg_ H431 rfl rfl rfl rfl) rfl (dd_cmp rfl (H431.ev 97 rfl) (H431.ev 99 rfl) (ne_f rfl)) fun _ H432 => q_ H432 2 rfl fun _ H433 => wl_ <| ig H433 (wg_ H433 rfl rfl rfl rfl) rfl (xf 1 1 rfl (H433.ev 11 rfl)) fun _ H434 => wl_ <| ig H434 (wg_ H434 rfl rfl rfl rfl) rfl (dd_get HS422 2 1 rfl rfl (H434.ev 103 rfl) rfl Try.underlying33 rfl) fun _ H435 => wl_ <| ig H435 (wg_ H435 rfl rfl rfl rfl) rfl (xf 1 1 rfl (H435.ev 13 rfl)) fun _ H436 => ?_
    clear H427 H428 H429 H430 H431 H432 H433 H434
    refine wl_ <| ig H436 (wg_ H436 rfl rfl rfl rfl) rfl (dd_get HS422 3 1 rfl rfl (H436.ev 105 rfl) rfl Try.underlying33 rfl) fun _ H437 => wl_ <| ig H437 (wg_ H437 rfl rfl rfl rfl) rfl (dd_cmp rfl (H437.ev 104 rfl) (H437.ev 106 rfl) (ne_f rfl)) fun _ H438 => q_ H438 2 rfl fun _ H439 => wl_ <| ig H439 (wg_ H439 rfl rfl rfl rfl) rfl (xf 2 2 rfl (H439.ev 11 rfl)) fun _ H440 => wl_ <| ig H440 (wg_ H440 rfl rfl rfl rfl) rfl (dd_get HS422 2 2 rfl rfl (H440.ev 110 rfl) rfl Try.underlying34 rfl) fun _ H441 => wl_ <| ig H441 (wg_ H441 rfl rfl rfl rfl) rfl (xf 2 2 rfl (H441.ev 13 rfl)) fun _ H442 => wl_ <| ig H442 (wg_ H442 rfl rfl rfl rfl) rfl (dd_get HS422 3 2 rfl rfl (H442.ev 112 rfl) rfl Try.underlying34 rfl) fun _ H443 => wl_ <| cg H443 (wg_ H443 rfl rfl rfl rfl) rfl HS422 (v := .bool true) (dc_ Try.func17 rfl (args2 (H443.ev 111 rfl) (H443.ev 113 rfl)) (keepputs_any (walGet Mk f0).1.l (walGet Mk f0).1.l _ _ W422 (putsT_at ((HZ420.move HS422).sel [] [1])) (putsT_at ((HZ420.move HS422).sel [] [0])) (getR_l1 _ _)) (fun _ w9 h9 => ⟨_, by rw [decide_eq_true rfl] at h9; exact h9.1, rfl, h9.2⟩)) fun W444 HS444 _ H444 => ?_
    clear H435 H436 H437 H438 H439 H440 H441 H442
    refine wl_ <| ig H444 (wg_ H444 rfl rfl rfl rfl) rfl (v := .bool false) (dd_nt rfl (H444.ev 114 rfl) rfl) fun _ H445 => wl_ <| p_ H445 rfl rfl fun _ H446 => ln_ <| ?_
    clear H443 HS422 H444 H445
    have H447 := H446.sel [1, 2, 5, 7, 9, 10, 116] rfl
    refine nx <| cf_ H447 rfl <| wp_skip <| bn <| nx <| sq_ <| ?_
    clear H446
    refine wr_ (HZ420.move HS444) [0, 1, 2, 3] [0, 1, 2, 3] rfl rfl fun HXd449 hx448 => ?_
    obtain ⟨G450, HZ450, HS450⟩ := HXd449.anchor
    clear HXd449
    refine ht_ H447 0 hx448 rfl rfl (fun _ _ _ => xf 2 2 rfl (H447.ev 10 rfl)) fun _ H451 => ht_ H451 1 hx448 rfl rfl (fun _ _ _ => xf 2 4 rfl (H451.ev 164 rfl)) fun _ H452 => ht_ H452 2 hx448 rfl rfl (fun _ _ HS9 => dd_get HS9 1 4 rfl rfl (H452.ev 165 rfl) rfl Try.underlying34 rfl) fun _ H453 => ht_ H453 4 hx448 rfl rfl (fun _ _ _ => xf 2 2 rfl (H453.ev 10 rfl)) fun _ H454 => ht_ H454 5 hx448 rfl rfl (fun _ _ _ => xf 2 4 rfl (H454.ev 168 rfl)) fun _ H455 => ht_ H455 6 hx448 rfl rfl (fun _ _ HS9 => dd_get HS9 1 4 rfl rfl (H455.ev 169 rfl) rfl Try.underlying34 rfl) fun _ H456 => h1_ 3 rfl <| c_ H456 rfl HS450 (dcs Try.func24 rfl (args1 (H456.ev 166 rfl)) (O.good z.r.l _ W444.drew (HP _ (HZ450.bel HS450)) (by rw [hnp]; exact hm2)) (.bool (goodB (z.r.l.map (·.1))))) fun W457 HS457 _ H457 => sx_ (sxi (HZ450.move HS457).st [0, 1, 2, 3] rfl) fun hx458 => ?_
    clear H447 H451 H452 H453 H454 H455 H456 HS450
    refine h1_ 7 rfl <| c_ H457 rfl HS457 (dcs Try.func25 rfl (args1 (H457.ev 170 rfl)) (refgood_any z.r.l _ W457 (HP _ (HZ450.bel HS457)) (by rw [hnp]; exact hm2)) (.bool (goodB (z.r.l.map (·.1))))) fun _ HS459 _ H459 => sx_ (sxi (HZ450.move HS459).st [0, 1, 2, 3] rfl) fun hx460 => ht_ H459 8 hx460 rfl rfl (v := .bool false) (fun _ _ _ => dd_neb rfl (H459.ev 167 rfl) (H459.ev 171 rfl) Try.underlying4 (bne_self_eq_false _)) fun _ H461 => ?_
    clear hx448 H457 HS457 hx458 H459
    refine wpAnyH_done (by kernel_rfl) ?_ _
    clear hx460
    refine nx <| cf_ H461 rfl <| wp_skip <| bn <| nx <| rl_ <| wl_ <| p_ H461 rfl rfl fun _ H462 => wl_ <| i_ H462 rfl (v := .int .i64 (i + 1)) (dd_ari rfl (H462.ev 44 rfl) rfl rfl (i64_of (by first | omega | (have := bd_lo; omega)) (by omega))) fun _ H463 => wl_ <| p_ H463 rfl rfl fun _ H464 => ln_ <| ?_
    clear H461 H462 H463
    refine nx ⟨i + 1, ⟨Mk, (by omega), (by have h9 : Mk.l.length ≤ _ := hMl; omega), hMs, H464.sel [1, 2, 5, 7, 9] rfl, (HZ450.move HS459).sel [0] [2, 3]⟩, (by omega)⟩
   refine wl_ <| i_ H399 rfl (dd_cmp rfl (H399.ev 51 rfl) rfl (eq_f hc401)) fun _ H465 => wl_ <| p_ H465 rfl rfl fun _ H466 => ln_ <| nx <| cf_ H466 rfl <| sq_ <| rl_ <| ?_
   clear H399 H465
   by_cases hc468 : (z.kind : Int) = 2
   ·
    refine wl_ <| i_ H466 rfl (dd_cmp rfl (H466.ev 51 rfl) rfl (eq_t hc468)) fun _ H469 => wl_ <| p_ H469 rfl rfl fun _ H470 => ln_ <| nx <| ct_ H470 rfl <| sq_ <| rl_ <| wl_ <| p_ H470 rfl rfl fun _ H471 => wl_ <| n_ H471 rfl (A := fun g120 => .slice (some ⟨g120, 0, none⟩) 0 0) (fun _ h => dd_lit0 HS336 rfl rfl Try.underlying37 (sz := 1) (by kernel_rfl) h) fun g120 _ HS472 _ H472 => wl_ <| i_ H472 rfl (xf 6 6 rfl (H472.ev 10 rfl)) fun _ H473 => wl_ <| i_ H473 rfl (dd_get HS472 1 6 rfl rfl (H473.ev 121 rfl) rfl Try.underlying37 rfl) fun _ H474 => wl_ <| a_ H474 rfl (S := fun g123_477 cb123_477 => [⟨g2, 22, #[.int .i64 n0, .int .i64 f0]⟩, ⟨g10, 39, #[.int .i64 z.kind, .int .i64 z.i, .int .u32 (wd z.r.e), .int .u32 (wd z.r.s), .slice Ap np cp, .slice Ab nb cb, .slice Ak nk ck]⟩, ⟨g123_477, 5, cb123_477⟩]) (fun g123_477 c123_477 => .slice (some ⟨g123_477, 0, none⟩) nk c123_477) (T := fun _ c123_477 cb123_477 => OwnC cb123_477 c123_477 nk 1 (bytesV (z.keep))) (fun _ h => dd_appB HS472 2 rfl ownc_nil rfl (H474.ev 120 rfl) (H474.ev 122 rfl) (HK _ (HZ326.bel HS472)) hk2 (Nat.zero_add _) (List.nil_append _) (by unfold maxLen; omega) (by omega) h) fun g123_477 c123_477 cb123_477 _ O123_477 HS476 _ H476 => ?_
    clear H466 H469 H470 HS336 H471 H472 H473 HS472 H474
    obtain ⟨Gc478, hc478, hf478, hk478, hq478⟩ := Rs.reframe (R1 := []) (R2 := [⟨g2, 22, #[.int .i64 n0, .int .i64 f0]⟩, ⟨g10, 39, #[.int .i64 z.kind, .int .i64 z.i, .int .u32 (wd z.r.e), .int .u32 (wd z.r.s), .slice Ap np cp, .slice Ab nb cb, .slice Ak nk ck]⟩, ⟨g123_477, 5, cb123_477⟩]) (Q1 := [dskT D (.pointer (some ⟨gp, 0, none⟩)) Mk]) (Q2 := [rdkT (.pointer (some ⟨gq, 0, none⟩)) Mk]) ((HZ326.move HS476).sel [0, 1, 2] [0, 1])
    refine wl_ <| d_ H476 rfl (R := fun v9 w9 => v9 = .tuple #[] ∧ Rs w noF [⟨g2, 22, #[.int .i64 n0, .int .i64 f0]⟩, ⟨g10, 39, #[.int .i64 z.kind, .int .i64 z.i, .int .u32 (wd z.r.e), .int .u32 (wd z.r.s), .slice Ap np cp, .slice Ab nb cb, .slice Ak nk ck]⟩, ⟨g123_477, 5, cb123_477⟩] [dskT D (.pointer (some ⟨gp, 0, none⟩)) (DiskM.upped Mk z.keep), rdkT (.pointer (some ⟨gq, 0, none⟩)) Mk] w9) (dc_ Try.func18 rfl (args2 (H476.ev 119 rfl) (H476.ev 123 rfl)) (dr_up (.slice (some ⟨g123_477, 0, none⟩) nk c123_477) z.keep hc478 (by have h9 : Mk.l.length ≤ _ := hMl; show _ ≤ 1000000000; omega) (slice_own (HS476.row 2 rfl) O123_477 hnk) (by show _ ≤ 1000000000; omega) (own_off1 hf478 2 rfl rfl)) (fun _ w9 ⟨he, hX⟩ => ⟨_, he, rfl, hk478 _ _ _ hX⟩)) ?_
    rintro _ W478 ⟨rfl, HX478⟩ a478 H478
    clear hc478 hk478 hf478 hq478 HS476 HZ326
    clear H476
    obtain ⟨G479, HZ479, HS479⟩ := HX478.anchor
    clear HX478
    refine ln_ <| ?_
    have H480 := H478.sel [1, 2, 5, 7, 9, 10] rfl
    refine nx <| sq_ <| rl_ <| wl_ <| p_ H480 rfl rfl fun _ H481 => wl_ <| i_ H481 rfl (v := .bool true) (dd_nep rfl (H481.ev 125 rfl) rfl Try.underlying30 rfl) fun _ H482 => ln_ <| nx <| ct_ H482 rfl <| rl_ <| wl_ <| p_ H482 rfl rfl fun _ H483 => wl_ <| i_ H483 rfl (xf 6 6 rfl (H483.ev 10 rfl)) fun _ H484 => wl_ <| i_ H484 rfl (dd_get HS479 1 6 rfl rfl (H484.ev 128 rfl) rfl Try.underlying37 rfl) fun _ H485 => ?_
    clear H478 H480 H481 H482 H483 H484
    obtain ⟨Gc486, hc486, hf486, hk486, hq486⟩ := Rs.reframe (R1 := []) (R2 := [⟨g2, 22, #[.int .i64 n0, .int .i64 f0]⟩, ⟨g10, 39, #[.int .i64 z.kind, .int .i64 z.i, .int .u32 (wd z.r.e), .int .u32 (wd z.r.s), .slice Ap np cp, .slice Ab nb cb, .slice Ak nk ck]⟩, ⟨g123_477, 5, cb123_477⟩]) (Q1 := [rdkT (.pointer (some ⟨gq, 0, none⟩)) Mk]) (Q2 := [dskT D (.pointer (some ⟨gp, 0, none⟩)) (DiskM.upped Mk z.keep)]) ((HZ479.move HS479).sel [0, 1, 2] [1, 0])
    refine wl_ <| d_ H485 rfl (R := fun v9 w9 => v9 = .tuple #[] ∧ Rs w noF [⟨g2, 22, #[.int .i64 n0, .int .i64 f0]⟩, ⟨g10, 39, #[.int .i64 z.kind, .int .i64 z.i, .int .u32 (wd z.r.e), .int .u32 (wd z.r.s), .slice Ap np cp, .slice Ab nb cb, .slice Ak nk ck]⟩, ⟨g123_477, 5, cb123_477⟩] [rdkT (.pointer (some ⟨gq, 0, none⟩)) (DiskM.upped Mk z.keep), dskT D (.pointer (some ⟨gp, 0, none⟩)) (DiskM.upped Mk z.keep)] w9) (dc_ Try.func19 rfl (args2 (H485.ev 127 rfl) (H485.ev 129 rfl)) (rr_up (.slice Ak nk ck) z.keep hc486 (by have h9 : Mk.l.length ≤ _ := hMl; show _ ≤ 1000000000; omega) (HK _ (HZ479.bel HS479)) (by rw [hnk]; show _ ≤ 1000000000; omega) (far_offB hK2 hf486)) (fun _ w9 ⟨he, hX⟩ => ⟨_, he, rfl, hk486 _ _ _ hX⟩)) ?_
    rintro _ W486 ⟨rfl, HX486⟩ a486 H486
    clear hc486 hk486 hf486 hq486 HS479 HZ479
    clear H485
    obtain ⟨G487, HZ487, HS487⟩ := HX486.anchor
    clear HX486
    refine ln_ <| bn <| nx <| sq_ <| ?_
    refine wr_ (HZ487.move HS487) [0, 1] [0, 1, 2] rfl rfl fun HXd489 hx488 => ?_
    obtain ⟨G490, HZ490, HS490⟩ := HXd489.anchor
    clear HXd489
    refine ht_ H486 0 hx488 rfl rfl (fun _ _ _ => xf 2 2 rfl (H486.ev 10 rfl)) fun _ H491 => ht_ H491 1 hx488 rfl rfl (fun _ _ _ => xf 2 4 rfl (H491.ev 164 rfl)) fun _ H492 => ht_ H492 2 hx488 rfl rfl (fun _ _ HS9 => dd_get HS9 1 4 rfl rfl (H492.ev 165 rfl) rfl Try.underlying34 rfl) fun _ H493 => ht_ H493 4 hx488 rfl rfl (fun _ _ _ => xf 2 2 rfl (H493.ev 10 rfl)) fun _ H494 => ht_ H494 5 hx488 rfl rfl (fun _ _ _ => xf 2 4 rfl (H494.ev 168 rfl)) fun _ H495 => ht_ H495 6 hx488 rfl rfl (fun _ _ HS9 => dd_get HS9 1 4 rfl rfl (H495.ev 169 rfl) rfl Try.underlying34 rfl) fun _ H496 => h1_ 3 rfl <| c_ H496 rfl HS490 (dcs Try.func24 rfl (args1 (H496.ev 166 rfl)) (O.good z.r.l _ W486.drew (HP _ (HZ490.bel HS490)) (by rw [hnp]; exact hm2)) (.bool (goodB (z.r.l.map (·.1))))) fun W497 HS497 _ H497 => sx_ (sxi (HZ490.move HS497).st [0, 1, 2] rfl) fun hx498 => ?_
    clear H486 H491 H492 H493 H494 H495 H496 HS490
    refine h1_ 7 rfl <| c_ H497 rfl HS497 (dcs Try.func25 rfl (args1 (H497.ev 170 rfl)) (refgood_any z.r.l _ W497 (HP _ (HZ490.bel HS497)) (by rw [hnp]; exact hm2)) (.bool (goodB (z.r.l.map (·.1))))) fun _ HS499 _ H499 => sx_ (sxi (HZ490.move HS499).st [0, 1, 2] rfl) fun hx500 => ht_ H499 8 hx500 rfl rfl (v := .bool false) (fun _ _ _ => dd_neb rfl (H499.ev 167 rfl) (H499.ev 171 rfl) Try.underlying4 (bne_self_eq_false _)) fun _ H501 => ?_
    clear hx488 H497 HS497 hx498 H499
    refine wpAnyH_done (by kernel_rfl) ?_ _
    clear hx500
    refine nx <| cf_ H501 rfl <| wp_skip <| bn <| nx <| rl_ <| wl_ <| p_ H501 rfl rfl fun _ H502 => wl_ <| i_ H502 rfl (v := .int .i64 (i + 1)) (dd_ari rfl (H502.ev 44 rfl) rfl rfl (i64_of (by first | omega | (have := bd_lo; omega)) (by omega))) fun _ H503 => wl_ <| p_ H503 rfl rfl fun _ H504 => ln_ <| ?_
    clear H501 H502 H503
    have H505 := H504.sel [1, 2, 5, 7, 9] rfl
    clear H504
    refine nx ⟨i + 1, ⟨(DiskM.upped Mk z.keep), (by omega), (by have h9 : (DiskM.upped Mk z.keep).l.length ≤ _ := (Nat.zero_le 0); omega), ((DiskM.length_put _ _).trans hMs), H505.sel [1, 2, 5, 7, 9] rfl, (HZ490.move HS499).sel [0] [1, 0]⟩, (by omega)⟩
   refine wl_ <| i_ H466 rfl (dd_cmp rfl (H466.ev 51 rfl) rfl (eq_f hc468)) fun _ H506 => wl_ <| p_ H506 rfl rfl fun _ H507 => ln_ <| nx <| cf_ H507 rfl <| sq_ <| rl_ <| ?_
   clear H466 H506
   by_cases hc509 : (z.kind : Int) = 3
   ·
    refine wl_ <| i_ H507 rfl (dd_cmp rfl (H507.ev 51 rfl) rfl (eq_t hc509)) fun _ H510 => wl_ <| p_ H510 rfl rfl fun _ H511 => ln_ <| ?_
    clear H507 H510
    have H512 := H511.sel [1, 2, 5, 7, 9, 10, 51, 131] rfl
    refine nx <| ct_ H512 rfl <| sq_ <| rl_ <| wl_ <| i_ H512 rfl (xf 5 5 rfl (H512.ev 10 rfl)) fun _ H513 => wl_ <| i_ H513 rfl (dd_get HS336 1 5 rfl rfl (H513.ev 134 rfl) rfl Try.underlying37 rfl) fun _ H514 => wl_ <| c_ H514 rfl HS336 (v := .tuple #[.agg (bs (encB 87#8 z.body)), .int .i64 (encE 87#8 z.body)]) (dc_ Try.func20 rfl (args2 rfl (H514.ev 135 rfl)) (refenc57 z.body (.slice Ab nb cb) W336 ⟨Ab, cb, by rw [hnb], by rw [hnb]; exact HSB _ (HZ326.bel HS336), hb2, by rw [hnb]; unfold maxLen; omega⟩) (fun _ w9 h9 => ⟨_, h9.1, rfl, h9.2⟩)) fun _ HS515 _ H515 => wl_ <| p_ H515 rfl rfl fun _ H516 => wl_ <| i_ H516 rfl (v := .agg (bs (encB 87#8 z.body))) (dd_ext rfl (H516.ev 133 rfl) rfl) fun _ H517 => wl_ <| i_ H517 rfl (v := .int .i64 (encE 87#8 z.body)) (dd_ext rfl (H517.ev 133 rfl) rfl) fun _ H518 => wl_ <| n_ H518 rfl (fun _ h => dd_new HS515 (bs (zer 32)) rfl (z := .agg (bs (zer 32))) (by kernel_rfl) rfl h) fun g14 _ HS519 _ H519 => wl_ <| t_ rfl (S := [⟨g2, 22, #[.int .i64 n0, .int .i64 f0]⟩, ⟨g10, 39, #[.int .i64 z.kind, .int .i64 z.i, .int .u32 (wd z.r.e), .int .u32 (wd z.r.s), .slice Ap np cp, .slice Ab nb cb, .slice Ak nk ck]⟩, ⟨g14, 52, bs (encB 87#8 z.body)⟩]) (fun _ h => dd_setrow HS519 2 rfl rfl (H519.ev 14 rfl) (H519.ev 137 rfl) (by kernel_rfl) (((size_bs _).trans (length_encB _ _)) : (bs (encB 87#8 z.body)).size = 32) (((size_bs _).trans (length_zer 32)) : (bs (zer 32)).size = 32) (one_bs _) h) fun _ HS520 => ?_
    clear H511 H512 H513 H514 HS336 H515 H516 H517 HS515 H518
    refine wl_ <| p_ H519 rfl rfl fun _ H521 => ln_ <| nx <| sq_ <| rl_ <| wl_ <| p_ H521 rfl rfl fun _ H522 => wl_ <| i_ H522 rfl (v := .bool true) (dd_nep rfl (H522.ev 139 rfl) rfl Try.underlying30 rfl) fun _ H523 => ln_ <| nx <| ct_ H523 rfl <| sq_ <| rl_ <| wl_ <| p_ H523 rfl rfl fun _ H524 => wl_ <| i_ H524 rfl (xf 1 1 rfl (H524.ev 10 rfl)) fun _ H525 => wl_ <| i_ H525 rfl (dd_get HS520 1 1 rfl rfl (H525.ev 142 rfl) rfl Try.underlying3 rfl) fun _ H526 => wl_ <| i_ H526 rfl (v := .agg (bs (encB 87#8 z.body))) (dd_load HS520 2 0 rfl rfl (H526.ev 14 rfl) (slab_whole _) Try.underlying52 rfl (by rw [show (bs (encB 87#8 z.body)).size = 32 from ((size_bs _).trans (length_encB _ _))]; kernel_rfl)) fun _ H527 => ?_
    clear HS519 H519 H521 H522 H523 H524 H525 H526
    obtain ⟨Gc528, hc528, hf528, hk528, hq528⟩ := Rs.reframe (R1 := []) (R2 := [⟨g2, 22, #[.int .i64 n0, .int .i64 f0]⟩, ⟨g10, 39, #[.int .i64 z.kind, .int .i64 z.i, .int .u32 (wd z.r.e), .int .u32 (wd z.r.s), .slice Ap np cp, .slice Ab nb cb, .slice Ak nk ck]⟩, ⟨g14, 52, bs (encB 87#8 z.body)⟩]) (Q1 := [dskT D (.pointer (some ⟨gp, 0, none⟩)) Mk]) (Q2 := [rdkT (.pointer (some ⟨gq, 0, none⟩)) Mk]) ((HZ326.move HS520).sel [0, 1, 2] [0, 1])
    refine wl_ <| d_ H527 rfl (R := fun v9 w9 => v9 = .int .i64 ((DiskM.wRes Mk z.i (encB 87#8 z.body)).1) ∧ Rs w noF [⟨g2, 22, #[.int .i64 n0, .int .i64 f0]⟩, ⟨g10, 39, #[.int .i64 z.kind, .int .i64 z.i, .int .u32 (wd z.r.e), .int .u32 (wd z.r.s), .slice Ap np cp, .slice Ab nb cb, .slice Ak nk ck]⟩, ⟨g14, 52, bs (encB 87#8 z.body)⟩] [dskT D (.pointer (some ⟨gp, 0, none⟩)) ((DiskM.wRes Mk z.i (encB 87#8 z.body)).2), rdkT (.pointer (some ⟨gq, 0, none⟩)) Mk] w9) (dc_ Try.func21 rfl (args3 (H527.ev 141 rfl) (H527.ev 143 rfl) (H527.ev 144 rfl)) (dr_write z.i (encB 87#8 z.body) hc528 (length_encB _ _) (by have h9 : Mk.l.length ≤ _ := hMl; show _ ≤ 1000000000; omega) hwi) (fun _ w9 ⟨he, hX⟩ => ⟨_, he, rfl, hk528 _ _ _ hX⟩)) ?_
    rintro _ W528 ⟨rfl, HX528⟩ a528 H528
    clear hc528 hk528 hf528 hq528 HS520 HZ326
    clear H527
    obtain ⟨G529, HZ529, HS529⟩ := HX528.anchor
    clear HX528
    refine ln_ <| ?_
    have H530 := H528.sel [1, 2, 5, 7, 9, 10, 14] rfl
    refine nx <| rl_ <| wl_ <| p_ H530 rfl rfl fun _ H531 => wl_ <| i_ H531 rfl (xf 1 1 rfl (H531.ev 10 rfl)) fun _ H532 => wl_ <| i_ H532 rfl (dd_get HS529 1 1 rfl rfl (H532.ev 147 rfl) rfl Try.underlying3 rfl) fun _ H533 => wl_ <| i_ H533 rfl (v := .agg (bs (encB 87#8 z.body))) (dd_load HS529 2 0 rfl rfl (H533.ev 14 rfl) (slab_whole _) Try.underlying52 rfl (by rw [show (bs (encB 87#8 z.body)).size = 32 from ((size_bs _).trans (length_encB _ _))]; kernel_rfl)) fun _ H534 => ?_
    clear H528 H530 H531 H532 H533
    obtain ⟨Gc535, hc535, hf535, hk535, hq535⟩ := Rs.reframe (R1 := []) (R2 := [⟨g2, 22, #[.int .i64 n0, .int .i64 f0]⟩, ⟨g10, 39, #[.int .i64 z.kind, .int .i64 z.i, .int .u32 (wd z.r.e), .int .u32 (wd z.r.s), .slice Ap np cp, .slice Ab nb cb, .slice Ak nk ck]⟩, ⟨g14, 52, bs (encB 87#8 z.body)⟩]) (Q1 := [rdkT (.pointer (some ⟨gq, 0, none⟩)) Mk]) (Q2 := [dskT D (.pointer (some ⟨gp, 0, none⟩)) ((DiskM.wRes Mk z.i (encB 87#8 z.body)).2)]) ((HZ529.move HS529).sel [0, 1, 2] [1, 0])
    refine wl_ <| d_ H534 rfl (R := fun v9 w9 => v9 = .int .i64 ((DiskM.wRes Mk z.i (encB 87#8 z.body)).1) ∧ Rs w noF [⟨g2, 22, #[.int .i64 n0, .int .i64 f0]⟩, ⟨g10, 39, #[.int .i64 z.kind, .int .i64 z.i, .int .u32 (wd z.r.e), .int .u32 (wd z.r.s), .slice Ap np cp, .slice Ab nb cb, .slice Ak nk ck]⟩, ⟨g14, 52, bs (encB 87#8 z.body)⟩] [rdkT (.pointer (some ⟨gq, 0, none⟩)) ((DiskM.wRes Mk z.i (encB 87#8 z.body)).2), dskT D (.pointer (some ⟨gp, 0, none⟩)) ((DiskM.wRes Mk z.i (encB 87#8 z.body)).2)] w9) (dc_ Try.func22 rfl (args3 (H534.ev 146 rfl) (H534.ev 148 rfl) (H534.ev 149 rfl)) (rr_write z.i (encB 87#8 z.body) hc535 (length_encB _ _) (by have h9 : Mk.l.length ≤ _ := hMl; show _ ≤ 1000000000; omega)) (fun _ w9 ⟨he, hX⟩ => ⟨_, he, rfl, hk535 _ _ _ hX⟩)) ?_
    rintro _ W535 ⟨rfl, HX535⟩ a535 H535
    clear hc535 hk535 hf535 hq535 HS529 HZ529
    clear H534
    obtain ⟨G536, HZ536, HS536⟩ := HX535.anchor
    clear HX535
    refine ln_ <| bn <| nx <| sq_ <| ?_
    refine wr_ (HZ536.move HS536) [0, 1, 2] [0, 1, 2] rfl rfl fun HXd538 hx537 => ?_
    obtain ⟨G539, HZ539, HS539⟩ := HXd538.anchor
    clear HXd538
    refine ht_ H535 0 hx537 rfl rfl (fun _ _ _ => xf 2 2 rfl (H535.ev 10 rfl)) fun _ H540 => ht_ H540 1 hx537 rfl rfl (fun _ _ _ => xf 2 4 rfl (H540.ev 164 rfl)) fun _ H541 => ht_ H541 2 hx537 rfl rfl (fun _ _ HS9 => dd_get HS9 1 4 rfl rfl (H541.ev 165 rfl) rfl Try.underlying34 rfl) fun _ H542 => ht_ H542 4 hx537 rfl rfl (fun _ _ _ => xf 2 2 rfl (H542.ev 10 rfl)) fun _ H543 => ht_ H543 5 hx537 rfl rfl (fun _ _ _ => xf 2 4 rfl (H543.ev 168 rfl)) fun _ H544 => ht_ H544 6 hx537 rfl rfl (fun _ _ HS9 => dd_get HS9 1 4 rfl rfl (H544.ev 169 rfl) rfl Try.underlying34 rfl) fun _ H545 => h1_ 3 rfl <| c_ H545 rfl HS539 (dcs Try.func24 rfl (args1 (H545.ev 166 rfl)) (O.good z.r.l _ W535.drew (HP _ (HZ539.bel HS539)) (by rw [hnp]; exact hm2)) (.bool (goodB (z.r.l.map (·.1))))) fun W546 HS546 _ H546 => sx_ (sxi (HZ539.move HS546).st [0, 1, 2] rfl) fun hx547 => ?_
    clear H535 H540 H541 H542 H543 H544 H545 HS539
    refine h1_ 7 rfl <| c_ H546 rfl HS546 (dcs Try.func25 rfl (args1 (H546.ev 170 rfl)) (refgood_any z.r.l _ W546 (HP _ (HZ539.bel HS546)) (by rw [hnp]; exact hm2)) (.bool (goodB (z.r.l.map (·.1))))) fun _ HS548 _ H548 => sx_ (sxi (HZ539.move HS548).st [0, 1, 2] rfl) fun hx549 => ht_ H548 8 hx549 rfl rfl (v := .bool false) (fun _ _ _ => dd_neb rfl (H548.ev 167 rfl) (H548.ev 171 rfl) Try.underlying4 (bne_self_eq_false _)) fun _ H550 => ?_
    clear hx537 H546 HS546 hx547 H548
    refine wpAnyH_done (by kernel_rfl) ?_ _
    clear hx549
    refine nx <| cf_ H550 rfl <| wp_skip <| bn <| nx <| rl_ <| wl_ <| p_ H550 rfl rfl fun _ H551 => wl_ <| i_ H551 rfl (v := .int .i64 (i + 1)) (dd_ari rfl (H551.ev 44 rfl) rfl rfl (i64_of (by first | omega | (have := bd_lo; omega)) (by omega))) fun _ H552 => wl_ <| p_ H552 rfl rfl fun _ H553 => ln_ <| ?_
    clear H550 H551 H552
    have H554 := H553.sel [1, 2, 5, 7, 9] rfl
    clear H553
    refine nx ⟨i + 1, ⟨((DiskM.wRes Mk z.i (encB 87#8 z.body)).2), (by omega), (by have h9 : ((DiskM.wRes Mk z.i (encB 87#8 z.body)).2).l.length ≤ _ := (wRes_l _ _ _ hMl); omega), ((congrArg List.length (wRes_s _ _ _)).trans hMs), H554.sel [1, 2, 5, 7, 9] rfl, (HZ539.move HS548).sel [0] [1, 0]⟩, (by omega)⟩
   refine wl_ <| i_ H507 rfl (dd_cmp rfl (H507.ev 51 rfl) rfl (eq_f hc509)) fun _ H555 => wl_ <| p_ H555 rfl rfl fun _ H556 => ln_ <| ?_
   clear H507 H555
   have H557 := H556.sel [1, 2, 5, 7, 9, 10, 51, 131] rfl
   refine nx <| cf_ H557 rfl <| sq_ <| rl_ <| ?_
   clear H556
   by_cases hc559 : (z.kind : Int) = 4
   ·
    refine wl_ <| i_ H557 rfl (dd_cmp rfl (H557.ev 51 rfl) rfl (eq_t hc559)) fun _ H560 => wl_ <| p_ H560 rfl rfl fun _ H561 => ln_ <| nx <| ct_ H561 rfl <| sq_ <| rl_ <| wl_ <| p_ H561 rfl rfl fun _ H562 => wl_ <| i_ H562 rfl (xf 1 1 rfl (H562.ev 10 rfl)) fun _ H563 => wl_ <| i_ H563 rfl (dd_get HS336 1 1 rfl rfl (H563.ev 154 rfl) rfl Try.underlying3 rfl) fun _ H564 => ?_
    clear H557 H560 H561 H562 H563
    obtain ⟨Gc565, hc565, hf565, hk565, hq565⟩ := Rs.reframe (R1 := []) (R2 := [⟨g2, 22, #[.int .i64 n0, .int .i64 f0]⟩, ⟨g10, 39, #[.int .i64 z.kind, .int .i64 z.i, .int .u32 (wd z.r.e), .int .u32 (wd z.r.s), .slice Ap np cp, .slice Ab nb cb, .slice Ak nk ck]⟩]) (Q1 := [dskT D (.pointer (some ⟨gp, 0, none⟩)) Mk]) (Q2 := [rdkT (.pointer (some ⟨gq, 0, none⟩)) Mk]) ((HZ326.move HS336).sel [0, 1] [0, 1])
    refine wl_ <| d_ H564 rfl (R := fun v9 w9 => v9 = .tuple #[] ∧ Rs w noF [⟨g2, 22, #[.int .i64 n0, .int .i64 f0]⟩, ⟨g10, 39, #[.int .i64 z.kind, .int .i64 z.i, .int .u32 (wd z.r.e), .int .u32 (wd z.r.s), .slice Ap np cp, .slice Ab nb cb, .slice Ak nk ck]⟩] [dskT D (.pointer (some ⟨gp, 0, none⟩)) (DiskM.fused Mk z.i), rdkT (.pointer (some ⟨gq, 0, none⟩)) Mk] w9) (dc_ Try.func23 rfl (args2 (H564.ev 153 rfl) (H564.ev 155 rfl)) (dr_fuse z.i hc565 hwi) (fun _ w9 ⟨he, hX⟩ => ⟨_, he, rfl, hk565 _ _ _ hX⟩)) ?_
    rintro _ W565 ⟨rfl, HX565⟩ a565 H565
    clear hc565 hk565 hf565 hq565 HS336 HZ326
    clear H564
    obtain ⟨G566, HZ566, HS566⟩ := HX565.anchor
    clear HX565
    refine ln_ <| nx <| sq_ <| rl_ <| wl_ <| p_ H565 rfl rfl fun _ H567 => wl_ <| i_ H567 rfl (v := .bool true) (dd_nep rfl (H567.ev 157 rfl) rfl Try.underlying30 rfl) fun _ H568 => ln_ <| nx <| ct_ H568 rfl <| rl_ <| wl_ <| p_ H568 rfl rfl fun _ H569 => wl_ <| i_ H569 rfl (xf 1 1 rfl (H569.ev 10 rfl)) fun _ H570 => wl_ <| i_ H570 rfl (dd_get HS566 1 1 rfl rfl (H570.ev 160 rfl) rfl Try.underlying3 rfl) fun _ H571 => wl_ <| i_ H571 rfl (dd_nilc rfl (H571.ev 159 rfl)) fun _ H572 => wl_ <| i_ H572 rfl (xf 2 2 rfl (H572.ev 162 rfl)) fun _ H573 => ?_
    clear H565 H567 H568 H569 H570 H571 H572
    obtain ⟨Gc574, hc574, hf574, hk574, hq574⟩ := Rs.reframe (R1 := []) (R2 := [⟨g2, 22, #[.int .i64 n0, .int .i64 f0]⟩, ⟨g10, 39, #[.int .i64 z.kind, .int .i64 z.i, .int .u32 (wd z.r.e), .int .u32 (wd z.r.s), .slice Ap np cp, .slice Ab nb cb, .slice Ak nk ck]⟩]) (Q1 := [rdkT (.pointer (some ⟨gq, 0, none⟩)) Mk]) (Q2 := [dskT D (.pointer (some ⟨gp, 0, none⟩)) (DiskM.fused Mk z.i)]) ((HZ566.move HS566).sel [0, 1] [1, 0])
    refine wl_ <| d0n rfl (R := fun v9 w9 => v9 = undef ∧ Rs w noF [⟨g2, 22, #[.int .i64 n0, .int .i64 f0]⟩, ⟨g10, 39, #[.int .i64 z.kind, .int .i64 z.i, .int .u32 (wd z.r.e), .int .u32 (wd z.r.s), .slice Ap np cp, .slice Ab nb cb, .slice Ak nk ck]⟩] [rdkT (.pointer (some ⟨gq, 0, none⟩)) (DiskM.fused Mk z.i), dskT D (.pointer (some ⟨gp, 0, none⟩)) (DiskM.fused Mk z.i)] w9) (rr_fuse hc574 hwi rfl (H573.ev 163 rfl) (H573.ev 161 rfl) (by kernel_rfl) (fun w9 hX => ⟨rfl, hk574 _ _ _ hX⟩)) ?_
    rintro _ W574 ⟨rfl, HX574⟩
    clear hc574 hk574 hf574 hq574 HS566 HZ566
    obtain ⟨G575, HZ575, HS575⟩ := HX574.anchor
    clear HX574
    refine ln_ <| bn <| nx <| sq_ <| ?_
    refine wr_ (HZ575.move HS575) [0, 1] [0, 1] rfl rfl fun HXd577 hx576 => ?_
    obtain ⟨G578, HZ578, HS578⟩ := HXd577.anchor
    clear HXd577
    refine ht_ H573 0 hx576 rfl rfl (fun _ _ _ => xf 2 2 rfl (H573.ev 10 rfl)) fun _ H579 => ht_ H579 1 hx576 rfl rfl (fun _ _ _ => xf 2 4 rfl (H579.ev 164 rfl)) fun _ H580 => ht_ H580 2 hx576 rfl rfl (fun _ _ HS9 => dd_get HS9 1 4 rfl rfl (H580.ev 165 rfl) rfl Try.underlying34 rfl) fun _ H581 => ht_ H581 4 hx576 rfl rfl (fun _ _ _ => xf 2 2 rfl (H581.ev 10 rfl)) fun _ H582 => ht_ H582 5 hx576 rfl rfl (fun _ _ _ => xf 2 4 rfl (H582.ev 168 rfl)) fun _ H583 => ht_ H583 6 hx576 rfl rfl (fun _ _ HS9 => dd_get HS9 1 4 rfl rfl (H583.ev 169 rfl) rfl Try.underlying34 rfl) fun _ H584 => h1_ 3 rfl <| c_ H584 rfl HS578 (dcs Try.func24 rfl (args1 (H584.ev 166 rfl)) (O.good z.r.l _ W574.drew (HP _ (HZ578.bel HS578)) (by rw [hnp]; exact hm2)) (.bool (goodB (z.r.l.map (·.1))))) fun W585 HS585 _ H585 => sx_ (sxi (HZ578.move HS585).st [0, 1] rfl) fun hx586 => ?_
    clear H573 H579 H580 H581 H582 H583 H584 HS578
    refine h1_ 7 rfl <| c_ H585 rfl HS585 (dcs Try.func25 rfl (args1 (H585.ev 170 rfl)) (refgood_any z.r.l _ W585 (HP _ (HZ578.bel HS585)) (by rw [hnp]; exact hm2)) (.bool (goodB (z.r.l.map (·.1))))) fun _ HS587 _ H587 => sx_ (sxi (HZ578.move HS587).st [0, 1] rfl) fun hx588 => ht_ H587 8 hx588 rfl rfl (v := .bool false) (fun _ _ _ => dd_neb rfl (H587.ev 167 rfl) (H587.ev 171 rfl) Try.underlying4 (bne_self_eq_false _)) fun _ H589 => ?_
    clear hx576 H585 HS585 hx586 H587
    refine wpAnyH_done (by kernel_rfl) ?_ _
    clear hx588
    refine nx <| cf_ H589 rfl <| wp_skip <| bn <| nx <| rl_ <| wl_ <| p_ H589 rfl rfl fun _ H590 => wl_ <| i_ H590 rfl (v := .int .i64 (i + 1)) (dd_ari rfl (H590.ev 44 rfl) rfl rfl (i64_of (by first | omega | (have := bd_lo; omega)) (by omega))) fun _ H591 => wl_ <| p_ H591 rfl rfl fun _ H592 => ln_ <| ?_
    clear H589 H590 H591
    have H593 := H592.sel [1, 2, 5, 7, 9] rfl
    clear H592
    refine nx ⟨i + 1, ⟨(DiskM.fused Mk z.i), (by omega), (by have h9 : (DiskM.fused Mk z.i).l.length ≤ _ := hMl; omega), hMs, H593.sel [1, 2, 5, 7, 9] rfl, (HZ578.move HS587).sel [0] [1, 0]⟩, (by omega)⟩
   refine wl_ <| i_ H557 rfl (dd_cmp rfl (H557.ev 51 rfl) rfl (eq_f hc559)) fun _ H594 => wl_ <| p_ H594 rfl rfl fun _ H595 => ln_ <| nx <| cf_ H595 rfl <| wp_skip <| bn <| nx <| sq_ <| ?_
   clear H557 H594
   refine wr_ (HZ326.move HS336) [0, 1] [0, 1] rfl rfl fun HXd597 hx596 => ?_
   obtain ⟨G598, HZ598, HS598⟩ := HXd597.anchor
   clear HXd597
   refine ht_ H595 0 hx596 rfl rfl (fun _ _ _ => xf 2 2 rfl (H595.ev 10 rfl)) fun _ H599 => ht_ H599 1 hx596 rfl rfl (fun _ _ _ => xf 2 4 rfl (H599.ev 164 rfl)) fun _ H600 => ht_ H600 2 hx596 rfl rfl (fun _ _ HS9 => dd_get HS9 1 4 rfl rfl (H600.ev 165 rfl) rfl Try.underlying34 rfl) fun _ H601 => ht_ H601 4 hx596 rfl rfl (fun _ _ _ => xf 2 2 rfl (H601.ev 10 rfl)) fun _ H602 => ht_ H602 5 hx596 rfl rfl (fun _ _ _ => xf 2 4 rfl (H602.ev 168 rfl)) fun _ H603 => ht_ H603 6 hx596 rfl rfl (fun _ _ HS9 => dd_get HS9 1 4 rfl rfl (H603.ev 169 rfl) rfl Try.underlying34 rfl) fun _ H604 => h1_ 3 rfl <| c_ H604 rfl HS598 (dcs Try.func24 rfl (args1 (H604.ev 166 rfl)) (O.good z.r.l _ W336.drew (HP _ (HZ598.bel HS598)) (by rw [hnp]; exact hm2)) (.bool (goodB (z.r.l.map (·.1))))) fun W605 HS605 _ H605 => sx_ (sxi (HZ598.move HS605).st [0, 1] rfl) fun hx606 => ?_
   clear H595 H599 H600 H601 H602 H603 H604 HS598
   refine h1_ 7 rfl <| c_ H605 rfl HS605 (dcs Try.func25 rfl (args1 (H605.ev 170 rfl)) (refgood_any z.r.l _ W605 (HP _ (HZ598.bel HS605)) (by rw [hnp]; exact hm2)) (.bool (goodB (z.r.l.map (·.1))))) fun _ HS607 _ H607 => sx_ (sxi (HZ598.move HS607).st [0, 1] rfl) fun hx608 => ht_ H607 8 hx608 rfl rfl (v := .bool false) (fun _ _ _ => dd_neb rfl (H607.ev 167 rfl) (H607.ev 171 rfl) Try.underlying4 (bne_self_eq_false _)) fun _ H609 => ?_
   clear hx596 H605 HS605 hx606 H607
   refine wpAnyH_done (by kernel_rfl) ?_ _
   clear hx608
   refine nx <| cf_ H609 rfl <| wp_skip <| bn <| nx <| rl_ <| wl_ <| p_ H609 rfl rfl fun _ H610 => wl_ <| i_ H610 rfl (v := .int .i64 (i + 1)) (dd_ari rfl (H610.ev 44 rfl) rfl rfl (i64_of (by first | omega | (have := bd_lo; omega)) (by omega))) fun _ H611 => wl_ <| p_ H611 rfl rfl fun _ H612 => ln_ <| ?_
   clear H609 H610 H611
   have H613 := H612.sel [1, 2, 5, 7, 9] rfl
   clear H612
   refine nx ⟨i + 1, ⟨Mk, (by omega), (by have h9 : Mk.l.length ≤ _ := hMl; omega), hMs, H613.sel [1, 2, 5, 7, 9] rfl, (HZ598.move HS607).sel [0] [0, 1]⟩, (by omega)⟩
  refine wl_ <| i_ H328 rfl (dd_cmp rfl (H328.ev 40 rfl) (H328.ev 42 rfl) (lt_f hc330)) fun _ H614 => ln_ <| nx <| cf_ H614 rfl <| wp_exit <| tx <| tx <| bx <| nx <| sq_ <| sq_ <| rl_ <| wl_ <| p_ H614 rfl rfl fun _ H615 => wl_ <| i_ H615 rfl (v := .bool false) (dd_eqp rfl (H615.ev 173 rfl) rfl Try.underlying30 rfl) fun _ H616 => ln_ <| nx <| cf_ H616 rfl <| wp_skip <| nx <| sq_ <| rl_ <| wl_ <| p_ H616 rfl rfl fun _ H617 => ?_
  clear H328 H614 H615 H616
  obtain ⟨Gc618, hc618, hf618, hk618, hq618⟩ := Rs.reframe (R1 := []) (R2 := [⟨g2, 22, #[.int .i64 n0, .int .i64 f0]⟩]) (Q1 := [dskT D (.pointer (some ⟨gp, 0, none⟩)) Mk]) (Q2 := [rdkT (.pointer (some ⟨gq, 0, none⟩)) Mk]) ((HZ326.move HS326).sel [0] [0, 1])
  refine wl_ <| d_ H617 rfl (R := fun v9 w9 => v9 = .tuple #[] ∧ Rs w noF [⟨g2, 22, #[.int .i64 n0, .int .i64 f0]⟩] [dskT D (.pointer (some ⟨gp, 0, none⟩)) (DiskM.upped Mk []), rdkT (.pointer (some ⟨gq, 0, none⟩)) Mk] w9) (dc_ Try.func18 rfl (args2 (H617.ev 176 rfl) (show _ = (.slice none 0 0 : Value) from rfl)) (dr_up (.slice none 0 0) [] hc618 (by have h9 : Mk.l.length ≤ _ := hMl; show _ ≤ 1000000000; omega) (slice_nil0 _) (by decide) (fun _ h9 => by cases h9)) (fun _ w9 ⟨he, hX⟩ => ⟨_, he, rfl, hk618 _ _ _ hX⟩)) ?_
  rintro _ W618 ⟨rfl, HX618⟩ a618 H618
  clear hc618 hk618 hf618 hq618 HS326 HZ326
  clear H617
  obtain ⟨G619, HZ619, HS619⟩ := HX618.anchor
  clear HX618
  refine ln_ <| nx <| sq_ <| rl_ <| wl_ <| p_ H618 rfl rfl fun _ H620 => ?_
  clear H618
  obtain ⟨Gc621, hc621, hf621, hk621, hq621⟩ := Rs.reframe (R1 := []) (R2 := [⟨g2, 22, #[.int .i64 n0, .int .i64 f0]⟩]) (Q1 := [rdkT (.pointer (some ⟨gq, 0, none⟩)) Mk]) (Q2 := [dskT D (.pointer (some ⟨gp, 0, none⟩)) (DiskM.upped Mk [])]) ((HZ619.move HS619).sel [0] [1, 0])
  refine wl_ <| d_ H620 rfl (R := fun v9 w9 => v9 = .tuple #[] ∧ Rs w noF [⟨g2, 22, #[.int .i64 n0, .int .i64 f0]⟩] [rdkT (.pointer (some ⟨gq, 0, none⟩)) (DiskM.upped Mk []), dskT D (.pointer (some ⟨gp, 0, none⟩)) (DiskM.upped Mk [])] w9) (dc_ Try.func19 rfl (args2 (H620.ev 178 rfl) (show _ = (.slice none 0 0 : Value) from rfl)) (rr_up (.slice none 0 0) [] hc621 (by have h9 : Mk.l.length ≤ _ := hMl; show _ ≤ 1000000000; omega) (slice_nil0 _) (by decide) (fun h9 => absurd rfl h9)) (fun _ w9 ⟨he, hX⟩ => ⟨_, he, rfl, hk621 _ _ _ hX⟩)) ?_
  rintro _ W621 ⟨rfl, HX621⟩ a621 H621
  clear hc621 hk621 hf621 hq621 HS619 HZ619
  clear H620
  obtain ⟨G622, HZ622, HS622⟩ := HX621.anchor
  clear HX621
  refine ln_ <| nx <| sq_ <| sq_ <| rl_ <| wl_ <| p_ H621 rfl rfl fun _ H623 => ln_ <| nx <| wp_block <| ?_
  clear H621
  have HXa := (HZ622.move HS622).sel [0] [0, 1]
  obtain ⟨S9, hS0⟩ : ∃ S, DiskM.put Mk.s (DiskM.kept Mk.l []) = S := ⟨_, rfl⟩
  have hS9 : S9.length = N := by rw [← hS0]; exact (DiskM.length_put _ _).trans hMs
  have hM9 : (DiskM.upped Mk []) = rest S9 (-1) := by rw [← hS0]; rfl
  rw [hM9] at HXa
  obtain ⟨bs9, cs9, cb9, vl9, O9, hok8, HXb⟩ := rr_rows HXa hS9 (by omega)
  have hok9 := hok8.s
  clear HXa HS622 HZ622
  obtain ⟨G624, HZ624, HS624⟩ := HXb.anchor
  clear HXb
  refine wp_loopG (ι := Nat) (fun i3 a9 w9 => (i3 ≤ N) ∧ En 209 [(16, .int .i64 i3), (7, .pointer (some ⟨gq, 0, none⟩)), (5, .pointer (some ⟨gp, 0, none⟩))] a9 ∧ Rs w noF [⟨gq, 61, #[.slice (some ⟨bs9, 0, none⟩) N cs9, vl9, .int .i64 ((rest S9 (-1)).f), .bool (rest S9 (-1)).down]⟩, ⟨bs9, 52, cb9⟩, ⟨g2, 22, #[.int .i64 n0, .int .i64 f0]⟩] [dskT D (.pointer (some ⟨gp, 0, none⟩)) (rest S9 (-1))] w9) (fun i3 => N - i3) (0) ⟨(Nat.zero_le _), H623.sel [5, 7, 16] rfl, (HZ624.move HS624).sel [0, 1, 2] [0]⟩ ?_
  clear H623 HS624 HZ624
  rintro i3 aL625 wL625 ⟨hi3, HL625, HXL625⟩
  obtain ⟨G626, HZ626, HS626⟩ := HXL625.anchor
  clear HXL625
  refine sq_ <| sq_ <| rl_ <| q_ HL625 2 rfl fun _ H627 => wl_ <| i_ H627 rfl (dd_nilc rfl (H627.ev 181 rfl)) fun _ H628 => wl_ <| i_ H628 rfl (xf 0 0 rfl (H628.ev 182 rfl)) fun _ H629 => wl_ <| i_ H629 rfl (dd_get HS626 0 0 rfl rfl (H629.ev 183 rfl) rfl Try.underlying58 rfl) fun _ H630 => wl_ <| i_ H630 rfl (v := .int .i64 N) (dd_len rfl (H630.ev 184 rfl) Try.underlying58) fun _ H631 => ?_
  clear HL625 H627 H628 H629 H630
  by_cases hc633 : (i3 : Int) < N
  ·
   refine wl_ <| i_ H631 rfl (dd_cmp rfl (H631.ev 180 rfl) (H631.ev 185 rfl) (lt_t hc633)) fun _ H634 => ln_ <| nx <| ct_ H634 rfl <| wp_skip <| nx <| sq_ <| wp_block <| sq_ <| ?_
   clear H631
   have hl3 : (at0 S9 i3).length = 32 := hok9 _ (List.mem_of_getElem? (at0_get (show i3 < S9.length by omega)))
   refine rl_ <| q_ H634 2 rfl fun _ H635 => wl_ <| c_ H635 rfl HS626 (v := .tuple #[.agg (bs (at0 S9 i3)), .int .i64 0]) (dc_ Try.func26 rfl (args2 (H635.ev 190 rfl) (H635.ev 191 rfl)) (dr_read i3 ((HZ626.move HS626).sel [] [0]) (Nat.zero_le _) (by omega)) (fun _ w9 h9 => ⟨_, by rw [rres_at (f := -1) (show i3 < S9.length by omega)] at h9; exact h9.1, rfl, h9.2⟩)) fun _ HS636 _ H636 => wl_ <| p_ H636 rfl rfl fun _ H637 => wl_ <| i_ H637 rfl (v := .agg (bs (at0 S9 i3))) (dd_ext rfl (H637.ev 189 rfl) rfl) fun _ H638 => wl_ <| i_ H638 rfl (v := .int .i64 0) (dd_ext rfl (H638.ev 189 rfl) rfl) fun _ H639 => wl_ <| n_ H639 rfl (fun _ h => dd_new HS636 (bs (zer 32)) rfl (z := .agg (bs (zer 32))) (by kernel_rfl) rfl h) fun _ _ HS640 _ H640 => wl_ <| t_ rfl (fun _ h => dd_setrow HS640 3 rfl rfl (H640.ev 17 rfl) (H640.ev 193 rfl) (by kernel_rfl) (((size_bs _).trans hl3) : (bs (at0 S9 i3)).size = 32) (((size_bs _).trans (length_zer 32)) : (bs (zer 32)).size = 32) (one_bs _) h) fun _ HS641 => wl_ <| p_ H640 rfl rfl fun _ H642 => ?_
   clear H634 H635 HS626 H636 H637 H638 HS636 H639 HS640
   refine ln_ <| nx <| sq_ <| ?_
   clear H640
   refine wr_ (HZ626.move HS641) [0, 2, 3] [0, 2, 3, 1] rfl rfl fun HXd644 hx643 => ?_
   obtain ⟨G645, HZ645, HS645⟩ := HXd644.anchor
   clear HXd644
   refine hp_ H642 0 hx643 rfl rfl rfl fun _ H646 => ht_ H646 1 hx643 rfl rfl (fun _ _ _ => dd_cmp rfl (H646.ev 195 rfl) rfl (ne_f (by decide))) fun _ H647 => hp_ H647 2 hx643 rfl rfl rfl fun _ H648 => htg H648 3 hx643 rfl (wg_ H648 rfl rfl rfl rfl) rfl (v := .agg (bs (at0 S9 i3))) (fun _ _ HS9 => dd_load HS9 2 0 rfl rfl (H648.ev 17 rfl) (slab_whole _) Try.underlying52 rfl (by rw [show (bs (at0 S9 i3)).size = 32 from ((size_bs _).trans hl3)]; kernel_rfl)) fun _ H649 => htg H649 4 hx643 rfl (wg_ H649 rfl rfl rfl rfl) rfl (fun _ _ _ => dd_mv rfl (H649.ev 7 rfl)) fun _ H650 => htg H650 5 hx643 rfl (wg_ H650 rfl rfl rfl rfl) rfl (fun _ _ _ => dd_nilc rfl (H650.ev 199 rfl)) fun _ H651 => htg H651 6 hx643 rfl (wg_ H651 rfl rfl rfl rfl) rfl (fun _ _ _ => xf 0 0 rfl (H651.ev 200 rfl)) fun _ H652 => htg H652 7 hx643 rfl (wg_ H652 rfl rfl rfl rfl) rfl (fun _ _ HS9 => dd_get HS9 0 0 rfl rfl (H652.ev 201 rfl) rfl Try.underlying58 rfl) fun _ H653 => ?_
   clear H642 H646 H647 H648 H649 H650 H651
   refine htg H653 8 hx643 rfl (wg_ H653 rfl rfl rfl rfl) rfl (fun _ _ _ => dd_mv rfl (H653.ev 16 rfl)) fun _ H654 => htg H654 9 hx643 rfl (wg_ H654 rfl rfl rfl rfl) rfl (fun _ _ _ => xSo 32 (i3 * 32) rfl (H654.ev 202 rfl) (H654.ev 203 rfl)) fun _ H655 => h1_ 10 rfl <| ig H655 (wg_ H655 rfl rfl rfl rfl) rfl (v := .agg (bs (at0 S9 i3))) (dd_atN rfl (H655.ev 204 rfl) (rr_blk9 (HS645.row 1 rfl) O9 hok9 (at0_get (show i3 < S9.length by omega))) Try.underlying52 rfl (by show _ = some (bytesV (at0 S9 i3)).length; rw [show (bytesV (at0 S9 i3)).length = 32 from len_bv hl3]; kernel_rfl)) fun _ H656 => sx_ (sxi (HZ645.move HS645).st [0, 2, 3, 1] rfl) fun hx657 => htg H656 11 hx657 rfl (wg_ H656 rfl rfl rfl rfl) rfl (v := .bool false) (fun _ _ _ => dd_nea (b := true) rfl (H656.ev 198 rfl) (H656.ev 205 rfl) (by kernel_rfl) (fun w => by have h9 := eql_blk (at0 S9 i3) (at0 S9 i3) hl3 hl3 w; rw [decide_eq_true rfl] at h9; exact h9) rfl) fun _ H658 => hp_ H658 12 hx657 rfl rfl rfl fun _ H659 => ?_
   clear H652 H653 H654 H655 hx643 H656 H658
   refine wpAnyH_done (by kernel_rfl) ?_ _
   clear hx657
   refine nx <| cf_ H659 rfl <| wp_skip <| bn <| nx <| rl_ <| wl_ <| p_ H659 rfl rfl fun _ H660 => wl_ <| i_ H660 rfl (v := .int .i64 (i3 + 1)) (dd_ari rfl (H660.ev 187 rfl) rfl rfl (i64_of (by first | omega | (have := bd_lo; omega)) (by omega))) fun _ H661 => wl_ <| p_ H661 rfl rfl fun _ H662 => ln_ <| ?_
   clear H659 H660 H661
   have H663 := H662.sel [5, 7, 16] rfl
   clear H662
   refine nx ⟨i3 + 1, ⟨(by omega), H663.sel [5, 7, 16] rfl, (HZ645.move HS645).sel [0, 1, 2] [0]⟩, (by omega)⟩
  refine wl_ <| i_ H631 rfl (dd_cmp rfl (H631.ev 180 rfl) (H631.ev 185 rfl) (lt_f hc633)) fun _ H664 => ln_ <| nx <| cf_ H664 rfl <| wp_exit <| tx <| tx <| bx <| nx <| sq_ <| rl_ <| wl_ <| c_ H664 rfl HS626 (dcs Try.func9 rfl (args0 ) (wwakes_any D O wL625) (.bool true)) fun _ HS665 _ H665 => wl_ <| p_ H665 rfl rfl fun _ H666 => ln_ <| nx <| wp_ret <| ret_run H666.env0 (res_t Try.results3 (H666.get 4 rfl)) <| ?_
  clear H631 H664 HS626 H665
  exact ⟨rfl, (HZ626.bel HS665)⟩
end Go.Proofs.Ytcdcongeogmfkaa
