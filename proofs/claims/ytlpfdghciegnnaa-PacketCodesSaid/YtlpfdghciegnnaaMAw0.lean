/- Merged: Aw AwS AwD AwM AwH AwL AwN AwQ AwT AwR TabFresh AwW AwX Chk InR AwZ AwY ChkP PktSp2 PktHd PktDec PktSame PktPure PktWk PktKp PkTurn PkPlc. -/
import Derived.OrdersHeld
import Derived.Deep.DeepAppendWide
import Derived.Lib.SliceRun
import Derived.RangeFuncNested
import Derived.RangeFuncBound
import Derived.RangeFuncCalls
import Derived.RangeFuncLeaves
import Derived.RangeFuncFrom
import Derived.Shelf.Abstract
import Derived.Shelf.RegionOpen
import Derived.WalkKit
import Derived.OwnWalkIn
import Derived.TacticsInMore
import Derived.LoopNIn
import Derived.LoopIn
import Derived.Test.YtlpfdghciegnnaaMGen0
import Derived.Test.YtlpfdghciegnnaaMStr0
import Derived.Test.YtlpfdghciegnnaaMLabel0
import Derived.Test.YtlpfdghciegnnaaMWal0
import Derived.Test.YtlpfdghciegnnaaMSeal0
import Derived.Test.YtlpfdghciegnnaaMDisk0
/- Walks whose every step is one lemma: the frame as a list of slots that are known; regions in order, and regions that draw. No function of the program is named here. -/
set_option maxRecDepth 4000
namespace Go.Proofs.Ytlpfdghciegnnaa
open Go Go.RowKit
/- the frame, as far as it is known -/
structure Env (N : Nat) (L : List (Nat × Value)) (a : Act) : Prop where
  size : a.tmps.size = N
  defers : a.defers = []
  at_ : ∀ (i k : Nat) (v : Value), L[i]? = some (k, v) → a.tmps[k]? = some v
def kp (L : List (Nat × Value)) : List Nat → List (Nat × Value)
  | [] => []
  | i :: is => match L[i]? with
    | some p => p :: kp L is
    | none => kp L is
def setd : Option Tmp → Value → List (Nat × Value) → List (Nat × Value)
  | some d, v, L => (d, v) :: L
  | none, _, L => L
def okd : Option Tmp → Nat → List (Nat × Value) → Bool
  | some d, N, L => Nat.blt d N && L.all fun p => !Nat.beq p.1 d
  | none, _, _ => true
theorem kp_at (L : List (Nat × Value)) : ∀ (is : List Nat) (i : Nat) (p : Nat × Value), (kp L is)[i]? = some p → ∃ j : Nat, L[j]? = some p
  | [], i, p, h => by simp [kp] at h
  | j :: is, i, p, h => by
    unfold kp at h
    cases hj : L[j]? with
    | none => rw [hj] at h; exact kp_at L is i p h
    | some q =>
      rw [hj] at h
      cases i with
      | zero => exact ⟨j, by rw [hj]; simpa using h⟩
      | succ i => exact kp_at L is i p (by simpa using h)
section
variable {P : Program} {N : Nat} {L : List (Nat × Value)} {a : Act}
theorem Env.ev (h : Env N L a) (i : Nat) {k : Nat} {v : Value} (hi : L[i]? = some (k, v)) : a.eval (.tmp k) = v := eval_of_get (h.at_ i k v hi)
theorem Env.get (h : Env N L a) (i : Nat) {k : Nat} {v : Value} (hi : L[i]? = some (k, v)) : a.tmps[k]? = some v := h.at_ i k v hi
theorem Env.keep (h : Env N L a) (is : List Nat) : Env N (kp L is) a := ⟨h.size, h.defers, fun i k v hi => by obtain ⟨j, hj⟩ := kp_at L is i (k, v) hi; exact h.at_ j k v hj⟩
theorem Env.put (h : Env N L a) (is : List Nat) (d : Option Tmp) (v : Value) (hk : okd d N (kp L is) = true) : Env N (setd d v (kp L is)) (a.put d v) := by
  cases d with
  | none => exact h.keep is
  | some d =>
    simp only [okd, Bool.and_eq_true, List.all_eq_true] at hk
    have hd : d < N := by have := hk.1; unfold Nat.blt at this; exact Nat.le_of_ble_eq_true this
    refine ⟨by simp [Act.put, h.size], h.defers, fun i k u hi => ?_⟩
    cases i with
    | zero =>
      have hi : (d, v) = (k, u) := by simpa [setd] using hi
      injection hi with h1 h2
      subst h1 h2
      simp [Act.put, h.size, hd]
    | succ i =>
      have hi : (kp L is)[i]? = some (k, u) := by simpa [setd] using hi
      have h1 := hk.2 _ (List.mem_of_getElem? hi)
      have hne : d ≠ k := fun e => by subst e; simp at h1
      obtain ⟨j, hj⟩ := kp_at L is i (k, u) hi
      simp only [Act.put]
      rw [Array.getElem?_setIfInBounds_ne hne]
      exact h.at_ j k u hj
theorem env_nil (hs : a.tmps.size = N) (hd : a.defers = []) : Env N [] a := ⟨hs, hd, fun i k v h => by simp at h⟩
def argL : List Value → Nat → List (Nat × Value)
  | [], _ => []
  | v :: vs, i => (i, v) :: argL vs (i + 1)
end
/- code -/
section
variable {P : Program} {Q Q' : Exit → Act → World → Prop} {K : Act → World → Prop} {a : Act} {w : World} {id j : Nat} {x y : Code}
theorem nx (h : K a w) : Exit.then K Q .normal a w := h
theorem tx (h : Q (.exit id) a w) : Exit.then K Q (.exit id) a w := h
theorem tr (h : Q .ret a w) : Exit.then K Q .ret a w := h
theorem bn (h : Q .normal a w) : Exit.inBlock id Q .normal a w := h
theorem br_ (h : Q .ret a w) : Exit.inBlock id Q .ret a w := h
theorem bx (h : Q .normal a w) : Exit.inBlock id Q (.exit id) a w := by simpa [Exit.inBlock] using h
/- a loop with what counts it down standing in no slot -/
theorem wp_loopG {ι : Type} {c : Code} (I : ι → Act → World → Prop) (μ : ι → Nat) (i0 : ι) (h0 : I i0 a w)
    (round : ∀ i a w, I i a w → c.wp P (Exit.then (fun a' w' => ∃ i', I i' a' w' ∧ μ i' < μ i) Q) a w) : (Code.loop c).wp P Q a w := by
  classical
  have key : ∀ n, ∀ i a w, μ i = n → I i a w → ∃ m, (∃ i, I i a w ∧ μ i = m) ∧ ∀ k, (∃ i, I i a w ∧ μ i = k) → m ≤ k := by
    intro n
    induction n using Nat.strongRecOn with
    | _ n ih =>
      intro i a w hn hi
      by_cases h : ∃ i', I i' a w ∧ μ i' < n
      · obtain ⟨i', h1, h2⟩ := h
        exact ih (μ i') h2 i' a w rfl h1
      · exact ⟨n, ⟨i, hi, hn⟩, fun k ⟨i', h1, h2⟩ => by
          apply Decidable.byContradiction
          intro hk
          exact h ⟨i', h1, by omega⟩⟩
  refine wp_loop (fun a w => ∃ i, I i a w) (fun a w => if h : ∃ m, (∃ i, I i a w ∧ μ i = m) ∧ ∀ k, (∃ i, I i a w ∧ μ i = k) → m ≤ k then h.choose else 0) ⟨i0, h0⟩ fun a w hI => ?_
  obtain ⟨i1, h1⟩ := hI
  have hex := key _ i1 a w rfl h1
  obtain ⟨⟨i, hi, him⟩, hmin⟩ := hex.choose_spec
  refine wp_mono (round i a w hi) fun e a' w' hq => ?_
  cases e with
  | normal =>
    obtain ⟨i', h2, h3⟩ := hq
    refine ⟨⟨i', h2⟩, ?_⟩
    have hex' := key _ i' a' w' rfl h2
    have := hex'.choose_spec.2 (μ i') ⟨i', h2, rfl⟩
    rw [dif_pos hex, dif_pos hex']
    omega
  | _ => exact hq
end
/- what a call tells when it returns -/
section
variable {P : Program} {fn : Func} {R : Ending → World → Prop} {N : Nat} {L : List (Nat × Value)} {a : Act} {w : World}
theorem ret_run (HA : Env N L a) {v : Value} (hv : (results fn a.tmps).run P w = .ok v w) (h : R (.returned v) w) : bodyPost P fn R .ret a w := ⟨HA.defers, v, hv, h⟩
theorem getD_get2 {t : Array Value} {k : Nat} {v : Value} (h : t[k]? = some v) : (t[k]?).getD undef = v := by rw [h]; rfl
theorem res_t {t : Array Value} {i : Nat} {v : Value} (hr : fn.results = #[.tmp i]) (h1 : t[i]? = some v) : (results fn t).run P w = .ok v w := by
  unfold results; simp [hr, getD_get2 h1]
theorem res_tt {t : Array Value} {i j : Nat} {v u : Value} (hr : fn.results = #[.tmp i, .tmp j]) (h1 : t[i]? = some v) (h2 : t[j]? = some u) : (results fn t).run P w = .ok (.tuple #[v, u]) w := by
  unfold results; simp [hr, getD_get2 h1, getD_get2 h2]
theorem load_cell {g : Nat} {ty t : TypeId} {cs : Array Value} {d : TypeDesc} (hg : Row w g t cs) (hu : P.underlying ty = some d) (hd : (match d with | .struct _ | .array _ _ => true | _ => false) = true) (hi : (P.info? ty).map (·.size) = some cs.size) : (loadVar ty ⟨g, 0, none⟩).run P w = .ok (.agg cs) w := run_loadVar_row w g t ty cs (0, 0) d hg hu hd hi
theorem res_c {t : Array Value} {i g : Nat} {ty ty' : TypeId} {cs : Array Value} {d : TypeDesc} (hr : fn.results = #[.cell i ty]) (h1 : t[i]? = some (.pointer (some ⟨g, 0, none⟩))) (hg : Row w g ty' cs) (hu : P.underlying ty = some d) (hd : (match d with | .struct _ | .array _ _ => true | _ => false) = true) (hi : (P.info? ty).map (·.size) = some cs.size) : (results fn t).run P w = .ok (.agg cs) w := by
  unfold results; simp [hr, getD_get2 h1, asAddr, load_cell hg hu hd hi]
theorem res_ct {t : Array Value} {i g j : Nat} {u : Value} {ty ty' : TypeId} {cs : Array Value} {d : TypeDesc} (hr : fn.results = #[.cell i ty, .tmp j]) (h1 : t[i]? = some (.pointer (some ⟨g, 0, none⟩))) (hg : Row w g ty' cs) (hu : P.underlying ty = some d) (hd : (match d with | .struct _ | .array _ _ => true | _ => false) = true) (hi : (P.info? ty).map (·.size) = some cs.size) (h2 : t[j]? = some u) : (results fn t).run P w = .ok (.tuple #[.agg cs, u]) w := by
  unfold results; simp [hr, getD_get2 h1, getD_get2 h2, asAddr, load_cell hg hu hd hi]
end
end Go.Proofs.Ytlpfdghciegnnaa

/- The steps of a walk: one operation in a region that goes in order, or that draws. No function of the program is named here. -/
set_option maxRecDepth 4000
namespace Go.Proofs.Ytlpfdghciegnnaa
open Go Go.RowKit
section
variable {P : Program} {Q : Exit → Act → World → Prop} {ops : Array Oper} {rest : List Oper} {o : Oper} {N : Nat} {L : List (Nat × Value)} {a : Act} {w : World}
theorem want_n (hg : o.guard = none) : Region.wanted o (yielded ops a.tmps) = true := by simp [Region.wanted, hg]
theorem want_g {j t : Nat} {b c d : Bool} (hg : o.guard = some (j, b)) (hd : dstAt ops j = some t) (ht : a.tmps[t]? = some (.bool c)) (h : (c == b) = d) : Region.wanted o (yielded ops a.tmps) = d := by
  unfold dstAt at hd
  simp only [Region.wanted, hg, yielded, hd, Option.bind_some, ht]
  rw [← h]; cases c <;> cases b <;> rfl
end
/- what a step knows of the slots -/
section
variable {ops : Array Oper} {n : Nat} {Vl : List (Value → World → Prop)} {a a0 : Act} {x : Nat → Value} {w : World} {o : Oper} {N : Nat} {L : List (Nat × Value)}
end
end Go.Proofs.Ytlpfdghciegnnaa

/- What the operations yield, one by one. No function of the program is named here. -/
set_option maxRecDepth 4000
namespace Go.Proofs.Ytlpfdghciegnnaa
open Go Go.RowKit
theorem i64_bdA (x : BitVec 8) : IntKind.i64.wrap (bd x) = bd x := by rw [IntKind.wrap_i64]; have := bd_lo x; have := bd_hi x; omega
def fieldOff (P : Program) (s : TypeId) (f : Nat) : Option Nat :=
  match P.underlying s with
  | some (.struct fields) => match fields[f]? with
    | some fd => match (P.info? fd.type).map (·.size) with
      | some (_ + 1) => some fd.offset
      | _ => none
    | none => none
  | _ => none
def arrOf (P : Program) (t : TypeId) : Option (Nat × Nat) :=
  match P.underlying t with
  | some (.array n e) => (P.info? e).map fun i => (n, i.size)
  | _ => none
def slOf (P : Program) (t : TypeId) : Option Nat :=
  match P.underlying t with
  | some (.slice e) => (P.info? e).map fun i => i.size
  | _ => none
def intOfT (P : Program) (t : TypeId) : Option IntKind :=
  match P.underlying t with
  | some (.int k) => some k
  | _ => none
def cmpI : BinOp → Int → Int → Option Bool
  | .eql, x, y => some (x == y)
  | .neq, x, y => some (x != y)
  | .lss, x, y => some (decide (x < y))
  | .leq, x, y => some (decide (x ≤ y))
  | .gtr, x, y => some (decide (x > y))
  | .geq, x, y => some (decide (x ≥ y))
  | _, _, _ => none
def ariI : BinOp → Int → Int → Option Int
  | .add, x, y => some (x + y)
  | .sub, x, y => some (x - y)
  | .mul, x, y => some (x * y)
  | _, _, _ => none
section
variable {P : Program} {o : Oper} {a : Act} {w : World} {R : Value → World → Prop}
theorem dd_mv {x : Operand} {v : Value} (ho : o.op = .move x) (hx : a.eval x = v) : (execOp a.eval o).run P w = .ok (.value v) w :=
  by simp only [execOp, ho, hx, Sem.run_pure]
theorem dd_as {x : Operand} {v : Value} (ho : o.op = .assign x) (hx : a.eval x = v) : (execOp a.eval o).run P w = .ok (.value v) w :=
  by simp only [execOp, ho, hx, Sem.run_pure]
theorem dd_pickT {c x y : Operand} {v : Value} (ho : o.op = .pick c x y) (hc : a.eval c = .bool true) (hx : a.eval x = v) : (execOp a.eval o).run P w = .ok (.value v) w :=
  by simp [execOp, ho, hc, hx, asBool]
theorem dd_pickF {c x y : Operand} {v : Value} (ho : o.op = .pick c x y) (hc : a.eval c = .bool false) (hy : a.eval y = v) : (execOp a.eval o).run P w = .ok (.value v) w :=
  by simp [execOp, ho, hc, hy, asBool]
theorem dd_nt {ty : TypeId} {x : Operand} {b c : Bool} (ho : o.op = .unOp .not ty x) (hx : a.eval x = .bool b) (hc : (!b) = c) : (execOp a.eval o).run P w = .ok (.value (.bool c)) w :=
  by simp [execOp, ho, hx, Op.unary, ← hc]
theorem dd_ext {x : Operand} {i : Nat} {vs : Array Value} {v : Value} (ho : o.op = .extract x i) (hx : a.eval x = .tuple vs) (hv : vs[i]? = some v) : (execOp a.eval o).run P w = .ok (.value v) w :=
  by simp [execOp, ho, hx, Instr.extract, hv]
theorem dd_cmp {op : BinOp} {ty ty2 : TypeId} {x y : Operand} {k : IntKind} {m n : Int} {b : Bool} (ho : o.op = .binOp op ty x y ty2) (hx : a.eval x = .int k m) (hy : a.eval y = .int k n) (hb : cmpI op m n = some b) : (execOp a.eval o).run P w = .ok (.value (.bool b)) w := by
  cases op <;> simp [cmpI] at hb <;> simp [execOp, ho, hx, hy, eqGuard, binOp, Op.intCmp, ← hb]
theorem dd_ari {op : BinOp} {ty ty2 : TypeId} {x y : Operand} {k : IntKind} {m n z z' : Int} (ho : o.op = .binOp op ty x y ty2) (hx : a.eval x = .int k m) (hy : a.eval y = .int k n) (hz : ariI op m n = some z') (hk : k.wrap z' = z) : (execOp a.eval o).run P w = .ok (.value (.int k z)) w := by
  cases op <;> simp [ariI] at hz <;> simp [execOp, ho, hx, hy, eqGuard, binOp, Op.intArith, hz, hk]
theorem dd_nes {ty ty2 : TypeId} {x y : Operand} {s t : ByteArray} {b : Bool} (ho : o.op = .binOp .neq ty x y ty2) (hx : a.eval x = .string s) (hy : a.eval y = .string t) (hb : (s.toList != t.toList) = b) : (execOp a.eval o).run P w = .ok (.value (.bool b)) w := by
  simp [execOp, ho, hx, hy, eqGuard, binOp, Op.stringOp, ← hb, bne]
theorem dd_eqa {ty ty2 : TypeId} {x y : Operand} {cs ds : Array Value} {b : Bool} (ho : o.op = .binOp .eql ty x y ty2) (hx : a.eval x = .agg cs) (hy : a.eval y = .agg ds) (hg : P.eqGuardType P.depth ty = false) (hb : ∀ w, (Op.equalIn 10000 ty (.agg cs) (.agg ds)).run P w = .ok b w) : (execOp a.eval o).run P w = .ok (.value (.bool b)) w := by
  have e : (Op.equal ty (.agg cs) (.agg ds)).run P w = .ok b w := hb w
  simp [execOp, ho, hx, hy, eqGuard, binOp, e, hg]
theorem dd_nea {ty ty2 : TypeId} {x y : Operand} {cs ds : Array Value} {b c : Bool} (ho : o.op = .binOp .neq ty x y ty2) (hx : a.eval x = .agg cs) (hy : a.eval y = .agg ds) (hg : P.eqGuardType P.depth ty = false) (hb : ∀ w, (Op.equalIn 10000 ty (.agg cs) (.agg ds)).run P w = .ok b w) (hc : (!b) = c) : (execOp a.eval o).run P w = .ok (.value (.bool c)) w := by
  have e : (Op.equal ty (.agg cs) (.agg ds)).run P w = .ok b w := hb w
  simp [execOp, ho, hx, hy, eqGuard, binOp, e, hg, ← hc]
theorem dd_conv {src dst : TypeId} {x : Operand} {k k' : IntKind} {n z : Int} {d : TypeDesc} (ho : o.op = .convert src dst x) (hx : a.eval x = .int k' n) (hs : P.underlying src = some d) (hd : intOfT P dst = some k) (hz : k.wrap n = z) : (execOp a.eval o).run P w = .ok (.value (.int k z)) w := by
  have hu : P.underlying dst = some (.int k) := by
    unfold intOfT at hd
    cases hq : P.underlying dst with
    | none => rw [hq] at hd; cases hd
    | some q => rw [hq] at hd; cases q <;> simp_all
  simp [execOp, ho, hx, Go.convert, run_underlying hu, run_underlying hs, Conv.intToInt, hz]
theorem dd_field {s : TypeId} {x : Operand} {f g i off j : Nat} (ho : o.op = .fieldAddr s x f) (hx : a.eval x = .pointer (some ⟨g, i, none⟩)) (hf : fieldOff P s f = some off) (hj : i + off = j) : (execOp a.eval o).run P w = .ok (.value (.pointer (some ⟨g, j, none⟩))) w := by
  subst hj
  unfold fieldOff at hf
  cases hu : P.underlying s with
  | none => rw [hu] at hf; cases hf
  | some d =>
    rw [hu] at hf
    cases d with
    | struct fields =>
      simp only at hf
      cases hfd : fields[f]? with
      | none => rw [hfd] at hf; cases hf
      | some fd =>
        rw [hfd] at hf
        simp only at hf
        cases hi : P.info? fd.type with
        | none => rw [hi] at hf; cases hf
        | some inf =>
          rw [hi] at hf
          simp only [Option.map_some] at hf
          cases hs : inf.size with
          | zero => rw [hs] at hf; cases hf
          | succ m =>
            rw [hs] at hf
            simp only [Option.some.injEq] at hf
            simp [execOp, ho, hx, Instr.fieldAt, Instr.sureAddr, run_underlying hu, hfd, fieldPlace, sizeOf, typeInfo, hi, hs, Addr.add_mid, hf]
    | _ => simp only at hf; cases hf
theorem dd_idxS {t : TypeId} {x ix : Operand} {g i n c sz j : Nat} {k : IntKind} {m : Int} (ho : o.op = .indexAddr t x ix) (hx : a.eval x = .slice (some ⟨g, i, none⟩) n c) (hi : a.eval ix = .int k m) (ht : slOf P t = some sz) (h0 : 0 ≤ m) (hn : m < (n : Int)) (hj : i + m.toNat * sz = j) : (execOp a.eval o).run P w = .ok (.value (.pointer (some ⟨g, j, none⟩))) w := by
  subst hj
  unfold slOf at ht
  cases hu : P.underlying t with
  | none => rw [hu] at ht; cases ht
  | some d =>
    rw [hu] at ht
    cases d with
    | slice e =>
      simp only at ht
      cases hq : P.info? e with
      | none => rw [hq] at ht; cases ht
      | some inf =>
        rw [hq] at ht
        simp only [Option.map_some, Option.some.injEq] at ht
        subst ht
        simp [execOp, ho, hx, hi, Instr.indexAt, asIntOf, run_underlying hu, sizeOf, typeInfo, hq, h0, hn, Addr.add_mid]
    | _ => simp only at ht; cases ht
theorem dd_len {x : Operand} {t : TypeId} {A : Option Addr} {n c : Nat} {e : TypeId} (ho : o.op = .call { callee := .builtin .len, args := #[x], argTypes := #[t] }) (hx : a.eval x = .slice A n c) (hu : P.underlying t = some (.slice e)) : (execOp a.eval o).run P w = .ok (.value (.int .i64 (n : Int))) w :=
  by simp [execOp, ho, resolve, invoke, builtin, Builtin.len_, hx, run_underlying hu, goInt]
theorem dd_rn {v : Value} (hr : (execOp a.eval o).run P w = .ok (.value v) w) (h : R v w) : Does P o a w R := does_run hr h
theorem dd_at {ty : TypeId} {x : Operand} (ho : o.op = .load ty x) {p : Addr} (hx : a.eval x = .pointer (some p)) {v : Value} (hc : w.cell? p = some v) {d : TypeDesc} (hu : P.underlying ty = some d) (hd : d.isRow = false) : (execOp a.eval o).run P w = .ok (.value v) w := by
  have hagg : (isAgg ty).run P w = .ok false w := by
    unfold isAgg
    rw [Sem.run_bind, run_underlying hu w]
    cases d <;> simp_all
  simp [execOp, ho, hx, Instr.loadAt, Instr.sureAddr, loadVar, Sem.run_bind, hagg, hc]
/- memory that is known as a list of blocks -/
variable {w0 : World} {F : Nat → Prop} {S : List Blk}
theorem dd_get (HS : St w0 F S w) (k i : Nat) {ty : TypeId} {x : Operand} (ho : o.op = .load ty x) {r : Blk} (hk : S[k]? = some r) (hx : a.eval x = .pointer (some ⟨r.g, i, none⟩)) {v : Value} (hv : r.cs[i]? = some v) {d : TypeDesc} (hu : P.underlying ty = some d) (hd : d.isRow = false) : (execOp a.eval o).run P w = .ok (.value v) w :=
  dd_at ho hx ((HS.row k hk).get hv) hu hd
theorem dd_load (HS : St w0 F S w) (k i : Nat) {ty : TypeId} {x : Operand} (ho : o.op = .load ty x) {r : Blk} (hk : S[k]? = some r) (hx : a.eval x = .pointer (some ⟨r.g, i, none⟩)) {cs : Array Value} (hv : (r.cs.toList.drop i).take cs.size = cs.toList) {d : TypeDesc} (hu : P.underlying ty = some d) (hd : d.isRow = true) (hi : (P.info? ty).map (·.size) = some cs.size) : (execOp a.eval o).run P w = .ok (.value (.agg cs)) w := by
  have hc := (HS.row k hk).slab i cs.toList (by simpa using hv)
  unfold execOp
  simp only [ho, hx, Instr.loadAt, Instr.sureAddr, Sem.run_bind, Sem.run_pure, Result.andThen_ok, run_loadVar_mid w r.g i ty cs.toList d hc hu hd (by simpa using hi)]
theorem dd_atN {ty : TypeId} {x : Operand} (ho : o.op = .load ty x) {g i : Nat} (hx : a.eval x = .pointer (some ⟨g, i, none⟩)) {L : List Value} (hc : w.rangeAt g i L) {d : TypeDesc} (hu : P.underlying ty = some d) (hd : d.isRow = true) (hi : (P.info? ty).map (·.size) = some L.length) : (execOp a.eval o).run P w = .ok (.value (.agg L.toArray)) w := by
  unfold execOp
  simp only [ho, hx, Instr.loadAt, Instr.sureAddr, Sem.run_bind, Sem.run_pure, Result.andThen_ok, run_loadVar_mid w g i ty L d hc hu hd hi]
theorem dd_new (HS : St w0 F S w) {e : TypeId} (cs : Array Value) (ho : o.op = .alloc e) {z : Value} (hz : (P.info? e).bind (·.zero) = some z) (hc : z.cells = cs) (h : ∀ g w', St w0 F (S ++ [⟨g, e, cs⟩]) w' → R (.pointer (some ⟨g, 0, none⟩)) w') : Does P o a w R := fun _ _ hK =>
  wp_st_alloc HS e cs ho z hz hc fun g w' h1 => hK _ _ (h g w' h1)
theorem dd_box (HS : St w0 F S w) {e : TypeId} {x : Operand} (ho : o.op = .box e x) {v : Value} (hx : a.eval x = v) {cs : Array Value} (hc : v.cells = cs) (h : ∀ g w', St w0 F (S ++ [⟨g, e, cs⟩]) w' → R (.pointer (some ⟨g, 0, none⟩)) w') : Does P o a w R := fun _ _ hK =>
  wp_st_box HS e x ho v hx cs hc fun g w' h1 => hK _ _ (h g w' h1)
theorem dd_store (HS : St w0 F S w) (k i : Nat) {ty : TypeId} {x y : Operand} (ho : o.op = .store ty x y) {r : Blk} (hk : S[k]? = some r) (hx : a.eval x = .pointer (some ⟨r.g, i, none⟩)) {v : Value} (hy : a.eval y = v) (hi : (P.info? ty).map (·.size) = some v.cells.size) (hfit : i + v.cells.size ≤ r.cs.size) (h1 : v.cells.all (·.oneCell') = true)
    {cs : Array Value} (hcs : (spl r.cs.toList i v.cells.toList).toArray = cs) (h : ∀ w', St w0 F (S.set k ⟨r.g, r.t, cs⟩) w' → R undef w') : Does P o a w R := fun _ _ hK =>
  wp_st_store HS k i ty x y ho hk hx v hy hi hfit h1 cs hcs fun w' h1 => hK _ _ (h w' h1)
theorem dd_put (HS : St w0 F S w) (k i : Nat) {ty : TypeId} {x y : Operand} (ho : o.op = .store ty x y) {r : Blk} (hk : S[k]? = some r) (hx : a.eval x = .pointer (some ⟨r.g, i, none⟩)) {v : Value} (hy : a.eval y = v) (hi : (P.info? ty).map (·.size) = some 1) (hv : v.cells = #[v]) (h1 : v.oneCell' = true) (hfit : Nat.blt i r.cs.size = true)
    {cs : Array Value} (hcs : r.cs.setIfInBounds i v = cs) (h : ∀ w', St w0 F (S.set k ⟨r.g, r.t, cs⟩) w' → R undef w') : Does P o a w R := fun _ _ hK =>
  wp_st_put HS k i ty x y ho hk hx v hy hi hv h1 (Nat.le_of_ble_eq_true hfit) cs hcs fun w' h1 => hK _ _ (h w' h1)
/- calls -/
theorem dd_call {f : FuncId} {fn : Func} {xs : Array Operand} {ts : Array TypeId} {l : List Value} {R' : Ending → World → Prop} (hf : P.funcs[f]? = some fn) (hn : (fn.name == "runtime.NumGoroutine") = false) (hb : fn.body.isNone = false) (ho : o.op = .call { callee := .value (.func f), args := xs, argTypes := ts }) (hx : (xs.map a.eval) = l.toArray) (C : Calls P f l.toArray w R')
    (h : ∀ e w', R' e w' → ∃ v, e = .returned v ∧ R v w') : Does P o a w R := fun K Q hK => by
  have hcf : (callFunc f (#[] ++ l.toArray ++ #[])).run P w = .ok (.enter f l.toArray) w := by
    have hn' : ¬ fn.name = "runtime.NumGoroutine" := by simpa using hn
    have hb' : ¬ fn.body = none := fun e => by rw [e] at hb; cases hb
    simp [callFunc, hf, hn', hb']
  have he : execOp a.eval o = callFunc f (#[] ++ l.toArray ++ #[]) := by
    unfold execOp
    rw [ho]
    simp only [resolve, Act.eval, Deferred.ofValue]
    rw [← hx]
    rfl
  unfold Oper.wp
  rw [he, hcf]
  refine Calls.mono C fun e w' hr => ?_
  obtain ⟨v, rfl, hv⟩ := h e w' hr
  exact hK v w' hv
end
/- comparisons -/
theorem lt_t {m n : Int} (h : m < n) : cmpI .lss m n = some true := by simp [cmpI, h]
theorem lt_f {m n : Int} (h : ¬ m < n) : cmpI .lss m n = some false := by simp [cmpI]; omega
theorem gt_t {m n : Int} (h : n < m) : cmpI .gtr m n = some true := by simp [cmpI, h]
theorem gt_f {m n : Int} (h : ¬ n < m) : cmpI .gtr m n = some false := by simp [cmpI]; omega
theorem eq_t {m n : Int} (h : m = n) : cmpI .eql m n = some true := by simp [cmpI, h]
theorem eq_f {m n : Int} (h : ¬ m = n) : cmpI .eql m n = some false := by simp [cmpI, h]
theorem ne_t {m n : Int} (h : ¬ m = n) : cmpI .neq m n = some true := by simp [cmpI, h]
theorem ne_f {m n : Int} (h : m = n) : cmpI .neq m n = some false := by simp [cmpI, h]
end Go.Proofs.Ytlpfdghciegnnaa

/- Memory in a walk: rows side by side, literals, slices of the call's own that grow. No function of the program is named here. -/
set_option maxRecDepth 4000
namespace Go.Proofs.Ytlpfdghciegnnaa
open Go Go.RowKit
/- cells as pieces, one behind the other -/
def catA (L : List (List Value)) : Array Value := L.flatten.toArray
theorem lens_nil : ([] : List (List Value)).map List.length = [] := rfl
theorem lens_cons {l : List Value} {L : List (List Value)} {n : Nat} {ns : List Nat} (h : l.length = n) (t : L.map List.length = ns) : (l :: L).map List.length = n :: ns := by rw [List.map_cons, h, t]
theorem len_bv {q : List (BitVec 8)} {n : Nat} (h : q.length = n) : (bytesV q).length = n := by rw [len_bytesV, h]
section
variable {L M : List (List Value)} {ns : List Nat}
theorem cat_size (h : L.map List.length = ns) : (catA L).size = ns.sum := by unfold catA; rw [List.size_toArray, List.length_flatten, h]
theorem take_sum (h : L.map List.length = ns) (j : Nat) : (L.take j).flatten.length = (ns.take j).sum := by rw [List.length_flatten, List.map_take, h]
theorem cat_split (L : List (List Value)) (j : Nat) : L.flatten = (L.take j).flatten ++ (L.drop j).flatten := by rw [← List.flatten_append, List.take_append_drop]
theorem cat_store (h : L.map List.length = ns) (j m : Nat) {off : Nat} (ho : (ns.take j).sum = off) (hm : M.flatten.length = ((ns.drop j).take m).sum) : (spl (catA L).toList off M.flatten).toArray = catA (L.take j ++ M ++ L.drop (j + m)) := by
  unfold catA spl
  have e1 : (L.take j).flatten.length = off := by rw [take_sum h j, ho]
  have e2 : ((L.drop j).take m).flatten.length = M.flatten.length := by rw [hm, List.length_flatten, List.map_take, List.map_drop, h]
  rw [List.flatten_append, List.flatten_append]
  congr 1
  rw [cat_split L j, List.take_left' e1, List.append_assoc, List.append_assoc]
  congr 2
  rw [← List.drop_drop, List.drop_left' e1, cat_split (L.drop j) m, List.drop_left' e2, List.drop_drop]
theorem cat_store1 (h : L.map List.length = ns) (j : Nat) {off n : Nat} {cs : Array Value} (ho : (ns.take j).sum = off) (hm : cs.size = n) (hn : ns[j]? = some n) : (spl (catA L).toList off (Value.agg cs).cells.toList).toArray = catA (L.set j cs.toList) := by
  have hj : j < ns.length := (List.getElem?_eq_some_iff.1 hn).1
  have hjL : j < L.length := by rw [← h] at hj; simpa using hj
  have e := cat_store (M := [cs.toList]) h j 1 ho (by
    rw [List.drop_eq_getElem_cons hj, List.take_succ_cons, List.take_zero]
    have := (List.getElem?_eq_some_iff.1 hn).2
    simp [this, hm])
  have e3 : (Value.agg cs).cells.toList = [cs.toList].flatten := by simp [Value.cells]
  rw [e3, e, List.set_eq_take_append_cons_drop, if_pos hjL]
  simp
theorem cat_put (h : L.map List.length = ns) (j : Nat) {off : Nat} {v : Value} (ho : (ns.take j).sum = off) (hn : ns[j]? = some 1) : (catA L).setIfInBounds off v = catA (L.set j [v]) := by
  have hj : j < ns.length := (List.getElem?_eq_some_iff.1 hn).1
  have hjL : j < L.length := by rw [← h] at hj; simpa using hj
  have hlt : off < (catA L).size := by
    rw [cat_size h, ← ho]
    have e := List.take_append_drop j ns
    rw [← e, List.sum_append]
    rw [List.take_left' (by simp; omega), List.drop_eq_getElem_cons hj]
    have := (List.getElem?_eq_some_iff.1 hn).2
    simp [this]; omega
  rw [← spl_at _ _ _ hlt]
  have e := cat_store (M := [[v]]) h j 1 ho (by
    rw [List.drop_eq_getElem_cons hj, List.take_succ_cons, List.take_zero]
    have := (List.getElem?_eq_some_iff.1 hn).2
    simp [this])
  simp only [List.flatten_cons, List.flatten_nil, List.append_nil] at e
  rw [e, List.set_eq_take_append_cons_drop, if_pos hjL]
  simp
theorem cat_one (h : ∀ l ∈ L, ∀ v ∈ l, Value.oneCell' v = true) : (Value.agg (catA L)).cells.all (·.oneCell') = true := by
  show (catA L).all _ = true
  unfold catA
  simp only [List.all_toArray, List.all_eq_true, List.mem_flatten]
  rintro v ⟨l, hl, hv⟩
  exact h l hl v hv
end
/- literals of structs and arrays, field by field; what is not given is zero -/
def setSegs : List (List Value) → List (Nat × Value) → List (List Value)
  | L, [] => L
  | L, (i, v) :: r => setSegs (L.set i v.cells.toList) r
def zsegs (P : Program) (t : TypeId) : Option (List (List Value)) :=
  match P.info? t, P.underlying t with
  | some it, some (.struct fields) => match it.zero, fields.toList.mapM (fun f => (P.info? f.type).map fun i => (f.offset, i.size)) with
    | some z, some places => if fits 0 (places.map (·.2)) places && ((places.map (·.2)).sum == z.cells.size) then some (places.map fun p => (z.cells.toList.drop p.1).take p.2) else none
    | _, _ => none
  | _, _ => none
theorem set_same {l : List Nat} {i : Nat} {x : Nat} (h : l[i]? = some x) : l.set i x = l := by
  apply List.ext_getElem?
  intro k
  by_cases hk : i = k
  · subst hk
    rw [List.getElem?_set_self (List.getElem?_eq_some_iff.1 h).1, h]
  · rw [List.getElem?_set_ne hk]
theorem fill_segs (place : Nat → Option (Nat × Nat)) : ∀ (ps : List (Nat × Value)) (L : List (List Value)) (ns : List Nat), L.map List.length = ns → (∀ i s, ns[i]? = some s → place i = some ((ns.take i).sum, s)) → (∀ p ∈ ps, ns[p.1]? = some p.2.cells.size) →
    Instr.fill place (catA L) ps = some (catA (setSegs L ps))
  | [], L, ns, _, _, _ => by simp [Instr.fill, setSegs]
  | (i, v) :: ps, L, ns, h, hp, hf => by
    have h1 := hf (i, v) (by simp)
    have hplace := hp i _ h1
    simp only at h1 hplace
    have hi : i < ns.length := (List.getElem?_eq_some_iff.1 h1).1
    have hv : v.cells.toList.length = v.cells.size := Array.length_toList
    have hle : (ns.take i).sum + v.cells.size ≤ (catA L).size := by
      rw [cat_size h]
      have e := congrArg List.sum (List.take_append_drop i ns)
      rw [List.sum_append, List.drop_eq_getElem_cons hi, List.sum_cons, (List.getElem?_eq_some_iff.1 h1).2] at e
      omega
    have e := fill_set (ns.take i).sum v.cells (catA L) hle
    have e2 := cat_store1 (L := L) (cs := v.cells) h i rfl rfl h1
    have e3 : (Value.agg v.cells).cells.toList = v.cells.toList := rfl
    rw [e3] at e2
    simp only [Instr.fill, hplace]
    rw [if_neg (by simp; omega), e, e2, setSegs]
    refine fill_segs place ps _ ns ?_ hp fun p hp => hf p (by simp [hp])
    rw [List.map_set, h, hv]
    exact set_same h1
theorem zsegs_flat {P : Program} {t : TypeId} {Lz : List (List Value)} (hz : zsegs P t = some Lz) (ps : List (Nat × Value)) (hf : ∀ p ∈ ps, (Lz.map List.length)[p.1]? = some p.2.cells.size) : P.built t ps = some (catA (setSegs Lz ps)) := by
  unfold zsegs at hz
  unfold Program.built
  cases hit : P.info? t with
  | none => simp [hit] at hz
  | some it =>
    cases hu : P.underlying t with
    | none => simp [hit, hu] at hz
    | some d =>
      cases d <;> try (simp [hit, hu] at hz; done)
      case struct fields =>
        simp only [hit, hu] at hz ⊢
        cases hzz : it.zero with
        | none => simp [hzz] at hz
        | some z =>
          cases hm : fields.toList.mapM (fun f => (P.info? f.type).map fun i => (f.offset, i.size)) with
          | none => simp [hzz, hm] at hz
          | some pl =>
            simp only [hzz, hm] at hz ⊢
            split at hz
            · rename_i hc
              simp only [Bool.and_eq_true, beq_iff_eq] at hc
              obtain ⟨hfit, hsum⟩ := hc
              injection hz with hz
              have hzl : z.cells.toList.length = z.cells.size := Array.length_toList
              have hat := fits_at _ 0 pl hfit
              have hlens : Lz.map List.length = pl.map (·.2) := by
                rw [← hz, List.map_map]
                refine List.map_congr_left fun p hp => ?_
                obtain ⟨k, hk⟩ := List.getElem?_of_mem hp
                have h2 := hat k p.2 (by simp [hk])
                rw [hk] at h2
                injection h2 with h2
                have h3 : p.1 = ((pl.map (·.2)).take k).sum := by rw [h2]; simp
                have hlt : k < (pl.map (·.2)).length := by have := (List.getElem?_eq_some_iff.1 hk).1; simpa using this
                have e := congrArg List.sum (List.take_append_drop k (pl.map (·.2)))
                rw [List.sum_append, List.drop_eq_getElem_cons hlt, List.sum_cons] at e
                have h4 : (pl.map (·.2))[k] = p.2 := by have := (List.getElem?_eq_some_iff.1 hk).2; simp [this]
                simp only [Function.comp, List.length_take, List.length_drop]
                omega
              have hflat : ∀ (ss : List Nat) (o : Nat) (pl : List (Nat × Nat)) (l : List Value), fits o ss pl = true → (pl.map fun p => (l.drop p.1).take p.2).flatten = (l.drop o).take ss.sum := by
                intro ss
                induction ss with
                | nil => intro o pl l h
                         cases pl with
                         | nil => simp
                         | cons => simp [fits] at h
                | cons s ss ih =>
                  intro o pl l h
                  cases pl with
                  | nil => simp [fits] at h
                  | cons p pl =>
                    obtain ⟨o', s'⟩ := p
                    simp only [fits, Bool.and_eq_true, beq_iff_eq] at h
                    obtain ⟨⟨rfl, rfl⟩, h⟩ := h
                    simp only [List.map_cons, List.flatten_cons, List.sum_cons]
                    rw [ih _ _ _ h, List.take_add, List.drop_drop]
              have hcat : catA Lz = z.cells := by
                unfold catA
                rw [← hz, hflat _ 0 pl _ hfit, List.drop_zero, hsum, List.take_of_length_le (by omega)]
              rw [← hcat]
              refine fill_segs _ ps Lz _ rfl (fun i s hs => ?_) hf
              rw [hlens] at hs ⊢
              rw [List.getElem?_toArray, hat i s hs, Nat.zero_add]
            · cases hz
section
variable {P : Program} {o : Oper} {a : Act} {w : World} {R : Value → World → Prop}
theorem fit_nil {ns : List Nat} : ∀ p ∈ ([] : List (Nat × Value)), ns[p.1]? = some p.2.cells.size := fun p h => by cases h
theorem fit_cons {ns : List Nat} {i n : Nat} {v : Value} {ps : List (Nat × Value)} (h : ns[i]? = some n) (hv : v.cells.size = n) (t : ∀ p ∈ ps, ns[p.1]? = some p.2.cells.size) : ∀ p ∈ (i, v) :: ps, ns[p.1]? = some p.2.cells.size := fun p hp => by
  cases hp with
  | head => rw [h, hv]
  | tail _ hp => exact t p hp
theorem dd_bld {t : TypeId} {parts : Array (Nat × Operand)} {ps : List (Nat × Value)} {Lz : List (List Value)} {ns : List Nat} {cs : Array Value} (ho : o.op = .build t parts) (hp : (parts.map fun (i, x) => (i, a.eval x)).toList = ps) (hz : zsegs P t = some Lz) (hL : Lz.map List.length = ns) (hf : ∀ p ∈ ps, ns[p.1]? = some p.2.cells.size)
    (hc : catA (setSegs Lz ps) = cs) : (execOp a.eval o).run P w = .ok (.value (.agg cs)) w := by
  subst hL hc
  have hb := zsegs_flat hz ps hf
  rw [← hp] at hb ⊢
  unfold execOp
  simp only [ho, Sem.run_bind, run_build w t _ _ hb, Result.andThen_ok, Sem.run_pure]
end
/- slices of the call's own: the block that they lie in -/
structure OwnC (cb : Array Value) (c n sz : Nat) (L : List Value) : Prop where
  le : n ≤ c
  cap : c ≤ maxLen
  size : cb.size = c * sz
  len : L.length = n * sz
  take : cb.toList.take (n * sz) = L
theorem ownc_to {w : World} {g e c n sz b : Nat} {cb : Array Value} {L : List Value} (h : Row w g e cb) (O : OwnC cb c n sz L) (hb : b ≤ g) : w.ownsRow b e sz (.slice (some ⟨g, 0, none⟩) n c) n L :=
  ⟨O.len, .inr ⟨g, c, cb, rfl, hb, h, O.le, O.cap, O.size, O.take⟩⟩
theorem ownc_of {w : World} {b e n sz : Nat} {v : Value} {L : List Value} (h : w.ownsRow b e sz v n L) (h0 : v ≠ .slice none 0 0) : ∃ g c cb, v = .slice (some ⟨g, 0, none⟩) n c ∧ b ≤ g ∧ Row w g e cb ∧ OwnC cb c n sz L := by
  obtain ⟨hl, h | ⟨g, cap, cur, h1, h2, h3, h4, h5, h6, h7⟩⟩ := h
  · exact absurd h.1 h0
  · exact ⟨g, cap, cur, h1, h2, h3, h4, h5, h6, hl, h7⟩
theorem ownc_pos {w : World} {b e n sz : Nat} {v : Value} {L : List Value} (h : w.ownsRow b e sz v n L) (h0 : 0 < n) : ∃ g c cb, v = .slice (some ⟨g, 0, none⟩) n c ∧ b ≤ g ∧ Row w g e cb ∧ OwnC cb c n sz L := by
  refine ownc_of h fun e => ?_
  rcases h.2 with h | ⟨g, cap, cur, h1, _⟩
  · omega
  · rw [e] at h1; cases h1
/- memory as a list of blocks: one goes, one comes -/
theorem st_erase {w0 w : World} {F : Nat → Prop} {S : List Blk} (h : St w0 F S w) (k : Nat) : St w0 F (S.eraseIdx k) w := by
  have at_ : ∀ j r, (S.eraseIdx k)[j]? = some r → ∃ i, S[i]? = some r ∧ i = (if j < k then j else j + 1) := fun j r hj => by
    rw [List.getElem?_eraseIdx] at hj
    split at hj
    · exact ⟨j, hj, by rw [if_pos (by assumption)]⟩
    · exact ⟨j + 1, hj, by rw [if_neg (by assumption)]⟩
  refine ⟨h.chg, fun j r hj => ?_, fun i j r s hij hi hj => ?_, fun j r hj => ?_⟩
  · obtain ⟨i, hi, _⟩ := at_ j r hj; exact h.rows i r hi
  · obtain ⟨i', hi', ei⟩ := at_ i r hi
    obtain ⟨j', hj', ej⟩ := at_ j s hj
    refine h.apart i' j' r s (fun e => hij ?_) hi' hj'
    rw [ei, ej] at e
    split at e <;> split at e <;> omega
  · obtain ⟨i, hi, _⟩ := at_ j r hj; exact h.own i r hi
theorem St.joins {w0 W W' : World} {F : Nat → Prop} {S : List Blk} (h : St w0 F S W) (hb : Below W.heap.size W W') {g : Nat} {t : TypeId} {cs : Array Value} (hr : Row W' g t cs) (hg : W.heap.size ≤ g) : St w0 F (S ++ [⟨g, t, cs⟩]) W' :=
  (h.same hb).join hr (Nat.le_trans h.chg.size hg) fun b hm e => by have := h.lt hm; omega
theorem st_snoc {w0 w : World} {F : Nat → Prop} {S : List Blk} (h : St w0 F S w) {g : Nat} {t : TypeId} {cs : Array Value} (hr : Row w g t cs) (hg : F g ∨ w0.heap.size ≤ g) (hne : ∀ b ∈ S, b.g ≠ g) : St w0 F (S ++ [⟨g, t, cs⟩]) w := by
  have at_ : ∀ (j : Nat) (s : Blk), (S ++ [(⟨g, t, cs⟩ : Blk)])[j]? = some s → (j < S.length ∧ S[j]? = some s) ∨ (j = S.length ∧ s = ⟨g, t, cs⟩) := fun j s hj => by
    by_cases e : j < S.length
    · rw [List.getElem?_append_left e] at hj; exact .inl ⟨e, hj⟩
    · rw [List.getElem?_append_right (by omega)] at hj
      have e2 : j - S.length = 0 := by
        rcases Nat.eq_zero_or_pos (j - S.length) with h0 | h0
        · exact h0
        · rw [List.getElem?_eq_none (by simp; omega)] at hj; cases hj
      rw [e2] at hj
      exact .inr ⟨by omega, (Option.some.inj hj).symm⟩
  refine ⟨h.chg, fun j s hj => ?_, fun i j s u hij hi hj => ?_, fun j s hj => ?_⟩
  · rcases at_ j s hj with ⟨_, hk⟩ | ⟨_, rfl⟩
    · exact h.rows j s hk
    · exact hr
  · rcases at_ i s hi with ⟨_, hk⟩ | ⟨e1, rfl⟩ <;> rcases at_ j u hj with ⟨_, hu⟩ | ⟨e2, rfl⟩
    · exact h.apart _ _ _ _ hij hk hu
    · exact hne s (List.mem_of_getElem? hk)
    · exact fun e => hne u (List.mem_of_getElem? hu) e.symm
    · omega
  · rcases at_ j s hj with ⟨_, hk⟩ | ⟨_, rfl⟩
    · exact h.own j s hk
    · exact hg
section
variable {P : Program} {o : Oper} {a : Act} {w w0 : World} {R : Value → World → Prop} {F : Nat → Prop} {S : List Blk}
/- a literal slice -/
theorem dd_lits (HS : St w0 F S w) {t e : TypeId} {len : Nat} {parts : Array (Nat × Operand)} (cells : Array Value) (ho : o.op = .buildSlice t len parts) {ps : List (Nat × Value)} (hp : (parts.map fun (i, x) => (i, a.eval x)).toList = ps) {z : Value} {sz : Nat}
    (hu : P.underlying t = some (.slice e)) (hie : (P.info? e).map (fun i => (i.zero, i.size)) = some (some z, sz)) (hpos : Nat.blt 0 (len * sz) = true) (hsmall : Nat.ble (len * sz) 16777216 = true)
    (hf : Instr.fill (fun i => some (i * sz, sz)) ((Array.range (len * sz)).map (z.cells[· % z.cells.size]!)) ps = some cells)
    (h : ∀ g w', St w0 F (S ++ [⟨g, e, cells⟩]) w' → R (.slice (some ⟨g, 0, none⟩) len len) w') : Does P o a w R := fun _ _ hK => by
  obtain ⟨ie, hi, he⟩ := Option.map_eq_some_iff.1 hie
  injection he with hz hsz
  subst hsz
  have h1 := Nat.le_of_ble_eq_true hsmall
  have h2 : 0 < len * ie.size := Nat.le_of_ble_eq_true hpos
  exact wp_buildSlice t e len parts ho cells ie z hu hi hz (by omega) (by omega) (by rw [hp]; exact hf) (hK _ _ (h _ _ (HS.snoc e cells)))
/- append to a slice whose block is known -/
theorem dd_app (HS : St w0 F S w) (k : Nat) {g c n sz : Nat} {cb : Array Value} {e t : TypeId} {L : List Value} (hk : S[k]? = some ⟨g, e, cb⟩) (O : OwnC cb c n sz L) {s x : Operand} (ho : o.op = .call { callee := .builtin .append, args := #[s, x], argTypes := #[t, t] })
    (hs : a.eval s = .slice (some ⟨g, 0, none⟩) n c) {z : Value} {bytes : Nat} (ht : P.underlying t = some (.slice e)) (hi : (P.info? e).map (fun i => (i.zero, i.size, i.bytes)) = some (some z, sz, bytes)) (hzs : z.cells.size = sz) (hsz : 0 < sz)
    {ad : Addr} {m c2 : Nat} (news : List Value) (hx : a.eval x = .slice (some ad) m c2) (hl : news.length = m * sz) (hnews : ∀ j u, news[j]? = some u → w.cell? (ad.add j) = some u) (h1 : ∀ u ∈ news, u.oneCell' = true)
    (h63 : n + m ≤ maxLen) (hbytes : (n + m) * bytes ≤ 140737488355328)
    (h : ∀ g' c' cb' w', OwnC cb' c' (n + m) sz (L ++ news) → St w0 F (S.eraseIdx k ++ [⟨g', e, cb'⟩]) w' → R (.slice (some ⟨g', 0, none⟩) (n + m) c') w') : Does P o a w R := fun _ _ hK => by
  have hrow := HS.row k hk
  have hown := ownc_to hrow O (Nat.zero_le g)
  obtain ⟨i, hi1, hz1, hz2, hz3⟩ := info_parts hi
  obtain ⟨v', w', hr, h2, h3, h4⟩ := run_append_where (P := P) w 0 t o.type e i z sz bytes ht hi1 hz1 hz2 hz3 hzs hsz _ n L hown ad m c2 news hl hnews h1 h63 hbytes (Nat.zero_le _)
  obtain ⟨v3, w3, hr3, _, _, h6⟩ := run_append_own (P := P) w 0 t o.type e i z sz bytes ht hi1 hz1 hz2 hz3 hzs hsz _ n L hown ad m c2 news hl hnews h1 h63 hbytes (Nat.zero_le _)
  rw [hr] at hr3
  injection hr3 with hr3 _
  subst hr3
  obtain ⟨g', c', cb', rfl, _, hrow', O'⟩ := ownc_of h2 (fun ev => by have := (h6.1 ev).1; cases this)
  have hne : ∀ j r, S[j]? = some r → j ≠ k → r.g ≠ g' := fun j r hj hjk e' => by
    have hjr := HS.rows j r hj
    rcases h4.cases (k := g') rfl with h5 | h5
    · injection h5 with h5
      have h5 : g = g' := h5
      exact HS.apart j k r _ hjk hj hk (by rw [e', ← h5])
    · have := hjr.lt; omega
  have hS1 : St w0 F (S.eraseIdx k) w' := by
    have hE := st_erase HS k
    have hg : F g ∨ w0.heap.size ≤ g := HS.own k _ hk
    have hrows : ∀ b ∈ S.eraseIdx k, b.g ≠ g := fun b hb e' => by
      obtain ⟨j, hj⟩ := List.getElem?_of_mem hb
      rw [List.getElem?_eraseIdx] at hj
      split at hj
      · exact HS.apart j k b _ (by omega) hj hk e'
      · exact HS.apart (j + 1) k b _ (by omega) hj hk e'
    exact ⟨hE.chg.grown h3 (fun j e' => by injection e' with e'; have e' : g = j := e'; subst e'; exact hg), fun j r hj => (hE.rows j r hj).only h3 (hrows r (List.mem_of_getElem? hj)), hE.apart, hE.own⟩
  have hg' : F g' ∨ w0.heap.size ≤ g' := by
    rcases h4.cases (k := g') rfl with h5 | h5
    · injection h5 with h5
      have h5 : g = g' := h5
      rw [← h5]; exact HS.own k _ hk
    · exact .inr (Nat.le_trans HS.chg.size h5)
  have hS2 := st_snoc hS1 hrow' hg' (fun b hb => by
    obtain ⟨j, hj⟩ := List.getElem?_of_mem hb
    rw [List.getElem?_eraseIdx] at hj
    split at hj
    · exact hne j b hj (by omega)
    · exact hne (j + 1) b hj (by omega))
  unfold Oper.wp execOp
  simp only [ho, resolve, invoke, builtin, Sem.run_bind, Sem.run_pure, Result.andThen_ok, List.map_toArray, List.map_cons, List.map_nil, hs, hx, hr]
  exact hK _ _ (h g' c' cb' w' O' hS2)
theorem dd_setrow (HS : St w0 F S w) (k : Nat) {ty : TypeId} {x y : Operand} (ho : o.op = .store ty x y) {g n : Nat} {t : TypeId} {old cs : Array Value} (hk : S[k]? = some ⟨g, t, old⟩) (hx : a.eval x = .pointer (some ⟨g, 0, none⟩)) (hy : a.eval y = .agg cs) (hi : (P.info? ty).map (·.size) = some n) (hn : cs.size = n) (hn2 : old.size = n) (h1 : (Value.agg cs).cells.all (·.oneCell') = true)
    (h : ∀ w', St w0 F (S.set k ⟨g, t, cs⟩) w' → R undef w') : Does P o a w R :=
  dd_store HS k 0 ho hk hx hy (by rw [hi, show (Value.agg cs).cells.size = n from hn]) (by show 0 + cs.size ≤ old.size; omega) h1 (spl_agg _ _ _ rfl (by show old.size = cs.size; omega)) h
end
def Ones (L : List (List Value)) : Prop := ∀ l ∈ L, ∀ v ∈ l, Value.oneCell' v = true
theorem ones_nil : Ones [] := fun l h => by cases h
theorem ones_cons {l : List Value} {L : List (List Value)} (h : ∀ v ∈ l, Value.oneCell' v = true) (t : Ones L) : Ones (l :: L) := fun m hm => by
  cases hm with
  | head => exact h
  | tail _ hm => exact t m hm
theorem ones_c {v : Value} (h : Value.oneCell' v = true) : ∀ u ∈ [v], Value.oneCell' u = true := fun u hu => by
  cases hu with
  | head => exact h
  | tail _ hu => cases hu
theorem all_one {cs : Array Value} (h : (Value.agg cs).cells.all (·.oneCell') = true) : ∀ v ∈ cs.toList, Value.oneCell' v = true := fun v hv => (Array.all_eq_true_iff_forall_mem.1 h) v (by simpa [Value.cells] using hv)
theorem ao_nil : ∀ v ∈ ([] : List Value), Value.oneCell' v = true := fun v h => by cases h
theorem ao_cons {v : Value} {l : List Value} (h : Value.oneCell' v = true) (t : ∀ v ∈ l, Value.oneCell' v = true) : ∀ u ∈ v :: l, Value.oneCell' u = true := fun u hu => by
  cases hu with
  | head => exact h
  | tail _ hu => exact t u hu
theorem one_l {l : List Value} (h : ∀ v ∈ l, Value.oneCell' v = true) : (Value.agg l.toArray).cells.all (·.oneCell') = true := by
  show l.toArray.all _ = true
  simpa using h
theorem args0 {f : Operand → Value} : (#[] : Array Operand).map f = ([] : List Value).toArray := by simp
theorem args1 {f : Operand → Value} {x1 : Operand} {v1 : Value} (h1 : f x1 = v1) : (#[x1] : Array Operand).map f = [v1].toArray := by simp [h1]
theorem args2 {f : Operand → Value} {x1 x2 : Operand} {v1 v2 : Value} (h1 : f x1 = v1) (h2 : f x2 = v2) : (#[x1, x2] : Array Operand).map f = [v1, v2].toArray := by simp [h1, h2]
theorem pr1 {i : Nat} {f : Operand → Value} {x : Operand} {v : Value} {l : List (Nat × Operand)} {ps : List (Nat × Value)} (h : f x = v) (t : (l.toArray.map fun (i, x) => (i, f x)).toList = ps) : (((i, x) :: l).toArray.map fun (i, x) => (i, f x)).toList = (i, v) :: ps := by
  simp only [List.map_toArray, List.map_cons, h] at *
  simpa using t
theorem pr0 {f : Operand → Value} : (([] : List (Nat × Operand)).toArray.map fun (i, x) => (i, f x)).toList = [] := by simp
/- bytes that a slice reads, as what is appended -/
theorem slice_news {w : World} {ad : Addr} {m c : Nat} {q : List (BitVec 8)} (h : Slice w (.slice (some ad) m c) q) : ∀ (j : Nat) (u : Value), (bytesV q)[j]? = some u → w.cell? (ad.add j) = some u := fun j u hu => by
  have hj : j < (bytesV q).length := (List.getElem?_eq_some_iff.1 hu).1
  rw [len_bytesV] at hj
  obtain ⟨A, c', e, _, h3⟩ := h
  injection e with e1 _ _
  subst e1
  obtain ⟨b, o, e2, _, h4⟩ := h3 (fun e => by rw [e] at hj; simp at hj)
  injection e2 with e2
  subst e2
  have h5 := h4 j q[j] (List.getElem?_eq_getElem hj)
  rw [Addr.add_mid, h5]
  simp [bytesV, List.getElem?_eq_getElem hj] at hu
  rw [hu]
theorem len_app {p q : List (BitVec 8)} {n m : Nat} (h : p.length = n) (k : q.length = m) : (p ++ q).length = n + m := by rw [List.length_append, h, k]
theorem slice_own {w : World} {g c n : Nat} {cb : Array Value} {t : TypeId} {q : List (BitVec 8)} (h : Row w g t cb) (O : OwnC cb c n 1 (bytesV q)) (hq : q.length = n) : Slice w (.slice (some ⟨g, 0, none⟩) n c) q := by
  subst hq
  refine ⟨_, c, rfl, O.le, fun _ => ⟨g, 0, rfl, h.lt, fun j x hx => ?_⟩⟩
  have hj : j < q.length := (List.getElem?_eq_some_iff.1 hx).1
  rw [Nat.zero_add]
  refine h.get ?_
  have h1 := O.take
  rw [Nat.mul_one] at h1
  rw [← Array.getElem?_toList, ← List.getElem?_take_of_lt hj, h1]
  simp [bytesV, hx]
theorem item_own {w : World} {g c n : Nat} {cb : Array Value} {t : TypeId} {q : List (BitVec 8)} (h : Row w g t cb) (O : OwnC cb c n 1 (bytesV q)) (hq : q.length = n) : Item w (.slice (some ⟨g, 0, none⟩) n c) q :=
  ⟨_, c, by rw [hq], by rw [hq]; exact slice_own h O hq, fun h => (by cases h), by rw [hq]; exact Nat.le_trans O.le O.cap⟩
theorem slice_nil0 (w : World) : Slice w (.slice none 0 0) [] := ⟨none, 0, rfl, Nat.le_refl _, fun h => absurd rfl h⟩
theorem row_news {w : World} {g : Nat} {t : TypeId} {cs : Array Value} (h : Row w g t cs) (o : Nat) {L : List Value} (hL : (cs.toList.drop o).take L.length = L) : ∀ (j : Nat) (u : Value), L[j]? = some u → w.cell? ((⟨g, o, none⟩ : Addr).add j) = some u := fun j u hu => by
  rw [Addr.add_mid]; exact h.slab o L hL j u hu
theorem ownc_app {cb : Array Value} {c n : Nat} {p q : List (BitVec 8)} (h : OwnC cb c n 1 (bytesV p ++ bytesV q)) : OwnC cb c n 1 (bytesV (p ++ q)) := (show bytesV (p ++ q) = bytesV p ++ bytesV q by simp [bytesV]) ▸ h
section
variable {P : Program} {o : Oper} {a : Act} {w : World} {R : Value → World → Prop}
theorem dd_slA {t : TypeId} {x : Operand} {g i n sz : Nat} (ho : o.op = .slice t x none none none) (hx : a.eval x = .pointer (some ⟨g, i, none⟩)) (ht : arrOf P t = some (n, sz)) : (execOp a.eval o).run P w = .ok (.value (.slice (some ⟨g, i, none⟩) n n)) w := by
  unfold arrOf at ht
  cases hu : P.underlying t with
  | none => rw [hu] at ht; cases ht
  | some d =>
    rw [hu] at ht
    cases d with
    | array n' e =>
      simp only at ht
      cases hq : P.info? e with
      | none => rw [hq] at ht; cases ht
      | some inf =>
        rw [hq] at ht
        simp only [Option.map_some, Option.some.injEq, Prod.mk.injEq] at ht
        obtain ⟨rfl, rfl⟩ := ht
        simp [execOp, ho, hx, Instr.sliceAt, Instr.sureAddr, run_underlying hu, sizeOf, typeInfo, hq, Instr.sliceBounds, Addr.add_mid]
    | _ => simp only at ht; cases ht
theorem dd_sllh {t : TypeId} {x lo hi : Operand} {g i n c sz j : Nat} {k k' : IntKind} {l u : Nat} (ho : o.op = .slice t x (some lo) (some hi) none) (hx : a.eval x = .slice (some ⟨g, i, none⟩) n c) (hl : a.eval lo = .int k (l : Int)) (hh : a.eval hi = .int k' (u : Int)) (ht : slOf P t = some sz) (h1 : l ≤ u) (h2 : u ≤ c) (h3 : l < c) (hj : i + l * sz = j) {n' c' : Nat} (hn : u - l = n') (hc : c - l = c')
    : (execOp a.eval o).run P w = .ok (.value (.slice (some ⟨g, j, none⟩) n' c')) w := by
  subst hj hn hc
  unfold slOf at ht
  cases hu : P.underlying t with
  | none => rw [hu] at ht; cases ht
  | some d =>
    rw [hu] at ht
    cases d with
    | slice e =>
      simp only at ht
      cases hq : P.info? e with
      | none => rw [hq] at ht; cases ht
      | some inf =>
        rw [hq] at ht
        simp only [Option.map_some, Option.some.injEq] at ht
        subst ht
        have e3 : ¬ c = l := by omega
        simp [execOp, ho, hx, hl, hh, Instr.sliceAt, run_underlying hu, Instr.slice, Instr.sliceBounds, Instr.sliceBound, asIntOf, sizeOf, typeInfo, hq, h1, h2, e3, Addr.add_mid]
    | _ => simp only at ht; cases ht
theorem dd_sll {t : TypeId} {x lo : Operand} {g i n c sz j : Nat} {k : IntKind} {l : Nat} (ho : o.op = .slice t x (some lo) none none) (hx : a.eval x = .slice (some ⟨g, i, none⟩) n c) (hl : a.eval lo = .int k (l : Int)) (ht : slOf P t = some sz) (h1 : l ≤ n) (h3 : l < c) (hj : i + l * sz = j) {n' c' : Nat} (hn : n - l = n') (hc : c - l = c')
    : (execOp a.eval o).run P w = .ok (.value (.slice (some ⟨g, j, none⟩) n' c')) w := by
  subst hj hn hc
  unfold slOf at ht
  cases hu : P.underlying t with
  | none => rw [hu] at ht; cases ht
  | some d =>
    rw [hu] at ht
    cases d with
    | slice e =>
      simp only at ht
      cases hq : P.info? e with
      | none => rw [hq] at ht; cases ht
      | some inf =>
        rw [hq] at ht
        simp only [Option.map_some, Option.some.injEq] at ht
        subst ht
        have e3 : ¬ c = l := by omega
        have e1 : l ≤ n := h1
        simp [execOp, ho, hx, hl, Instr.sliceAt, run_underlying hu, Instr.slice, Instr.sliceBounds, Instr.sliceBound, asIntOf, sizeOf, typeInfo, hq, e1, e3, Addr.add_mid]
    | _ => simp only at ht; cases ht
end
end Go.Proofs.Ytlpfdghciegnnaa

/- Regions that draw, order by order, what only reads taken first; ways that meet again. No function of the program is named here. -/
set_option maxRecDepth 4000
namespace Go.Proofs.Ytlpfdghciegnnaa
open Go Go.RowKit
def PQ (Q : Exit → Act → World → Prop) : Prop := ∀ c (a : Act) (d : Option Tmp) (v : Value) (w : World), Q (.panic c) (a.put d v) w → Q (.panic c) a w
theorem pq_then {K : Act → World → Prop} {Q : Exit → Act → World → Prop} (h : PQ Q) : PQ (Exit.then K Q) := h
theorem pq_block {id : Nat} {Q : Exit → Act → World → Prop} (h : PQ Q) : PQ (Exit.inBlock id Q) := h
theorem pq_body {P : Program} {fn : Func} {R : Ending → World → Prop} : PQ (bodyPost P fn R) := fun c a d v w h => by
  cases d <;> exact h
section
variable {P : Program} {Q : Exit → Act → World → Prop} {ops : Array Oper} {o : Oper} {N i fuel : Nat} {L : List (Nat × Value)} {a : Act} {w : World} {listed : Array Bool} {S : World → Prop}
theorem wp_held {id : Nat} {l : List Oper} {M : Nat} (S : World → Prop) (hm : P.follows .mixedOrders = true) (hM : l.length = M) (h : wpAnyH P .any l.toArray Q S M (Array.replicate M false) a w.drew) : (Code.region id l.toArray true).wp P Q a w := by
  subst hM
  refine wp_region_held (S := S) hm ?_
  have e : l.toArray.size = l.length := by simp
  rw [e]; exact h
theorem hm_nil {K : Nat → Prop} : ∀ i ∈ ([] : List Nat), K i := fun i h => by cases h
theorem hm_cons {K : Nat → Prop} {j : Nat} {l : List Nat} (h : K j) (t : ∀ i ∈ l, K i) : ∀ i ∈ j :: l, K i := fun i hi => by
  cases hi with
  | head => exact h
  | tail _ hi => exact t i hi
end
theorem wp_cut {P : Program} {Q : Exit → Act → World → Prop} {c : Code} {a : Act} {w : World} (I : Act → World → Prop) (h : c.wp P (Exit.then I Q) a w) (k : ∀ a w, I a w → Q .normal a w) : c.wp P Q a w :=
  wp_mono h fun e a w q => by
    cases e with
    | normal => exact k a w q
    | _ => exact q
/- some of the blocks, in whatever order -/
def selB (S : List Blk) : List Nat → List Blk
  | [] => []
  | i :: is => match S[i]? with
    | some r => r :: selB S is
    | none => selB S is
theorem sel_at (S : List Blk) : ∀ (is : List Nat), is.Nodup → ∀ (i j : Nat) (r s : Blk), (selB S is)[i]? = some r → (selB S is)[j]? = some s → ∃ i' j', i' ∈ is ∧ j' ∈ is ∧ S[i']? = some r ∧ S[j']? = some s ∧ (i ≠ j → i' ≠ j')
  | [], _, i, j, r, s, h, _ => by simp [selB] at h
  | k :: is, hn, i, j, r, s, hi, hj => by
    obtain ⟨hk, hn⟩ := List.nodup_cons.1 hn
    unfold selB at hi hj
    cases hs : S[k]? with
    | none =>
      rw [hs] at hi hj
      obtain ⟨i', j', h1, h2, h3⟩ := sel_at S is hn i j r s hi hj
      exact ⟨i', j', by simp [h1], by simp [h2], h3⟩
    | some u =>
      rw [hs] at hi hj
      cases i with
      | zero =>
        obtain rfl : u = r := by simpa using hi
        cases j with
        | zero => obtain rfl : u = s := by simpa using hj
                  exact ⟨k, k, by simp, by simp, hs, hs, fun h => absurd rfl h⟩
        | succ j =>
          obtain ⟨j', _, h1, _, h3, _, _⟩ := sel_at S is hn j j s s (by simpa using hj) (by simpa using hj)
          exact ⟨k, j', by simp, by simp [h1], hs, h3, fun _ e => hk (e ▸ h1)⟩
      | succ i =>
        cases j with
        | zero =>
          obtain rfl : u = s := by simpa using hj
          obtain ⟨i', _, h1, _, h3, _, _⟩ := sel_at S is hn i i r r (by simpa using hi) (by simpa using hi)
          exact ⟨i', k, by simp [h1], by simp, h3, hs, fun _ e => hk (e ▸ h1)⟩
        | succ j =>
          obtain ⟨i', j', h1, h2, h3, h4, h5⟩ := sel_at S is hn i j r s (by simpa using hi) (by simpa using hj)
          exact ⟨i', j', by simp [h1], by simp [h2], h3, h4, fun h => h5 (by omega)⟩
theorem st_sel {w0 w : World} {F : Nat → Prop} {S : List Blk} (h : St w0 F S w) (is : List Nat) (hn : is.Nodup) : St w0 F (selB S is) w :=
  ⟨h.chg, fun j r hj => by obtain ⟨i', _, _, _, h1, _⟩ := sel_at S is hn j j r r hj hj; exact h.rows i' r h1,
    fun i j r s hij hi hj => by obtain ⟨i', j', _, _, h1, h2, h3⟩ := sel_at S is hn i j r s hi hj; exact h.apart i' j' r s (h3 hij) h1 h2,
    fun j r hj => by obtain ⟨i', _, _, _, h1, _⟩ := sel_at S is hn j j r r hj hj; exact h.own i' r h1⟩
end Go.Proofs.Ytlpfdghciegnnaa

/- Loops in a walk; rows of bytes, cell by cell; slices that are made. No function of the program is named here. -/
set_option maxRecDepth 4000
namespace Go.Proofs.Ytlpfdghciegnnaa
open Go Go.RowKit
/- a loop of at most so many rounds -/
def unr (P : Program) (c : Code) (Q : Exit → Act → World → Prop) : Nat → Act → World → Prop
  | 0, _, _ => False
  | n + 1, a, w => c.wp P (Exit.then (unr P c Q n) Q) a w
theorem wp_unr {P : Program} {c : Code} {Q : Exit → Act → World → Prop} {a : Act} {w : World} (n : Nat) (h : unr P c Q n a w) : (Code.loop c).wp P Q a w :=
  wp_loopG (ι := Nat) (fun i a w => unr P c Q i a w) id n h fun i a w hI => by
    cases i with
    | zero => exact hI.elim
    | succ i =>
      refine wp_mono hI (fun e a w q => ?_)
      cases e with
      | normal => exact ⟨i, q, Nat.lt_succ_self _⟩
      | _ => exact q
theorem unr_go {P : Program} {c : Code} {Q : Exit → Act → World → Prop} {a : Act} {w : World} {n : Nat} (h : c.wp P (Exit.then (unr P c Q n) Q) a w) : unr P c Q (n + 1) a w := h
theorem i64_of {z : Int} (h0 : -9223372036854775808 ≤ z) (h1 : z < 9223372036854775808) : IntKind.i64.wrap z = z := by rw [IntKind.wrap_i64]; omega
section
variable {P : Program} {o : Oper} {a : Act} {w w0 : World} {R : Value → World → Prop} {F : Nat → Prop} {S : List Blk}
theorem dd_s2a {t : TypeId} {x : Operand} {A : Option Addr} {n c m sz : Nat} (ho : o.op = .sliceToArrayPointer t x) (hx : a.eval x = .slice A n c) (ht : arrOf P t = some (m, sz)) (h : m ≤ n) : (execOp a.eval o).run P w = .ok (.value (.pointer A)) w := by
  unfold arrOf at ht
  cases hu : P.underlying t with
  | none => rw [hu] at ht; cases ht
  | some d =>
    rw [hu] at ht
    cases d with
    | array n' e =>
      simp only at ht
      cases hq : P.info? e with
      | none => rw [hq] at ht; cases ht
      | some inf =>
        rw [hq] at ht
        simp only [Option.map_some, Option.some.injEq, Prod.mk.injEq] at ht
        obtain ⟨rfl, rfl⟩ := ht
        have e3 : ¬ n < n' := by omega
        simp [execOp, ho, hx, Instr.arrayAt, run_underlying hu, e3]
    | _ => simp only at ht; cases ht
end
section
variable {o : Oper} {a : Act} {w w0 : World} {R : Value → World → Prop} {F : Nat → Prop} {S : List Blk}
end
end Go.Proofs.Ytlpfdghciegnnaa

/- More operations of a walk: rows that are far, appends to nothing. No function of the program is named here. -/
set_option maxRecDepth 4000
namespace Go.Proofs.Ytlpfdghciegnnaa
open Go Go.RowKit
theorem lenA {cs : Array Value} {n : Nat} (h : cs.size = n) : cs.toList.length = n := by rw [Array.length_toList, h]
theorem slabA {cs ds : Array Value} {o : Nat} (h : (cs.toList.drop o).take ds.size = ds.toList) : (cs.toList.drop o).take ds.toList.length = ds.toList := by rw [Array.length_toList]; exact h
section
variable {P : Program} {o : Oper} {a : Act} {w w0 : World} {R : Value → World → Prop} {F : Nat → Prop} {S : List Blk}
theorem run_eqB {P : Program} (ty : TypeId) (w : World) (p q : Bool) (hu : P.underlying ty = some .bool) : (Op.equal ty (.bool p) (.bool q)).run P w = .ok (p == q) w := by
  show (Op.equalIn 10000 ty (.bool p) (.bool q)).run P w = .ok (p == q) w
  rw [show (10000 : Nat) = 9999 + 1 from rfl]
  unfold Op.equalIn
  simp [Sem.run_bind, run_underlying hu]
theorem dd_eqb {ty ty2 : TypeId} {x y : Operand} {p q b : Bool} (ho : o.op = .binOp .eql ty x y ty2) (hx : a.eval x = .bool p) (hy : a.eval y = .bool q) (hu : P.underlying ty = some .bool) (hb : (p == q) = b) : (execOp a.eval o).run P w = .ok (.value (.bool b)) w := by
  subst hb
  simp [execOp, ho, hx, hy, eqGuard, binOp, run_eqB ty w p q hu]
theorem dd_app0 (HS : St w0 F S w) {e t : TypeId} {s x : Operand} (ho : o.op = .call { callee := .builtin .append, args := #[s, x], argTypes := #[t, t] })
    (hs : a.eval s = .slice none 0 0) {z : Value} {bytes sz : Nat} (ht : P.underlying t = some (.slice e)) (hi : (P.info? e).map (fun i => (i.zero, i.size, i.bytes)) = some (some z, sz, bytes)) (hzs : z.cells.size = sz) (hsz : 0 < sz)
    {ad : Addr} {m c2 : Nat} (news : List Value) (hx : a.eval x = .slice (some ad) m c2) (hl : news.length = m * sz) (hnews : ∀ j u, news[j]? = some u → w.cell? (ad.add j) = some u) (h1 : ∀ u ∈ news, u.oneCell' = true)
    (h63 : m ≤ maxLen) (hbytes : m * bytes ≤ 140737488355328)
    (h : ∀ g' c' cb' w', OwnC cb' c' m sz news → St w0 F (S ++ [⟨g', e, cb'⟩]) w' → R (.slice (some ⟨g', 0, none⟩) m c') w') (hm : Nat.blt 0 m = true := by rfl) : Does P o a w R := fun _ _ hK => by
  have hm := Nat.le_of_ble_eq_true hm
  have hown : w.ownsRow 0 e sz (.slice none 0 0) 0 [] := ⟨by simp, .inl ⟨rfl, rfl⟩⟩
  obtain ⟨i, hi1, hz1, hz2, hz3⟩ := info_parts hi
  obtain ⟨v', w', hr, h2, h3, h4⟩ := run_append_where (P := P) w 0 t o.type e i z sz bytes ht hi1 hz1 hz2 hz3 hzs hsz _ 0 [] hown ad m c2 news hl hnews h1 (by omega) (by rw [Nat.zero_add]; exact hbytes) (Nat.zero_le _)
  rw [Nat.zero_add, List.nil_append] at h2
  obtain ⟨g', c', cb', rfl, _, hrow', O'⟩ := ownc_pos h2 (by omega)
  have hg' : w.heap.size ≤ g' := by
    rcases h4.cases (k := g') rfl with h5 | h5
    · cases h5
    · exact h5
  have hS1 : St w0 F S w' := HS.same (by
    have := h3
    exact below_of_grown h3 (fun g e => by cases e) (Nat.le_refl _))
  have hS2 := st_snoc hS1 hrow' (.inr (Nat.le_trans HS.chg.size hg')) (fun b hb e => by have := HS.lt hb; omega)
  unfold Oper.wp execOp
  simp only [ho, resolve, invoke, builtin, Sem.run_bind, Sem.run_pure, Result.andThen_ok, List.map_toArray, List.map_cons, List.map_nil, hs, hx, hr]
  exact hK _ _ (h g' c' cb' w' O' hS2)
end
end Go.Proofs.Ytlpfdghciegnnaa

/- Short steps of a walk: the frame by its slots' numbers, an operation apart from where it stands. No function of the program is named here. -/
set_option maxRecDepth 4000
namespace Go.Proofs.Ytlpfdghciegnnaa
open Go Go.RowKit
def look : List (Nat × Value) → Nat → Option Value
  | [], _ => none
  | (j, v) :: L, k => bif Nat.beq j k then some v else look L k
def sels (L : List (Nat × Value)) : List Nat → List (Nat × Value) → Option (List (Nat × Value))
  | [], acc => some acc
  | k :: ks, acc => match look L k with
    | some v => sels L ks ((k, v) :: acc)
    | none => none
structure En (N : Nat) (L : List (Nat × Value)) (a : Act) : Prop where
  size : a.tmps.size = N
  defers : a.defers = []
  at_ : ∀ (k : Nat) (v : Value), look L k = some v → a.tmps[k]? = some v
def dq (N : Nat) (o : Oper) : Option Nat := match o.dst with
  | some d => bif Nat.blt d N then some d else none
  | none => none
def dg (N : Nat) (o : Oper) : Option Nat := match o.guard with
  | none => dq N o
  | some _ => none
def dn (o : Oper) : Bool := match o.guard, o.dst with
  | none, none => true
  | _, _ => false
theorem dq_is {N : Nat} {o : Oper} {d : Nat} (h : dq N o = some d) : o.dst = some d ∧ d < N := by
  unfold dq at h
  split at h
  · rename_i e he
    cases hb : Nat.blt e N with
    | false => rw [hb] at h; cases h
    | true =>
      rw [hb] at h
      injection h with h
      subst h
      exact ⟨he, Nat.le_of_ble_eq_true hb⟩
  · cases h
theorem dg_is {N : Nat} {o : Oper} {d : Nat} (h : dg N o = some d) : o.guard = none ∧ dq N o = some d := by
  unfold dg at h
  split at h
  · exact ⟨by assumption, h⟩
  · cases h
theorem dn_is {o : Oper} (h : dn o = true) : o.guard = none ∧ o.dst = none := by
  unfold dn at h
  split at h
  · exact ⟨by assumption, by assumption⟩
  · cases h
section
variable {P : Program} {N : Nat} {L : List (Nat × Value)} {a : Act}
theorem En.ev (h : En N L a) (k : Nat) {v : Value} (hi : look L k = some v) : a.eval (.tmp k) = v := eval_of_get (h.at_ k v hi)
theorem En.get (h : En N L a) (k : Nat) {v : Value} (hi : look L k = some v) : a.tmps[k]? = some v := h.at_ k v hi
theorem En.sub (h : En N L a) {L2 : List (Nat × Value)} (hs : ∀ k v, look L2 k = some v → look L k = some v) : En N L2 a := ⟨h.size, h.defers, fun k v hi => h.at_ k v (hs k v hi)⟩
theorem sels_sub {L : List (Nat × Value)} : ∀ (ks : List Nat) (acc L2 : List (Nat × Value)), (∀ k v, look acc k = some v → look L k = some v) → sels L ks acc = some L2 → ∀ k v, look L2 k = some v → look L k = some v
  | [], acc, L2, h, e => by
    injection e with e
    subst e; exact h
  | j :: ks, acc, L2, h, e => by
    unfold sels at e
    cases hj : look L j with
    | none => rw [hj] at e; cases e
    | some u =>
      rw [hj] at e
      refine sels_sub ks _ L2 (fun k v hk => ?_) e
      unfold look at hk
      cases hb : Nat.beq j k with
      | false => simp only [hb] at hk; exact h k v hk
      | true =>
        simp only [hb] at hk
        have := Nat.eq_of_beq_eq_true hb
        subst this
        rw [hj]; exact hk
theorem En.sel (h : En N L a) (ks : List Nat) {L2 : List (Nat × Value)} (e : sels L ks [] = some L2) : En N L2 a := h.sub (sels_sub ks [] L2 (fun k v hk => by cases hk) e)
theorem En.env0 (h : En N L a) : Env N [] a := env_nil h.size h.defers
theorem En.put (h : En N L a) {d : Nat} (hd : d < N) (v : Value) : En N ((d, v) :: L) (a.put (some d) v) := by
  refine ⟨by simp [Act.put, h.size], h.defers, fun k u hi => ?_⟩
  unfold look at hi
  simp only [Act.put]
  cases hb : Nat.beq d k with
  | true =>
    simp only [hb] at hi
    have := Nat.eq_of_beq_eq_true hb
    subst this
    have hi : v = u := Option.some.inj hi
    subst hi
    simp [h.size, hd]
  | false =>
    simp only [hb] at hi
    have hne : d ≠ k := fun e => by subst e; simp at hb
    rw [Array.getElem?_setIfInBounds_ne hne]
    exact h.at_ k u hi
theorem en_nil (hs : a.tmps.size = N) (hd : a.defers = []) : En N [] a := ⟨hs, hd, fun k v h => by cases h⟩
theorem en_cons {k : Nat} {v : Value} (h : En N L a) (hk : a.tmps[k]? = some v) : En N ((k, v) :: L) a := ⟨h.size, h.defers, fun j u hi => by
  unfold look at hi
  cases hb : Nat.beq k j with
  | true =>
    simp only [hb] at hi
    have := Nat.eq_of_beq_eq_true hb
    subst this
    have hi : v = u := Option.some.inj hi
    subst hi
    exact hk
  | false => simp only [hb] at hi; exact h.at_ j u hi⟩
theorem look_arg : ∀ (vs : List Value) (i k : Nat) (v : Value), look (argL vs i) k = some v → i ≤ k ∧ vs[k - i]? = some v
  | [], i, k, v, h => by cases h
  | u :: vs, i, k, v, h => by
    unfold argL look at h
    cases hb : Nat.beq i k with
    | true =>
      simp only [hb] at h
      have := Nat.eq_of_beq_eq_true hb
      subst this
      simpa using h
    | false =>
      simp only [hb] at h
      have hne : i ≠ k := fun e => by subst e; simp at hb
      obtain ⟨h1, h2⟩ := look_arg vs (i + 1) k v h
      refine ⟨by omega, ?_⟩
      have e : k - i = (k - (i + 1)) + 1 := by omega
      rw [e]; simpa using h2
theorem enter_en {f : FuncId} {fn : Func} {c : Code} {l : List Value} {w : World} {R : Ending → World → Prop} (hf : P.funcs[f]? = some fn) (hb : fn.body = some c) (hN : fn.ntmps = N) (hl : l.length ≤ N)
    (h : ∀ a, En N (argL l 0) a → c.wp P (bodyPost P fn R) a w) : Calls P f l.toArray w R := by
  refine calls_of_wp hf hb (h _ ⟨by simp [hN]; omega, rfl, fun k v hi => ?_⟩)
  obtain ⟨_, h2⟩ := look_arg l 0 k v hi
  have hlt := (List.getElem?_eq_some_iff.1 h2).1
  simp only
  rw [Array.getElem?_append_left (by simpa using hlt)]
  simpa using h2
end
/- an operation, wherever it stands: K is what must hold behind it -/
def Og (P : Program) (ops : Array Oper) (Q : Exit → Act → World → Prop) (o : Oper) (K : Act → World → Prop) (a : Act) (w : World) : Prop :=
  ∀ K' : Act → World → Prop, (∀ a w, K a w → K' a w) → if Region.wanted o (yielded ops a.tmps) = true then Oper.wp P o a w K' Q else K' (a.put o.dst undef) w
section
variable {P : Program} {ops : Array Oper} {Q : Exit → Act → World → Prop} {rest : List Oper} {o : Oper} {K : Act → World → Prop} {N i fuel : Nat} {L : List (Nat × Value)} {a : Act} {w w0 : World} {listed : Array Bool} {S : World → Prop} {F : Nat → Prop} {B : List Blk} {d : Nat}
theorem wl_ (h : Og P ops Q o (wpList P ops Q rest) a w) : wpList P ops Q (o :: rest) a w := wpList_step h
theorem ho_ (ho : ops[i]? = some o) (h : Og P ops Q o K a w) : wpOp P ops Q i K a w := wpOp_step ho h
theorem h1_ (i : Nat) {o : Oper} (ho : ops[i]? = some o) (h : Og P ops Q o (fun a' w' => S w' ∧ wpAnyH P .any ops Q S fuel (listed.setIfInBounds i true) a' w') a w) (hr : Region.ready .any ops listed = [i] := by kernel_rfl) : wpAnyH P .any ops Q S (fuel + 1) listed a w :=
  wpAnyH_all hr (by simp) fun j hj => by
    obtain rfl : j = i := by simpa using hj
    exact wpOp_step ho h
theorem wg_ (H : En N L a) {j t : Nat} {b c e : Bool} (hg : o.guard = some (j, b)) (hd : dstAt ops j = some t) (ht : look L t = some (.bool c)) (h : (c == b) = e) : Region.wanted o (yielded ops a.tmps) = e := want_g hg hd (H.get t ht) h
theorem dr_ (H : En N L a) (hw : Region.wanted o (yielded ops a.tmps) = true) (hd : dq N o = some d) {R : Value → World → Prop} (hD : Does P o a w R) (h : ∀ v w', R v w' → ∀ a', En N ((d, v) :: L) a' → K a' w') : Og P ops Q o K a w := fun K' hK => by
  obtain ⟨h1, h2⟩ := dq_is hd
  rw [if_pos hw]
  exact hD K' Q fun v w' hR => by rw [h1]; exact hK _ _ (h v w' hR _ (H.put h2 v))
theorem d_ (H : En N L a) (hd : dg N o = some d) {R : Value → World → Prop} (hD : Does P o a w R) (h : ∀ v w', R v w' → ∀ a', En N ((d, v) :: L) a' → K a' w') : Og P ops Q o K a w := dr_ H (want_n (dg_is hd).1) (dg_is hd).2 hD h
theorem k_ (H : En N L a) (hw : Region.wanted o (yielded ops a.tmps) = false) (hd : dq N o = some d) (h : ∀ a', En N ((d, undef) :: L) a' → K a' w) : Og P ops Q o K a w := fun K' hK => by
  obtain ⟨h1, h2⟩ := dq_is hd
  rw [hw, if_neg (by decide), h1]
  exact hK _ _ (h _ (H.put h2 undef))
theorem i_ (H : En N L a) (hd : dg N o = some d) {v : Value} (hD : (execOp a.eval o).run P w = .ok (.value v) w) (h : ∀ a', En N ((d, v) :: L) a' → K a' w) : Og P ops Q o K a w :=
  d_ H hd (R := fun u w' => u = v ∧ w' = w) (dd_rn hD ⟨rfl, rfl⟩) fun v' w' hR a' HA' => by obtain ⟨rfl, rfl⟩ := hR; exact h a' HA'
theorem ig (H : En N L a) (hw : Region.wanted o (yielded ops a.tmps) = true) (hd : dq N o = some d) {v : Value} (hD : (execOp a.eval o).run P w = .ok (.value v) w) (h : ∀ a', En N ((d, v) :: L) a' → K a' w) : Og P ops Q o K a w :=
  dr_ H hw hd (R := fun u w' => u = v ∧ w' = w) (dd_rn hD ⟨rfl, rfl⟩) fun v' w' hR a' HA' => by obtain ⟨rfl, rfl⟩ := hR; exact h a' HA'
theorem ic (H : En N L a) (hd : dg N o = some d) {v : Value} (hD : Does P o a w fun u w' => u = v ∧ w' = w) (h : ∀ a', En N ((d, v) :: L) a' → K a' w) : Og P ops Q o K a w :=
  d_ H hd hD fun v' w' hR a' HA' => by obtain ⟨rfl, rfl⟩ := hR; exact h a' HA'
theorem icg (H : En N L a) (hw : Region.wanted o (yielded ops a.tmps) = true) (hd : dq N o = some d) {v : Value} (hD : Does P o a w fun u w' => u = v ∧ w' = w) (h : ∀ a', En N ((d, v) :: L) a' → K a' w) : Og P ops Q o K a w :=
  dr_ H hw hd hD fun v' w' hR a' HA' => by obtain ⟨rfl, rfl⟩ := hR; exact h a' HA'
theorem i0 (hd : dn o = true) {v : Value} (hD : (execOp a.eval o).run P w = .ok (.value v) w) (h : K a w) : Og P ops Q o K a w := fun K' hK => by
  rw [if_pos (want_n (dn_is hd).1)]
  exact dd_rn (R := fun u w' => u = v ∧ w' = w) hD ⟨rfl, rfl⟩ K' Q fun v' w' hR => by
    obtain ⟨rfl, rfl⟩ := hR
    rw [(dn_is hd).2]; exact hK _ _ h
/- a new block -/
theorem n_ (H : En N L a) (hd : dg N o = some d) {S : Nat → List Blk} {A : Nat → Value} (hD : ∀ R : Value → World → Prop, (∀ g w', St w0 F (S g) w' → R (A g) w') → Does P o a w R) (h : ∀ g w', St w0 F (S g) w' → ∀ a', En N ((d, A g) :: L) a' → K a' w') : Og P ops Q o K a w :=
  d_ H hd (hD (fun v w' => ∃ g, v = A g ∧ St w0 F (S g) w') fun g w' k => ⟨g, rfl, k⟩) fun v w' hR a' HA' => by
    obtain ⟨g, rfl, k⟩ := hR; exact h g w' k a' HA'
/- a store -/
theorem t_ (hd : dn o = true) {S : List Blk} (hD : ∀ R : Value → World → Prop, (∀ w', St w0 F S w' → R undef w') → Does P o a w R) (h : ∀ w', St w0 F S w' → K a w') : Og P ops Q o K a w := fun K' hK => by
  rw [if_pos (want_n (dn_is hd).1)]
  refine hD (fun _ w' => St w0 F S w') (fun _ k => k) K' Q fun v w' k => ?_
  rw [(dn_is hd).2]; exact hK _ _ (h w' k)
theorem tv (H : En N L a) (hd : dg N o = some d) {S : List Blk} {v : Value} (hD : ∀ R : Value → World → Prop, (∀ w', St w0 F S w' → R v w') → Does P o a w R) (h : ∀ w', St w0 F S w' → ∀ a', En N ((d, v) :: L) a' → K a' w') : Og P ops Q o K a w :=
  d_ H hd (hD (fun u w' => u = v ∧ St w0 F S w') fun w' k => ⟨rfl, k⟩) fun u w' hR a' HA' => by
    obtain ⟨rfl, k⟩ := hR; exact h w' k a' HA'
/- bytes or values behind a slice of the call's own -/
theorem a_ (H : En N L a) (hd : dg N o = some d) {S : Nat → Array Value → List Blk} (A : Nat → Nat → Value) {T : Nat → Nat → Array Value → Prop} (hD : ∀ R : Value → World → Prop, (∀ g c cb w', T g c cb → St w0 F (S g cb) w' → R (A g c) w') → Does P o a w R) (h : ∀ g c cb w', T g c cb → St w0 F (S g cb) w' → ∀ a', En N ((d, A g c) :: L) a' → K a' w') : Og P ops Q o K a w :=
  d_ H hd (hD (fun v w' => ∃ g c cb, v = A g c ∧ T g c cb ∧ St w0 F (S g cb) w') fun g c cb w' k1 k2 => ⟨g, c, cb, rfl, k1, k2⟩) fun v w' hR a' HA' => by
    obtain ⟨g, c, cb, rfl, k1, k2⟩ := hR; exact h g c cb w' k1 k2 a' HA'
/- a call that leaves what was there -/
theorem c_ (H : En N L a) (hd : dg N o = some d) (HS : St w0 F B w) {v : Value} (hD : Does P o a w fun u w' => u = v ∧ Below w.heap.size w w') (h : ∀ w', St w0 F B w' → ∀ a', En N ((d, v) :: L) a' → K a' w') : Og P ops Q o K a w :=
  d_ H hd hD fun u w' hR a' HA' => by obtain ⟨rfl, k⟩ := hR; exact h w' (HS.same k) a' HA'
theorem cg (H : En N L a) (hw : Region.wanted o (yielded ops a.tmps) = true) (hd : dq N o = some d) (HS : St w0 F B w) {v : Value} (hD : Does P o a w fun u w' => u = v ∧ Below w.heap.size w w') (h : ∀ w', St w0 F B w' → ∀ a', En N ((d, v) :: L) a' → K a' w') : Og P ops Q o K a w :=
  dr_ H hw hd hD fun u w' hR a' HA' => by obtain ⟨rfl, k⟩ := hR; exact h w' (HS.same k) a' HA'
theorem dc_ {f : FuncId} {fn : Func} {xs : Array Operand} {ts : Array TypeId} {l : List Value} {R' : Ending → World → Prop} {R : Value → World → Prop} (hf : P.funcs[f]? = some fn) (ho : o.op = .call { callee := .value (.func f), args := xs, argTypes := ts }) (hx : (xs.map a.eval) = l.toArray) (C : Calls P f l.toArray w R')
    (h : ∀ e w', R' e w' → ∃ v, e = .returned v ∧ R v w') (hn : (fn.name == "runtime.NumGoroutine") = false := by kernel_rfl) (hb : fn.body.isNone = false := by kernel_rfl) : Does P o a w R := dd_call hf hn hb ho hx C h
theorem dcs {f : FuncId} {fn : Func} {xs : Array Operand} {ts : Array TypeId} {l : List Value} (hf : P.funcs[f]? = some fn) (ho : o.op = .call { callee := .value (.func f), args := xs, argTypes := ts }) (hx : (xs.map a.eval) = l.toArray) {v : Value} (C : Calls P f l.toArray w fun e w' => e = .returned v ∧ Below w.heap.size w w') (v' : Value)
    (hv : v = v' := by rfl) (hn : (fn.name == "runtime.NumGoroutine") = false := by kernel_rfl) (hb : fn.body.isNone = false := by kernel_rfl) : Does P o a w fun u w' => u = v' ∧ Below w.heap.size w w' := dd_call hf hn hb ho hx C fun _ _ h => ⟨v, h.1, hv, h.2⟩
/- several operations that only move values, in order -/
def opv (L : List (Nat × Value)) : Operand → Option Value
  | .tmp k => look L k
  | .const v => some v
  | _ => none
theorem opv_is (H : En N L a) {x : Operand} {v : Value} (h : opv L x = some v) : a.eval x = v := by
  cases x with
  | tmp k => exact H.ev k h
  | const u => exact Option.some.inj h
  | _ => cases h
def pur (L : List (Nat × Value)) (o : Oper) : Option Value := match o.op with
  | .move x => opv L x
  | .assign x => opv L x
  | .pick c x y => match opv L c with
    | some (.bool true) => opv L x
    | some (.bool false) => opv L y
    | _ => none
  | _ => none
theorem pur_is (H : En N L a) {v : Value} (h : pur L o = some v) : (execOp a.eval o).run P w = .ok (.value v) w := by
  unfold pur at h
  split at h
  · exact dd_mv (by assumption) (opv_is H h)
  · exact dd_as (by assumption) (opv_is H h)
  · split at h
    · exact dd_pickT (by assumption) (opv_is H (by assumption)) (opv_is H h)
    · exact dd_pickF (by assumption) (opv_is H (by assumption)) (opv_is H h)
    · cases h
  · cases h
def purs (N : Nat) : Nat → List (Nat × Value) → List Oper → Option (List (Nat × Value) × List Oper)
  | 0, L, l => some (L, l)
  | _ + 1, _, [] => none
  | n + 1, L, o :: l => match dg N o with
    | none => none
    | some d => match pur L o with
      | none => none
      | some v => purs N n ((d, v) :: L) l
theorem purs_is : ∀ (n : Nat) {L L' : List (Nat × Value)} {l l' : List Oper} {a : Act}, En N L a → purs N n L l = some (L', l') → (∀ a', En N L' a' → wpList P ops Q l' a' w) → wpList P ops Q l a w
  | 0, L, L', l, l', a, H, e, h => by
    injection e with e
    injection e with e1 e2
    subst e1 e2
    exact h a H
  | n + 1, L, L', [], l', a, H, e, h => by cases e
  | n + 1, L, L', o :: l, l', a, H, e, h => by
    unfold purs at e
    split at e
    · cases e
    · split at e
      · cases e
      · rename_i d hd _ v hv
        exact wl_ (i_ H hd (pur_is H hv) fun a' H' => purs_is n H' e h)
theorem q_ (H : En N L a) (n : Nat) {l l' : List Oper} {L' : List (Nat × Value)} (e : purs N n L l = some (L', l')) (h : ∀ a', En N L' a' → wpList P ops Q l' a' w) : wpList P ops Q l a w := purs_is n H e h
theorem p_ (H : En N L a) (hd : dg N o = some d) {v : Value} (hp : pur L o = some v) (h : ∀ a', En N ((d, v) :: L) a' → K a' w) : Og P ops Q o K a w := i_ H hd (pur_is H hp) h
/- regions that draw -/
class PQc (Q : Exit → Act → World → Prop) : Prop where
  pq : PQ Q
instance {K : Act → World → Prop} {Q : Exit → Act → World → Prop} [h : PQc Q] : PQc (Exit.then K Q) := ⟨pq_then h.pq⟩
instance {id : Nat} {Q : Exit → Act → World → Prop} [h : PQc Q] : PQc (Exit.inBlock id Q) := ⟨pq_block h.pq⟩
instance {fn : Func} {R : Ending → World → Prop} : PQc (bodyPost P fn R) := ⟨pq_body⟩
def Sx (w0 : World) (F : Nat → Prop) (B : List Blk) (w : World) : Prop := ∃ R9, St w0 F (B ++ R9) w
theorem sxi {S R9 : List Blk} (h : St w0 F S w) (is : List Nat) (e : selB S is = B ++ R9) (hn : is.Nodup := by decide) : Sx w0 F B w := ⟨R9, e ▸ st_sel h is hn⟩
theorem ss {S : List Blk} (h : St w0 F S w) (is : List Nat) (hn : is.Nodup := by decide) : St w0 F (selB S is) w := st_sel h is hn
def hck (ops : Array Oper) (listed : Array Bool) (i : Nat) : Bool := Region.noSelect ops && Region.free .any ops listed i && (Region.ready .any ops listed).contains i
theorem hck_is (h : hck ops listed i = true) : Region.noSelect ops = true ∧ Region.free .any ops listed i = true ∧ (Region.ready .any ops listed).contains i = true := by
  unfold hck at h
  simp only [Bool.and_eq_true] at h
  exact ⟨h.1.1, h.1.2, h.2⟩
theorem htg [hq : PQc Q] (H : En N L a) (i : Nat) {o : Oper} (hS : Sx w0 F B w) (hi : ops[i]? = some o) (hw : Region.wanted o (yielded ops a.tmps) = true) (hd : dq N o = some d) {v : Value} (hy : ∀ w R9, St w0 F (B ++ R9) w → (execOp a.eval o).run P w = .ok (.value v) w)
    (h : ∀ a', En N ((d, v) :: L) a' → wpAnyH P .any ops Q (Sx w0 F B) fuel (listed.setIfInBounds i true) a' w) (hc : hck ops listed i = true := by kernel_rfl) : wpAnyH P .any ops Q (Sx w0 F B) (fuel + 1) listed a w := by
  obtain ⟨h1, h2, h3⟩ := hck_is hc
  refine wpAnyH_take hi h1 h2 h3 (fun c a w => hq.pq c a o.dst v w) (.inl ⟨hw, fun w ⟨R9, k⟩ => hy w R9 k⟩) hS ?_
  rw [(dq_is hd).1]
  exact h _ (H.put (dq_is hd).2 v)
theorem ht_ [PQc Q] (H : En N L a) (i : Nat) {o : Oper} (hS : Sx w0 F B w) (hi : ops[i]? = some o) (hd : dg N o = some d) {v : Value} (hy : ∀ w R9, St w0 F (B ++ R9) w → (execOp a.eval o).run P w = .ok (.value v) w)
    (h : ∀ a', En N ((d, v) :: L) a' → wpAnyH P .any ops Q (Sx w0 F B) fuel (listed.setIfInBounds i true) a' w) (hc : hck ops listed i = true := by kernel_rfl) : wpAnyH P .any ops Q (Sx w0 F B) (fuel + 1) listed a w :=
  htg H i hS hi (want_n (dg_is hd).1) (dg_is hd).2 hy h hc
theorem hp_ [PQc Q] (H : En N L a) (i : Nat) {o : Oper} (hS : Sx w0 F B w) (hi : ops[i]? = some o) (hd : dg N o = some d) {v : Value} (hp : pur L o = some v)
    (h : ∀ a', En N ((d, v) :: L) a' → wpAnyH P .any ops Q (Sx w0 F B) fuel (listed.setIfInBounds i true) a' w) (hc : hck ops listed i = true := by kernel_rfl) : wpAnyH P .any ops Q (Sx w0 F B) (fuel + 1) listed a w :=
  ht_ H i hS hi hd (fun _ _ _ => pur_is H hp) h hc
theorem hk_ [hq : PQc Q] (H : En N L a) (i : Nat) {o : Oper} (hS : Sx w0 F B w) (hi : ops[i]? = some o) (hw : Region.wanted o (yielded ops a.tmps) = false) (hd : dq N o = some d)
    (h : ∀ a', En N ((d, undef) :: L) a' → wpAnyH P .any ops Q (Sx w0 F B) fuel (listed.setIfInBounds i true) a' w) (hc : hck ops listed i = true := by kernel_rfl) : wpAnyH P .any ops Q (Sx w0 F B) (fuel + 1) listed a w := by
  obtain ⟨h1, h2, h3⟩ := hck_is hc
  refine wpAnyH_take hi h1 h2 h3 (fun c a w => hq.pq c a o.dst undef w) (.inr ⟨hw, rfl⟩) hS ?_
  rw [(dq_is hd).1]
  exact h _ (H.put (dq_is hd).2 undef)
theorem sx_ {A B : Prop} (h : A) (k : A → B) : A ∧ B := ⟨h, k h⟩
theorem wh_ {S : List Blk} (HS : St w0 F S w) (B : List Blk) {id : Nat} {l : List Oper} {M : Nat} (hM : l.length = M) (hx : Sx w0 F B w) (h : St w0 F S w.drew → Sx w0 F B w.drew → wpAnyH P .any l.toArray Q (Sx w0 F B) M (Array.replicate M false) a w.drew) (hm : P.follows .mixedOrders = true := by kernel_rfl) : (Code.region id l.toArray true).wp P Q a w :=
  wp_held _ hm hM (h HS.drew (let ⟨R9, k⟩ := hx; ⟨R9, k.drew⟩))
theorem wi_ {S : List Blk} (HS : St w0 F S w) (is : List Nat) {id : Nat} {l : List Oper} {M : Nat} (hM : l.length = M) {R9 : List Blk} (js : List Nat) (e : selB S js = selB S is ++ R9) (h : St w0 F S w.drew → Sx w0 F (selB S is) w.drew → wpAnyH P .any l.toArray Q (Sx w0 F (selB S is)) M (Array.replicate M false) a w.drew) (hn : js.Nodup := by decide) (hm : P.follows .mixedOrders = true := by kernel_rfl) : (Code.region id l.toArray true).wp P Q a w :=
  wh_ HS (selB S is) hM (sxi HS js e hn) h hm
end
/- shorter names -/
section
variable {P : Program} {o : Oper} {a : Act} {w : World}
theorem xS (sz j : Nat) {t : TypeId} {x y : Operand} {g i n c : Nat} {k : IntKind} {m : Int} (ho : o.op = .indexAddr t x y) (hx : a.eval x = .slice (some ⟨g, i, none⟩) n c) (hy : a.eval y = .int k m) (ht : slOf P t = some sz := by kernel_rfl) (h0 : 0 ≤ m := by decide) (hn : m < (n : Int) := by decide) (hj : i + m.toNat * sz = j := by rfl) : (execOp a.eval o).run P w = .ok (.value (.pointer (some ⟨g, j, none⟩))) w := dd_idxS ho hx hy ht h0 hn hj
theorem xSo (sz j : Nat) {t : TypeId} {x y : Operand} {g i n c : Nat} {k : IntKind} {m : Int} (ho : o.op = .indexAddr t x y) (hx : a.eval x = .slice (some ⟨g, i, none⟩) n c) (hy : a.eval y = .int k m) (ht : slOf P t = some sz := by kernel_rfl) (h0 : 0 ≤ m := by omega) (hn : m < (n : Int) := by omega) (hj : i + m.toNat * sz = j := by omega) : (execOp a.eval o).run P w = .ok (.value (.pointer (some ⟨g, j, none⟩))) w := dd_idxS ho hx hy ht h0 hn hj
theorem xf (off j : Nat) {s : TypeId} {x : Operand} {f g i : Nat} (ho : o.op = .fieldAddr s x f) (hx : a.eval x = .pointer (some ⟨g, i, none⟩)) (hf : fieldOff P s f = some off := by kernel_rfl) (hj : i + off = j := by rfl) : (execOp a.eval o).run P w = .ok (.value (.pointer (some ⟨g, j, none⟩))) w := dd_field ho hx hf hj
end
/- code -/
section
variable {P : Program} {Q : Exit → Act → World → Prop} {a : Act} {w : World} {N : Nat} {L : List (Nat × Value)} {x y : Code} {id : Nat}
theorem sq_ (h : x.wp P (Exit.then (y.wp P Q) Q) a w) : (Code.seq x y).wp P Q a w := wp_seq h
theorem rl_ {l : List Oper} (h : wpList P l.toArray Q l a w) : (Code.region id l.toArray false).wp P Q a w := wp_region_lit h
theorem ln_ {ops : Array Oper} (h : Q .normal a w) : wpList P ops Q [] a w := h
theorem ct_ (H : En N L a) {k : Nat} (hk : look L k = some (.bool true)) (h : x.wp P Q a w) : (Code.cond (.tmp k) x y).wp P Q a w := wp_cond_true (H.ev k hk) h
theorem cf_ (H : En N L a) {k : Nat} (hk : look L k = some (.bool false)) (h : y.wp P Q a w) : (Code.cond (.tmp k) x y).wp P Q a w := wp_cond_false (H.ev k hk) h
end
end Go.Proofs.Ytlpfdghciegnnaa

/- Strings and copies in a walk. No function of the program is named here. -/
set_option maxRecDepth 4000
namespace Go.Proofs.Ytlpfdghciegnnaa
open Go Go.RowKit
section
variable {o : Oper} {a : Act} {w w0 : World} {R : Value → World → Prop} {F : Nat → Prop} {S : List Blk}
theorem dd_bts {x : Operand} {dst : TypeId} {v : Value} {q : List (BitVec 8)} (ho : o.op = .convert 26 dst x) (hx : a.eval x = v) (hs : Slice w v q) (hd : Try.prog.underlying dst = some .string) : (execOp a.eval o).run Try.prog w = .ok (.value (.string (strB q))) w := by
  have h := conv_bytes hs dst hd
  simp [execOp, ho, hx, h]
theorem dd_copyB (HS : St w0 F S w) (k j : Nat) {d s : Operand} (ho : o.op = .call { callee := .builtin .copy, args := #[d, s], argTypes := #[26, 26] }) {g off n m : Nat} {t : TypeId} {L : List (List Value)} {ns : List Nat} {v : Value} {q : List (BitVec 8)} (hL : L.map List.length = ns) (hk : S[k]? = some ⟨g, t, catA L⟩) (ho2 : (ns.take j).sum = off) (hj : ns[j]? = some n) (hd : a.eval d = .slice (some ⟨g, off, none⟩) n m) (hs : a.eval s = v) (hq : Slice w v q) (hn : q.length = n)
    (h : ∀ w', St w0 F (S.set k ⟨g, t, catA (L.set j (bytesV q))⟩) w' → R (.int .i64 (n : Int)) w') : Does Try.prog o a w R := fun _ _ hK => by
  have hrow := HS.row k hk
  have hjl := (List.getElem?_eq_some_iff.1 hj).1
  have e := congrArg List.sum (List.take_append_drop j ns)
  rw [List.sum_append, List.drop_eq_getElem_cons hjl, List.sum_cons, (List.getElem?_eq_some_iff.1 hj).2] at e
  refine wp_copy_any d s ho g off n m hd v hs q hq t (catA L) hrow (by rw [cat_size hL]; omega) (by omega) fun w' h1 h2 => ?_
  have e2 : (spl (catA L).toList off (bytesV q)).toArray = catA (L.set j (bytesV q)) := cat_store1 (cs := bs q) hL j ho2 (by rw [size_bs, hn]) hj
  rw [e2] at h1
  have := hK _ _ (h w' (HS.upd k hk h1 h2))
  rw [← hn] at this
  exact this
end
theorem sbeq_t {p q : List (BitVec 8)} (h : p = q) : ((strB p).toList == (strB q).toList) = true := by rw [str_beq, decide_eq_true h]
theorem sbeq_f {p q : List (BitVec 8)} (h : ¬ p = q) : ((strB p).toList == (strB q).toList) = false := by rw [str_beq, decide_eq_false h]
theorem ownc_nil : OwnC #[] 0 0 1 (bytesV []) := ⟨Nat.le_refl _, by decide, rfl, rfl, rfl⟩
section
variable {o : Oper} {a : Act} {w w0 : World} {R : Value → World → Prop} {F : Nat → Prop} {S : List Blk}
theorem dd_lit0 {P : Program} (HS : St w0 F S w) {t e : TypeId} {parts : Array (Nat × Operand)} (ho : o.op = .buildSlice t 0 parts) (hp : parts = #[]) (hu : P.underlying t = some (.slice e)) {sz : Nat} (hie : (P.info? e).map (fun i => i.size) = some sz)
    (h : ∀ g w', St w0 F (S ++ [⟨g, e, #[]⟩]) w' → R (.slice (some ⟨g, 0, none⟩) 0 0) w') : Does P o a w R := fun _ _ hK => by
  obtain ⟨ie, hi, _⟩ := Option.map_eq_some_iff.1 hie
  have hrun : (execOp a.eval o).run P w = .ok (.value (.slice (some ⟨w.heap.size, 0, none⟩) 0 0)) (w.alloc (.cells #[] e)) := by
    unfold execOp
    have e0 : (Array.range 0).map (fun _ : Nat => (default : Value)) = #[] := by simp [Array.range]
    simp [ho, hp, Instr.buildSlice, run_underlying hu, sizeOf, typeInfo, hi, Instr.fill, newRow, e0]
  unfold Oper.wp
  rw [hrun]
  exact hK _ _ (h _ _ (HS.snoc e #[]))
/- bytes behind bytes of the call's own, whatever slice they stand in -/
theorem dd_appB (HS : St w0 F S w) (k : Nat) {g c n n2 : Nat} {cb : Array Value} {q r q2 : List (BitVec 8)} (hk : S[k]? = some ⟨g, 5, cb⟩) (O : OwnC cb c n 1 (bytesV q)) {s x : Operand} (ho : o.op = .call { callee := .builtin .append, args := #[s, x], argTypes := #[26, 26] })
    (hs : a.eval s = .slice (some ⟨g, 0, none⟩) n c) {A : Option Addr} {m c2 : Nat} (hx : a.eval x = .slice A m c2) (hr : Slice w (.slice A m c2) r) (hA : A = none → c2 = 0) (hn : n + m = n2) (hq : q ++ r = q2) (h63 : n2 ≤ maxLen) (hbytes : n2 ≤ 140737488355328)
    (h : ∀ g' c' cb' w', OwnC cb' c' n2 1 (bytesV q2) → St w0 F (S.eraseIdx k ++ [⟨g', 5, cb'⟩]) w' → R (.slice (some ⟨g', 0, none⟩) n2 c') w') : Does Try.prog o a w R := by
  subst hn hq
  have hm : r.length = m := by obtain ⟨A', c', e, _⟩ := hr; injection e with _ e _; exact e.symm
  cases A with
  | none =>
    have hr0 : r = [] := by
      apply Decidable.byContradiction
      intro hne
      obtain ⟨A', c', e, _, h3⟩ := hr
      obtain ⟨_, _, h4, _⟩ := h3 hne
      injection e with e _ _
      rw [h4] at e; cases e
    obtain rfl := hA rfl
    subst hr0
    have hm0 : m = 0 := by simpa using hm.symm
    subst hm0
    intro K Q hK
    obtain ⟨i0, hi, hz0, hz1, hz2⟩ := info_parts info_u8
    have hrow := HS.row k hk
    have hown := ownc_to hrow O (Nat.zero_le g)
    have hrun := run_append_owned_none (P := Try.prog) (w := w) 0 26 o.type 5 i0 1 Try.underlying26 hi _ n _ hown
    unfold Oper.wp
    simp [execOp, ho, resolve, invoke, builtin, hs, hx, hrun, Result.andThen]
    have hS2 := st_snoc (st_erase HS k) hrow (HS.own k _ hk) (fun b hb e => by
      obtain ⟨j, hj⟩ := List.getElem?_of_mem hb
      rw [List.getElem?_eraseIdx] at hj
      split at hj
      · exact HS.apart j k b _ (by omega) hj hk e
      · exact HS.apart (j + 1) k b _ (by omega) hj hk e)
    exact hK _ _ (h g c cb w (by simpa using O) hS2)
  | some ad =>
    refine dd_app HS k hk O ho hs (z := .int .u8 0) (bytes := 1) Try.underlying26 (by kernel_rfl) rfl (by decide) (bytesV r) hx (by rw [len_bytesV, hm, Nat.mul_one]) (slice_news hr) (one_bytesV _) h63 (by omega) fun g' c' cb' w' O' h' => ?_
    exact h g' c' cb' w' (ownc_app O') h'
end
end Go.Proofs.Ytlpfdghciegnnaa

/- Bytes of a constant text, made a slice: their block bears a mark, so it is no row; what is told of it stays. No function of the program is named here. -/
set_option maxRecDepth 4000
namespace Go.Proofs.Ytlpfdghciegnnaa
open Go Go.RowKit
def MarkAt (w : World) (g : Nat) (q : List (BitVec 8)) : Prop := ∃ fr, w.heap[g]? = some (.cells (bs q) 5 fr)
theorem MarkAt.lt {w : World} {g : Nat} {q : List (BitVec 8)} (h : MarkAt w g q) : g < w.heap.size := by
  obtain ⟨fr, h⟩ := h
  exact (Array.getElem?_eq_some_iff.1 h).1
theorem MarkAt.of {w w' : World} {g : Nat} {q : List (BitVec 8)} (h : MarkAt w g q) (e : w'.heap[g]? = w.heap[g]?) : MarkAt w' g q := by
  obtain ⟨fr, h⟩ := h
  exact ⟨fr, e.trans h⟩
theorem MarkAt.call {w w' : World} {g : Nat} {q : List (BitVec 8)} (h : MarkAt w g q) (hb : Below w.heap.size w w') : MarkAt w' g q := h.of (hb.block g h.lt)
theorem MarkAt.slice {w : World} {g n : Nat} {q : List (BitVec 8)} (h : MarkAt w g q) (hn : q.length = n) : Slice w (.slice (some ⟨g, 0, none⟩) n n) q := by
  obtain ⟨fr, h⟩ := h
  subst hn
  refine ⟨_, _, rfl, Nat.le_refl _, fun _ => ⟨g, 0, rfl, (Array.getElem?_eq_some_iff.1 h).1, fun j x hx => ?_⟩⟩
  rw [Nat.zero_add, cell_of_row w g j (bs q) 5 fr h, ← Array.getElem?_toList, bs_toList]
  simp [bytesV, hx]
def inS (S : List Blk) (k : Nat) : Prop := ∃ r ∈ S, r.g = k
theorem MarkAt.chg {w w' : World} {g : Nat} {q : List (BitVec 8)} {S S' : List Blk} (h : MarkAt w g q) (HS : St w (inS S) S' w') (hg : ∀ r ∈ S, r.g ≠ g) : MarkAt w' g q := h.of (HS.chg.block g h.lt fun ⟨r, h1, h2⟩ => hg r h1 h2)
/- the rows' own frame: what lies elsewhere stays, for a while -/
theorem St.frame {w0 w : World} {F : Nat → Prop} {S : List Blk} (h : St w0 F S w) : St w (inS S) S w :=
  ⟨Chg.refl _ _, h.rows, h.apart, fun _ r hk => .inl ⟨r, List.mem_of_getElem? hk, rfl⟩⟩
theorem St.unframe {w0 w w' : World} {S S' : List Blk} (h : St w0 noF S w) (k : St w (inS S) S' w') : St w0 noF S' w' := by
  have hw : ∀ j, inS S j → w0.heap.size ≤ j := fun j ⟨r, h1, h2⟩ => by
    obtain ⟨i, hi⟩ := List.getElem?_of_mem h1
    rcases h.own i r hi with hf | hf
    · exact hf.elim
    · omega
  refine ⟨⟨k.chg.os.trans h.chg.os, k.chg.tape.trans h.chg.tape, k.chg.output.trans h.chg.output, Nat.le_trans h.chg.size k.chg.size, fun j hj hn => ?_⟩, k.rows, k.apart, fun i r hi => .inr ?_⟩
  · exact (k.chg.block j (Nat.lt_of_lt_of_le hj h.chg.size) fun hf => by have := hw j hf; omega).trans (h.chg.block j hj hn)
  · rcases k.own i r hi with hf | hf
    · exact hw _ hf
    · exact Nat.le_trans h.chg.size hf
end Go.Proofs.Ytlpfdghciegnnaa

/- A block of the call's own is new. No function of the program is named here. -/
set_option maxRecDepth 4000
namespace Go.Proofs.Ytlpfdghciegnnaa
open Go Go.RowKit
theorem st_fresh2 {w0 w : World} {S : List Blk} (h : St w0 noF S w) (k : Nat) {r : Blk} (hk : S[k]? = some r) : w0.heap.size ≤ r.g := (h.own k r hk).resolve_left fun e => e
end Go.Proofs.Ytlpfdghciegnnaa

/- More of memory in a walk: cells that are far, rows that come back from a call, slices of slices of one's own. No function of the program is named here. -/
set_option maxRecDepth 4000
namespace Go.Proofs.Ytlpfdghciegnnaa
open Go Go.RowKit
/- block b has these cells from o on -/
structure CAt (w : World) (b o : Nat) (L : List Value) : Prop where
  lt : b < w.heap.size
  at_ : w.rangeAt b o L
theorem CAt.call {w w' : World} {b o : Nat} {L : List Value} (h : CAt w b o L) (hb : Below w.heap.size w w') : CAt w' b o L :=
  ⟨Nat.lt_of_lt_of_le h.lt hb.size, fun j v hv => (hb.cell (p := ⟨b, o + j, none⟩) h.lt).trans (h.at_ j v hv)⟩
theorem CAt.pre {w : World} {b o : Nat} {L M : List Value} (h : CAt w b o (L ++ M)) : CAt w b o L :=
  ⟨h.lt, fun j v hv => h.at_ j v (by rw [List.getElem?_append_left (List.getElem?_eq_some_iff.1 hv).1]; exact hv)⟩
theorem CAt.post {w : World} {b o n : Nat} {L M : List Value} (h : CAt w b o (L ++ M)) (hn : L.length = n) : CAt w b (o + n) M := by
  subst hn
  exact ⟨h.lt, fun j v hv => by
    have := h.at_ (L.length + j) v (by rw [List.getElem?_append_right (by omega), Nat.add_sub_cancel_left]; exact hv)
    rwa [← Nat.add_assoc] at this⟩
theorem CAt.news {w : World} {b o : Nat} {L : List Value} (h : CAt w b o L) : ∀ (j : Nat) (u : Value), L[j]? = some u → w.cell? ((⟨b, o, none⟩ : Addr).add j) = some u := fun j u hu => by
  rw [Addr.add_mid]; exact h.at_ j u hu
theorem cat_own {w : World} {g c n sz : Nat} {t : TypeId} {cb : Array Value} {L : List Value} (h : Row w g t cb) (O : OwnC cb c n sz L) : CAt w g 0 L :=
  ⟨h.lt, fun j v hv => by
    rw [Nat.zero_add]
    refine h.get ?_
    have hj := (List.getElem?_eq_some_iff.1 hv).1
    rw [← O.take, List.getElem?_take_of_lt (by rw [← O.len]; exact hj), Array.getElem?_toList] at hv
    exact hv⟩
theorem Owns.nil (w : World) : Owns w w (.slice none 0 0) [] := ⟨[], World.ownsRow_nil _ _ _ _, Below.refl _ _, fun j q h => by simp at h⟩
theorem Owns.call {w wr w' : World} {v : Value} {ps : List (List (BitVec 8))} (h : Owns w wr v ps) (hb : Below wr.heap.size wr w') : Owns w w' v ps := by
  obtain ⟨vs, h1, h2, h3⟩ := h
  exact ⟨vs, owns_call h1 hb, h2.trans (hb.mono h2.size), fun j q hq => by obtain ⟨u, h4, h5⟩ := h3 j q hq; exact ⟨u, h4, owns_call h5 hb⟩⟩
section
variable {o : Oper} {a : Act} {w w0 w1 : World} {R : Value → World → Prop} {S : List Blk}
end
end Go.Proofs.Ytlpfdghciegnnaa

/- Comparisons with nil; what stays while rows that were handed over are written. No function of the program is named here. -/
set_option maxRecDepth 4000
namespace Go.Proofs.Ytlpfdghciegnnaa
open Go Go.RowKit
section
variable {P : Program} {o : Oper} {a : Act} {w : World}
end
theorem dd_lit1 {P : Program} {o : Oper} {a : Act} {w w0 : World} {R : Value → World → Prop} {F : Nat → Prop} {S : List Blk} (HS : St w0 F S w) {t e : TypeId} {x : Operand} {cells : Array Value} {z : Value} {sz : Nat} (ho : o.op = .buildSlice t 1 #[(0, x)]) (hx : a.eval x = .agg cells)
    (hu : P.underlying t = some (.slice e)) (hie : (P.info? e).map (fun i => (i.zero, i.size)) = some (some z, sz)) (hc : cells.size = sz) (hp : Nat.blt 0 sz = true) (hs : Nat.ble sz 16777216 = true) (h : ∀ g w', St w0 F (S ++ [⟨g, e, cells⟩]) w' → R (.slice (some ⟨g, 0, none⟩) 1 1) w') : Does P o a w R := fun _ _ hK =>
  wp_buildOne t e x ho cells z sz hx hu hie hc (Nat.le_of_ble_eq_true hp) (Nat.le_of_ble_eq_true hs) (hK _ _ (h _ _ (HS.snoc e cells)))
theorem Chg.cellF {F : Nat → Prop} {w w' : World} (h : Chg F w w') {p : Addr} (hp : p.block < w.heap.size) (hF : ¬ F p.block) : w'.cell? p = w.cell? p := World.cell?_of_block (w := w) (h.block p.block hp hF)
theorem Slice.chg {F : Nat → Prop} {w w' : World} {A : Option Addr} {n c : Nat} {q : List (BitVec 8)} (h : Slice w (.slice A n c) q) (k : Chg F w w') (hF : ∀ ad, A = some ad → ¬ F ad.block) : Slice w' (.slice A n c) q := by
  obtain ⟨A', c', e, h2, h3⟩ := h
  injection e with e1 e2 e3
  subst e1 e2 e3
  refine ⟨_, _, rfl, h2, fun hne => ?_⟩
  obtain ⟨b, o, rfl, h5, h6⟩ := h3 hne
  exact ⟨b, o, rfl, Nat.lt_of_lt_of_le h5 k.size, fun j x hx => (k.cellF (p := ⟨b, o + j, none⟩) h5 (hF ⟨b, o, none⟩ rfl)).trans (h6 j x hx)⟩
theorem ownc_nil0 (sz : Nat) : OwnC #[] 0 0 sz [] := ⟨Nat.le_refl _, by decide, by simp, by simp, by simp⟩
end Go.Proofs.Ytlpfdghciegnnaa

/- slices.Chunk of bytes, in parts of 33: the iterator's contract. -/
set_option maxRecDepth 4000
namespace Go.Proofs.Ytlpfdghciegnnaa
open Go Go.RowKit Go.Shelf
attribute [local go_sem] Oper.semAt_some
/- all below n but block B lie as they lay -/
def KpB (n B : Nat) (W W' : World) : Prop := W.heap.size ≤ W'.heap.size ∧ ∀ k, k < n → k ≠ B → W'.heap[k]? = W.heap[k]?
theorem KpB.refl (n B : Nat) (W : World) : KpB n B W W := ⟨Nat.le_refl _, fun _ _ _ => rfl⟩
theorem KpB.trans {n B : Nat} {W W' W'' : World} (h : KpB n B W W') (k : KpB n B W' W'') : KpB n B W W'' := ⟨Nat.le_trans h.1 k.1, fun j hj hne => (k.2 j hj hne).trans (h.2 j hj hne)⟩
theorem KpB.cell {n B : Nat} {W W' : World} (h : KpB n B W W') {p : Addr} (hp : p.block < n) (hne : p.block ≠ B) : W'.cell? p = W.cell? p := by
  unfold World.cell?
  rw [h.2 _ hp hne]
theorem KpB.put {n B : Nat} {w : World} (hn : n ≤ w.heap.size) (W : World) (l : Nat) (o o' : Obj) (hl : w.heap.size ≤ l) (_ : W.heap[l]? = some o) : KpB n B W (W.putObj l o') :=
  ⟨by rw [World.putObj_size]; exact Nat.le_refl _, fun k hk _ => World.putObj_heap_other (by omega)⟩
def upF (m k : Nat) : List (Fin m) := (List.finRange m).take k
theorem upF_succ {m k : Nat} (hk : k < m) : upF m (k + 1) = upF m k ++ [⟨k, hk⟩] := by
  unfold upF
  rw [List.take_succ_eq_append_getElem (by rw [List.length_finRange]; exact hk)]
  simp
theorem upF_len {m k : Nat} (hk : k ≤ m) : (upF m k).length = k := by unfold upF; rw [List.length_take, List.length_finRange]; omega
theorem upF_all (m : Nat) : upF m m = List.finRange m := by unfold upF; rw [List.take_of_length_le (by rw [List.length_finRange]; exact Nat.le_refl _)]
theorem chunk_in (n : Nat) (a : Option Addr) (len cap : Nat) (w : World) :
    CallsIn Fence.wide n Try.prog 37 #[.slice a len cap, .int .i64 33] w fun e w' => e = .returned (.func (.func 41) #[] #[.pointer (some ⟨w.heap.size, 0, none⟩), .pointer (some ⟨w.heap.size + 1, 0, none⟩)]) ∧ w' = (w.alloc (.cells #[.slice a len cap] 26)).alloc (.cells #[.int .i64 33] 3) := by
  refine callsIn_of_wp Try.func37 rfl trivial ?_ rfl
  simp only [Try.ntmps37, List.size_toArray, List.length_cons, List.length_nil, Nat.reduceAdd, Nat.reduceSub, Array.replicate_succ, Array.replicate_zero, List.push_toArray, List.append_toArray, List.nil_append, List.cons_append]
  gi_wp2
  go_ret
  exact ⟨rfl, rfl⟩
set_option maxHeartbeats 2000000 in
theorem chunk1_in (n : Nat) (l Bs Bn n₀ B b off m cap L : Nat) (hL : L = 33 * m) (hbs : Bs < n₀) (hbn : Bn < n₀) (hs' : Bs ≠ B) (hn' : Bn ≠ B) (hc : L ≤ cap) (hx : L ≤ 140737488351232) (J Jx : List (Fin m) → World → Prop) (hD : ∀ s W, J s W → J s W.drew)
    (hY : ∀ pre (x : Fin m) W, J pre W → pre.length < m → YieldAt Fence.wide (n - 1) Try.prog l #[.slice (some ⟨b, off + 33 * x.1, none⟩) 33 33] W fun e W' =>
      (e = .returned (.bool true) ∧ J (pre ++ [x]) W' ∧ KpB n₀ B W W') ∨ (e = .returned (.bool false) ∧ Jx (pre ++ [x]) W'))
    (W : World) (hBs : W.cell? ⟨Bs, 0, none⟩ = some (.slice (some ⟨b, off, none⟩) L cap)) (hBn : W.cell? ⟨Bn, 0, none⟩ = some (.int .i64 33)) (h0 : J [] W) :
    CallsIn Fence.wide n Try.prog 41 #[.func (.yield l) #[] #[], .pointer (some ⟨Bs, 0, none⟩), .pointer (some ⟨Bn, 0, none⟩)] W fun e W' => (∃ v, e = .returned v) ∧
      ((∃ ys, ys = List.finRange m ∧ J ys W') ∨ (∃ pre, Jx pre W')) := by
  refine callsIn_of_wp Try.func41 rfl trivial ?_ rfl
  simp only [Try.ntmps41, List.size_toArray, List.length_cons, List.length_nil, Nat.reduceAdd, Nat.reduceSub, Array.replicate_succ, Array.replicate_zero, List.push_toArray, List.append_toArray, List.nil_append, List.cons_append]
  gi_wp2
  gi_loopw [4] (fun i wr => ∃ k i0 : Nat, k ≤ m ∧ i0 = 33 * k ∧ i = .int .i64 (i0 : Int) ∧ J (upF m k) wr ∧ KpB n₀ B W wr)
    (fun i _ => L - (intOf i).toNat)
  case atStart => exact ⟨0, 0, Nat.zero_le _, rfl, rfl, h0, KpB.refl _ _ _⟩
  case round =>
    obtain ⟨k, i0, hk, hi0, rfl, hJs, hnx⟩ := hrel
    have hcs : wr.cell? ⟨Bs, 0, none⟩ = some (.slice (some ⟨b, off, none⟩) L cap) := (hnx.cell (p := ⟨Bs, 0, none⟩) hbs hs').trans hBs
    have hcn : wr.cell? ⟨Bn, 0, none⟩ = some (.int .i64 33) := (hnx.cell (p := ⟨Bn, 0, none⟩) hbn hn').trans hBn
    by_cases hlt : i0 < L
    · have hkm : k < m := by omega
      have hw : IntKind.i64.wrap ((i0 : Int) + 33) = (i0 : Int) + 33 := i64_id _ (by omega) (by omega)
      have hle : i0 + 33 ≤ L := by omega
      have hmin : min (33 : Int) ((L - i0 : Nat) : Int) = 33 := by omega
      have HL := Lib.hid hL
      have HI := Lib.hid hi0
      clear hL hi0
      gi_wp2
      gi_region
      obtain ⟨fn, tmps, assign, body, hy, hR⟩ := hY _ ⟨k, hkm⟩ wr.drew (hD _ _ hJs) (by rw [upF_len hk]; exact hkm)
      have hz : Value.slice (some { block := b, off := off + 33 * k }) 33 33 = Value.slice (some { block := b, off := off + i0 }) 33 33 := by rw [HI.out]
      dsimp only at hy
      rw [hz] at hy
      clear hz
      have hsub : i0 + 33 - i0 = 33 := by omega
      gi_wp2
      refine ⟨fun h => (by simp [Fence.wide] at h), ?_⟩
      refine hR.mono ?_
      rintro e W3 (⟨rfl, hJ3, hk3⟩ | ⟨rfl, hJx3⟩)
      · have hk4 : KpB n₀ B wr W3 := hk3
        have hk5 := hnx.trans hk4
        have hcs3 : W3.cell? ⟨Bs, 0, none⟩ = some (.slice (some ⟨b, off, none⟩) L cap) := (hk5.cell (p := ⟨Bs, 0, none⟩) hbs hs').trans hBs
        have hcn3 : W3.cell? ⟨Bn, 0, none⟩ = some (.int .i64 33) := (hk5.cell (p := ⟨Bn, 0, none⟩) hbn hn').trans hBn
        gi_wp2
        go_roundw
        case rel => exact ⟨k + 1, i0 + 33, hkm, by have := HI.out; omega, rfl, by rw [upF_succ hkm]; exact hJ3, hk5⟩
        case measure => simp [intOf]; omega
      · gi_wp2
        refine bodyPost_ret (results_none rfl _ _ _) rfl ?_
        exact ⟨⟨_, rfl⟩, .inr ⟨_, hJx3⟩⟩
    · obtain rfl : k = m := by omega
      gi_wp2
      go_end0
      exact ⟨⟨_, rfl⟩, .inl ⟨_, upF_all k, hJs⟩⟩
/- the value that Chunk hands back, as an iterator -/
theorem chunk_stops (n : Nat) (w : World) (Bs Bn n₀ B b off m cap L : Nat) (hL : L = 33 * m) (hn0 : n₀ ≤ w.heap.size) (hbs : Bs < n₀) (hbn : Bn < n₀) (hs' : Bs ≠ B) (hn' : Bn ≠ B) (hc : L ≤ cap) (hx : L ≤ 140737488351232)
    (hBs : w.cell? ⟨Bs, 0, none⟩ = some (.slice (some ⟨b, off, none⟩) L cap)) (hBn : w.cell? ⟨Bn, 0, none⟩ = some (.int .i64 33)) :
    SeqStopsK Fence.wide n Try.prog 41 #[.pointer (some ⟨Bs, 0, none⟩), .pointer (some ⟨Bn, 0, none⟩)] (fun x : Fin m => #[Value.slice (some ⟨b, off + 33 * x.1, none⟩) 33 33]) (KpB n₀ B) (fun ys => ys = List.finRange m) (fun _ => True) m w :=
  fun l J Jx W hW hJ _ hY h0 => by
    have hB1 := (hW.cell (p := ⟨Bs, 0, none⟩) (Nat.lt_of_lt_of_le hbs hn0)).trans hBs
    have hB2 := (hW.cell (p := ⟨Bn, 0, none⟩) (Nat.lt_of_lt_of_le hbn hn0)).trans hBn
    refine (chunk1_in n l Bs Bn n₀ B b off m cap L hL hbs hbn hs' hn' hc hx J Jx ?_ hY W hB1 hB2 h0).mono ?_
    · exact fun s W1 h1 => hJ s W1 W1.drew none h1 ⟨rfl, rfl, rfl, Nat.le_refl _, fun _ _ _ => rfl⟩ (fun r e => by cases e)
    · rintro e W' ⟨he, ⟨ys, h1, h2⟩ | ⟨pre, h2⟩⟩
      · exact ⟨he, .inl ⟨ys, h1, h2⟩⟩
      · exact ⟨he, .inr ⟨pre, trivial, h2⟩⟩
end Go.Proofs.Ytlpfdghciegnnaa

/- A region of a round: walked as everywhere. -/
set_option maxRecDepth 4000
namespace Go.Proofs.Ytlpfdghciegnnaa
open Go Go.RowKit
theorem rowsIn_round {P : Program} {n l : Nat} {row : String} {args : Array Value} {w : World} {R : Value → World → Prop} (h : Rows P row args w R) : RowsIn (Fence.wide.inRound l) n P row args w R :=
  fun c cs _ => let ⟨v, w', r, s⟩ := h c cs; ⟨v, w', r, stepsIn_wide.2 s⟩
def noDefer (l : List Oper) : Bool := l.all fun o => match o.op with | .defer _ => false | _ => true
theorem noDefer_is {l : List Oper} (h : noDefer l = true) {i : Nat} {o : Oper} (ho : l.toArray[i]? = some o) (c) : o.op ≠ .defer c := fun e => by
  have h1 : o ∈ l := by
    rw [List.getElem?_toArray] at ho
    exact List.mem_of_getElem? ho
  have h2 := List.all_eq_true.1 h o h1
  rw [e] at h2
  cases h2
class NoOut (Q : Exit → Act → World → Prop) : Prop where
  no : ¬ LetsOut Q
instance {id : Nat} {Q : Exit → Act → World → Prop} [h : NoOut Q] : NoOut (Exit.inBlock id Q) := ⟨fun ⟨a, w, k⟩ => h.no ⟨a, w, k⟩⟩
instance {K : Act → World → Prop} {Q : Exit → Act → World → Prop} [h : NoOut Q] : NoOut (Exit.then K Q) := ⟨fun ⟨a, w, k⟩ => h.no ⟨a, w, k⟩⟩
instance {α : Type} {Kp : World → World → Prop} {I : List α → World → Prop} {Ix : Code → List α → World → Prop} {xs : List α} {W : World} : NoOut (ownPostK Kp I Ix xs W) := ⟨fun ⟨_, _, k⟩ => k⟩
instance {α : Type} {Kp : World → World → Prop} {I : List α → World → Prop} {Ix : Code → List α → World → Prop} {xs : List α} {W : World} : PQc (ownPostK Kp I Ix xs W) := ⟨fun _ _ _ _ _ h => h⟩
theorem wide_no {l : Nat} {k : Prop} : ((Fence.wide.inRound l).depth.isSome = true → k) := fun h => by simp [Fence.wide] at h
theorem op_round {P : Program} {l : List Oper} {l9 n i : Nat} {Q : Exit → Act → World → Prop} {K : Act → World → Prop} {a : Act} {w : World} (hd : noDefer l = true) (hQ : ¬ LetsOut Q) (h : wpOp P l.toArray Q i K a w) : wpOpIn (Fence.wide.inRound l9) n P l.toArray Q i K a w := by
  unfold wpOp at h
  unfold wpOpIn
  cases ho : l.toArray[i]? with
  | none => rw [ho] at h; exact h
  | some o =>
    rw [ho] at h
    simp only at h ⊢
    by_cases hw : Region.wanted o (yielded l.toArray a.tmps) = true
    · rw [if_pos hw] at h
      rw [if_pos hw]
      rcases h with h | h
      · refine ⟨fun _ _ => trivial, ?_⟩
        rw [Fence.inRound_round, Oper.semAt_some l9 _ _ (noDefer_is hd ho)]
        unfold Oper.wp at h
        generalize (execOp a.eval o).run P w = r at h ⊢
        cases r with
        | ok x w' =>
          cases x with
          | value v => exact h
          | skip => exact h
          | defer d => exact h
          | enter f args =>
            rw [Oper.upon_enter] at h
            rw [Oper.uponIn_enter]
            refine ⟨wide_no, CallsIn.inRound l9 ((callsIn_wide.2 h).mono fun e w'' he => ?_)⟩
            cases e <;> exact he
          | row row args =>
            rw [Oper.upon_row] at h
            rw [Oper.uponIn_row]
            exact ⟨wide_no, rowsIn_round h⟩
          | _ => exact h.elim
        | halt x w' => cases x <;> exact h
      · exact absurd h.2 hQ
    · rw [if_neg hw] at h
      rw [if_neg hw]
      exact ⟨fun _ _ => trivial, h⟩
theorem any_round {P : Program} {l : List Oper} {l9 n : Nat} {Q : Exit → Act → World → Prop} (hd : noDefer l = true) (hQ : ¬ LetsOut Q) : ∀ (fuel : Nat) (listed : Array Bool) (a : Act) (w : World), wpAny P .any l.toArray Q fuel listed a w → wpAnyIn (Fence.wide.inRound l9) n P .any l.toArray Q fuel listed a w := by
  intro fuel
  induction fuel with
  | zero => intro listed a w h; exact h
  | succ fuel ih =>
    intro listed a w h
    exact ⟨h.1, fun i hi => wpOpIn_mono (fun a w => ih _ a w) (op_round hd hQ (h.2 i hi))⟩
theorem wiIn_ {P : Program} {Q : Exit → Act → World → Prop} {a : Act} {w w0 : World} {F : Nat → Prop} {l9 n : Nat} [hQ : NoOut Q] {S : List Blk} (HS : St w0 F S w) (is : List Nat) {id : Nat} {l : List Oper} {M : Nat} (hM : l.length = M) {R9 : List Blk} (js : List Nat) (e : selB S js = selB S is ++ R9) (h : St w0 F S w.drew → Sx w0 F (selB S is) w.drew → wpAnyH P .any l.toArray Q (Sx w0 F (selB S is)) M (Array.replicate M false) a w.drew) (hd : noDefer l = true := by kernel_rfl) (hn : js.Nodup := by decide) (hm : P.follows .mixedOrders = true := by kernel_rfl) : (Code.region id l.toArray true).wpIn (Fence.wide.inRound l9) n P Q a w := by
  subst hM
  refine wpIn_region_any hm (any_round hd hQ.no _ _ _ _ (wpAny_of_held _ _ _ _ (S := Sx w0 F (selB S is)) ?_))
  have e9 : l.toArray.size = l.length := by simp
  rw [e9]
  obtain ⟨R9', k⟩ := sxi HS js e hn
  exact h HS.drew ⟨R9', k.drew⟩
theorem wpIn_cut {F : Fence} {n : Nat} {P : Program} {Q : Exit → Act → World → Prop} {c : Code} {a : Act} {w : World} (I : Act → World → Prop) (h : c.wpIn F n P (Exit.then I Q) a w) (k : ∀ a w, I a w → Q .normal a w) : c.wpIn F n P Q a w :=
  Go.wpIn_mono h fun e a w q => by
    cases e with
    | normal => exact k a w q
    | _ => exact q
/- what is around a round -/
theorem st_gn {w0 W W' : World} {S : List Blk} {row : Option Nat} (h : St w0 noF S W) (hg : W.grownBy W' row) (hr : ∀ r, row = some r → w0.heap.size ≤ r ∧ ∃ o : Obj, W.heap[r]? = some o ∧ o.isCells = false) : St w0 noF S W' := by
  cases row with
  | none => exact h.same (below_of_grown hg (fun g e => by cases e) (Nat.le_refl _))
  | some r =>
    obtain ⟨h1, o, h2, h3⟩ := hr r rfl
    refine h.far hg h1 fun b hb e => ?_
    obtain ⟨i, hi⟩ := List.getElem?_of_mem hb
    have h4 := h.rows i b hi
    unfold Row at h4
    rw [e, h2] at h4
    injection h4 with h4
    subst h4
    cases h3
theorem keeps_st {W W' : World} {S S' : List Blk} (h : St W (inS S) S W) (k : St W (inS S) S' W') : KeepsOthers W W' := ⟨k.chg.size, fun j o hj ho => by
  have hl := (Array.getElem?_eq_some_iff.1 hj).1
  refine (k.chg.block j hl fun ⟨r, h1, h2⟩ => ?_).trans hj
  obtain ⟨i, hi⟩ := List.getElem?_of_mem h1
  have h4 := h.rows i r hi
  unfold Row at h4
  rw [h2, hj] at h4
  injection h4 with h4
  subst h4
  cases ho⟩
theorem kpb_st {W W' : World} {S S' : List Blk} {n B : Nat} (k : St W (inS S) S' W') (hn : n ≤ W.heap.size) (hS : ∀ r ∈ S, r.g = B ∨ n ≤ r.g) : KpB n B W W' := ⟨k.chg.size, fun j hj hne => k.chg.block j (by omega) fun ⟨r, h1, h2⟩ => by
  rcases hS r h1 with h3 | h3
  · exact hne (h2.symm.trans h3)
  · omega⟩
end Go.Proofs.Ytlpfdghciegnnaa

/- Appends of whatever slice, be it of none. No function of the program is named here. -/
set_option maxRecDepth 4000
namespace Go.Proofs.Ytlpfdghciegnnaa
open Go Go.RowKit
section
variable {P : Program} {o : Oper} {a : Act} {w w0 : World} {R : Value → World → Prop} {F : Nat → Prop} {S : List Blk}
theorem dd_appE {e t : TypeId} {s x : Operand} {A : Option Addr} {n c n2 sz : Nat} (ho : o.op = .call { callee := .builtin .append, args := #[s, x], argTypes := #[t, t] }) (hs : a.eval s = .slice A n c) (hx : a.eval x = .slice none 0 n2) (hc : n ≤ c) (ht : P.underlying t = some (.slice e)) (hi : (P.info? e).map (fun i => i.size) = some sz) : (execOp a.eval o).run P w = .ok (.value (.slice A n c)) w := by
  obtain ⟨i, hi1, hi2⟩ := Option.map_eq_some_iff.1 hi
  cases A <;> simp [execOp, ho, resolve, invoke, builtin, hs, hx, Builtin.append_, run_underlying ht, sizeOf, typeInfo, hi1, Builtin.lenOf, Builtin.firstCells, storeCells, hc]
theorem st_move (h : St w0 F S w) (k : Nat) {r : Blk} (hk : S[k]? = some r) : St w0 F (S.eraseIdx k ++ [r]) w := by
  refine st_snoc (st_erase h k) (h.row k hk) (h.own k r hk) fun b hb e => ?_
  obtain ⟨j, hj⟩ := List.getElem?_of_mem hb
  rw [List.getElem?_eraseIdx] at hj
  split at hj
  · exact h.apart j k b r (by omega) hj hk e
  · exact h.apart (j + 1) k b r (by omega) hj hk e
theorem dd_appX (HS : St w0 F S w) (k : Nat) {g c n sz : Nat} {cb : Array Value} {e t : TypeId} {L : List Value} (hk : S[k]? = some ⟨g, e, cb⟩) (O : OwnC cb c n sz L) {s x : Operand} (ho : o.op = .call { callee := .builtin .append, args := #[s, x], argTypes := #[t, t] })
    (hs : a.eval s = .slice (some ⟨g, 0, none⟩) n c) {z : Value} {bytes : Nat} (ht : P.underlying t = some (.slice e)) (hi : (P.info? e).map (fun i => (i.zero, i.size, i.bytes)) = some (some z, sz, bytes)) (hzs : z.cells.size = sz) (hsz : 0 < sz)
    {A : Option Addr} {m c2 : Nat} (news : List Value) (hx : a.eval x = .slice A m c2) (hl : news.length = m * sz) (hA : m ≠ 0 → ∃ b o, A = some ⟨b, o, none⟩ ∧ CAt w b o news) (h1 : ∀ u ∈ news, u.oneCell' = true)
    (h63 : n + m ≤ maxLen) (hbytes : (n + m) * bytes ≤ 140737488355328)
    (h : ∀ g' c' cb' w', OwnC cb' c' (n + m) sz (L ++ news) → St w0 F (S.eraseIdx k ++ [⟨g', e, cb'⟩]) w' → R (.slice (some ⟨g', 0, none⟩) (n + m) c') w') : Does P o a w R := by
  cases A with
  | some ad =>
    refine dd_app HS k hk O ho hs ht hi hzs hsz news hx hl (fun j u hu => ?_) h1 h63 hbytes h
    have hm : m ≠ 0 := fun e => by
      subst e
      rw [Nat.zero_mul] at hl
      rw [List.eq_nil_of_length_eq_zero hl] at hu; simp at hu
    obtain ⟨b, o2, e2, h2⟩ := hA hm
    injection e2 with e2
    subst e2; exact h2.news j u hu
  | none =>
    obtain rfl : m = 0 := Decidable.byContradiction fun hm => by obtain ⟨_, _, e2, _⟩ := hA hm; cases e2
    rw [Nat.zero_mul] at hl
    obtain rfl := List.eq_nil_of_length_eq_zero hl
    have hi' : (P.info? e).map (fun i => i.size) = some sz := by
      obtain ⟨i, k1, k2⟩ := Option.map_eq_some_iff.1 hi
      rw [k1]; injection k2 with _ k2; injection k2 with k2 _; rw [← k2]; rfl
    refine dd_rn (dd_appE ho hs hx O.le ht hi') ?_
    have h2 := h g c cb w (by rw [List.append_nil]; exact O) (st_move HS k hk)
    rwa [Nat.add_zero] at h2
end
end Go.Proofs.Ytlpfdghciegnnaa

/- What stays while a call writes the rows that were handed to it. No function of the program is named here. -/
set_option maxRecDepth 4000
namespace Go.Proofs.Ytlpfdghciegnnaa
open Go Go.RowKit
theorem nin_l {w0 w : World} {S : List Blk} (h : St w0 noF S w) {b : Nat} (hb : b < w0.heap.size) : ¬ inS S b := fun ⟨r, h1, h2⟩ => by
  obtain ⟨i, hi⟩ := List.getElem?_of_mem h1
  have := (h.own i r hi).resolve_left fun e => e
  omega
end Go.Proofs.Ytlpfdghciegnnaa

/- putsFrom: the puts of bytes of which all are there. -/
set_option maxRecDepth 4000
namespace Go.Proofs.Ytlpfdghciegnnaa
open Go Go.RowKit Go.Shelf
attribute [local go_sem] Oper.semAt_some
def chunkP (q : List (BitVec 8)) (x : Nat) : Int × List (BitVec 8) := (bd (q.getD (33 * x) 0#8), (q.drop (33 * x + 1)).take 32)
def putsL {m : Nat} (q : List (BitVec 8)) (pre : List (Fin m)) : List Value := ((pre.map fun x => chunkP q x.1).map pcell).flatten
theorem putsL_S {m : Nat} {q : List (BitVec 8)} {pre : List (Fin m)} {x : Fin m} {cb : Array Value} {c : Nat} (O : OwnC cb c (pre.length + 1) 33 (putsL q pre ++ (catA [[.int .i64 (bd (q.getD (33 * x.1) 0#8))], bytesV ((q.drop (33 * x.1 + 1)).take 32)]).toList)) : OwnC cb c (pre ++ [x]).length 33 (putsL q (pre ++ [x])) := by
  rw [List.length_append, putsL, List.map_append, List.map_append, List.flatten_append]
  have e : ((([x].map fun x => chunkP q x.1).map pcell).flatten) = (catA [[.int .i64 (bd (q.getD (33 * x.1) 0#8))], bytesV ((q.drop (33 * x.1 + 1)).take 32)]).toList := by simp [chunkP, pcell, catA]
  rw [e]
  exact O
theorem putsL_1 {m : Nat} {q : List (BitVec 8)} {x : Fin m} {cb : Array Value} {c : Nat} (O : OwnC cb c 1 33 ((catA [[.int .i64 (bd (q.getD (33 * x.1) 0#8))], bytesV ((q.drop (33 * x.1 + 1)).take 32)]).toList)) : OwnC cb c ([] ++ [x]).length 33 (putsL q ([] ++ [x])) := putsL_S (pre := []) O
theorem chk_at {w : World} {b off j : Nat} {q : List (BitVec 8)} (h : CAt w b off (bytesV q)) (hj : j < q.length) : w.cell? ⟨b, off + j + 0, none⟩ = some (.int .u8 (bd (q.getD j 0#8))) := by
  refine h.at_ j _ ?_
  unfold bytesV
  rw [List.getElem?_map, List.getElem?_eq_getElem hj, List.getD_eq_getElem?_getD, List.getElem?_eq_getElem hj]
  rfl
theorem chk_len {m : Nat} {q : List (BitVec 8)} (hq : q.length = 33 * m) {x : Fin m} (hx : x.1 < m) : ((q.drop (33 * x.1 + 1)).take 32).length = 32 := by rw [List.length_take, List.length_drop, hq]; omega
theorem chk_sl {w : World} {b off k : Nat} {q : List (BitVec 8)} (h : CAt w b off (bytesV q)) : w.rangeAt b (off + k + 1) (bytesV ((q.drop (k + 1)).take 32)) := fun j v hv => by
  have h1 : j < 32 := by
    have := (List.getElem?_eq_some_iff.1 hv).1
    rw [len_bytesV, List.length_take] at this
    omega
  have := h.at_ (k + 1 + j) v (by
    unfold bytesV at hv ⊢
    rw [List.getElem?_map, List.getElem?_take_of_lt h1, List.getElem?_drop] at hv
    rw [List.getElem?_map]
    exact hv)
  rw [show off + k + 1 + j = off + (k + 1 + j) by omega]
  exact this
theorem new_nil {W W' : World} {B n : Nat} {t : TypeId} {cs cs' : Array Value} {r : Blk} (k : St W (inS [⟨B, t, cs⟩]) [⟨B, t, cs'⟩, r] W') (hn : n ≤ W.heap.size) : n ≤ r.g := by
  rcases k.own 1 r rfl with ⟨s, h1, h2⟩ | h
  · rw [List.mem_singleton] at h1
    subst h1
    exact (k.apart 0 1 _ _ (by decide) rfl rfl h2).elim
  · omega
theorem new_own {W W' : World} {B n : Nat} {t : TypeId} {cs cs' : Array Value} {r r0 : Blk} (_ : St W (inS [⟨B, t, cs⟩, r0]) [⟨B, t, cs⟩, r0] W) (k : St W (inS [⟨B, t, cs⟩, r0]) [⟨B, t, cs'⟩, r] W') (hn : n ≤ W.heap.size) (h0 : n ≤ r0.g) : n ≤ r.g := by
  rcases k.own 1 r rfl with ⟨s, h1, h2⟩ | h
  · rcases List.mem_cons.1 h1 with rfl | h1
    · exact (k.apart 0 1 _ _ (by decide) rfl rfl h2).elim
    · rw [List.mem_singleton] at h1
      subst h1
      omega
  · omega
theorem cat_chg {w w' : World} {F : Nat → Prop} {b o : Nat} {L : List Value} (h : CAt w b o L) (k : Chg F w w') (hn : ¬ F b) : CAt w' b o L :=
  ⟨Nat.lt_of_lt_of_le h.lt k.size, fun j v hv => (World.cell?_of_block (a := ⟨b, o + j, none⟩) (k.block b h.lt hn)).trans (h.at_ j v hv)⟩
theorem putsL_all (m : Nat) (q : List (BitVec 8)) : putsL q (List.finRange m) = (((List.range m).map (chunkP q)).map pcell).flatten := by
  unfold putsL
  congr 2
  apply List.ext_getElem
  · simp
  · intro i h1 h2
    simp
def PutsR (w : World) (m : Nat) (q : List (BitVec 8)) (e : Ending) (w' : World) : Prop := ∃ v, e = .returned v ∧ (m = 0 → v = .slice none 0 0) ∧ w'.ownsRow w.heap.size 48 33 v m (((List.range m).map (chunkP q)).map pcell).flatten ∧ Below w.heap.size w w'
def PutsI {m : Nat} (w0 : World) (n0 B : Nat) (q : List (BitVec 8)) (pre : List (Fin m)) (W : World) : Prop :=
  (pre = [] ∧ n0 ≤ W.heap.size ∧ St w0 noF [⟨B, 23, #[.slice none 0 0]⟩] W) ∨
  (∃ g c cb, n0 ≤ g ∧ n0 ≤ W.heap.size ∧ 0 < pre.length ∧ OwnC cb c pre.length 33 (putsL q pre) ∧ St w0 noF [⟨B, 23, #[.slice (some ⟨g, 0, none⟩) pre.length c]⟩, ⟨g, 48, cb⟩] W)
theorem putsI_own {m : Nat} {w0 : World} {n0 B B0 : Nat} {q : List (BitVec 8)} (h0 : w0.heap.size ≤ B0) : OwnFrom B0 (PutsI (m := m) w0 n0 B q) := fun s W W' row h hg hr => by
  have hr' : ∀ r, row = some r → w0.heap.size ≤ r ∧ ∃ o : Obj, W.heap[r]? = some o ∧ o.isCells = false := fun r e => ⟨Nat.le_trans h0 (hr r e).1, (hr r e).2⟩
  rcases h with ⟨h1, h2, h3⟩ | ⟨g, c, cb, h1, h2, h5, h3, h4⟩
  · exact .inl ⟨h1, Nat.le_trans h2 hg.size, st_gn h3 hg hr'⟩
  · exact .inr ⟨g, c, cb, h1, Nat.le_trans h2 hg.size, h5, h3, st_gn h4 hg hr'⟩
set_option maxHeartbeats 1600000 in
theorem putsfrom_any (b off c m : Nat) (q : List (BitVec 8)) (w : World) (hq : q.length = 33 * m) (hm : m ≤ 1000) (hc : 33 * m ≤ c) (h0 : CAt w b off (bytesV q)) : Calls Try.prog 26 #[.slice (some ⟨b, off, none⟩) (33 * m) c] w fun e w' => PutsR w m q e w' := by
  obtain ⟨L, hL⟩ : ∃ L, L = 33 * m := ⟨_, rfl⟩
  rw [← hL] at hc ⊢
  refine (callsIn_wide (n := 3)).1 ?_
  refine callsIn_of_wp_marks Try.func26 rfl trivial ?_ rfl
  simp only [Try.ntmps26, List.size_toArray, List.length_cons, List.length_nil, Nat.reduceAdd, Nat.reduceSub, Array.replicate_succ, Array.replicate_zero, List.push_toArray, List.append_toArray, List.nil_append, List.cons_append]
  have HL := Lib.hid hL
  clear hL
  gi_wp2_with (refine ⟨trivial, ?_⟩; gi_at_call 37; refine (chunk_in _ _ _ _ _).mono ?_; rintro e w' ⟨rfl, rfl⟩)
  obtain ⟨w3, hw3⟩ : ∃ w3, ((w.alloc (.cells #[.slice none 0 0] 23)).alloc (.cells #[.slice (some ⟨b, off, none⟩) L c] 26)).alloc (.cells #[.int .i64 33] 3) = w3 := ⟨_, rfl⟩
  have hs3 : w3.heap.size = w.heap.size + 3 := by rw [← hw3]; simp
  have HSn := (((St.nil w noF).snoc 23 #[.slice none 0 0]).snoc 26 #[.slice (some ⟨b, off, none⟩) L c]).snoc 3 #[.int .i64 33]
  have hk1 : w3.cell? ⟨w.heap.size + 1, 0, none⟩ = some (.slice (some ⟨b, off, none⟩) L c) := by
    have h1 := (HSn.row 1 rfl).get (i := 0) rfl
    rw [hw3] at h1
    simpa using h1
  have hk2 : w3.cell? ⟨w.heap.size + 2, 0, none⟩ = some (.int .i64 33) := by
    have h1 := (HSn.row 2 rfl).get (i := 0) rfl
    rw [hw3] at h1
    simpa using h1
  clear HSn
  have hI0 : PutsI (m := m) w (w.heap.size + 3) w.heap.size q [] w3 := .inl ⟨rfl, by omega, by
    rw [← hw3]
    exact (((St.nil w noF).snoc 23 #[.slice none 0 0]).same ((Below.refl _ _).alloc (Nat.le_refl _) _)).same ((Below.refl _ _).alloc (Nat.le_refl _) _)⟩
  have hOwn := putsI_own (m := m) (w0 := w) (n0 := w.heap.size + 3) (B := w.heap.size) (B0 := w3.heap.size) (q := q) (by omega)
  rw [hw3]
  refine wpIn_rangeFunc_ownF (α := Fin m) rfl (by decide) (gf := 41) (lb := #[.pointer (some ⟨w.heap.size + 1, 0, none⟩), .pointer (some ⟨w.heap.size + 1 + 1, 0, none⟩)]) rfl trivial (enters_of Try.func41 (by kernel_rfl) rfl)
    (chunk_stops _ w3 (w.heap.size + 1) (w.heap.size + 2) (w.heap.size + 3) w.heap.size b off m c L HL.out (by omega) (by omega) (by omega) (by omega) (by omega) hc (by have := HL.out; omega) hk1 hk2) (fun h k => h.trans k) (fun W l o o' hl h _ _ => KpB.put (w := w3) (by omega) W l o o' hl h) (Below.refl _ _) (fun _ => rfl)
    (PutsI w (w.heap.size + 3) w.heap.size q) (fun _ _ _ => False) hOwn (fun _ _ _ _ _ h _ _ => h) hI0
    (fun x => { tmps := #[.slice (some ⟨b, off, none⟩) L c, undef, .slice none 0 0, .pointer (some ⟨w.heap.size, 0, none⟩), .slice (some ⟨b, off + 33 * x.1, none⟩) 33 33, .slice (some ⟨b, off, none⟩) L c, .func (.func 41) #[] #[.pointer (some ⟨w.heap.size + 1, 0, none⟩), .pointer (some ⟨w.heap.size + 1 + 1, 0, none⟩)], .slice (some ⟨b, off + 33 * x.1, none⟩) 33 33, undef, undef, undef, undef, undef, undef, undef, undef, undef, undef, undef, undef, undef], defers := [] }) ?assign ?body ?done ?stop
  case assign =>
    intro l x W K hK
    gi_wp2
    exact hK
  case body =>
    intro l pre x W hI hpl
    have hx : x.1 < m := x.2
    generalize hB : w.heap.size = B at *
    refine wpIn_block ?_
    generalize ha : (Act.mk _ _) = a1
    have HA1 : En 21 [(4, .slice (some ⟨b, off + 33 * x.1, none⟩) 33 33), (3, .pointer (some ⟨B, 0, none⟩))] a1 := by subst ha; exact en_cons (en_cons (en_nil rfl rfl) rfl) rfl
    clear ha
    rcases hI with ⟨rfl, hn0, HS⟩ | ⟨g, c, cb, hg, hn0, _, O, HS⟩
    · have HSf := HS.frame
      have HC : ∀ W9, Chg (inS [⟨B, 23, #[.slice none 0 0]⟩]) W W9 → CAt W9 b off (bytesV q) := fun W9 k9 => cat_chg (h0.call HS.below) k9 (nin_l HS h0.lt)
      refine wpIn_cut (fun a9 w9 => ∃ g19_16 : Nat, ∃ c19_16 : Nat, ∃ g18 : Nat, ∃ cb19_16 : Array Value, OwnC cb19_16 c19_16 1 33 ((catA [[.int .i64 (bd (q.getD (33 * x.1) 0#8))], bytesV ((q.drop (33 * x.1 + 1)).take 32)]).toList) ∧ En 21 [] a9 ∧ St W (inS [⟨B, 23, #[.slice none 0 0]⟩]) [⟨B, 23, #[.slice (some ⟨g19_16, 0, none⟩) 1 c19_16]⟩, ⟨g18, 48, catA [[.int .i64 (bd (q.getD (33 * x.1) 0#8))], bytesV ((q.drop (33 * x.1 + 1)).take 32)]⟩, ⟨g19_16, 48, cb19_16⟩] w9) ?_ ?_
      ·
       refine wiIn_ HSf [] rfl [0] rfl fun HSh1 hx1 => hp_ HA1 1 hx1 rfl rfl rfl fun _ H2 => ht_ H2 2 hx1 rfl rfl (fun _ _ _ => xS 1 (off + 33 * x.1 + 0) rfl (H2.ev 9 rfl) rfl) fun _ H3 => ht_ H3 3 hx1 rfl rfl (fun _ _ HS9 => dd_at rfl (H3.ev 10 rfl) (chk_at (HC _ HS9.chg) (by omega)) Try.underlying5 rfl) fun _ H4 => ht_ H4 4 hx1 rfl rfl (v := .int .i64 (bd (q.getD (33 * x.1) 0#8))) (fun _ _ _ => dd_conv (k := .i64) rfl (H4.ev 11 rfl) Try.underlying5 (by kernel_rfl) (i64_bdA _)) fun _ H5 => hp_ H5 5 hx1 rfl rfl rfl fun _ H6 => ht_ H6 6 hx1 rfl rfl (v := .slice (some ⟨b, off + 33 * x.1 + 1, none⟩) 32 32) (fun _ _ _ => dd_sll (l := 1) (sz := 1) rfl (H6.ev 13 rfl) rfl (by kernel_rfl) (by decide) (by decide) rfl rfl rfl) fun _ H7 => ht_ H7 7 hx1 rfl rfl (v := .pointer (some ⟨b, off + 33 * x.1 + 1, none⟩)) (fun _ _ _ => dd_s2a (m := 32) (sz := 1) rfl (H7.ev 14 rfl) (by kernel_rfl) (by decide)) fun _ H8 => ?_
       clear HSf HA1 H2 H3 H4 H5 H6
       refine ht_ H8 8 hx1 rfl rfl (v := .agg (bs ((q.drop (33 * x.1 + 1)).take 32))) (fun _ _ HS9 => dd_atN rfl (H8.ev 15 rfl) (chk_sl (HC _ HS9.chg)) Try.underlying46 rfl (by show _ = some (bytesV _).length; rw [len_bytesV, chk_len hq hx]; kernel_rfl)) fun a9 H9 => ht_ H9 9 hx1 rfl rfl (v := .agg (catA [[.int .i64 (bd (q.getD (33 * x.1) 0#8))], bytesV ((q.drop (33 * x.1 + 1)).take 32)])) (fun _ _ _ => dd_bld rfl (ps := [(0, .int .i64 (bd (q.getD (33 * x.1) 0#8))), (1, .agg (bs ((q.drop (33 * x.1 + 1)).take 32)))]) (pr1 (H9.ev 12 rfl) (pr1 (H9.ev 16 rfl) (pr0))) (Lz := [[.int .i64 0], bytesV (zer 32)]) (by kernel_rfl) (lens_cons rfl (lens_cons (len_bv (length_zer 32)) (lens_nil))) (fit_cons (i := 0) rfl rfl (fit_cons (i := 1) rfl ((size_bs _).trans (chk_len hq hx)) (fit_nil))) (cs := catA [[.int .i64 (bd (q.getD (33 * x.1) 0#8))], bytesV ((q.drop (33 * x.1 + 1)).take 32)]) rfl) fun _ H10 => ?_
       clear H7 H8 H9
       refine wpAnyH_all (rs := [0, 10]) (by kernel_rfl) (by decide) (hm_cons ?_ (hm_cons ?_ hm_nil))
       ·
        refine ho_ rfl <| i_ H10 rfl (dd_get HSh1 0 0 rfl rfl (H10.ev 3 rfl) rfl Try.underlying23 rfl) fun _ H11 => sx_ (sxi HSh1 [0] rfl) fun hx12 => h1_ 10 rfl <| n_ H11 rfl (fun _ h => dd_lit1 HSh1 (z := .agg (catA [[.int .i64 0], bytesV (zer 32)])) (sz := 33) rfl (H11.ev 17 rfl) Try.underlying23 (by kernel_rfl) (cat_size (lens_cons rfl (lens_cons (len_bv (chk_len hq hx)) (lens_nil)))) rfl rfl h) fun g18 _ HS13 _ H13 => sx_ (sxi HS13 [0, 1] rfl) fun hx14 => h1_ 11 rfl <| a_ H13 rfl (fun g19_16 c19_16 => .slice (some ⟨g19_16, 0, none⟩) 1 c19_16) (T := fun _ c19_16 cb19_16 => OwnC cb19_16 c19_16 1 33 ((catA [[.int .i64 (bd (q.getD (33 * x.1) 0#8))], bytesV ((q.drop (33 * x.1 + 1)).take 32)]).toList)) (fun _ h => dd_app0 HS13 rfl (H13.ev 8 rfl) (z := .agg (catA [[.int .i64 0], bytesV (zer 32)])) (bytes := 40) (sz := 33) Try.underlying23 (by kernel_rfl) rfl (by decide) ((catA [[.int .i64 (bd (q.getD (33 * x.1) 0#8))], bytesV ((q.drop (33 * x.1 + 1)).take 32)]).toList) (H13.ev 18 rfl) (lenA (cat_size (lens_cons rfl (lens_cons (len_bv (chk_len hq hx)) (lens_nil))))) (row_news (HS13.row 1 rfl) 0 (slabA (slab_whole _))) (all_one (cat_one (ones_cons (ones_c rfl) (ones_cons (one_bytesV _) (ones_nil))))) (by unfold maxLen; omega) (by omega) h) fun g19_16 c19_16 cb19_16 _ O19_16 HS15 _ H15 => sx_ (sxi HS15 [0, 1, 2] rfl) fun hx17 => h1_ 12 rfl <| t_ rfl (fun _ h => dd_put (cs := #[.slice (some ⟨g19_16, 0, none⟩) 1 c19_16]) HS15 0 0 rfl rfl (H15.ev 3 rfl) (H15.ev 19 rfl) (by kernel_rfl) rfl rfl rfl rfl h) fun _ HS18 => sx_ (sxi HS18 [0, 1, 2] rfl) fun hx19 => ?_
        clear H10 HSh1 H11 hx12 HS13 H13 hx14 HS15
        clear hx17
        refine wpAnyH_done (by kernel_rfl) ?_ _
        clear hx19
        exact nx ⟨g19_16, c19_16, _, cb19_16, O19_16, H15.sel [] rfl, ss HS18 [0, 1, 2]⟩
       refine ho_ rfl <| n_ H10 rfl (fun _ h => dd_lit1 HSh1 (z := .agg (catA [[.int .i64 0], bytesV (zer 32)])) (sz := 33) rfl (H10.ev 17 rfl) Try.underlying23 (by kernel_rfl) (cat_size (lens_cons rfl (lens_cons (len_bv (chk_len hq hx)) (lens_nil)))) rfl rfl h) fun g18 _ HS20 _ H20 => sx_ (sxi HS20 [0, 1] rfl) fun hx21 => h1_ 0 rfl <| i_ H20 rfl (dd_get HS20 0 0 rfl rfl (H20.ev 3 rfl) rfl Try.underlying23 rfl) fun _ H22 => sx_ (sxi HS20 [0, 1] rfl) fun hx23 => h1_ 11 rfl <| a_ H22 rfl (fun g19_25 c19_25 => .slice (some ⟨g19_25, 0, none⟩) 1 c19_25) (T := fun _ c19_25 cb19_25 => OwnC cb19_25 c19_25 1 33 ((catA [[.int .i64 (bd (q.getD (33 * x.1) 0#8))], bytesV ((q.drop (33 * x.1 + 1)).take 32)]).toList)) (fun _ h => dd_app0 HS20 rfl (H22.ev 8 rfl) (z := .agg (catA [[.int .i64 0], bytesV (zer 32)])) (bytes := 40) (sz := 33) Try.underlying23 (by kernel_rfl) rfl (by decide) ((catA [[.int .i64 (bd (q.getD (33 * x.1) 0#8))], bytesV ((q.drop (33 * x.1 + 1)).take 32)]).toList) (H22.ev 18 rfl) (lenA (cat_size (lens_cons rfl (lens_cons (len_bv (chk_len hq hx)) (lens_nil))))) (row_news (HS20.row 1 rfl) 0 (slabA (slab_whole _))) (all_one (cat_one (ones_cons (ones_c rfl) (ones_cons (one_bytesV _) (ones_nil))))) (by unfold maxLen; omega) (by omega) h) fun g19_25 c19_25 cb19_25 _ O19_25 HS24 _ H24 => sx_ (sxi HS24 [0, 1, 2] rfl) fun hx26 => h1_ 12 rfl <| t_ rfl (fun _ h => dd_put (cs := #[.slice (some ⟨g19_25, 0, none⟩) 1 c19_25]) HS24 0 0 rfl rfl (H24.ev 3 rfl) (H24.ev 19 rfl) (by kernel_rfl) rfl rfl rfl rfl h) fun _ HS27 => sx_ (sxi HS27 [0, 1, 2] rfl) fun hx28 => ?_
       clear HSh1 H10 H20 hx21 HS20 H22 hx23 HS24
       clear hx26
       refine wpAnyH_done (by kernel_rfl) ?_ _
       clear hx28
       exact nx ⟨g19_25, c19_25, _, cb19_25, O19_25, H24.sel [] rfl, ss HS27 [0, 1, 2]⟩
      rintro aj1 wj1 ⟨g19_16, c19_16, g18, cb19_16, O19_16, Hj1, HSj1⟩
      refine bn <| ?_
      have k9 := ss HSj1 [0, 2]
      exact ⟨keeps_st HSf k9, kpb_st k9 hn0 (by intro r hr; rw [List.mem_singleton] at hr; subst hr; exact .inl rfl), .inr ⟨g19_16, c19_16, cb19_16, (new_nil k9 hn0), Nat.le_trans hn0 k9.chg.size, by rw [List.length_append]; exact Nat.succ_pos _, (putsL_1 O19_16), by rw [List.length_append]; exact St.unframe HS k9⟩⟩
    · have HSf := HS.frame
      have HC : ∀ W9, Chg (inS [⟨B, 23, #[.slice (some ⟨g, 0, none⟩) pre.length c]⟩, ⟨g, 48, cb⟩]) W W9 → CAt W9 b off (bytesV q) := fun W9 k9 => cat_chg (h0.call HS.below) k9 (nin_l HS h0.lt)
      refine wpIn_cut (fun a9 w9 => ∃ g19_16 : Nat, ∃ c19_16 : Nat, ∃ g18 : Nat, ∃ cb19_16 : Array Value, OwnC cb19_16 c19_16 (pre.length + 1) 33 ((putsL q pre) ++ (catA [[.int .i64 (bd (q.getD (33 * x.1) 0#8))], bytesV ((q.drop (33 * x.1 + 1)).take 32)]).toList) ∧ En 21 [] a9 ∧ St W (inS [⟨B, 23, #[.slice (some ⟨g, 0, none⟩) pre.length c]⟩, ⟨g, 48, cb⟩]) [⟨B, 23, #[.slice (some ⟨g19_16, 0, none⟩) (pre.length + 1) c19_16]⟩, ⟨g18, 48, catA [[.int .i64 (bd (q.getD (33 * x.1) 0#8))], bytesV ((q.drop (33 * x.1 + 1)).take 32)]⟩, ⟨g19_16, 48, cb19_16⟩] w9) ?_ ?_
      ·
       refine wiIn_ HSf [] rfl [0, 1] rfl fun HSh1 hx1 => hp_ HA1 1 hx1 rfl rfl rfl fun _ H2 => ht_ H2 2 hx1 rfl rfl (fun _ _ _ => xS 1 (off + 33 * x.1 + 0) rfl (H2.ev 9 rfl) rfl) fun _ H3 => ht_ H3 3 hx1 rfl rfl (fun _ _ HS9 => dd_at rfl (H3.ev 10 rfl) (chk_at (HC _ HS9.chg) (by omega)) Try.underlying5 rfl) fun _ H4 => ht_ H4 4 hx1 rfl rfl (v := .int .i64 (bd (q.getD (33 * x.1) 0#8))) (fun _ _ _ => dd_conv (k := .i64) rfl (H4.ev 11 rfl) Try.underlying5 (by kernel_rfl) (i64_bdA _)) fun _ H5 => hp_ H5 5 hx1 rfl rfl rfl fun _ H6 => ht_ H6 6 hx1 rfl rfl (v := .slice (some ⟨b, off + 33 * x.1 + 1, none⟩) 32 32) (fun _ _ _ => dd_sll (l := 1) (sz := 1) rfl (H6.ev 13 rfl) rfl (by kernel_rfl) (by decide) (by decide) rfl rfl rfl) fun _ H7 => ht_ H7 7 hx1 rfl rfl (v := .pointer (some ⟨b, off + 33 * x.1 + 1, none⟩)) (fun _ _ _ => dd_s2a (m := 32) (sz := 1) rfl (H7.ev 14 rfl) (by kernel_rfl) (by decide)) fun _ H8 => ?_
       clear HSf HA1 H2 H3 H4 H5 H6
       refine ht_ H8 8 hx1 rfl rfl (v := .agg (bs ((q.drop (33 * x.1 + 1)).take 32))) (fun _ _ HS9 => dd_atN rfl (H8.ev 15 rfl) (chk_sl (HC _ HS9.chg)) Try.underlying46 rfl (by show _ = some (bytesV _).length; rw [len_bytesV, chk_len hq hx]; kernel_rfl)) fun a9 H9 => ht_ H9 9 hx1 rfl rfl (v := .agg (catA [[.int .i64 (bd (q.getD (33 * x.1) 0#8))], bytesV ((q.drop (33 * x.1 + 1)).take 32)])) (fun _ _ _ => dd_bld rfl (ps := [(0, .int .i64 (bd (q.getD (33 * x.1) 0#8))), (1, .agg (bs ((q.drop (33 * x.1 + 1)).take 32)))]) (pr1 (H9.ev 12 rfl) (pr1 (H9.ev 16 rfl) (pr0))) (Lz := [[.int .i64 0], bytesV (zer 32)]) (by kernel_rfl) (lens_cons rfl (lens_cons (len_bv (length_zer 32)) (lens_nil))) (fit_cons (i := 0) rfl rfl (fit_cons (i := 1) rfl ((size_bs _).trans (chk_len hq hx)) (fit_nil))) (cs := catA [[.int .i64 (bd (q.getD (33 * x.1) 0#8))], bytesV ((q.drop (33 * x.1 + 1)).take 32)]) rfl) fun _ H10 => ?_
       clear H7 H8 H9
       refine wpAnyH_all (rs := [0, 10]) (by kernel_rfl) (by decide) (hm_cons ?_ (hm_cons ?_ hm_nil))
       ·
        refine ho_ rfl <| i_ H10 rfl (dd_get HSh1 0 0 rfl rfl (H10.ev 3 rfl) rfl Try.underlying23 rfl) fun _ H11 => sx_ (sxi HSh1 [0, 1] rfl) fun hx12 => h1_ 10 rfl <| n_ H11 rfl (fun _ h => dd_lit1 HSh1 (z := .agg (catA [[.int .i64 0], bytesV (zer 32)])) (sz := 33) rfl (H11.ev 17 rfl) Try.underlying23 (by kernel_rfl) (cat_size (lens_cons rfl (lens_cons (len_bv (chk_len hq hx)) (lens_nil)))) rfl rfl h) fun g18 _ HS13 _ H13 => sx_ (sxi HS13 [0, 1, 2] rfl) fun hx14 => h1_ 11 rfl <| a_ H13 rfl (fun g19_16 c19_16 => .slice (some ⟨g19_16, 0, none⟩) (pre.length + 1) c19_16) (T := fun _ c19_16 cb19_16 => OwnC cb19_16 c19_16 (pre.length + 1) 33 ((putsL q pre) ++ (catA [[.int .i64 (bd (q.getD (33 * x.1) 0#8))], bytesV ((q.drop (33 * x.1 + 1)).take 32)]).toList)) (fun _ h => dd_app HS13 1 rfl O rfl (H13.ev 8 rfl) (z := .agg (catA [[.int .i64 0], bytesV (zer 32)])) (bytes := 40) Try.underlying23 (by kernel_rfl) rfl (by decide) ((catA [[.int .i64 (bd (q.getD (33 * x.1) 0#8))], bytesV ((q.drop (33 * x.1 + 1)).take 32)]).toList) (H13.ev 18 rfl) (lenA (cat_size (lens_cons rfl (lens_cons (len_bv (chk_len hq hx)) (lens_nil))))) (row_news (HS13.row 2 rfl) 0 (slabA (slab_whole _))) (all_one (cat_one (ones_cons (ones_c rfl) (ones_cons (one_bytesV _) (ones_nil))))) (by unfold maxLen; omega) (by omega) h) fun g19_16 c19_16 cb19_16 _ O19_16 HS15 _ H15 => sx_ (sxi HS15 [0, 1, 2] rfl) fun hx17 => h1_ 12 rfl <| t_ rfl (fun _ h => dd_put (cs := #[.slice (some ⟨g19_16, 0, none⟩) (pre.length + 1) c19_16]) HS15 0 0 rfl rfl (H15.ev 3 rfl) (H15.ev 19 rfl) (by kernel_rfl) rfl rfl rfl rfl h) fun _ HS18 => sx_ (sxi HS18 [0, 1, 2] rfl) fun hx19 => ?_
        clear H10 HSh1 H11 hx12 HS13 H13 hx14 HS15
        clear hx17
        refine wpAnyH_done (by kernel_rfl) ?_ _
        clear hx19
        exact nx ⟨g19_16, c19_16, _, cb19_16, O19_16, H15.sel [] rfl, ss HS18 [0, 1, 2]⟩
       refine ho_ rfl <| n_ H10 rfl (fun _ h => dd_lit1 HSh1 (z := .agg (catA [[.int .i64 0], bytesV (zer 32)])) (sz := 33) rfl (H10.ev 17 rfl) Try.underlying23 (by kernel_rfl) (cat_size (lens_cons rfl (lens_cons (len_bv (chk_len hq hx)) (lens_nil)))) rfl rfl h) fun g18 _ HS20 _ H20 => sx_ (sxi HS20 [0, 1, 2] rfl) fun hx21 => h1_ 0 rfl <| i_ H20 rfl (dd_get HS20 0 0 rfl rfl (H20.ev 3 rfl) rfl Try.underlying23 rfl) fun _ H22 => sx_ (sxi HS20 [0, 1, 2] rfl) fun hx23 => h1_ 11 rfl <| a_ H22 rfl (fun g19_25 c19_25 => .slice (some ⟨g19_25, 0, none⟩) (pre.length + 1) c19_25) (T := fun _ c19_25 cb19_25 => OwnC cb19_25 c19_25 (pre.length + 1) 33 ((putsL q pre) ++ (catA [[.int .i64 (bd (q.getD (33 * x.1) 0#8))], bytesV ((q.drop (33 * x.1 + 1)).take 32)]).toList)) (fun _ h => dd_app HS20 1 rfl O rfl (H22.ev 8 rfl) (z := .agg (catA [[.int .i64 0], bytesV (zer 32)])) (bytes := 40) Try.underlying23 (by kernel_rfl) rfl (by decide) ((catA [[.int .i64 (bd (q.getD (33 * x.1) 0#8))], bytesV ((q.drop (33 * x.1 + 1)).take 32)]).toList) (H22.ev 18 rfl) (lenA (cat_size (lens_cons rfl (lens_cons (len_bv (chk_len hq hx)) (lens_nil))))) (row_news (HS20.row 2 rfl) 0 (slabA (slab_whole _))) (all_one (cat_one (ones_cons (ones_c rfl) (ones_cons (one_bytesV _) (ones_nil))))) (by unfold maxLen; omega) (by omega) h) fun g19_25 c19_25 cb19_25 _ O19_25 HS24 _ H24 => sx_ (sxi HS24 [0, 1, 2] rfl) fun hx26 => h1_ 12 rfl <| t_ rfl (fun _ h => dd_put (cs := #[.slice (some ⟨g19_25, 0, none⟩) (pre.length + 1) c19_25]) HS24 0 0 rfl rfl (H24.ev 3 rfl) (H24.ev 19 rfl) (by kernel_rfl) rfl rfl rfl rfl h) fun _ HS27 => sx_ (sxi HS27 [0, 1, 2] rfl) fun hx28 => ?_
       clear HSh1 H10 H20 hx21 HS20 H22 hx23 HS24
       clear hx26
       refine wpAnyH_done (by kernel_rfl) ?_ _
       clear hx28
       exact nx ⟨g19_25, c19_25, _, cb19_25, O19_25, H24.sel [] rfl, ss HS27 [0, 1, 2]⟩
      rintro aj1 wj1 ⟨g19_16, c19_16, g18, cb19_16, O19_16, Hj1, HSj1⟩
      refine bn <| ?_
      have k9 := ss HSj1 [0, 2]
      exact ⟨keeps_st HSf k9, kpb_st k9 hn0 (by intro r hr; rcases List.mem_cons.1 hr with rfl | hr; exact .inl rfl; rw [List.mem_singleton] at hr; subst hr; exact .inr hg), .inr ⟨g19_16, c19_16, cb19_16, (new_own HSf k9 hn0 hg), Nat.le_trans hn0 k9.chg.size, by rw [List.length_append]; exact Nat.succ_pos _, (putsL_S O19_16), by rw [List.length_append]; exact St.unframe HS k9⟩⟩
  case done =>
    rintro D ys W hD rfl hI hK
    rcases hI with ⟨he, _, HS⟩ | ⟨g, c2, cb, hg, _, hpos, O, HS⟩
    · have hm0 : m = 0 := by have := congrArg List.length he; simpa using this
      have hb := (HS.row 0 rfl).get (i := 0) rfl
      have hB := HS.below
      have HB := Lib.hid hB
      clear hB HS
      gi_wp2
      refine ⟨by simp, .inl ⟨_, _, rfl, run_takeDeferred hK, ?_⟩⟩
      refine ⟨_, results_tmp rfl _ _ _, ⟨_, rfl, fun _ => rfl, ?_, HB.out.trans (belowK_b (w := w) (Nat.le_refl _) W D _ _ (by omega) hK rfl rfl)⟩⟩
      subst hm0
      exact World.ownsRow_nil _ _ _ _
    · have hb := (HS.row 0 rfl).get (i := 0) rfl
      have hrow := ownc_to (HS.row 1 rfl) O (show w.heap.size ≤ g by omega)
      rw [putsL_all, List.length_finRange] at hrow
      rw [List.length_finRange] at hpos
      have hpm : m ≠ 0 := by omega
      clear hpos
      have hB := HS.below
      have HB := Lib.hid hB
      have HO := Lib.hid hrow
      clear hB HS hrow O
      gi_wp2
      refine ⟨by simp, .inl ⟨_, _, rfl, run_takeDeferred hK, ?_⟩⟩
      refine ⟨_, results_tmp rfl _ _ _, ⟨_, rfl, fun e => absurd e hpm, ?_, HB.out.trans (belowK_b (w := w) (Nat.le_refl _) W D _ _ (by omega) hK rfl rfl)⟩⟩
      have h9 := ownsRow_putObj HO.out (.deferred none) hK rfl
      simpa using h9
  case stop =>
    rintro D c pre W _ _ h _
    exact h.elim
end Go.Proofs.Ytlpfdghciegnnaa

/- The packet of bytes, plainly. -/
set_option maxRecDepth 4000
namespace Go.Proofs.Ytlpfdghciegnnaa
open Go Go.RowKit
theorem cat_bat {w : World} {g o : Nat} {q : List (BitVec 8)} (h : BAt w g o q) : CAt w g o (bytesV q) := ⟨h.lt, fun j v hv => by
  unfold bytesV at hv
  rw [List.getElem?_map] at hv
  cases hx : q[j]? with
  | none => rw [hx] at hv; cases hv
  | some x => rw [hx] at hv; injection hv with hv; subst hv; exact h.at_ j x hx⟩
def cntP (q : List (BitVec 8)) : Nat := (q.getD 9 0#8).toNat
def lP (q : List (BitVec 8)) : List Pt := (List.range (cntP q)).map (chunkP ((q.drop 10).take (33 * cntP q)))
def pktP (q : List (BitVec 8)) : Pkt := ⟨bd (q.getD 0 0#8), lv 1 q, lv 5 q, lP q⟩
def pkOk (q : List (BitVec 8)) : Bool := decide (12 ≤ q.length) && (decide (q.length = 12 + 33 * cntP q) && (mayP (pktP q) && decide (encP (pktP q) = q)))
theorem pk_no1 {q : List (BitVec 8)} {n : Nat} (hn : q.length = n) (h : n < 12) : pkOk q = false := by unfold pkOk; rw [decide_eq_false (by omega), Bool.false_and]
theorem pk_no2 {q : List (BitVec 8)} {n : Nat} (hn : q.length = n) (h : ¬ n = 12 + 33 * cntP q) : pkOk q = false := by unfold pkOk; rw [show decide (q.length = 12 + 33 * cntP q) = false from decide_eq_false (by rw [hn]; exact h)]; simp
theorem pk_no3 {q : List (BitVec 8)} (h : mayP (pktP q) = false) : pkOk q = false := by unfold pkOk; rw [h]; simp
theorem pk_no4 {q : List (BitVec 8)} (h : decide (encP (pktP q) = q) = false) : pkOk q = false := by unfold pkOk; rw [h]; simp
theorem pk_yes {q : List (BitVec 8)} {n : Nat} (hn : q.length = n) (h1 : ¬ n < 12) (h2 : n = 12 + 33 * cntP q) (h3 : mayP (pktP q) = true) (h4 : decide (encP (pktP q) = q) = true) : pkOk q = true := by
  unfold pkOk; rw [decide_eq_true (by omega), decide_eq_true (by omega), h3, h4]; rfl
theorem pk_of {q : List (BitVec 8)} (h : pkOk q = true) : 12 ≤ q.length ∧ q.length = 12 + 33 * cntP q ∧ mayP (pktP q) = true ∧ encP (pktP q) = q := by
  unfold pkOk at h
  rw [Bool.and_eq_true, Bool.and_eq_true, Bool.and_eq_true] at h
  exact ⟨of_decide_eq_true h.1, of_decide_eq_true h.2.1, h.2.2.1, of_decide_eq_true h.2.2.2⟩
theorem lP_ok {q : List (BitVec 8)} (h : q.length = 12 + 33 * cntP q) : ∀ x ∈ lP q, x.2.length = 32 ∧ -9223372036854775808 ≤ x.1 ∧ x.1 < 9223372036854775808 := fun x hx => by
  obtain ⟨k, hk, rfl⟩ := List.mem_map.1 hx
  rw [List.mem_range] at hk
  refine ⟨chk_len (m := cntP q) (by rw [List.length_take, List.length_drop]; omega) (x := ⟨k, hk⟩) hk, ?_⟩
  have := bd_lo (((q.drop 10).take (33 * cntP q)).getD (33 * k) 0#8)
  have := bd_hi (((q.drop 10).take (33 * cntP q)).getD (33 * k) 0#8)
  exact ⟨by simp only [chunkP]; omega, by simp only [chunkP]; omega⟩
theorem lP_len (q : List (BitVec 8)) : (lP q).length = cntP q := by unfold lP; rw [List.length_map, List.length_range]
def OwnP (w w' : World) (sl : Value) (n : Nat) (l : List Pt) : Prop := (n = 0 ∧ sl = .slice none 0 0) ∨ (0 < n ∧ ∃ g c cb, sl = .slice (some ⟨g, 0, none⟩) n c ∧ w.heap.size ≤ g ∧ Row w' g 48 cb ∧ OwnC cb c n 33 (l.map pcell).flatten)
theorem putsfrom_0 (b o N c : Nat) (q : List (BitVec 8)) (w : World) (hN : N = 0) (hc : N ≤ c) (hB : BAt w b o q) (hq : q.length = N) : Calls Try.prog 26 #[.slice (some ⟨b, o, none⟩) N c] w fun e w' => e = .returned (.slice none 0 0) ∧ Below w.heap.size w w' := by
  subst hN
  refine (putsfrom_any b o c 0 q w hq (by decide) hc (cat_bat hB)).mono ?_
  rintro e w' ⟨v, rfl, hz, _, hb⟩
  rw [hz rfl]
  exact ⟨rfl, hb⟩
theorem putsfrom_S (b o N c m : Nat) (q : List (BitVec 8)) (w : World) (hN : N = 33 * m) (h0 : 0 < m) (hm : m ≤ 1000) (hc : N ≤ c) (hB : BAt w b o q) (hq : q.length = N) : Calls Try.prog 26 #[.slice (some ⟨b, o, none⟩) N c] w fun e w' => ∃ g c' cb, e = .returned (.slice (some ⟨g, 0, none⟩) m c') ∧ w.heap.size ≤ g ∧ Row w' g 48 cb ∧ OwnC cb c' m 33 (((List.range m).map (chunkP q)).map pcell).flatten ∧ Below w.heap.size w w' := by
  subst hN
  refine (putsfrom_any b o c m q w hq hm hc (cat_bat hB)).mono ?_
  rintro e w' ⟨v, rfl, _, ho, hb⟩
  obtain ⟨g, c', cb, rfl, h1, h2, h3⟩ := ownc_pos ho h0
  exact ⟨g, c', cb, rfl, h1, h2, h3, hb⟩
def pktN (q : List (BitVec 8)) (n : Nat) : Pkt := ⟨bd (q.getD 0 0#8), lv 1 q, lv 5 q, (List.range n).map (chunkP ((q.drop 10).take (33 * n)))⟩
theorem puts_ownl {w : World} {base n : Nat} {v : Value} {l : List Pt} (hn : l.length = n) (h : w.ownsRow base 48 33 v n (l.map pcell).flatten) (hl : ∀ x ∈ l, x.2.length = 32 ∧ -9223372036854775808 ≤ x.1 ∧ x.1 < 9223372036854775808) : PutsAt w v l := by
  subst hn
  exact puts_own h hl
theorem pn_len (q : List (BitVec 8)) (n : Nat) : (pktN q n).l.length = n := by
  show ((List.range n).map _).length = n
  rw [List.length_map, List.length_range]
theorem puts_nil (w : World) : PutsAt w (.slice none 0 0) [] := ⟨none, 0, rfl, Nat.le_refl _, (fun x hx => by cases hx), fun h => absurd rfl h⟩
theorem pn_nil {w : World} {q : List (BitVec 8)} {n : Nat} (h : n = 0) : PutsAt w (.slice none 0 0) (pktN q n).l := by
  subst h
  exact puts_nil w
end Go.Proofs.Ytlpfdghciegnnaa

/- The head that bytes begin with. -/
set_option maxRecDepth 4000
namespace Go.Proofs.Ytlpfdghciegnnaa
open Go Go.RowKit
theorem lv_drop (k : Nat) (q : List (BitVec 8)) : lv 0 (q.drop k) = lv k q := by
  have e : ∀ j, (q.drop k).getD j 0#8 = q.getD (k + j) 0#8 := fun j => by rw [List.getD_eq_getElem?_getD, List.getD_eq_getElem?_getD, List.getElem?_drop]
  unfold lv sv
  simp only [e, Nat.zero_add, Nat.add_zero, Nat.add_assoc]
theorem long_lv (b off n c k : Nat) (q : List (BitVec 8)) (w : World) (hB : BAt w b off q) (hq : k + 4 ≤ q.length) (hn : 4 ≤ n) (hc : n ≤ c) : Calls Try.prog 36 #[.slice (some ⟨b, off + k, none⟩) n c] w fun e w' => e = .returned (.int .u32 (wd (lv k q))) ∧ Below w.heap.size w w' := by
  rw [← lv_drop]
  exact long_at b (off + k) n c (q.drop k) w (hB.drop k) (by rw [List.length_drop]; omega) hn hc
set_option maxHeartbeats 800000 in
theorem headfrom_any (b off n c : Nat) (q : List (BitVec 8)) (w : World) (hB : BAt w b off q) (hq : q.length = n) (hn : 12 ≤ n) (hc : n ≤ c) : Calls Try.prog 25 #[.slice (some ⟨b, off, none⟩) n c] w fun x w' => x = .returned (.agg #[.int .i64 (bd (q.getD 0 0#8)), .int .u32 (wd (lv 1 q)), .int .u32 (wd (lv 5 q)), .int .i64 (bd (q.getD 9 0#8))]) ∧ Below w.heap.size w w' := by
  have HS := St.nil w noF
  have HB : ∀ W, Below w.heap.size w W → BAt W b off q := fun W hb => hB.call hb
  refine enter_en Try.func25 rfl Try.ntmps25 (Nat.le_of_ble_eq_true rfl) fun a0 (HA0 : En 19 [(0, .slice (some ⟨b, off, none⟩) n c)] a0) => ?_
  refine sq_ <| rl_ <| wl_ <| n_ HA0 rfl (fun _ h => dd_new HS #[.int .i64 0, .int .u32 0, .int .u32 0, .int .i64 0] rfl (z := .agg #[.int .i64 0, .int .u32 0, .int .u32 0, .int .i64 0]) (by kernel_rfl) rfl h) fun _ W1 HS1 _ H1 => ln_ <| nx <| sq_ <| ?_
  clear HS HA0
  refine wi_ HS1 [] rfl [0] rfl fun HSh2 hx2 => hp_ H1 0 hx2 rfl rfl rfl fun _ H3 => ht_ H3 1 hx2 rfl rfl (fun _ _ _ => xSo 1 (off + 0) rfl (H3.ev 3 rfl) rfl) fun _ H4 => ht_ H4 2 hx2 rfl rfl (fun _ _ HS9 => dd_at rfl (H4.ev 4 rfl) ((HB _ HS9.below).get 0 (by rw [hq]; omega)) Try.underlying5 rfl) fun _ H5 => ht_ H5 3 hx2 rfl rfl (v := .int .i64 (bd (q.getD 0 0#8))) (fun _ _ _ => dd_conv (k := .i64) rfl (H5.ev 5 rfl) Try.underlying5 (by kernel_rfl) (i64_bdA _)) fun _ H6 => hp_ H6 4 hx2 rfl rfl rfl fun _ H7 => ht_ H7 5 hx2 rfl rfl (v := .slice (some ⟨b, off + 1, none⟩) (n - 1) (c - 1)) (fun _ _ _ => dd_sll (l := 1) (sz := 1) rfl (H7.ev 7 rfl) rfl (by kernel_rfl) (by omega) (by omega) rfl rfl rfl) fun _ H8 => hp_ H8 7 hx2 rfl rfl rfl fun _ H9 => ?_
  clear HS1 H1 H3 H4 H5 H6 H7
  refine ht_ H9 8 hx2 rfl rfl (v := .slice (some ⟨b, off + 5, none⟩) (n - 5) (c - 5)) (fun _ _ _ => dd_sll (l := 5) (sz := 1) rfl (H9.ev 10 rfl) rfl (by kernel_rfl) (by omega) (by omega) rfl rfl rfl) fun _ H10 => hp_ H10 11 hx2 rfl rfl rfl fun _ H11 => ht_ H11 12 hx2 rfl rfl (fun _ _ _ => xSo 1 (off + 9) rfl (H11.ev 14 rfl) rfl) fun _ H12 => ht_ H12 13 hx2 rfl rfl (fun _ _ HS9 => dd_at rfl (H12.ev 15 rfl) ((HB _ HS9.below).get 9 (by rw [hq]; omega)) Try.underlying5 rfl) fun _ H13 => ht_ H13 14 hx2 rfl rfl (v := .int .i64 (bd (q.getD 9 0#8))) (fun _ _ _ => dd_conv (k := .i64) rfl (H13.ev 16 rfl) Try.underlying5 (by kernel_rfl) (i64_bdA _)) fun _ H14 => h1_ 6 rfl <| c_ H14 rfl HSh2 (dcs Try.func36 rfl (args1 (H14.ev 8 rfl)) (long_lv b off (n - 1) (c - 1) 1 q W1.drew (HB _ HSh2.below) (by omega) (by omega) (by omega)) (.int .u32 (wd (lv 1 q)))) fun W15 HS15 _ H15 => sx_ (sxi HS15 [0] rfl) fun hx16 => h1_ 9 rfl <| c_ H15 rfl HS15 (dcs Try.func36 rfl (args1 (H15.ev 11 rfl)) (long_lv b off (n - 5) (c - 5) 5 q W15 (HB _ HS15.below) (by omega) (by omega) (by omega)) (.int .u32 (wd (lv 5 q)))) fun _ HS17 _ H17 => ?_
  clear H8 H9 H10 H11 H12 H13 H14 HSh2 hx2
  refine sx_ (sxi HS17 [0] rfl) fun hx18 => ht_ H17 10 hx18 rfl rfl (v := .agg #[.int .u32 (wd (lv 1 q)), .int .u32 (wd (lv 5 q))]) (fun _ _ _ => dd_bld rfl (ps := [(0, .int .u32 (wd (lv 1 q))), (1, .int .u32 (wd (lv 5 q)))]) (pr1 (H17.ev 9 rfl) (pr1 (H17.ev 12 rfl) (pr0))) (Lz := [[.int .u32 0], [.int .u32 0]]) (by kernel_rfl) (lens_cons rfl (lens_cons rfl (lens_nil))) (fit_cons (i := 0) rfl rfl (fit_cons (i := 1) rfl rfl (fit_nil))) (cs := #[.int .u32 (wd (lv 1 q)), .int .u32 (wd (lv 5 q))]) rfl) fun _ H19 => ht_ H19 15 hx18 rfl rfl (v := .agg #[.int .i64 (bd (q.getD 0 0#8)), .int .u32 (wd (lv 1 q)), .int .u32 (wd (lv 5 q)), .int .i64 (bd (q.getD 9 0#8))]) (fun _ _ _ => dd_bld rfl (ps := [(0, .int .i64 (bd (q.getD 0 0#8))), (1, .agg #[.int .u32 (wd (lv 1 q)), .int .u32 (wd (lv 5 q))]), (2, .int .i64 (bd (q.getD 9 0#8)))]) (pr1 (H19.ev 6 rfl) (pr1 (H19.ev 13 rfl) (pr1 (H19.ev 17 rfl) (pr0)))) (Lz := [[.int .i64 0], #[.int .u32 0, .int .u32 0].toList, [.int .i64 0]]) (by kernel_rfl) (lens_cons rfl (lens_cons ((Array.length_toList).trans rfl) (lens_cons rfl (lens_nil)))) (fit_cons (i := 0) rfl rfl (fit_cons (i := 1) rfl rfl (fit_cons (i := 2) rfl rfl (fit_nil)))) (cs := #[.int .i64 (bd (q.getD 0 0#8)), .int .u32 (wd (lv 1 q)), .int .u32 (wd (lv 5 q)), .int .i64 (bd (q.getD 9 0#8))]) rfl) fun _ H20 => h1_ 16 rfl <| t_ rfl (fun _ h => dd_setrow HS17 0 rfl rfl (H20.ev 2 rfl) (H20.ev 18 rfl) (by kernel_rfl) (rfl : #[.int .i64 (bd (q.getD 0 0#8)), .int .u32 (wd (lv 1 q)), .int .u32 (wd (lv 5 q)), .int .i64 (bd (q.getD 9 0#8))].size = 4) (rfl : #[.int .i64 0, .int .u32 0, .int .u32 0, .int .i64 0].size = 4) (one_l (ao_cons rfl (ao_cons rfl (ao_cons rfl (ao_cons rfl ao_nil))))) h) fun _ HS21 => sx_ (sxi HS21 [0] rfl) fun hx22 => ?_
  clear H15 HS15 hx16 H17 H19 HS17 hx18
  refine wpAnyH_done (by kernel_rfl) ?_ _
  clear hx22
  refine nx <| wp_ret <| ret_run H20.env0 (res_c Try.results25 (H20.get 2 rfl) (HS21.row 0 rfl) Try.underlying56 rfl (by kernel_rfl)) <| ?_
  exact ⟨rfl, HS21.below⟩
end Go.Proofs.Ytlpfdghciegnnaa

/- The packet of bytes. -/
set_option maxRecDepth 4000
namespace Go.Proofs.Ytlpfdghciegnnaa
open Go Go.RowKit
theorem enc_pos (p : Pkt) : 0 < (encP p).length := by unfold encP bodyP; rw [List.length_append, List.length_append, length_hdB]; omega
theorem pkdec_short (A : Option Addr) (n c : Nat) (w : World) (hn : n < 12) : Calls Try.prog 10 #[.slice A n c] w fun x w' => x = .returned (.tuple #[.agg #[.int .i64 0, .int .u32 0, .int .u32 0, .slice none 0 0], .int .i64 11]) ∧ Below w.heap.size w w' := by
  have HS := St.nil w noF
  refine enter_en Try.func10 rfl Try.ntmps10 (Nat.le_of_ble_eq_true rfl) fun a0 (HA0 : En 53 [(0, .slice A n c)] a0) => ?_
  refine sq_ <| rl_ <| wl_ <| n_ HA0 rfl (fun _ h => dd_new HS #[.int .i64 0, .int .u32 0, .int .u32 0, .slice none 0 0] rfl (z := .agg #[.int .i64 0, .int .u32 0, .int .u32 0, .slice none 0 0]) (by kernel_rfl) rfl h) fun _ _ HS1 _ H1 => wl_ <| p_ H1 rfl rfl fun _ H2 => ln_ <| nx <| sq_ <| sq_ <| rl_ <| wl_ <| p_ H2 rfl rfl fun _ H3 => wl_ <| i_ H3 rfl (v := .int .i64 n) (dd_len rfl (H3.ev 8 rfl) Try.underlying26) fun _ H4 => wl_ <| i_ H4 rfl (dd_cmp rfl (H4.ev 9 rfl) rfl (lt_t (by omega))) fun _ H5 => ln_ <| nx <| ct_ H5 rfl <| sq_ <| rl_ <| wl_ <| i_ H5 rfl (v := .agg #[.int .i64 0, .int .u32 0, .int .u32 0, .slice none 0 0]) (dd_bld rfl (ps := []) (pr0) (Lz := [[.int .i64 0], [.int .u32 0], [.int .u32 0], [.slice none 0 0]]) (by kernel_rfl) (lens_cons rfl (lens_cons rfl (lens_cons rfl (lens_cons rfl (lens_nil))))) (fit_nil) (cs := #[.int .i64 0, .int .u32 0, .int .u32 0, .slice none 0 0]) rfl) fun _ H6 => wl_ <| t_ rfl (fun _ h => dd_setrow HS1 0 rfl rfl (H6.ev 2 rfl) (H6.ev 11 rfl) (by kernel_rfl) (rfl : #[.int .i64 0, .int .u32 0, .int .u32 0, .slice none 0 0].size = 4) (rfl : #[.int .i64 0, .int .u32 0, .int .u32 0, .slice none 0 0].size = 4) (one_l (ao_cons rfl (ao_cons rfl (ao_cons rfl (ao_cons rfl ao_nil))))) h) fun _ HS7 => wl_ <| p_ H6 rfl rfl fun _ H8 => ?_
  clear HS HA0 H1 H2 H3 H4 H5 HS1
  refine ln_ <| nx <| wp_ret <| tr <| ret_run H8.env0 (res_ct Try.results10 (H8.get 2 rfl) (HS7.row 0 rfl) Try.underlying25 rfl (by kernel_rfl) (H8.get 3 rfl)) <| ?_
  clear H6
  exact ⟨rfl, HS7.below⟩
set_option maxHeartbeats 1600000 in
theorem pkdec_walk (b off n c nC nP : Nat) (q : List (BitVec 8)) (w : World) (hB : BAt w b off q) (hq : q.length = n) (hn : 12 ≤ n) (hc : n ≤ c) (hnC : nC = cntP q) (hC : bd (q.getD 9 0#8) = (nC : Int)) (hC9 : nC ≤ 255) (hP : nP = n - 2) (hlq : n = 12 + 33 * nC → ∀ x ∈ (List.range nC).map (chunkP ((q.drop 10).take (33 * nC))), x.2.length = 32 ∧ -9223372036854775808 ≤ x.1 ∧ x.1 < 9223372036854775808) : Calls Try.prog 10 #[.slice (some ⟨b, off, none⟩) n c] w fun x w' => (pkOk q = false ∧ x = .returned (.tuple #[.agg #[.int .i64 0, .int .u32 0, .int .u32 0, .slice none 0 0], .int .i64 11]) ∧ Below w.heap.size w w') ∨ (pkOk q = true ∧ ∃ sl, x = .returned (.tuple #[.agg #[.int .i64 (bd (q.getD 0 0#8)), .int .u32 (wd (lv 1 q)), .int .u32 (wd (lv 5 q)), sl], .int .i64 0]) ∧ OwnP w w' sl nC ((List.range nC).map (chunkP ((q.drop 10).take (33 * nC)))) ∧ Below w.heap.size w w') := by
  have HS := St.nil w noF
  have HB : ∀ W, Below w.heap.size w W → BAt W b off q := fun W hb => hB.call hb
  have hPN : pktP q = pktN q nC := by rw [hnC]; rfl
  refine enter_en Try.func10 rfl Try.ntmps10 (Nat.le_of_ble_eq_true rfl) fun a0 (HA0 : En 53 [(0, .slice (some ⟨b, off, none⟩) n c)] a0) => ?_
  refine sq_ <| rl_ <| wl_ <| n_ HA0 rfl (fun _ h => dd_new HS #[.int .i64 0, .int .u32 0, .int .u32 0, .slice none 0 0] rfl (z := .agg #[.int .i64 0, .int .u32 0, .int .u32 0, .slice none 0 0]) (by kernel_rfl) rfl h) fun g2 W1 HS1 _ H1 => wl_ <| p_ H1 rfl rfl fun _ H2 => ln_ <| nx <| sq_ <| sq_ <| rl_ <| wl_ <| p_ H2 rfl rfl fun _ H3 => wl_ <| i_ H3 rfl (v := .int .i64 n) (dd_len rfl (H3.ev 8 rfl) Try.underlying26) fun _ H4 => wl_ <| i_ H4 rfl (dd_cmp rfl (H4.ev 9 rfl) rfl (lt_f (by omega))) fun _ H5 => ln_ <| nx <| cf_ H5 rfl <| wp_skip <| nx <| sq_ <| rl_ <| wl_ <| p_ H5 rfl rfl fun _ H6 => wl_ <| c_ H6 rfl HS1 (v := .agg #[.int .i64 (bd (q.getD 0 0#8)), .int .u32 (wd (lv 1 q)), .int .u32 (wd (lv 5 q)), .int .i64 nC]) (dc_ Try.func25 rfl (args1 (H6.ev 12 rfl)) (headfrom_any b off n c q W1 (HB _ HS1.below) hq (by omega) hc) (fun _ w9 h9 => ⟨_, h9.1, by rw [hC], h9.2⟩)) fun _ HS7 _ H7 => wl_ <| n_ H7 rfl (fun _ h => dd_new HS7 #[.int .i64 0, .int .u32 0, .int .u32 0, .int .i64 0] rfl (z := .agg #[.int .i64 0, .int .u32 0, .int .u32 0, .int .i64 0]) (by kernel_rfl) rfl h) fun g4 _ HS8 _ H8 => ?_
  clear HS HA0 H1 H2 H3 H4 H5 H6 HS1
  refine wl_ <| t_ rfl (fun _ h => dd_setrow HS8 1 rfl rfl (H8.ev 4 rfl) (H8.ev 13 rfl) (by kernel_rfl) (rfl : #[.int .i64 (bd (q.getD 0 0#8)), .int .u32 (wd (lv 1 q)), .int .u32 (wd (lv 5 q)), .int .i64 nC].size = 4) (rfl : #[.int .i64 0, .int .u32 0, .int .u32 0, .int .i64 0].size = 4) (one_l (ao_cons rfl (ao_cons rfl (ao_cons rfl (ao_cons rfl ao_nil))))) h) fun W9 HS9 => ln_ <| nx <| sq_ <| sq_ <| rl_ <| wl_ <| p_ H8 rfl rfl fun _ H10 => wl_ <| i_ H10 rfl (v := .int .i64 n) (dd_len rfl (H10.ev 14 rfl) Try.underlying26) fun _ H11 => wl_ <| i_ H11 rfl (xf 3 3 rfl (H11.ev 4 rfl)) fun _ H12 => wl_ <| i_ H12 rfl (dd_get HS9 1 3 rfl rfl (H12.ev 16 rfl) rfl Try.underlying3 rfl) fun _ H13 => wl_ <| i_ H13 rfl (v := .int .i64 (nC * 33)) (dd_ari rfl (H13.ev 17 rfl) rfl rfl (i64_of (by first | omega | (have := bd_lo; omega)) (by omega))) fun _ H14 => wl_ <| i_ H14 rfl (v := .int .i64 (10 + (nC * 33))) (dd_ari rfl rfl (H14.ev 18 rfl) rfl (i64_of (by first | omega | (have := bd_lo; omega)) (by omega))) fun _ H15 => wl_ <| i_ H15 rfl (v := .int .i64 ((10 + (nC * 33)) + 2)) (dd_ari rfl (H15.ev 19 rfl) rfl rfl (i64_of (by first | omega | (have := bd_lo; omega)) (by omega))) fun _ H16 => ?_
  clear HS7 H7 HS8 H8 H10 H11 H12 H13 H14
  clear H15
  by_cases hc18 : (n : Int) = (10 + (nC * 33)) + 2
  ·
   refine wl_ <| i_ H16 rfl (dd_cmp rfl (H16.ev 15 rfl) (H16.ev 20 rfl) (ne_f hc18)) fun _ H19 => ln_ <| nx <| cf_ H19 rfl <| wp_skip <| nx <| sq_ <| ?_
   clear H16
   by_cases hc35 : (nC : Int) = 0
   ·
    refine wp_cut (fun a9 w9 => ∃ g5 : Nat, En 53 [(5, .pointer (some ⟨g5, 0, none⟩)), (2, .pointer (some ⟨g2, 0, none⟩)), (0, .slice (some ⟨b, off, none⟩) n c)] a9 ∧ St w noF [⟨g2, 25, #[.int .i64 0, .int .u32 0, .int .u32 0, .slice none 0 0]⟩, ⟨g4, 56, #[.int .i64 (bd (q.getD 0 0#8)), .int .u32 (wd (lv 1 q)), .int .u32 (wd (lv 5 q)), .int .i64 nC]⟩, ⟨g5, 25, #[.int .i64 (bd (q.getD 0 0#8)), .int .u32 (wd (lv 1 q)), .int .u32 (wd (lv 5 q)), .slice none 0 0]⟩] w9) ?_ ?_
    ·
     refine wi_ HS9 [0, 1] rfl [0, 1] rfl fun HSh36 hx36 => ht_ H19 0 hx36 rfl rfl (fun _ _ _ => xf 0 0 rfl (H19.ev 4 rfl)) fun _ H37 => ht_ H37 1 hx36 rfl rfl (fun _ _ HS9 => dd_get HS9 1 0 rfl rfl (H37.ev 23 rfl) rfl Try.underlying3 rfl) fun _ H38 => ht_ H38 2 hx36 rfl rfl (fun _ _ _ => xf 1 1 rfl (H38.ev 4 rfl)) fun _ H39 => ht_ H39 3 hx36 rfl rfl (fun _ _ _ => xf 0 1 rfl (H39.ev 25 rfl)) fun _ H40 => ht_ H40 4 hx36 rfl rfl (fun _ _ HS9 => dd_get HS9 1 1 rfl rfl (H40.ev 26 rfl) rfl Try.underlying22 rfl) fun _ H41 => ht_ H41 5 hx36 rfl rfl (fun _ _ _ => xf 1 1 rfl (H41.ev 4 rfl)) fun _ H42 => ht_ H42 6 hx36 rfl rfl (fun _ _ _ => xf 1 2 rfl (H42.ev 28 rfl)) fun _ H43 => ?_
     clear HS9 H19 H37 H38 H39 H40 H41
     refine ht_ H43 7 hx36 rfl rfl (fun _ _ HS9 => dd_get HS9 1 2 rfl rfl (H43.ev 29 rfl) rfl Try.underlying22 rfl) fun _ H44 => hp_ H44 8 hx36 rfl rfl rfl fun _ H45 => hp_ H45 9 hx36 rfl rfl rfl fun _ H46 => ht_ H46 10 hx36 rfl rfl (v := .int .i64 n) (fun _ _ _ => dd_len rfl (H46.ev 32 rfl) Try.underlying26) fun _ H47 => ht_ H47 11 hx36 rfl rfl (v := .int .i64 nP) (fun _ _ _ => dd_ari rfl (H47.ev 33 rfl) rfl rfl (by rw [i64_id _ (by omega) (by omega)]; omega)) fun _ H48 => ht_ H48 12 hx36 rfl rfl (v := .slice (some ⟨b, off + 10, none⟩) (nP - 10) (c - 10)) (fun _ _ _ => dd_sllh (l := 10) (u := nP) (sz := 1) rfl (H48.ev 31 rfl) rfl (H48.ev 34 rfl) (by kernel_rfl) (by omega) (by omega) (by omega) rfl rfl rfl) fun _ H49 => ?_
     clear H42 H43 H44 H45 H46 H47 H48
     refine wpAnyH_all (rs := [13, 15]) (by kernel_rfl) (by decide) (hm_cons ?_ (hm_cons ?_ hm_nil))
     ·
      refine ho_ rfl <| c_ H49 rfl HSh36 (dcs Try.func26 rfl (args1 (H49.ev 35 rfl)) (putsfrom_0 b (off + 10) (nP - 10) (c - 10) _ W9.drew (by omega) (by omega) (((HB _ HSh36.below).drop 10).take (33 * nC)) (by rw [List.length_take, List.length_drop, hq]; omega)) (.slice none 0 0)) fun _ HS50 _ H50 => sx_ (sxi HS50 [0, 1] rfl) fun hx51 => ht_ H50 14 hx51 rfl rfl (v := .agg #[.int .i64 (bd (q.getD 0 0#8)), .int .u32 (wd (lv 1 q)), .int .u32 (wd (lv 5 q)), .slice none 0 0]) (fun _ _ _ => dd_bld rfl (ps := [(0, .int .i64 (bd (q.getD 0 0#8))), (1, .int .u32 (wd (lv 1 q))), (2, .int .u32 (wd (lv 5 q))), (3, .slice none 0 0)]) (pr1 (H50.ev 24 rfl) (pr1 (H50.ev 27 rfl) (pr1 (H50.ev 30 rfl) (pr1 (H50.ev 36 rfl) (pr0))))) (Lz := [[.int .i64 0], [.int .u32 0], [.int .u32 0], [.slice none 0 0]]) (by kernel_rfl) (lens_cons rfl (lens_cons rfl (lens_cons rfl (lens_cons rfl (lens_nil))))) (fit_cons (i := 0) rfl rfl (fit_cons (i := 1) rfl rfl (fit_cons (i := 2) rfl rfl (fit_cons (i := 3) rfl rfl (fit_nil))))) (cs := #[.int .i64 (bd (q.getD 0 0#8)), .int .u32 (wd (lv 1 q)), .int .u32 (wd (lv 5 q)), .slice none 0 0]) rfl) fun _ H52 => h1_ 15 rfl <| n_ H52 rfl (fun _ h => dd_new HS50 #[.int .i64 0, .int .u32 0, .int .u32 0, .slice none 0 0] rfl (z := .agg #[.int .i64 0, .int .u32 0, .int .u32 0, .slice none 0 0]) (by kernel_rfl) rfl h) fun g5 _ HS53 _ H53 => sx_ (sxi HS53 [0, 1, 2] rfl) fun hx54 => h1_ 16 rfl <| t_ rfl (S := [⟨g2, 25, #[.int .i64 0, .int .u32 0, .int .u32 0, .slice none 0 0]⟩, ⟨g4, 56, #[.int .i64 (bd (q.getD 0 0#8)), .int .u32 (wd (lv 1 q)), .int .u32 (wd (lv 5 q)), .int .i64 nC]⟩, ⟨g5, 25, #[.int .i64 (bd (q.getD 0 0#8)), .int .u32 (wd (lv 1 q)), .int .u32 (wd (lv 5 q)), .slice none 0 0]⟩]) (fun _ h => dd_setrow HS53 2 rfl rfl (H53.ev 5 rfl) (H53.ev 37 rfl) (by kernel_rfl) (rfl : #[.int .i64 (bd (q.getD 0 0#8)), .int .u32 (wd (lv 1 q)), .int .u32 (wd (lv 5 q)), .slice none 0 0].size = 4) (rfl : #[.int .i64 0, .int .u32 0, .int .u32 0, .slice none 0 0].size = 4) (one_l (ao_cons rfl (ao_cons rfl (ao_cons rfl (ao_cons rfl ao_nil))))) h) fun _ HS55 => sx_ (sxi HS55 [0, 1, 2] rfl) fun hx56 => ?_
      clear H49 HSh36 H50 HS50 H52 hx51 HS53 hx54
      refine wpAnyH_done (by kernel_rfl) ?_ _
      clear hx56
      exact nx ⟨g5, H53.sel [0, 2, 5] rfl, ss HS55 [0, 1, 2]⟩
     refine ho_ rfl <| n_ H49 rfl (fun _ h => dd_new HSh36 #[.int .i64 0, .int .u32 0, .int .u32 0, .slice none 0 0] rfl (z := .agg #[.int .i64 0, .int .u32 0, .int .u32 0, .slice none 0 0]) (by kernel_rfl) rfl h) fun g5 W57 HS57 _ H57 => sx_ (sxi HS57 [0, 1, 2] rfl) fun hx58 => h1_ 13 rfl <| c_ H57 rfl HS57 (dcs Try.func26 rfl (args1 (H57.ev 35 rfl)) (putsfrom_0 b (off + 10) (nP - 10) (c - 10) _ W57 (by omega) (by omega) (((HB _ HS57.below).drop 10).take (33 * nC)) (by rw [List.length_take, List.length_drop, hq]; omega)) (.slice none 0 0)) fun _ HS59 _ H59 => sx_ (sxi HS59 [0, 1, 2] rfl) fun hx60 => ht_ H59 14 hx60 rfl rfl (v := .agg #[.int .i64 (bd (q.getD 0 0#8)), .int .u32 (wd (lv 1 q)), .int .u32 (wd (lv 5 q)), .slice none 0 0]) (fun _ _ _ => dd_bld rfl (ps := [(0, .int .i64 (bd (q.getD 0 0#8))), (1, .int .u32 (wd (lv 1 q))), (2, .int .u32 (wd (lv 5 q))), (3, .slice none 0 0)]) (pr1 (H59.ev 24 rfl) (pr1 (H59.ev 27 rfl) (pr1 (H59.ev 30 rfl) (pr1 (H59.ev 36 rfl) (pr0))))) (Lz := [[.int .i64 0], [.int .u32 0], [.int .u32 0], [.slice none 0 0]]) (by kernel_rfl) (lens_cons rfl (lens_cons rfl (lens_cons rfl (lens_cons rfl (lens_nil))))) (fit_cons (i := 0) rfl rfl (fit_cons (i := 1) rfl rfl (fit_cons (i := 2) rfl rfl (fit_cons (i := 3) rfl rfl (fit_nil))))) (cs := #[.int .i64 (bd (q.getD 0 0#8)), .int .u32 (wd (lv 1 q)), .int .u32 (wd (lv 5 q)), .slice none 0 0]) rfl) fun _ H61 => h1_ 16 rfl <| t_ rfl (S := [⟨g2, 25, #[.int .i64 0, .int .u32 0, .int .u32 0, .slice none 0 0]⟩, ⟨g4, 56, #[.int .i64 (bd (q.getD 0 0#8)), .int .u32 (wd (lv 1 q)), .int .u32 (wd (lv 5 q)), .int .i64 nC]⟩, ⟨g5, 25, #[.int .i64 (bd (q.getD 0 0#8)), .int .u32 (wd (lv 1 q)), .int .u32 (wd (lv 5 q)), .slice none 0 0]⟩]) (fun _ h => dd_setrow HS59 2 rfl rfl (H61.ev 5 rfl) (H61.ev 37 rfl) (by kernel_rfl) (rfl : #[.int .i64 (bd (q.getD 0 0#8)), .int .u32 (wd (lv 1 q)), .int .u32 (wd (lv 5 q)), .slice none 0 0].size = 4) (rfl : #[.int .i64 0, .int .u32 0, .int .u32 0, .slice none 0 0].size = 4) (one_l (ao_cons rfl (ao_cons rfl (ao_cons rfl (ao_cons rfl ao_nil))))) h) fun _ HS62 => sx_ (sxi HS62 [0, 1, 2] rfl) fun hx63 => ?_
     clear HSh36 H49 H57 HS57 hx58 H59 HS59 hx60
     refine wpAnyH_done (by kernel_rfl) ?_ _
     clear hx63
     exact nx ⟨g5, H61.sel [0, 2, 5] rfl, ss HS62 [0, 1, 2]⟩
    rintro aj36 wj36 ⟨g5, Hj36, HSj36⟩
    refine nx <| sq_ <| sq_ <| rl_ <| wl_ <| i_ Hj36 rfl (v := .agg #[.int .i64 (bd (q.getD 0 0#8)), .int .u32 (wd (lv 1 q)), .int .u32 (wd (lv 5 q)), .slice none 0 0]) (dd_load HSj36 2 0 rfl rfl (Hj36.ev 5 rfl) (slab_whole _) Try.underlying25 rfl (by kernel_rfl)) fun _ H65 => ?_
    clear Hj36
    cases hb67 : mayP (pktN q nC)
    ·
     refine wl_ <| c_ H65 rfl HSj36 (dcs Try.func8 rfl (args1 (H65.ev 39 rfl)) (pktenc_bad (pktN q nC) (.slice none 0 0) wj36 (pn_nil (by omega)) (by rw [pn_len]; unfold maxLen; omega) hb67) (.tuple #[.slice none 0 0, .int .i64 11])) fun _ HS68 _ H68 => wl_ <| p_ H68 rfl rfl fun _ H69 => wl_ <| i_ H69 rfl (v := .slice none 0 0) (dd_ext rfl (H69.ev 38 rfl) rfl) fun _ H70 => wl_ <| i_ H70 rfl (v := .int .i64 11) (dd_ext rfl (H70.ev 38 rfl) rfl) fun _ H71 => q_ H71 2 rfl fun _ H72 => ln_ <| nx <| sq_ <| rl_ <| wl_ <| p_ H72 rfl rfl fun _ H73 => wl_ <| i_ H73 rfl (dd_cmp rfl (H73.ev 43 rfl) rfl (ne_t (by decide))) fun _ H74 => wl_ <| p_ H74 rfl rfl fun _ H75 => ?_
     clear H65 HSj36 H68 H69 H70 H71 H72 H73
     refine wl_ <| k_ H75 (wg_ H75 rfl rfl rfl rfl) rfl fun _ H76 => wl_ <| k_ H76 (wg_ H76 rfl rfl rfl rfl) rfl fun _ H77 => wl_ <| k_ H77 (wg_ H77 rfl rfl rfl rfl) rfl fun _ H78 => wl_ <| k_ H78 (wg_ H78 rfl rfl rfl rfl) rfl fun _ H79 => wl_ <| p_ H79 rfl rfl fun _ H80 => ln_ <| nx <| ct_ H80 rfl <| sq_ <| rl_ <| wl_ <| i_ H80 rfl (v := .agg #[.int .i64 0, .int .u32 0, .int .u32 0, .slice none 0 0]) (dd_bld rfl (ps := []) (pr0) (Lz := [[.int .i64 0], [.int .u32 0], [.int .u32 0], [.slice none 0 0]]) (by kernel_rfl) (lens_cons rfl (lens_cons rfl (lens_cons rfl (lens_cons rfl (lens_nil))))) (fit_nil) (cs := #[.int .i64 0, .int .u32 0, .int .u32 0, .slice none 0 0]) rfl) fun _ H81 => wl_ <| t_ rfl (fun _ h => dd_setrow HS68 0 rfl rfl (H81.ev 2 rfl) (H81.ev 51 rfl) (by kernel_rfl) (rfl : #[.int .i64 0, .int .u32 0, .int .u32 0, .slice none 0 0].size = 4) (rfl : #[.int .i64 0, .int .u32 0, .int .u32 0, .slice none 0 0].size = 4) (one_l (ao_cons rfl (ao_cons rfl (ao_cons rfl (ao_cons rfl ao_nil))))) h) fun _ HS82 => wl_ <| p_ H81 rfl rfl fun _ H83 => ?_
     clear H74 H75 H76 H77 H78 H79 H80 HS68
     refine ln_ <| ?_
     clear H81
     have H84 := H83.sel [2, 3] rfl
     refine nx <| wp_ret <| tr <| ret_run H84.env0 (res_ct Try.results10 (H84.get 2 rfl) (HS82.row 0 rfl) Try.underlying25 rfl (by kernel_rfl) (H84.get 3 rfl)) <| ?_
     clear H83
     exact .inl ⟨(pk_no3 (by rw [hPN]; exact hb67)), rfl, HS82.below⟩
    refine wl_ <| d_ H65 rfl (R := fun v w9 => ∃ gc86 cc86 cbc86, v = .tuple #[.slice (some ⟨gc86, 0, none⟩) ((encP (pktN q nC)).length) cc86, .int .i64 0] ∧ (wj36.heap.size ≤ gc86) ∧ (Row w9 gc86 5 cbc86) ∧ (OwnC cbc86 cc86 ((encP (pktN q nC)).length) 1 (bytesV (encP (pktN q nC)))) ∧ Below wj36.heap.size wj36 w9) (dc_ Try.func8 rfl (args1 (H65.ev 39 rfl)) (pktenc_good (pktN q nC) (.slice none 0 0) wj36 (pn_nil (by omega)) hb67) (fun _ w9 ⟨v9, he, ho, hb⟩ => by obtain ⟨g9, c9, cb9, rfl, h1, h2, h3⟩ := ownc_pos ho (enc_pos _); exact ⟨_, he, g9, c9, cb9, rfl, h1, h2, h3, hb⟩)) ?_
    rintro _ W85 ⟨gc86, cc86, cbc86, rfl, hg86, hr86, Oc86, hb85⟩ a85 H85
    have HS85 := HSj36.same hb85
    clear H65
    have HS85j : St w noF [⟨g2, 25, #[.int .i64 0, .int .u32 0, .int .u32 0, .slice none 0 0]⟩, ⟨g4, 56, #[.int .i64 (bd (q.getD 0 0#8)), .int .u32 (wd (lv 1 q)), .int .u32 (wd (lv 5 q)), .int .i64 nC]⟩, ⟨g5, 25, #[.int .i64 (bd (q.getD 0 0#8)), .int .u32 (wd (lv 1 q)), .int .u32 (wd (lv 5 q)), .slice none 0 0]⟩, ⟨gc86, 5, cbc86⟩] W85 := HSj36.joins hb85 hr86 hg86
    clear HS85 hr86 hg86
    clear HSj36 hb85
    refine wl_ <| p_ H85 rfl rfl fun _ H87 => wl_ <| i_ H87 rfl (v := .slice (some ⟨gc86, 0, none⟩) ((encP (pktN q nC)).length) cc86) (dd_ext rfl (H87.ev 38 rfl) rfl) fun _ H88 => wl_ <| i_ H88 rfl (v := .int .i64 0) (dd_ext rfl (H88.ev 38 rfl) rfl) fun _ H89 => q_ H89 2 rfl fun _ H90 => ln_ <| nx <| sq_ <| rl_ <| wl_ <| p_ H90 rfl rfl fun _ H91 => wl_ <| i_ H91 rfl (dd_cmp rfl (H91.ev 43 rfl) rfl (ne_f (by decide))) fun _ H92 => wl_ <| p_ H92 rfl rfl fun _ H93 => wl_ <| ig H93 (wg_ H93 rfl rfl rfl rfl) rfl (dd_mv rfl (H93.ev 6 rfl)) fun _ H94 => ?_
    clear H85 H87 H88 H89 H90 H91 H92
    refine wl_ <| ig H94 (wg_ H94 rfl rfl rfl rfl) rfl (dd_mv rfl (H94.ev 0 rfl)) fun _ H95 => ?_
    clear H93 H94
    cases hb97 : decide (encP (pktN q nC) = q)
    ·
     refine wl_ <| icg H95 (wg_ H95 rfl rfl rfl rfl) rfl (v := .bool false) (dc_ Try.func27 rfl (args2 (H95.ev 46 rfl) (H95.ev 47 rfl)) (equal_any (encP (pktN q nC)) q _ _ W85 (slice_own (HS85j.row 3 rfl) Oc86 rfl) ((HB _ HS85j.below).slice hq (by omega))) (fun _ w9 h9 => ⟨_, h9.1, by rw [hb97], h9.2.symm⟩)) fun _ H98 => wl_ <| ig H98 (wg_ H98 rfl rfl rfl rfl) rfl (v := .bool true) (dd_nt rfl (H98.ev 48 rfl) rfl) fun _ H99 => wl_ <| p_ H99 rfl rfl fun _ H100 => ln_ <| nx <| ct_ H100 rfl <| sq_ <| rl_ <| wl_ <| i_ H100 rfl (v := .agg #[.int .i64 0, .int .u32 0, .int .u32 0, .slice none 0 0]) (dd_bld rfl (ps := []) (pr0) (Lz := [[.int .i64 0], [.int .u32 0], [.int .u32 0], [.slice none 0 0]]) (by kernel_rfl) (lens_cons rfl (lens_cons rfl (lens_cons rfl (lens_cons rfl (lens_nil))))) (fit_nil) (cs := #[.int .i64 0, .int .u32 0, .int .u32 0, .slice none 0 0]) rfl) fun _ H101 => wl_ <| t_ rfl (fun _ h => dd_setrow HS85j 0 rfl rfl (H101.ev 2 rfl) (H101.ev 51 rfl) (by kernel_rfl) (rfl : #[.int .i64 0, .int .u32 0, .int .u32 0, .slice none 0 0].size = 4) (rfl : #[.int .i64 0, .int .u32 0, .int .u32 0, .slice none 0 0].size = 4) (one_l (ao_cons rfl (ao_cons rfl (ao_cons rfl (ao_cons rfl ao_nil))))) h) fun _ HS102 => wl_ <| p_ H101 rfl rfl fun _ H103 => ln_ <| ?_
     clear H95 H98 H99 H100 HS85j H101
     have H104 := H103.sel [2, 3] rfl
     refine nx <| wp_ret <| tr <| ret_run H104.env0 (res_ct Try.results10 (H104.get 2 rfl) (HS102.row 0 rfl) Try.underlying25 rfl (by kernel_rfl) (H104.get 3 rfl)) <| ?_
     clear H103
     exact .inl ⟨(pk_no4 (by rw [hPN]; exact hb97)), rfl, HS102.below⟩
    refine wl_ <| icg H95 (wg_ H95 rfl rfl rfl rfl) rfl (v := .bool true) (dc_ Try.func27 rfl (args2 (H95.ev 46 rfl) (H95.ev 47 rfl)) (equal_any (encP (pktN q nC)) q _ _ W85 (slice_own (HS85j.row 3 rfl) Oc86 rfl) ((HB _ HS85j.below).slice hq (by omega))) (fun _ w9 h9 => ⟨_, h9.1, by rw [hb97], h9.2.symm⟩)) fun _ H105 => wl_ <| ig H105 (wg_ H105 rfl rfl rfl rfl) rfl (v := .bool false) (dd_nt rfl (H105.ev 48 rfl) rfl) fun _ H106 => wl_ <| p_ H106 rfl rfl fun _ H107 => ln_ <| nx <| cf_ H107 rfl <| wp_skip <| nx <| sq_ <| rl_ <| wl_ <| i_ H107 rfl (v := .agg #[.int .i64 (bd (q.getD 0 0#8)), .int .u32 (wd (lv 1 q)), .int .u32 (wd (lv 5 q)), .slice none 0 0]) (dd_load HS85j 2 0 rfl rfl (H107.ev 5 rfl) (slab_whole _) Try.underlying25 rfl (by kernel_rfl)) fun _ H108 => wl_ <| t_ rfl (fun _ h => dd_setrow HS85j 0 rfl rfl (H108.ev 2 rfl) (H108.ev 52 rfl) (by kernel_rfl) (rfl : #[.int .i64 (bd (q.getD 0 0#8)), .int .u32 (wd (lv 1 q)), .int .u32 (wd (lv 5 q)), .slice none 0 0].size = 4) (rfl : #[.int .i64 0, .int .u32 0, .int .u32 0, .slice none 0 0].size = 4) (one_l (ao_cons rfl (ao_cons rfl (ao_cons rfl (ao_cons rfl ao_nil))))) h) fun _ HS109 => wl_ <| p_ H108 rfl rfl fun _ H110 => ln_ <| ?_
    clear H95 H105 H106 H107 HS85j H108
    have H111 := H110.sel [2, 3] rfl
    refine nx <| wp_ret <| ret_run H111.env0 (res_ct Try.results10 (H111.get 2 rfl) (HS109.row 0 rfl) Try.underlying25 rfl (by kernel_rfl) (H111.get 3 rfl)) <| ?_
    clear H110
    exact .inr ⟨pk_yes hq (by omega) (by have := hnC; omega) (by rw [hPN]; exact hb67) (by rw [hPN]; exact hb97), _, rfl, .inl ⟨by omega, rfl⟩, HS109.below⟩
   refine wp_cut (fun a9 w9 => ∃ g5 : Nat, ∃ gc127 : Nat, ∃ cbc127 : Array Value, ∃ cc127 : Nat, OwnC cbc127 cc127 nC 33 ((((List.range nC).map (chunkP ((q.drop 10).take (33 * nC)))).map pcell).flatten) ∧ En 53 [(5, .pointer (some ⟨g5, 0, none⟩)), (2, .pointer (some ⟨g2, 0, none⟩)), (0, .slice (some ⟨b, off, none⟩) n c)] a9 ∧ St w noF [⟨g2, 25, #[.int .i64 0, .int .u32 0, .int .u32 0, .slice none 0 0]⟩, ⟨g4, 56, #[.int .i64 (bd (q.getD 0 0#8)), .int .u32 (wd (lv 1 q)), .int .u32 (wd (lv 5 q)), .int .i64 nC]⟩, ⟨gc127, 48, cbc127⟩, ⟨g5, 25, #[.int .i64 (bd (q.getD 0 0#8)), .int .u32 (wd (lv 1 q)), .int .u32 (wd (lv 5 q)), .slice (some ⟨gc127, 0, none⟩) nC cc127]⟩] w9) ?_ ?_
   ·
    refine wi_ HS9 [0, 1] rfl [0, 1] rfl fun HSh112 hx112 => ht_ H19 0 hx112 rfl rfl (fun _ _ _ => xf 0 0 rfl (H19.ev 4 rfl)) fun _ H113 => ht_ H113 1 hx112 rfl rfl (fun _ _ HS9 => dd_get HS9 1 0 rfl rfl (H113.ev 23 rfl) rfl Try.underlying3 rfl) fun _ H114 => ht_ H114 2 hx112 rfl rfl (fun _ _ _ => xf 1 1 rfl (H114.ev 4 rfl)) fun _ H115 => ht_ H115 3 hx112 rfl rfl (fun _ _ _ => xf 0 1 rfl (H115.ev 25 rfl)) fun _ H116 => ht_ H116 4 hx112 rfl rfl (fun _ _ HS9 => dd_get HS9 1 1 rfl rfl (H116.ev 26 rfl) rfl Try.underlying22 rfl) fun _ H117 => ht_ H117 5 hx112 rfl rfl (fun _ _ _ => xf 1 1 rfl (H117.ev 4 rfl)) fun _ H118 => ht_ H118 6 hx112 rfl rfl (fun _ _ _ => xf 1 2 rfl (H118.ev 28 rfl)) fun _ H119 => ?_
    clear HS9 H19 H113 H114 H115 H116 H117
    refine ht_ H119 7 hx112 rfl rfl (fun _ _ HS9 => dd_get HS9 1 2 rfl rfl (H119.ev 29 rfl) rfl Try.underlying22 rfl) fun _ H120 => hp_ H120 8 hx112 rfl rfl rfl fun _ H121 => hp_ H121 9 hx112 rfl rfl rfl fun _ H122 => ht_ H122 10 hx112 rfl rfl (v := .int .i64 n) (fun _ _ _ => dd_len rfl (H122.ev 32 rfl) Try.underlying26) fun _ H123 => ht_ H123 11 hx112 rfl rfl (v := .int .i64 nP) (fun _ _ _ => dd_ari rfl (H123.ev 33 rfl) rfl rfl (by rw [i64_id _ (by omega) (by omega)]; omega)) fun _ H124 => ht_ H124 12 hx112 rfl rfl (v := .slice (some ⟨b, off + 10, none⟩) (nP - 10) (c - 10)) (fun _ _ _ => dd_sllh (l := 10) (u := nP) (sz := 1) rfl (H124.ev 31 rfl) rfl (H124.ev 34 rfl) (by kernel_rfl) (by omega) (by omega) (by omega) rfl rfl rfl) fun _ H125 => ?_
    clear H118 H119 H120 H121 H122 H123 H124
    refine wpAnyH_all (rs := [13, 15]) (by kernel_rfl) (by decide) (hm_cons ?_ (hm_cons ?_ hm_nil))
    ·
     refine ho_ rfl <| d_ H125 rfl (R := fun v w9 => ∃ gc127 cc127 cbc127, v = .slice (some ⟨gc127, 0, none⟩) nC cc127 ∧ (W9.drew.heap.size ≤ gc127) ∧ (Row w9 gc127 48 cbc127) ∧ (OwnC cbc127 cc127 nC 33 ((((List.range nC).map (chunkP ((q.drop 10).take (33 * nC)))).map pcell).flatten)) ∧ Below W9.drew.heap.size W9.drew w9) (dc_ Try.func26 rfl (args1 (H125.ev 35 rfl)) (putsfrom_S b (off + 10) (nP - 10) (c - 10) nC _ W9.drew (by omega) (by omega) (by omega) (by omega) (((HB _ HSh112.below).drop 10).take (33 * nC)) (by rw [List.length_take, List.length_drop, hq]; omega)) (fun _ w9 ⟨g9, c9, cb9, he, h1, h2, h3, hb⟩ => ⟨_, he, g9, c9, cb9, rfl, h1, h2, h3, hb⟩)) ?_
     rintro _ W126 ⟨gc127, cc127, cbc127, rfl, hg127, hr127, Oc127, hb126⟩ a126 H126
     have HS126 := HSh112.same hb126
     clear H125
     have HS126j : St w noF [⟨g2, 25, #[.int .i64 0, .int .u32 0, .int .u32 0, .slice none 0 0]⟩, ⟨g4, 56, #[.int .i64 (bd (q.getD 0 0#8)), .int .u32 (wd (lv 1 q)), .int .u32 (wd (lv 5 q)), .int .i64 nC]⟩, ⟨gc127, 48, cbc127⟩] W126 := HSh112.joins hb126 hr127 hg127
     clear HS126 hr127 hg127
     clear HSh112 hb126
     refine sx_ (sxi HS126j [0, 1, 2] rfl) fun hx128 => ht_ H126 14 hx128 rfl rfl (v := .agg #[.int .i64 (bd (q.getD 0 0#8)), .int .u32 (wd (lv 1 q)), .int .u32 (wd (lv 5 q)), .slice (some ⟨gc127, 0, none⟩) nC cc127]) (fun _ _ _ => dd_bld rfl (ps := [(0, .int .i64 (bd (q.getD 0 0#8))), (1, .int .u32 (wd (lv 1 q))), (2, .int .u32 (wd (lv 5 q))), (3, .slice (some ⟨gc127, 0, none⟩) nC cc127)]) (pr1 (H126.ev 24 rfl) (pr1 (H126.ev 27 rfl) (pr1 (H126.ev 30 rfl) (pr1 (H126.ev 36 rfl) (pr0))))) (Lz := [[.int .i64 0], [.int .u32 0], [.int .u32 0], [.slice none 0 0]]) (by kernel_rfl) (lens_cons rfl (lens_cons rfl (lens_cons rfl (lens_cons rfl (lens_nil))))) (fit_cons (i := 0) rfl rfl (fit_cons (i := 1) rfl rfl (fit_cons (i := 2) rfl rfl (fit_cons (i := 3) rfl rfl (fit_nil))))) (cs := #[.int .i64 (bd (q.getD 0 0#8)), .int .u32 (wd (lv 1 q)), .int .u32 (wd (lv 5 q)), .slice (some ⟨gc127, 0, none⟩) nC cc127]) rfl) fun _ H129 => h1_ 15 rfl <| n_ H129 rfl (fun _ h => dd_new HS126j #[.int .i64 0, .int .u32 0, .int .u32 0, .slice none 0 0] rfl (z := .agg #[.int .i64 0, .int .u32 0, .int .u32 0, .slice none 0 0]) (by kernel_rfl) rfl h) fun g5 _ HS130 _ H130 => sx_ (sxi HS130 [0, 1, 2, 3] rfl) fun hx131 => h1_ 16 rfl <| t_ rfl (S := [⟨g2, 25, #[.int .i64 0, .int .u32 0, .int .u32 0, .slice none 0 0]⟩, ⟨g4, 56, #[.int .i64 (bd (q.getD 0 0#8)), .int .u32 (wd (lv 1 q)), .int .u32 (wd (lv 5 q)), .int .i64 nC]⟩, ⟨gc127, 48, cbc127⟩, ⟨g5, 25, #[.int .i64 (bd (q.getD 0 0#8)), .int .u32 (wd (lv 1 q)), .int .u32 (wd (lv 5 q)), .slice (some ⟨gc127, 0, none⟩) nC cc127]⟩]) (fun _ h => dd_setrow HS130 3 rfl rfl (H130.ev 5 rfl) (H130.ev 37 rfl) (by kernel_rfl) (rfl : #[.int .i64 (bd (q.getD 0 0#8)), .int .u32 (wd (lv 1 q)), .int .u32 (wd (lv 5 q)), .slice (some ⟨gc127, 0, none⟩) nC cc127].size = 4) (rfl : #[.int .i64 0, .int .u32 0, .int .u32 0, .slice none 0 0].size = 4) (one_l (ao_cons rfl (ao_cons rfl (ao_cons rfl (ao_cons rfl ao_nil))))) h) fun _ HS132 => sx_ (sxi HS132 [0, 1, 2, 3] rfl) fun hx133 => ?_
     clear H126 HS126j H129 hx128 HS130 hx131
     refine wpAnyH_done (by kernel_rfl) ?_ _
     clear hx133
     exact nx ⟨g5, gc127, cbc127, cc127, Oc127, H130.sel [0, 2, 5] rfl, ss HS132 [0, 1, 2, 3]⟩
    refine ho_ rfl <| n_ H125 rfl (fun _ h => dd_new HSh112 #[.int .i64 0, .int .u32 0, .int .u32 0, .slice none 0 0] rfl (z := .agg #[.int .i64 0, .int .u32 0, .int .u32 0, .slice none 0 0]) (by kernel_rfl) rfl h) fun g5 W134 HS134 _ H134 => sx_ (sxi HS134 [0, 1, 2] rfl) fun hx135 => ?_
    clear HSh112 H125
    refine h1_ 13 rfl <| d_ H134 rfl (R := fun v w9 => ∃ gc137 cc137 cbc137, v = .slice (some ⟨gc137, 0, none⟩) nC cc137 ∧ (W134.heap.size ≤ gc137) ∧ (Row w9 gc137 48 cbc137) ∧ (OwnC cbc137 cc137 nC 33 ((((List.range nC).map (chunkP ((q.drop 10).take (33 * nC)))).map pcell).flatten)) ∧ Below W134.heap.size W134 w9) (dc_ Try.func26 rfl (args1 (H134.ev 35 rfl)) (putsfrom_S b (off + 10) (nP - 10) (c - 10) nC _ W134 (by omega) (by omega) (by omega) (by omega) (((HB _ HS134.below).drop 10).take (33 * nC)) (by rw [List.length_take, List.length_drop, hq]; omega)) (fun _ w9 ⟨g9, c9, cb9, he, h1, h2, h3, hb⟩ => ⟨_, he, g9, c9, cb9, rfl, h1, h2, h3, hb⟩)) ?_
    rintro _ W136 ⟨gc137, cc137, cbc137, rfl, hg137, hr137, Oc137, hb136⟩ a136 H136
    have HS136 := HS134.same hb136
    clear H134
    have HS136j : St w noF [⟨g2, 25, #[.int .i64 0, .int .u32 0, .int .u32 0, .slice none 0 0]⟩, ⟨g4, 56, #[.int .i64 (bd (q.getD 0 0#8)), .int .u32 (wd (lv 1 q)), .int .u32 (wd (lv 5 q)), .int .i64 nC]⟩, ⟨g5, 25, #[.int .i64 0, .int .u32 0, .int .u32 0, .slice none 0 0]⟩, ⟨gc137, 48, cbc137⟩] W136 := HS134.joins hb136 hr137 hg137
    clear HS136 hr137 hg137
    clear HS134 hb136
    refine sx_ (sxi HS136j [0, 1, 2, 3] rfl) fun hx138 => ht_ H136 14 hx138 rfl rfl (v := .agg #[.int .i64 (bd (q.getD 0 0#8)), .int .u32 (wd (lv 1 q)), .int .u32 (wd (lv 5 q)), .slice (some ⟨gc137, 0, none⟩) nC cc137]) (fun _ _ _ => dd_bld rfl (ps := [(0, .int .i64 (bd (q.getD 0 0#8))), (1, .int .u32 (wd (lv 1 q))), (2, .int .u32 (wd (lv 5 q))), (3, .slice (some ⟨gc137, 0, none⟩) nC cc137)]) (pr1 (H136.ev 24 rfl) (pr1 (H136.ev 27 rfl) (pr1 (H136.ev 30 rfl) (pr1 (H136.ev 36 rfl) (pr0))))) (Lz := [[.int .i64 0], [.int .u32 0], [.int .u32 0], [.slice none 0 0]]) (by kernel_rfl) (lens_cons rfl (lens_cons rfl (lens_cons rfl (lens_cons rfl (lens_nil))))) (fit_cons (i := 0) rfl rfl (fit_cons (i := 1) rfl rfl (fit_cons (i := 2) rfl rfl (fit_cons (i := 3) rfl rfl (fit_nil))))) (cs := #[.int .i64 (bd (q.getD 0 0#8)), .int .u32 (wd (lv 1 q)), .int .u32 (wd (lv 5 q)), .slice (some ⟨gc137, 0, none⟩) nC cc137]) rfl) fun _ H139 => h1_ 16 rfl <| t_ rfl (S := [⟨g2, 25, #[.int .i64 0, .int .u32 0, .int .u32 0, .slice none 0 0]⟩, ⟨g4, 56, #[.int .i64 (bd (q.getD 0 0#8)), .int .u32 (wd (lv 1 q)), .int .u32 (wd (lv 5 q)), .int .i64 nC]⟩, ⟨g5, 25, #[.int .i64 (bd (q.getD 0 0#8)), .int .u32 (wd (lv 1 q)), .int .u32 (wd (lv 5 q)), .slice (some ⟨gc137, 0, none⟩) nC cc137]⟩, ⟨gc137, 48, cbc137⟩]) (fun _ h => dd_setrow HS136j 2 rfl rfl (H139.ev 5 rfl) (H139.ev 37 rfl) (by kernel_rfl) (rfl : #[.int .i64 (bd (q.getD 0 0#8)), .int .u32 (wd (lv 1 q)), .int .u32 (wd (lv 5 q)), .slice (some ⟨gc137, 0, none⟩) nC cc137].size = 4) (rfl : #[.int .i64 0, .int .u32 0, .int .u32 0, .slice none 0 0].size = 4) (one_l (ao_cons rfl (ao_cons rfl (ao_cons rfl (ao_cons rfl ao_nil))))) h) fun _ HS140 => sx_ (sxi HS140 [0, 1, 2, 3] rfl) fun hx141 => ?_
    clear hx135 H136 HS136j hx138
    refine wpAnyH_done (by kernel_rfl) ?_ _
    clear hx141
    exact nx ⟨g5, gc137, cbc137, cc137, Oc137, H139.sel [0, 2, 5] rfl, ss HS140 [0, 1, 3, 2]⟩
   rintro aj112 wj112 ⟨g5, gc127, cbc127, cc127, Oc127, Hj112, HSj112⟩
   refine nx <| sq_ <| sq_ <| rl_ <| wl_ <| i_ Hj112 rfl (v := .agg #[.int .i64 (bd (q.getD 0 0#8)), .int .u32 (wd (lv 1 q)), .int .u32 (wd (lv 5 q)), .slice (some ⟨gc127, 0, none⟩) nC cc127]) (dd_load HSj112 3 0 rfl rfl (Hj112.ev 5 rfl) (slab_whole _) Try.underlying25 rfl (by kernel_rfl)) fun _ H143 => ?_
   clear Hj112
   cases hb145 : mayP (pktN q nC)
   ·
    refine wl_ <| c_ H143 rfl HSj112 (dcs Try.func8 rfl (args1 (H143.ev 39 rfl)) (pktenc_bad (pktN q nC) (.slice (some ⟨gc127, 0, none⟩) nC cc127) wj112 (puts_ownl (pn_len _ _) (ownc_to (HSj112.row 2 rfl) Oc127 (Nat.zero_le _)) (hlq (by omega))) (by rw [pn_len]; unfold maxLen; omega) hb145) (.tuple #[.slice none 0 0, .int .i64 11])) fun _ HS146 _ H146 => wl_ <| p_ H146 rfl rfl fun _ H147 => wl_ <| i_ H147 rfl (v := .slice none 0 0) (dd_ext rfl (H147.ev 38 rfl) rfl) fun _ H148 => wl_ <| i_ H148 rfl (v := .int .i64 11) (dd_ext rfl (H148.ev 38 rfl) rfl) fun _ H149 => q_ H149 2 rfl fun _ H150 => ln_ <| nx <| sq_ <| rl_ <| wl_ <| p_ H150 rfl rfl fun _ H151 => wl_ <| i_ H151 rfl (dd_cmp rfl (H151.ev 43 rfl) rfl (ne_t (by decide))) fun _ H152 => wl_ <| p_ H152 rfl rfl fun _ H153 => ?_
    clear H143 HSj112 H146 H147 H148 H149 H150 H151
    refine wl_ <| k_ H153 (wg_ H153 rfl rfl rfl rfl) rfl fun _ H154 => wl_ <| k_ H154 (wg_ H154 rfl rfl rfl rfl) rfl fun _ H155 => wl_ <| k_ H155 (wg_ H155 rfl rfl rfl rfl) rfl fun _ H156 => wl_ <| k_ H156 (wg_ H156 rfl rfl rfl rfl) rfl fun _ H157 => wl_ <| p_ H157 rfl rfl fun _ H158 => ln_ <| nx <| ct_ H158 rfl <| sq_ <| rl_ <| wl_ <| i_ H158 rfl (v := .agg #[.int .i64 0, .int .u32 0, .int .u32 0, .slice none 0 0]) (dd_bld rfl (ps := []) (pr0) (Lz := [[.int .i64 0], [.int .u32 0], [.int .u32 0], [.slice none 0 0]]) (by kernel_rfl) (lens_cons rfl (lens_cons rfl (lens_cons rfl (lens_cons rfl (lens_nil))))) (fit_nil) (cs := #[.int .i64 0, .int .u32 0, .int .u32 0, .slice none 0 0]) rfl) fun _ H159 => wl_ <| t_ rfl (fun _ h => dd_setrow HS146 0 rfl rfl (H159.ev 2 rfl) (H159.ev 51 rfl) (by kernel_rfl) (rfl : #[.int .i64 0, .int .u32 0, .int .u32 0, .slice none 0 0].size = 4) (rfl : #[.int .i64 0, .int .u32 0, .int .u32 0, .slice none 0 0].size = 4) (one_l (ao_cons rfl (ao_cons rfl (ao_cons rfl (ao_cons rfl ao_nil))))) h) fun _ HS160 => wl_ <| p_ H159 rfl rfl fun _ H161 => ?_
    clear H152 H153 H154 H155 H156 H157 H158 HS146
    refine ln_ <| ?_
    clear H159
    have H162 := H161.sel [2, 3] rfl
    refine nx <| wp_ret <| tr <| ret_run H162.env0 (res_ct Try.results10 (H162.get 2 rfl) (HS160.row 0 rfl) Try.underlying25 rfl (by kernel_rfl) (H162.get 3 rfl)) <| ?_
    clear H161
    exact .inl ⟨(pk_no3 (by rw [hPN]; exact hb145)), rfl, HS160.below⟩
   refine wl_ <| d_ H143 rfl (R := fun v w9 => ∃ gc164 cc164 cbc164, v = .tuple #[.slice (some ⟨gc164, 0, none⟩) ((encP (pktN q nC)).length) cc164, .int .i64 0] ∧ (wj112.heap.size ≤ gc164) ∧ (Row w9 gc164 5 cbc164) ∧ (OwnC cbc164 cc164 ((encP (pktN q nC)).length) 1 (bytesV (encP (pktN q nC)))) ∧ Below wj112.heap.size wj112 w9) (dc_ Try.func8 rfl (args1 (H143.ev 39 rfl)) (pktenc_good (pktN q nC) (.slice (some ⟨gc127, 0, none⟩) nC cc127) wj112 (puts_ownl (pn_len _ _) (ownc_to (HSj112.row 2 rfl) Oc127 (Nat.zero_le _)) (hlq (by omega))) hb145) (fun _ w9 ⟨v9, he, ho, hb⟩ => by obtain ⟨g9, c9, cb9, rfl, h1, h2, h3⟩ := ownc_pos ho (enc_pos _); exact ⟨_, he, g9, c9, cb9, rfl, h1, h2, h3, hb⟩)) ?_
   rintro _ W163 ⟨gc164, cc164, cbc164, rfl, hg164, hr164, Oc164, hb163⟩ a163 H163
   have HS163 := HSj112.same hb163
   clear H143
   have HS163j : St w noF [⟨g2, 25, #[.int .i64 0, .int .u32 0, .int .u32 0, .slice none 0 0]⟩, ⟨g4, 56, #[.int .i64 (bd (q.getD 0 0#8)), .int .u32 (wd (lv 1 q)), .int .u32 (wd (lv 5 q)), .int .i64 nC]⟩, ⟨gc127, 48, cbc127⟩, ⟨g5, 25, #[.int .i64 (bd (q.getD 0 0#8)), .int .u32 (wd (lv 1 q)), .int .u32 (wd (lv 5 q)), .slice (some ⟨gc127, 0, none⟩) nC cc127]⟩, ⟨gc164, 5, cbc164⟩] W163 := HSj112.joins hb163 hr164 hg164
   clear HS163 hr164 hg164
   clear HSj112 hb163
   refine wl_ <| p_ H163 rfl rfl fun _ H165 => wl_ <| i_ H165 rfl (v := .slice (some ⟨gc164, 0, none⟩) ((encP (pktN q nC)).length) cc164) (dd_ext rfl (H165.ev 38 rfl) rfl) fun _ H166 => wl_ <| i_ H166 rfl (v := .int .i64 0) (dd_ext rfl (H166.ev 38 rfl) rfl) fun _ H167 => q_ H167 2 rfl fun _ H168 => ln_ <| nx <| sq_ <| rl_ <| wl_ <| p_ H168 rfl rfl fun _ H169 => wl_ <| i_ H169 rfl (dd_cmp rfl (H169.ev 43 rfl) rfl (ne_f (by decide))) fun _ H170 => wl_ <| p_ H170 rfl rfl fun _ H171 => wl_ <| ig H171 (wg_ H171 rfl rfl rfl rfl) rfl (dd_mv rfl (H171.ev 6 rfl)) fun _ H172 => ?_
   clear H163 H165 H166 H167 H168 H169 H170
   refine wl_ <| ig H172 (wg_ H172 rfl rfl rfl rfl) rfl (dd_mv rfl (H172.ev 0 rfl)) fun _ H173 => ?_
   clear H171 H172
   cases hb175 : decide (encP (pktN q nC) = q)
   ·
    refine wl_ <| icg H173 (wg_ H173 rfl rfl rfl rfl) rfl (v := .bool false) (dc_ Try.func27 rfl (args2 (H173.ev 46 rfl) (H173.ev 47 rfl)) (equal_any (encP (pktN q nC)) q _ _ W163 (slice_own (HS163j.row 4 rfl) Oc164 rfl) ((HB _ HS163j.below).slice hq (by omega))) (fun _ w9 h9 => ⟨_, h9.1, by rw [hb175], h9.2.symm⟩)) fun _ H176 => wl_ <| ig H176 (wg_ H176 rfl rfl rfl rfl) rfl (v := .bool true) (dd_nt rfl (H176.ev 48 rfl) rfl) fun _ H177 => wl_ <| p_ H177 rfl rfl fun _ H178 => ln_ <| nx <| ct_ H178 rfl <| sq_ <| rl_ <| wl_ <| i_ H178 rfl (v := .agg #[.int .i64 0, .int .u32 0, .int .u32 0, .slice none 0 0]) (dd_bld rfl (ps := []) (pr0) (Lz := [[.int .i64 0], [.int .u32 0], [.int .u32 0], [.slice none 0 0]]) (by kernel_rfl) (lens_cons rfl (lens_cons rfl (lens_cons rfl (lens_cons rfl (lens_nil))))) (fit_nil) (cs := #[.int .i64 0, .int .u32 0, .int .u32 0, .slice none 0 0]) rfl) fun _ H179 => wl_ <| t_ rfl (fun _ h => dd_setrow HS163j 0 rfl rfl (H179.ev 2 rfl) (H179.ev 51 rfl) (by kernel_rfl) (rfl : #[.int .i64 0, .int .u32 0, .int .u32 0, .slice none 0 0].size = 4) (rfl : #[.int .i64 0, .int .u32 0, .int .u32 0, .slice none 0 0].size = 4) (one_l (ao_cons rfl (ao_cons rfl (ao_cons rfl (ao_cons rfl ao_nil))))) h) fun _ HS180 => wl_ <| p_ H179 rfl rfl fun _ H181 => ln_ <| ?_
    clear H173 H176 H177 H178 HS163j H179
    have H182 := H181.sel [2, 3] rfl
    refine nx <| wp_ret <| tr <| ret_run H182.env0 (res_ct Try.results10 (H182.get 2 rfl) (HS180.row 0 rfl) Try.underlying25 rfl (by kernel_rfl) (H182.get 3 rfl)) <| ?_
    clear H181
    exact .inl ⟨(pk_no4 (by rw [hPN]; exact hb175)), rfl, HS180.below⟩
   refine wl_ <| icg H173 (wg_ H173 rfl rfl rfl rfl) rfl (v := .bool true) (dc_ Try.func27 rfl (args2 (H173.ev 46 rfl) (H173.ev 47 rfl)) (equal_any (encP (pktN q nC)) q _ _ W163 (slice_own (HS163j.row 4 rfl) Oc164 rfl) ((HB _ HS163j.below).slice hq (by omega))) (fun _ w9 h9 => ⟨_, h9.1, by rw [hb175], h9.2.symm⟩)) fun _ H183 => wl_ <| ig H183 (wg_ H183 rfl rfl rfl rfl) rfl (v := .bool false) (dd_nt rfl (H183.ev 48 rfl) rfl) fun _ H184 => wl_ <| p_ H184 rfl rfl fun _ H185 => ln_ <| nx <| cf_ H185 rfl <| wp_skip <| nx <| sq_ <| rl_ <| wl_ <| i_ H185 rfl (v := .agg #[.int .i64 (bd (q.getD 0 0#8)), .int .u32 (wd (lv 1 q)), .int .u32 (wd (lv 5 q)), .slice (some ⟨gc127, 0, none⟩) nC cc127]) (dd_load HS163j 3 0 rfl rfl (H185.ev 5 rfl) (slab_whole _) Try.underlying25 rfl (by kernel_rfl)) fun _ H186 => wl_ <| t_ rfl (fun _ h => dd_setrow HS163j 0 rfl rfl (H186.ev 2 rfl) (H186.ev 52 rfl) (by kernel_rfl) (rfl : #[.int .i64 (bd (q.getD 0 0#8)), .int .u32 (wd (lv 1 q)), .int .u32 (wd (lv 5 q)), .slice (some ⟨gc127, 0, none⟩) nC cc127].size = 4) (rfl : #[.int .i64 0, .int .u32 0, .int .u32 0, .slice none 0 0].size = 4) (one_l (ao_cons rfl (ao_cons rfl (ao_cons rfl (ao_cons rfl ao_nil))))) h) fun _ HS187 => wl_ <| p_ H186 rfl rfl fun _ H188 => ln_ <| ?_
   clear H173 H183 H184 H185 HS163j H186
   have H189 := H188.sel [2, 3] rfl
   refine nx <| wp_ret <| ret_run H189.env0 (res_ct Try.results10 (H189.get 2 rfl) (HS187.row 0 rfl) Try.underlying25 rfl (by kernel_rfl) (H189.get 3 rfl)) <| ?_
   clear H188
   exact .inr ⟨pk_yes hq (by omega) (by have := hnC; omega) (by rw [hPN]; exact hb145) (by rw [hPN]; exact hb175), _, rfl, .inr ⟨by omega, gc127, cc127, cbc127, rfl, (st_fresh2 HS187 2 rfl), HS187.row 2 rfl, Oc127⟩, HS187.below⟩
  refine wl_ <| i_ H16 rfl (dd_cmp rfl (H16.ev 15 rfl) (H16.ev 20 rfl) (ne_t hc18)) fun _ H190 => ln_ <| nx <| ct_ H190 rfl <| sq_ <| rl_ <| wl_ <| i_ H190 rfl (v := .agg #[.int .i64 0, .int .u32 0, .int .u32 0, .slice none 0 0]) (dd_bld rfl (ps := []) (pr0) (Lz := [[.int .i64 0], [.int .u32 0], [.int .u32 0], [.slice none 0 0]]) (by kernel_rfl) (lens_cons rfl (lens_cons rfl (lens_cons rfl (lens_cons rfl (lens_nil))))) (fit_nil) (cs := #[.int .i64 0, .int .u32 0, .int .u32 0, .slice none 0 0]) rfl) fun _ H191 => wl_ <| t_ rfl (fun _ h => dd_setrow HS9 0 rfl rfl (H191.ev 2 rfl) (H191.ev 22 rfl) (by kernel_rfl) (rfl : #[.int .i64 0, .int .u32 0, .int .u32 0, .slice none 0 0].size = 4) (rfl : #[.int .i64 0, .int .u32 0, .int .u32 0, .slice none 0 0].size = 4) (one_l (ao_cons rfl (ao_cons rfl (ao_cons rfl (ao_cons rfl ao_nil))))) h) fun _ HS192 => wl_ <| p_ H191 rfl rfl fun _ H193 => ln_ <| ?_
  clear H16 H190 HS9 H191
  have H194 := H193.sel [2, 3] rfl
  refine nx <| wp_ret <| tr <| ret_run H194.env0 (res_ct Try.results10 (H194.get 2 rfl) (HS192.row 0 rfl) Try.underlying25 rfl (by kernel_rfl) (H194.get 3 rfl)) <| ?_
  clear H193
  exact .inl ⟨(pk_no2 hq (by have := hnC; omega)), rfl, HS192.below⟩
theorem pkdec_any (A : Option Addr) (n c : Nat) (q : List (BitVec 8)) (w : World) (hs : Slice w (.slice A n c) q) : Calls Try.prog 10 #[.slice A n c] w fun x w' => (pkOk q = false ∧ x = .returned (.tuple #[.agg #[.int .i64 0, .int .u32 0, .int .u32 0, .slice none 0 0], .int .i64 11]) ∧ Below w.heap.size w w') ∨ (pkOk q = true ∧ ∃ sl, x = .returned (.tuple #[.agg #[.int .i64 (bd (q.getD 0 0#8)), .int .u32 (wd (lv 1 q)), .int .u32 (wd (lv 5 q)), sl], .int .i64 0]) ∧ OwnP w w' sl (cntP q) (lP q) ∧ Below w.heap.size w w') := by
  obtain ⟨A', c', e, hc, h3⟩ := id hs
  injection e with e1 e2 e3
  subst e1 e2 e3
  by_cases hn : q.length < 12
  · refine (pkdec_short A q.length c w hn).mono ?_
    rintro x w' ⟨rfl, hb⟩
    exact .inl ⟨pk_no1 rfl hn, rfl, hb⟩
  · obtain ⟨b, off, rfl, hB, _⟩ := slice_bat hs (by omega)
    have h9 : cntP q ≤ 255 := by unfold cntP; have := (q.getD 9 0#8).isLt; omega
    exact pkdec_walk b off q.length c (cntP q) (q.length - 2) q w hB rfl (by omega) hc rfl rfl h9 rfl (fun h => lP_ok h)
theorem pkdec_good (A : Option Addr) (n c : Nat) (q : List (BitVec 8)) (w : World) (hs : Slice w (.slice A n c) q) (h : pkOk q = true) : Calls Try.prog 10 #[.slice A n c] w fun x w' => ∃ sl, x = .returned (.tuple #[.agg #[.int .i64 (bd (q.getD 0 0#8)), .int .u32 (wd (lv 1 q)), .int .u32 (wd (lv 5 q)), sl], .int .i64 0]) ∧ OwnP w w' sl (cntP q) (lP q) ∧ Below w.heap.size w w' := by
  refine (pkdec_any A n c q w hs).mono ?_
  rintro x w' (⟨k, _⟩ | ⟨_, k⟩)
  · rw [h] at k; cases k
  · exact k
theorem pkdec_goodS (A : Option Addr) (n c : Nat) (q : List (BitVec 8)) (w : World) (hs : Slice w (.slice A n c) q) (h : pkOk q = true) (m : Nat) (l : List Pt) (hm : cntP q = m) (hl : lP q = l) (h0 : 0 < m) : Calls Try.prog 10 #[.slice A n c] w fun x w' => ∃ g c' cb, x = .returned (.tuple #[.agg #[.int .i64 (bd (q.getD 0 0#8)), .int .u32 (wd (lv 1 q)), .int .u32 (wd (lv 5 q)), .slice (some ⟨g, 0, none⟩) m c'], .int .i64 0]) ∧ w.heap.size ≤ g ∧ Row w' g 48 cb ∧ OwnC cb c' m 33 (l.map pcell).flatten ∧ Below w.heap.size w w' := by
  subst hm hl
  refine (pkdec_good A n c q w hs h).mono ?_
  rintro x w' ⟨sl, rfl, ⟨h1, _⟩ | ⟨_, g, c', cb, rfl, h2, h3, h4⟩, hb⟩
  · omega
  · exact ⟨g, c', cb, rfl, h2, h3, h4, hb⟩
end Go.Proofs.Ytlpfdghciegnnaa

/- Whether two packets are alike. -/
set_option maxRecDepth 4000
namespace Go.Proofs.Ytlpfdghciegnnaa
open Go Go.RowKit
theorem pc_at {w : World} {b o : Nat} {x : Pt} (h : w.rangeAt b o (pcell x)) : w.cell? ⟨b, o, none⟩ = some (.int .i64 x.1) := h 0 _ rfl
theorem puts_all {la lb : List Pt} {n m : Nat} (ha : la.length = n) (hb : lb.length = m) (e : n = m) (h : ∀ j, j < n → la[j]? = lb[j]?) : la = lb := by
  subst e
  refine List.ext_getElem? fun j => ?_
  by_cases hj : j < n
  · exact h j hj
  · rw [List.getElem?_eq_none (by omega), List.getElem?_eq_none (by omega)]
theorem eql_head (k e s n k' e' s' n' : Int) (w : World) : (Op.equalIn 10000 56 (.agg #[.int .i64 k, .int .u32 e, .int .u32 s, .int .i64 n]) (.agg #[.int .i64 k', .int .u32 e', .int .u32 s', .int .i64 n'])).run Try.prog w = .ok (decide (k = k' ∧ e = e' ∧ s = s' ∧ n = n')) w := by
  have hS : Try.prog.underlying 56 = some (.struct (Try.prog.fieldsOf 56)) := by kernel_rfl
  have hS2 : Try.prog.underlying 54 = some (.struct (Try.prog.fieldsOf 54)) := by kernel_rfl
  have u1 := Try.underlying3
  have u2 := Try.underlying22
  have q2 : ∀ w, (Op.equalIn 9999 54 (.agg #[.int .u32 e, .int .u32 s]) (.agg #[.int .u32 e', .int .u32 s'])).run Try.prog w = .ok (decide (e = e' ∧ s = s')) w := fun w => by
    rw [show (9999 : Nat) = 9998 + 1 from rfl, run_equalIn_agg w 9998 54 _ _ hS2 (by kernel_rfl)]
    simp only [Program.fieldsOf, Try.underlying54]
    go_simp
    by_cases h1 : e = e' <;> by_cases h2 : s = s' <;> simp [h1, h2]
  rw [show (10000 : Nat) = 9999 + 1 from rfl, run_equalIn_agg w 9999 56 _ _ hS (by kernel_rfl)]
  simp only [Program.fieldsOf, Try.underlying56]
  go_simp
  by_cases h1 : k = k' <;> by_cases h2 : e = e' <;> by_cases h3 : s = s' <;> by_cases h4 : n = n' <;> simp_all
theorem putseq_ne (A A2 : Option Addr) (n c m c2 : Nat) (w : World) (h : n ≠ m) : Calls Try.prog 30 #[.slice A n c, .slice A2 m c2] w fun x w' => x = .returned (.bool false) ∧ Below w.heap.size w w' := by
  have HS := St.nil w noF
  refine enter_en Try.func30 rfl Try.ntmps30 (Nat.le_of_ble_eq_true rfl) fun a0 (HA0 : En 26 [(0, .slice A n c), (1, .slice A2 m c2)] a0) => ?_
  refine sq_ <| rl_ <| wl_ <| p_ HA0 rfl rfl fun _ H1 => ln_ <| nx <| sq_ <| sq_ <| rl_ <| wl_ <| p_ H1 rfl rfl fun _ H2 => wl_ <| i_ H2 rfl (v := .int .i64 n) (dd_len rfl (H2.ev 6 rfl) Try.underlying23) fun _ H3 => wl_ <| p_ H3 rfl rfl fun _ H4 => wl_ <| i_ H4 rfl (v := .int .i64 m) (dd_len rfl (H4.ev 8 rfl) Try.underlying23) fun _ H5 => wl_ <| i_ H5 rfl (dd_cmp rfl (H5.ev 7 rfl) (H5.ev 9 rfl) (ne_t (by omega))) fun _ H6 => ln_ <| nx <| ct_ H6 rfl <| sq_ <| rl_ <| wl_ <| p_ H6 rfl rfl fun _ H7 => ln_ <| nx <| wp_ret <| tr <| ret_run H7.env0 (res_t Try.results30 (H7.get 4 rfl)) <| ?_
  clear HA0 H1 H2 H3 H4 H5 H6
  exact ⟨rfl, HS.below⟩
theorem putseq_00 (A A2 : Option Addr) (c c2 : Nat) (w : World) : Calls Try.prog 30 #[.slice A 0 c, .slice A2 0 c2] w fun x w' => x = .returned (.bool true) ∧ Below w.heap.size w w' := by
  have HS := St.nil w noF
  refine enter_en Try.func30 rfl Try.ntmps30 (Nat.le_of_ble_eq_true rfl) fun a0 (HA0 : En 26 [(0, .slice A 0 c), (1, .slice A2 0 c2)] a0) => ?_
  refine sq_ <| rl_ <| wl_ <| p_ HA0 rfl rfl fun _ H1 => ln_ <| nx <| sq_ <| sq_ <| rl_ <| wl_ <| p_ H1 rfl rfl fun _ H2 => wl_ <| i_ H2 rfl (v := .int .i64 0) (dd_len rfl (H2.ev 6 rfl) Try.underlying23) fun _ H3 => wl_ <| p_ H3 rfl rfl fun _ H4 => wl_ <| i_ H4 rfl (v := .int .i64 0) (dd_len rfl (H4.ev 8 rfl) Try.underlying23) fun _ H5 => wl_ <| i_ H5 rfl (dd_cmp rfl (H5.ev 7 rfl) (H5.ev 9 rfl) (ne_f (by decide))) fun _ H6 => ln_ <| nx <| cf_ H6 rfl <| wp_skip <| nx <| sq_ <| sq_ <| rl_ <| wl_ <| p_ H6 rfl rfl fun _ H7 => wl_ <| i_ H7 rfl (v := .int .i64 0) (dd_len rfl (H7.ev 11 rfl) Try.underlying23) fun _ H8 => ?_
  clear HA0 H1 H2 H3 H4 H5 H6
  refine wl_ <| p_ H8 rfl rfl fun _ H9 => ln_ <| nx <| wp_block <| wp_unr 1 <| unr_go <| sq_ <| rl_ <| wl_ <| i_ H9 rfl (dd_cmp rfl (H9.ev 13 rfl) (H9.ev 12 rfl) (lt_f (by decide))) fun _ H10 => ln_ <| nx <| sq_ <| cf_ H10 rfl <| wp_exit <| tx <| tx <| bx <| nx <| sq_ <| rl_ <| wl_ <| p_ H10 rfl rfl fun _ H11 => ln_ <| nx <| wp_ret <| ret_run H11.env0 (res_t Try.results30 (H11.get 4 rfl)) <| ?_
  clear H7 H8 H9 H10
  exact ⟨rfl, HS.below⟩
set_option maxHeartbeats 800000 in
theorem putseq_eq (b o n c b2 o2 c2 : Nat) (la lb : List Pt) (w : World) (ha : la.length = n) (hb : lb.length = n) (hn : n ≤ 1000000) (hwa : ∀ x ∈ la, x.2.length = 32 ∧ -9223372036854775808 ≤ x.1 ∧ x.1 < 9223372036854775808) (hwb : ∀ x ∈ lb, x.2.length = 32 ∧ -9223372036854775808 ≤ x.1 ∧ x.1 < 9223372036854775808) (HA : ∀ W, Below w.heap.size w W → ∀ (k : Nat) (x : Pt), la[k]? = some x → W.rangeAt b (o + k * 33) (pcell x)) (HB : ∀ W, Below w.heap.size w W → ∀ (k : Nat) (x : Pt), lb[k]? = some x → W.rangeAt b2 (o2 + k * 33) (pcell x)) : Calls Try.prog 30 #[.slice (some ⟨b, o, none⟩) n c, .slice (some ⟨b2, o2, none⟩) n c2] w fun x w' => x = .returned (.bool (decide (la = lb))) ∧ Below w.heap.size w w' := by
  have HS := St.nil w noF
  refine enter_en Try.func30 rfl Try.ntmps30 (Nat.le_of_ble_eq_true rfl) fun a0 (HA0 : En 26 [(0, .slice (some ⟨b, o, none⟩) n c), (1, .slice (some ⟨b2, o2, none⟩) n c2)] a0) => ?_
  refine sq_ <| rl_ <| wl_ <| p_ HA0 rfl rfl fun _ H1 => ln_ <| nx <| sq_ <| sq_ <| rl_ <| wl_ <| p_ H1 rfl rfl fun _ H2 => wl_ <| i_ H2 rfl (v := .int .i64 n) (dd_len rfl (H2.ev 6 rfl) Try.underlying23) fun _ H3 => wl_ <| p_ H3 rfl rfl fun _ H4 => wl_ <| i_ H4 rfl (v := .int .i64 n) (dd_len rfl (H4.ev 8 rfl) Try.underlying23) fun _ H5 => wl_ <| i_ H5 rfl (dd_cmp rfl (H5.ev 7 rfl) (H5.ev 9 rfl) (ne_f rfl)) fun _ H6 => ln_ <| nx <| cf_ H6 rfl <| wp_skip <| nx <| sq_ <| sq_ <| rl_ <| wl_ <| p_ H6 rfl rfl fun _ H7 => wl_ <| i_ H7 rfl (v := .int .i64 n) (dd_len rfl (H7.ev 11 rfl) Try.underlying23) fun _ H8 => ?_
  clear HA0 H1 H2 H3 H4 H5 H6
  refine wl_ <| p_ H8 rfl rfl fun a9 H9 => ln_ <| nx <| wp_block <| ?_
  clear H7 H8
  refine wp_loopG (ι := Nat) (fun i a9 w9 => (i ≤ n) ∧ (∀ j, j < i → la[j]? = lb[j]?) ∧ En 26 [(13, .int .i64 i), (12, .int .i64 n), (0, .slice (some ⟨b, o, none⟩) n c), (1, .slice (some ⟨b2, o2, none⟩) n c2)] a9 ∧ St w noF [] w9) (fun i => n - i) (0) ⟨(Nat.zero_le _), (fun j hj => absurd hj (Nat.not_lt_zero _)), H9.sel [1, 0, 12, 13] rfl, ss HS []⟩ ?_
  clear H9 HS
  rintro i aL10 wL10 ⟨hj, hok, HL10, HSL10⟩
  refine sq_ <| rl_ <| ?_
  by_cases hc12 : (i : Int) < n
  ·
   refine wl_ <| i_ HL10 rfl (dd_cmp rfl (HL10.ev 13 rfl) (HL10.ev 12 rfl) (lt_t hc12)) fun _ H13 => ln_ <| nx <| sq_ <| ct_ H13 rfl <| wp_skip <| nx <| sq_ <| wp_block <| sq_ <| rl_ <| ?_
   clear HL10
   obtain ⟨xi, hxi⟩ : ∃ x, la[i]? = some x := ⟨_, List.getElem?_eq_getElem (by rw [ha]; omega)⟩
   have hwxi := hwa xi (List.mem_of_getElem? hxi)
   obtain ⟨yi, hyi⟩ : ∃ x, lb[i]? = some x := ⟨_, List.getElem?_eq_getElem (by rw [hb]; omega)⟩
   have hwyi := hwb yi (List.mem_of_getElem? hyi)
   refine q_ H13 2 rfl fun _ H14 => ln_ <| nx <| sq_ <| ?_
   clear H13
   cases hb24 : decide (xi = yi)
   ·
    refine wi_ HSL10 [] rfl [] rfl fun HSh25 hx25 => hp_ H14 0 hx25 rfl rfl rfl fun _ H26 => hp_ H26 1 hx25 rfl rfl rfl fun _ H27 => ht_ H27 2 hx25 rfl rfl (fun _ _ _ => xSo 33 (o + i * 33) rfl (H27.ev 16 rfl) (H27.ev 17 rfl)) fun _ H28 => ht_ H28 3 hx25 rfl rfl (v := .agg ((pcell xi).toArray)) (fun _ _ HS9 => dd_atN rfl (H28.ev 18 rfl) (HA _ HS9.below i xi hxi) Try.underlying48 rfl (by rw [len_pcell hwxi.1]; kernel_rfl)) fun _ H29 => hp_ H29 4 hx25 rfl rfl rfl fun _ H30 => hp_ H30 5 hx25 rfl rfl rfl fun _ H31 => ht_ H31 6 hx25 rfl rfl (fun _ _ _ => xSo 33 (o2 + i * 33) rfl (H31.ev 20 rfl) (H31.ev 21 rfl)) fun _ H32 => ?_
    clear HSL10 H14 H26 H27 H28 H29 H30
    refine ht_ H32 7 hx25 rfl rfl (v := .agg ((pcell yi).toArray)) (fun _ _ HS9 => dd_atN rfl (H32.ev 22 rfl) (HB _ HS9.below i yi hyi) Try.underlying48 rfl (by rw [len_pcell hwyi.1]; kernel_rfl)) fun _ H33 => ht_ H33 8 hx25 rfl rfl (v := .bool true) (fun _ _ _ => dd_nea (b := false) rfl (H33.ev 19 rfl) (H33.ev 23 rfl) (by kernel_rfl) (fun w => by have h9 := eql_put xi yi hwxi.1 hwyi.1 w; rw [hb24] at h9; exact h9) rfl) fun _ H34 => ?_
    clear H31 H32 H33
    refine wpAnyH_done (by kernel_rfl) ?_ _
    clear hx25
    refine nx <| ct_ H34 rfl <| sq_ <| rl_ <| wl_ <| p_ H34 rfl rfl fun _ H35 => ln_ <| ?_
    clear H34
    have H36 := H35.sel [4] rfl
    refine nx <| wp_ret <| br_ <| tr <| tr <| br_ <| tr <| ret_run H36.env0 (res_t Try.results30 (H36.get 4 rfl)) <| ?_
    clear H35
    exact ⟨by rw [decide_eq_false (fun e => of_decide_eq_false hb24 (by have h7 := hxi; rw [e, hyi] at h7; injection h7 with h7; exact h7.symm))], HSh25.below⟩
   refine wi_ HSL10 [] rfl [] rfl fun HSh37 hx37 => hp_ H14 0 hx37 rfl rfl rfl fun _ H38 => hp_ H38 1 hx37 rfl rfl rfl fun _ H39 => ht_ H39 2 hx37 rfl rfl (fun _ _ _ => xSo 33 (o + i * 33) rfl (H39.ev 16 rfl) (H39.ev 17 rfl)) fun _ H40 => ht_ H40 3 hx37 rfl rfl (v := .agg ((pcell xi).toArray)) (fun _ _ HS9 => dd_atN rfl (H40.ev 18 rfl) (HA _ HS9.below i xi hxi) Try.underlying48 rfl (by rw [len_pcell hwxi.1]; kernel_rfl)) fun _ H41 => hp_ H41 4 hx37 rfl rfl rfl fun _ H42 => hp_ H42 5 hx37 rfl rfl rfl fun _ H43 => ht_ H43 6 hx37 rfl rfl (fun _ _ _ => xSo 33 (o2 + i * 33) rfl (H43.ev 20 rfl) (H43.ev 21 rfl)) fun _ H44 => ?_
   clear HSL10 H14 H38 H39 H40 H41 H42
   refine ht_ H44 7 hx37 rfl rfl (v := .agg ((pcell yi).toArray)) (fun _ _ HS9 => dd_atN rfl (H44.ev 22 rfl) (HB _ HS9.below i yi hyi) Try.underlying48 rfl (by rw [len_pcell hwyi.1]; kernel_rfl)) fun _ H45 => ht_ H45 8 hx37 rfl rfl (v := .bool false) (fun _ _ _ => dd_nea (b := true) rfl (H45.ev 19 rfl) (H45.ev 23 rfl) (by kernel_rfl) (fun w => by have h9 := eql_put xi yi hwxi.1 hwyi.1 w; rw [hb24] at h9; exact h9) rfl) fun _ H46 => ?_
   clear H43 H44 H45
   refine wpAnyH_done (by kernel_rfl) ?_ _
   clear hx37
   refine nx <| cf_ H46 rfl <| wp_skip <| bn <| nx <| rl_ <| wl_ <| i_ H46 rfl (v := .int .i64 (i + 1)) (dd_ari rfl (H46.ev 13 rfl) rfl rfl (i64_of (by first | omega | (have := bd_lo; omega)) (by omega))) fun _ H47 => wl_ <| p_ H47 rfl rfl fun _ H48 => ln_ <| ?_
   clear H46 H47
   refine nx ⟨i + 1, ⟨(by omega), (fun j hj => (Nat.lt_succ_iff_lt_or_eq.1 hj).elim (hok j) (fun h8 => by rw [h8, hxi, hyi, of_decide_eq_true hb24])), H48.sel [1, 0, 12, 13] rfl, ss HSh37 []⟩, (by omega)⟩
  refine wl_ <| i_ HL10 rfl (dd_cmp rfl (HL10.ev 13 rfl) (HL10.ev 12 rfl) (lt_f hc12)) fun _ H49 => ln_ <| nx <| sq_ <| cf_ H49 rfl <| wp_exit <| tx <| tx <| bx <| nx <| sq_ <| rl_ <| wl_ <| p_ H49 rfl rfl fun _ H50 => ln_ <| nx <| wp_ret <| ret_run H50.env0 (res_t Try.results30 (H50.get 4 rfl)) <| ?_
  clear HL10 H49
  exact ⟨by rw [decide_eq_true (puts_all ha hb (by omega) (fun j hj => hok j (by omega)))], HSL10.below⟩
theorem puts_cells {w W : World} {b o n c : Nat} {l : List Pt} (h : PutsAt w (.slice (some ⟨b, o, none⟩) n c) l) (hb : Below w.heap.size w W) : ∀ (k : Nat) (x : Pt), l[k]? = some x → W.rangeAt b (o + k * 33) (pcell x) := fun k x hx => by
  obtain ⟨A, c', e, _, _, h4⟩ := h
  injection e with e1 e2 e3
  obtain ⟨b', o', e4, h5, h6⟩ := h4 (by rintro rfl; cases hx)
  rw [← e1] at e4
  injection e4 with e4; injection e4 with e5 e6; subst e5 e6
  exact fun j v hv => (hb.cell (p := ⟨b, o + k * 33 + j, none⟩) h5).trans (h6 k x hx j v hv)
theorem putseq_any (la lb : List Pt) (A A2 : Option Addr) (n c m c2 : Nat) (w : World) (hu : PutsAt w (.slice A n c) la) (hv : PutsAt w (.slice A2 m c2) lb) (hn : n ≤ 1000000) : Calls Try.prog 30 #[.slice A n c, .slice A2 m c2] w fun x w' => x = .returned (.bool (decide (la = lb))) ∧ Below w.heap.size w w' := by
  obtain ⟨A', c', e, _, hwa, h4⟩ := id hu
  injection e with e1 e2 e3
  obtain ⟨B', d', e, _, hwb, h5⟩ := id hv
  injection e with f1 f2 f3
  by_cases h : n = m
  · subst h
    by_cases h0 : n = 0
    · subst h0
      rw [List.eq_nil_of_length_eq_zero e2.symm, List.eq_nil_of_length_eq_zero f2.symm, decide_eq_true rfl]
      exact putseq_00 A A2 c c2 w
    · obtain ⟨b, o, e4, _⟩ := h4 (by rintro rfl; exact h0 e2)
      obtain ⟨b2, o2, f4, _⟩ := h5 (by rintro rfl; exact h0 f2)
      rw [e4] at e1
      rw [f4] at f1
      subst e1 f1
      exact putseq_eq b o n c b2 o2 c2 la lb w e2.symm f2.symm hn hwa hwb (fun W hb => puts_cells hu hb) (fun W hb => puts_cells hv hb)
  · rw [decide_eq_false (fun e => h (by rw [e2, f2, e]))]
    exact putseq_ne A A2 n c m c2 w h
theorem same_no {p r : Pkt} {n m : Nat} (hn : p.l.length = n) (hm : r.l.length = m) (h : decide ((p.k : Int) = r.k ∧ (wd p.e : Int) = wd r.e ∧ (wd p.s : Int) = wd r.s ∧ (n : Int) = m) = false) : decide (p = r) = false := decide_eq_false fun e => of_decide_eq_false h (by subst e; exact ⟨rfl, rfl, rfl, by omega⟩)
theorem same_l {p r : Pkt} {n m : Nat} {b : Bool} (h : decide ((p.k : Int) = r.k ∧ (wd p.e : Int) = wd r.e ∧ (wd p.s : Int) = wd r.s ∧ (n : Int) = m) = true) (h2 : decide (p.l = r.l) = b) : decide (p = r) = b := by
  obtain ⟨h3, h4, h5, _⟩ := of_decide_eq_true h
  rw [← h2]
  obtain ⟨k, e, s, l⟩ := p
  obtain ⟨k', e', s', l'⟩ := r
  have h6 : k = k' := h3
  have h7 : e = e' := wd_inj h4
  have h8 : s = s' := wd_inj h5
  clear h h3 h4 h5 h2
  subst h6 h7 h8
  by_cases hl : l = l' <;> simp [hl]
set_option maxHeartbeats 800000 in
theorem same_any (p r : Pkt) (A A2 : Option Addr) (n c m c2 : Nat) (w : World) (hp : PutsAt w (.slice A n c) p.l) (hr : PutsAt w (.slice A2 m c2) r.l) (hn : n ≤ 1000000) : Calls Try.prog 14 #[.agg #[.int .i64 p.k, .int .u32 (wd p.e), .int .u32 (wd p.s), .slice A n c], .agg #[.int .i64 r.k, .int .u32 (wd r.e), .int .u32 (wd r.s), .slice A2 m c2]] w fun x w' => x = .returned (.bool (decide (p = r))) ∧ Below w.heap.size w w' := by
  have HS := St.nil w noF
  have HP : ∀ W, Below w.heap.size w W → PutsAt W (.slice A n c) p.l := fun W hb => hp.below hb (Nat.le_refl _)
  have HR : ∀ W, Below w.heap.size w W → PutsAt W (.slice A2 m c2) r.l := fun W hb => hr.below hb (Nat.le_refl _)
  have hpn : p.l.length = n := by obtain ⟨_, _, e, _⟩ := hp; injection e with _ e _; exact e.symm
  have hrm : r.l.length = m := by obtain ⟨_, _, e, _⟩ := hr; injection e with _ e _; exact e.symm
  refine enter_en Try.func14 rfl Try.ntmps14 (Nat.le_of_ble_eq_true rfl) fun a0 (HA0 : En 17 [(0, .agg #[.int .i64 p.k, .int .u32 (wd p.e), .int .u32 (wd p.s), .slice A n c]), (1, .agg #[.int .i64 r.k, .int .u32 (wd r.e), .int .u32 (wd r.s), .slice A2 m c2])] a0) => ?_
  refine sq_ <| rl_ <| wl_ <| n_ HA0 rfl (fun _ h => dd_box HS rfl (HA0.ev 0 rfl) (cs := #[.int .i64 p.k, .int .u32 (wd p.e), .int .u32 (wd p.s), .slice A n c]) rfl h) fun _ _ HS1 _ H1 => wl_ <| n_ H1 rfl (fun _ h => dd_box HS1 rfl (H1.ev 1 rfl) (cs := #[.int .i64 r.k, .int .u32 (wd r.e), .int .u32 (wd r.s), .slice A2 m c2]) rfl h) fun _ W2 HS2 _ H2 => wl_ <| p_ H2 rfl rfl fun _ H3 => ln_ <| nx <| sq_ <| ?_
  clear HS HA0 HS1 H1 H2
  cases hb11 : decide ((p.k : Int) = r.k ∧ (wd p.e : Int) = wd r.e ∧ (wd p.s : Int) = wd r.s ∧ (n : Int) = m)
  ·
   refine wi_ HS2 [0, 1] rfl [0, 1] rfl fun HSh12 hx12 => ht_ H3 0 hx12 rfl rfl (v := .agg #[.int .i64 p.k, .int .u32 (wd p.e), .int .u32 (wd p.s), .slice A n c]) (fun _ _ HS9 => dd_load HS9 0 0 rfl rfl (H3.ev 2 rfl) (slab_whole _) Try.underlying25 rfl (by kernel_rfl)) fun _ H13 => ht_ H13 2 hx12 rfl rfl (v := .agg #[.int .i64 r.k, .int .u32 (wd r.e), .int .u32 (wd r.s), .slice A2 m c2]) (fun _ _ HS9 => dd_load HS9 1 0 rfl rfl (H13.ev 3 rfl) (slab_whole _) Try.underlying25 rfl (by kernel_rfl)) fun _ H14 => h1_ 1 rfl <| c_ H14 rfl HSh12 (dcs Try.func19 rfl (args1 (H14.ev 5 rfl)) (headof_any p.k p.e p.s A n c W2.drew) (.agg #[.int .i64 p.k, .int .u32 (wd p.e), .int .u32 (wd p.s), .int .i64 n])) fun W15 HS15 _ H15 => sx_ (sxi HS15 [0, 1] rfl) fun hx16 => h1_ 3 rfl <| c_ H15 rfl HS15 (dcs Try.func19 rfl (args1 (H15.ev 7 rfl)) (headof_any r.k r.e r.s A2 m c2 W15) (.agg #[.int .i64 r.k, .int .u32 (wd r.e), .int .u32 (wd r.s), .int .i64 m])) fun _ HS17 _ H17 => sx_ (sxi HS17 [0, 1] rfl) fun hx18 => ht_ H17 4 hx18 rfl rfl (v := .bool false) (fun _ _ _ => dd_eqa (b := false) rfl (H17.ev 6 rfl) (H17.ev 8 rfl) (by kernel_rfl) (fun w => by have h9 := eql_head (p.k) (wd p.e) (wd p.s) (n) (r.k) (wd r.e) (wd r.s) (m) w; rw [hb11] at h9; exact h9)) fun _ H19 => ?_
   clear HS2 H3 H13 H14 HSh12 hx12 H15 HS15 hx16
   refine hp_ H19 5 hx18 rfl rfl rfl fun _ H20 => hk_ H20 6 hx18 rfl (wg_ H20 rfl rfl rfl rfl) rfl fun _ H21 => hk_ H21 7 hx18 rfl (wg_ H21 rfl rfl rfl rfl) rfl fun _ H22 => hk_ H22 8 hx18 rfl (wg_ H22 rfl rfl rfl rfl) rfl fun _ H23 => hk_ H23 9 hx18 rfl (wg_ H23 rfl rfl rfl rfl) rfl fun _ H24 => hk_ H24 10 hx18 rfl (wg_ H24 rfl rfl rfl rfl) rfl fun _ H25 => hp_ H25 11 hx18 rfl rfl rfl fun _ H26 => hp_ H26 12 hx18 rfl rfl rfl fun _ H27 => ?_
   clear H17 H19 H20 H21 H22 H23 H24 H25
   clear H26
   refine wpAnyH_done (by kernel_rfl) ?_ _
   clear hx18
   refine nx <| wp_ret <| ret_run H27.env0 (res_t Try.results14 (H27.get 4 rfl)) <| ?_
   exact ⟨by rw [same_no hpn hrm hb11], HS17.below⟩
  cases hb42 : decide (p.l = r.l)
  ·
   refine wi_ HS2 [0, 1] rfl [0, 1] rfl fun HSh43 hx43 => ht_ H3 0 hx43 rfl rfl (v := .agg #[.int .i64 p.k, .int .u32 (wd p.e), .int .u32 (wd p.s), .slice A n c]) (fun _ _ HS9 => dd_load HS9 0 0 rfl rfl (H3.ev 2 rfl) (slab_whole _) Try.underlying25 rfl (by kernel_rfl)) fun _ H44 => ht_ H44 2 hx43 rfl rfl (v := .agg #[.int .i64 r.k, .int .u32 (wd r.e), .int .u32 (wd r.s), .slice A2 m c2]) (fun _ _ HS9 => dd_load HS9 1 0 rfl rfl (H44.ev 3 rfl) (slab_whole _) Try.underlying25 rfl (by kernel_rfl)) fun _ H45 => h1_ 1 rfl <| c_ H45 rfl HSh43 (dcs Try.func19 rfl (args1 (H45.ev 5 rfl)) (headof_any p.k p.e p.s A n c W2.drew) (.agg #[.int .i64 p.k, .int .u32 (wd p.e), .int .u32 (wd p.s), .int .i64 n])) fun W46 HS46 _ H46 => sx_ (sxi HS46 [0, 1] rfl) fun hx47 => h1_ 3 rfl <| c_ H46 rfl HS46 (dcs Try.func19 rfl (args1 (H46.ev 7 rfl)) (headof_any r.k r.e r.s A2 m c2 W46) (.agg #[.int .i64 r.k, .int .u32 (wd r.e), .int .u32 (wd r.s), .int .i64 m])) fun W48 HS48 _ H48 => sx_ (sxi HS48 [0, 1] rfl) fun hx49 => ht_ H48 4 hx49 rfl rfl (v := .bool true) (fun _ _ _ => dd_eqa (b := true) rfl (H48.ev 6 rfl) (H48.ev 8 rfl) (by kernel_rfl) (fun w => by have h9 := eql_head (p.k) (wd p.e) (wd p.s) (n) (r.k) (wd r.e) (wd r.s) (m) w; rw [hb11] at h9; exact h9)) fun _ H50 => ?_
   clear HS2 H3 H44 H45 HSh43 hx43 H46 HS46 hx47
   refine hp_ H50 5 hx49 rfl rfl rfl fun _ H51 => htg H51 6 hx49 rfl (wg_ H51 rfl rfl rfl rfl) rfl (fun _ _ _ => xf 3 3 rfl (H51.ev 2 rfl)) fun _ H52 => htg H52 7 hx49 rfl (wg_ H52 rfl rfl rfl rfl) rfl (fun _ _ HS9 => dd_get HS9 0 3 rfl rfl (H52.ev 11 rfl) rfl Try.underlying23 rfl) fun _ H53 => htg H53 8 hx49 rfl (wg_ H53 rfl rfl rfl rfl) rfl (fun _ _ _ => xf 3 3 rfl (H53.ev 3 rfl)) fun _ H54 => htg H54 9 hx49 rfl (wg_ H54 rfl rfl rfl rfl) rfl (fun _ _ HS9 => dd_get HS9 1 3 rfl rfl (H54.ev 13 rfl) rfl Try.underlying23 rfl) fun _ H55 => h1_ 10 rfl <| cg H55 (wg_ H55 rfl rfl rfl rfl) rfl HS48 (v := .bool false) (dc_ Try.func30 rfl (args2 (H55.ev 12 rfl) (H55.ev 14 rfl)) (putseq_any p.l r.l _ _ _ _ _ _ W48 (HP _ HS48.below) (HR _ HS48.below) hn) (fun _ w9 h9 => ⟨_, h9.1, by rw [hb42], h9.2⟩)) fun _ HS56 _ H56 => sx_ (sxi HS56 [0, 1] rfl) fun hx57 => hp_ H56 11 hx57 rfl rfl rfl fun _ H58 => ?_
   clear H48 H50 H51 H52 H53 H54 H55 HS48 hx49
   refine hp_ H58 12 hx57 rfl rfl rfl fun _ H59 => ?_
   clear H56 H58
   refine wpAnyH_done (by kernel_rfl) ?_ _
   clear hx57
   refine nx <| wp_ret <| ret_run H59.env0 (res_t Try.results14 (H59.get 4 rfl)) <| ?_
   exact ⟨by rw [same_l hb11 hb42], HS56.below⟩
  refine wi_ HS2 [0, 1] rfl [0, 1] rfl fun HSh60 hx60 => ht_ H3 0 hx60 rfl rfl (v := .agg #[.int .i64 p.k, .int .u32 (wd p.e), .int .u32 (wd p.s), .slice A n c]) (fun _ _ HS9 => dd_load HS9 0 0 rfl rfl (H3.ev 2 rfl) (slab_whole _) Try.underlying25 rfl (by kernel_rfl)) fun _ H61 => ht_ H61 2 hx60 rfl rfl (v := .agg #[.int .i64 r.k, .int .u32 (wd r.e), .int .u32 (wd r.s), .slice A2 m c2]) (fun _ _ HS9 => dd_load HS9 1 0 rfl rfl (H61.ev 3 rfl) (slab_whole _) Try.underlying25 rfl (by kernel_rfl)) fun _ H62 => h1_ 1 rfl <| c_ H62 rfl HSh60 (dcs Try.func19 rfl (args1 (H62.ev 5 rfl)) (headof_any p.k p.e p.s A n c W2.drew) (.agg #[.int .i64 p.k, .int .u32 (wd p.e), .int .u32 (wd p.s), .int .i64 n])) fun W63 HS63 _ H63 => sx_ (sxi HS63 [0, 1] rfl) fun hx64 => h1_ 3 rfl <| c_ H63 rfl HS63 (dcs Try.func19 rfl (args1 (H63.ev 7 rfl)) (headof_any r.k r.e r.s A2 m c2 W63) (.agg #[.int .i64 r.k, .int .u32 (wd r.e), .int .u32 (wd r.s), .int .i64 m])) fun W65 HS65 _ H65 => sx_ (sxi HS65 [0, 1] rfl) fun hx66 => ht_ H65 4 hx66 rfl rfl (v := .bool true) (fun _ _ _ => dd_eqa (b := true) rfl (H65.ev 6 rfl) (H65.ev 8 rfl) (by kernel_rfl) (fun w => by have h9 := eql_head (p.k) (wd p.e) (wd p.s) (n) (r.k) (wd r.e) (wd r.s) (m) w; rw [hb11] at h9; exact h9)) fun _ H67 => ?_
  clear HS2 H3 H61 H62 HSh60 hx60 H63 HS63 hx64
  refine hp_ H67 5 hx66 rfl rfl rfl fun _ H68 => htg H68 6 hx66 rfl (wg_ H68 rfl rfl rfl rfl) rfl (fun _ _ _ => xf 3 3 rfl (H68.ev 2 rfl)) fun _ H69 => htg H69 7 hx66 rfl (wg_ H69 rfl rfl rfl rfl) rfl (fun _ _ HS9 => dd_get HS9 0 3 rfl rfl (H69.ev 11 rfl) rfl Try.underlying23 rfl) fun _ H70 => htg H70 8 hx66 rfl (wg_ H70 rfl rfl rfl rfl) rfl (fun _ _ _ => xf 3 3 rfl (H70.ev 3 rfl)) fun _ H71 => htg H71 9 hx66 rfl (wg_ H71 rfl rfl rfl rfl) rfl (fun _ _ HS9 => dd_get HS9 1 3 rfl rfl (H71.ev 13 rfl) rfl Try.underlying23 rfl) fun _ H72 => h1_ 10 rfl <| cg H72 (wg_ H72 rfl rfl rfl rfl) rfl HS65 (v := .bool true) (dc_ Try.func30 rfl (args2 (H72.ev 12 rfl) (H72.ev 14 rfl)) (putseq_any p.l r.l _ _ _ _ _ _ W65 (HP _ HS65.below) (HR _ HS65.below) hn) (fun _ w9 h9 => ⟨_, h9.1, by rw [hb42], h9.2⟩)) fun _ HS73 _ H73 => sx_ (sxi HS73 [0, 1] rfl) fun hx74 => hp_ H73 11 hx74 rfl rfl rfl fun _ H75 => ?_
  clear H65 H67 H68 H69 H70 H71 H72 HS65 hx66
  refine hp_ H75 12 hx74 rfl rfl rfl fun _ H76 => ?_
  clear H73 H75
  refine wpAnyH_done (by kernel_rfl) ?_ _
  clear hx74
  refine nx <| wp_ret <| ret_run H76.env0 (res_t Try.results14 (H76.get 4 rfl)) <| ?_
  exact ⟨by rw [same_l hb11 hb42], HS73.below⟩
end Go.Proofs.Ytlpfdghciegnnaa

/- Packets and their bytes: there and back, one byte turned, one fewer, one more. -/
set_option maxRecDepth 4000
namespace Go.Proofs.Ytlpfdghciegnnaa
open Go Go.RowKit
theorem bd_byteP {z : Int} (h0 : 0 ≤ z) (h1 : z < 256) : bd (byteP z) = z := (bd_of z h0 h1).symm
theorem good_at {l : List Int} (h : goodB l = true) : l.length ≤ 5 ∧ ∀ x ∈ l, 0 ≤ x ∧ x < 12 := by
  unfold goodB at h
  rw [Bool.and_eq_true, Bool.and_eq_true] at h
  refine ⟨of_decide_eq_true h.2.2, fun x hx => ?_⟩
  obtain ⟨k, hk, e⟩ := List.getElem_of_mem hx
  have h1 := of_decide_eq_true h.1 k hk
  have e2 : l.getD k 0 = x := by rw [List.getD_eq_getElem?_getD, List.getElem?_eq_getElem hk, e]; rfl
  rw [← e2]
  exact ⟨h1.1, h1.2.1⟩
theorem mayP_of {p : Pkt} (h : mayP p = true) : (1 ≤ p.k ∧ p.k ≤ 4) ∧ p.l.length ≤ 5 ∧ ∀ x ∈ p.l, 0 ≤ x.1 ∧ x.1 < 12 := by
  have h5 := mayP_len h
  unfold mayP at h
  split at h
  · have hg := good_at h
    exact ⟨by omega, h5, fun x hx => hg.2 x.1 (List.mem_map_of_mem hx)⟩
  · split at h
    · have := of_decide_eq_true h
      exact ⟨by omega, h5, fun x hx => by rw [List.eq_nil_of_length_eq_zero this] at hx; cases hx⟩
    · cases h
theorem len_putB {x : Pt} (h : x.2.length = 32) : (putB x).length = 33 := by unfold putB; rw [List.length_cons, h]
theorem pk_puts {l : List Pt} (h : ∀ x ∈ l, x.2.length = 32 ∧ 0 ≤ x.1 ∧ x.1 < 256) : (List.range l.length).map (chunkP (l.map putB).flatten) = l := by
  apply List.ext_getElem?
  intro k
  by_cases hk : k < l.length
  · obtain ⟨x, hx⟩ : ∃ x, l[k]? = some x := ⟨_, List.getElem?_eq_getElem hk⟩
    have h1 := h x (List.mem_of_getElem? hx)
    have key : ∀ j, j < 33 → ((l.map putB).flatten)[k * 33 + j]? = (putB x)[j]? := fun j hj => flat_get (sz := 33) (l.map putB) (fun c hc => by
      obtain ⟨y, hy, rfl⟩ := List.mem_map.1 hc
      exact len_putB (h y hy).1) k j (putB x) (by rw [List.getElem?_map, hx]; rfl) hj
    rw [List.getElem?_map, List.getElem?_range hk, hx]
    show some (chunkP _ k) = some x
    congr 1
    have e1 : ((l.map putB).flatten).getD (33 * k) 0#8 = byteP x.1 := by
      rw [List.getD_eq_getElem?_getD, show 33 * k = k * 33 + 0 by omega, key 0 (by decide)]
      rfl
    have e2 : (((l.map putB).flatten).drop (33 * k + 1)).take 32 = x.2 := by
      apply List.ext_getElem?
      intro j
      by_cases hj : j < 32
      · rw [List.getElem?_take_of_lt hj, List.getElem?_drop, show 33 * k + 1 + j = k * 33 + (j + 1) by omega, key (j + 1) (by omega)]
        rfl
      · rw [List.getElem?_eq_none (by rw [List.length_take]; omega), List.getElem?_eq_none (by omega)]
    unfold chunkP
    rw [e1, e2, bd_byteP h1.2.1 h1.2.2]
  · rw [List.getElem?_eq_none (by rw [List.length_map, List.length_range]; omega), List.getElem?_eq_none (by omega)]
def Pw (p : Pkt) : Prop := ∀ x ∈ p.l, x.2.length = 32
theorem hd_split (p : Pkt) : encP p = byteP p.k :: (four p.e ++ (four p.s ++ (byteP p.l.length :: ((p.l.map putB).flatten ++ two (crcOf (bodyP p)))))) := by
  unfold encP
  generalize two (crcOf (bodyP p)) = t
  unfold bodyP hdB
  simp
theorem len_four (v : BitVec 32) : (four v).length = 4 := rfl
theorem enc_at0 (p : Pkt) : (encP p).getD 0 0#8 = byteP p.k := by rw [hd_split]; rfl
theorem enc_at9 (p : Pkt) : (encP p).getD 9 0#8 = byteP p.l.length := by rw [hd_split]; rfl
theorem enc_e (p : Pkt) : lv 1 (encP p) = p.e := by
  have hl : 10 ≤ (encP p).length := by rw [hd_split]; simp [len_four]; omega
  rw [lv_num _ _ (by omega), hd_split]
  show num ((four p.e ++ _).take 4) = _
  rw [List.take_left' (len_four _), four_le, num_le4]
theorem enc_s (p : Pkt) : lv 5 (encP p) = p.s := by
  have hl : 10 ≤ (encP p).length := by rw [hd_split]; simp [len_four]; omega
  rw [lv_num _ _ (by omega), hd_split]
  show num (((four p.e ++ _).drop 4).take 4) = _
  rw [List.drop_left' (len_four _), List.take_left' (len_four _), four_le, num_le4]
theorem enc_cnt {p : Pkt} (h : mayP p = true) : cntP (encP p) = p.l.length := by
  have h5 := mayP_len h
  unfold cntP
  rw [enc_at9]
  have h1 := bd_byteP (z := (p.l.length : Int)) (by omega) (by omega)
  unfold bd at h1
  omega
theorem enc_l {p : Pkt} (h : mayP p = true) (hw : Pw p) : lP (encP p) = p.l := by
  unfold lP
  rw [enc_cnt h]
  have e : ((encP p).drop 10).take (33 * p.l.length) = (p.l.map putB).flatten := by
    rw [hd_split]
    show ((((four p.e ++ (four p.s ++ (byteP p.l.length :: ((p.l.map putB).flatten ++ two (crcOf (bodyP p))))))).drop 4).drop 5).take _ = _
    rw [List.drop_left' (len_four _)]
    show (((four p.s ++ (byteP p.l.length :: ((p.l.map putB).flatten ++ two (crcOf (bodyP p))))).drop 4).drop 1).take _ = _
    rw [List.drop_left' (len_four _), List.drop_one, List.tail_cons, List.take_left' (length_putsB hw)]
  rw [e]
  have hm := mayP_of h
  exact pk_puts fun x hx => ⟨hw x hx, by have := hm.2.2 x hx; omega, by have := hm.2.2 x hx; omega⟩
theorem pk_back {p : Pkt} (h : mayP p = true) (hw : Pw p) : pktP (encP p) = p := by
  have hk := (mayP_of h).1
  unfold pktP
  rw [enc_at0, enc_e, enc_s, enc_l h hw, bd_byteP (by omega) (by omega)]
theorem pk_okE {p : Pkt} (h : mayP p = true) (hw : Pw p) : pkOk (encP p) = true := by
  have hl := length_encP hw
  refine pk_yes rfl (by omega) (by rw [enc_cnt h]; exact hl) (by rw [pk_back h hw]; exact h) (by rw [pk_back h hw]; exact decide_eq_true rfl)
end Go.Proofs.Ytlpfdghciegnnaa

/- The statements' wakes of packets. -/
set_option maxRecDepth 4000
namespace Go.Proofs.Ytlpfdghciegnnaa
open Go Go.RowKit
theorem pktenc_S (p : Pkt) (v : Value) (q : List (BitVec 8)) (N : Nat) (w : World) (hv : PutsAt w v p.l) (hc : mayP p = true) (hq : encP p = q) (hN : q.length = N) : Calls Try.prog 8 #[.agg (pktA p.k p.e p.s v)] w fun x w' => ∃ g c cb, x = .returned (.tuple #[.slice (some ⟨g, 0, none⟩) N c, .int .i64 0]) ∧ w.heap.size ≤ g ∧ Row w' g 5 cb ∧ OwnC cb c N 1 (bytesV q) ∧ Below w.heap.size w w' := by
  subst hq hN
  refine (pktenc_good p v w hv hc).mono ?_
  rintro x w' ⟨v', rfl, ho, hb⟩
  obtain ⟨g, c, cb, rfl, h1, h2, h3⟩ := ownc_pos ho (enc_pos p)
  exact ⟨g, c, cb, rfl, h1, h2, h3, hb⟩
theorem pkdec_encS (p : Pkt) (A : Option Addr) (n c m : Nat) (q : List (BitVec 8)) (w : World) (hs : Slice w (.slice A n c) q) (hq : encP p = q) (h : mayP p = true) (hw : Pw p) (hm : p.l.length = m) (h0 : 0 < m) : Calls Try.prog 10 #[.slice A n c] w fun x w' => ∃ g c' cb, x = .returned (.tuple #[.agg #[.int .i64 p.k, .int .u32 (wd p.e), .int .u32 (wd p.s), .slice (some ⟨g, 0, none⟩) m c'], .int .i64 0]) ∧ w.heap.size ≤ g ∧ Row w' g 48 cb ∧ OwnC cb c' m 33 (p.l.map pcell).flatten ∧ Below w.heap.size w w' := by
  subst hq
  have hk := (mayP_of h).1
  have h9 := pkdec_goodS A n c (encP p) w hs (pk_okE h hw) m p.l ((enc_cnt h).trans hm) (enc_l h hw) h0
  rw [enc_at0, enc_e, enc_s, bd_byteP (by omega) (by omega)] at h9
  exact h9
theorem puts_nil0 {w : World} {l : List Pt} (h : l.length = 0) : PutsAt w (.slice none 0 0) l := by
  rw [List.eq_nil_of_length_eq_zero h]
  exact puts_nil w
theorem own_at {w : World} {g c n : Nat} {t : TypeId} {cb : Array Value} {q : List (BitVec 8)} (hr : Row w g t cb) (O : OwnC cb c n 1 (bytesV q)) (hq : q.length = n) (j : Nat) (hj : j < n) : w.cell? ⟨g, j, none⟩ = some (.int .u8 (bd (q.getD j 0#8))) := by
  have h := (cat_own hr O).at_ j (.int .u8 (bd (q.getD j 0#8))) (by
    unfold bytesV
    rw [List.getElem?_map, List.getElem?_eq_getElem (by omega), List.getD_eq_getElem?_getD, List.getElem?_eq_getElem (by omega)]
    rfl)
  rw [Nat.zero_add] at h
  exact h
def wkp : Pkt := ⟨1, 258#32, 3#32, [(4, blk 7#8)]⟩
def wkA : Pkt := ⟨3, 0#32, 0#32, []⟩
def wkS : Pkt := ⟨2, 0#32, 0#32, []⟩
def wkZ : Pkt := ⟨0, 0#32, 0#32, []⟩
theorem wk_may : mayP wkp = true := by decide
theorem wkA_may : mayP wkA = true := by decide
theorem wkS_may : mayP wkS = false := by decide
theorem wk_ne : decide (wkp = wkZ) = false := decide_eq_false fun e => absurd (congrArg Pkt.k e) (by decide)
theorem wk_w : Pw wkp := fun x hx => by
  obtain rfl := List.mem_singleton.1 hx
  exact length_blk 7#8
theorem wkA_w : Pw wkA := fun x hx => by cases hx
theorem wk_ok : ∀ x ∈ wkp.l, x.2.length = 32 ∧ -9223372036854775808 ≤ x.1 ∧ x.1 < 9223372036854775808 := fun x hx => by
  obtain rfl := List.mem_singleton.1 hx
  exact ⟨length_blk 7#8, by decide, by decide⟩
theorem wk_len : (encP wkp).length = 45 := length_encP wk_w
theorem wkA_len : (encP wkA).length = 12 := length_encP wkA_w
theorem wk_at1 : some (Value.int .u8 (bd ((encP wkp).getD 1 0#8))) = some (.int .u8 2) := by rw [hd_split]; rfl
theorem wk_at2 : some (Value.int .u8 (bd ((encP wkp).getD 2 0#8))) = some (.int .u8 1) := by rw [hd_split]; rfl
theorem wk_at5 : some (Value.int .u8 (bd ((encP wkp).getD 5 0#8))) = some (.int .u8 3) := by rw [hd_split]; rfl
theorem wk_at9 : some (Value.int .u8 (bd ((encP wkp).getD 9 0#8))) = some (.int .u8 1) := by rw [hd_split]; rfl
theorem wk_at10 : some (Value.int .u8 (bd ((encP wkp).getD 10 0#8))) = some (.int .u8 4) := by rw [hd_split]; rfl
theorem wk_at11 : some (Value.int .u8 (bd ((encP wkp).getD 11 0#8))) = some (.int .u8 7) := by rw [hd_split]; rfl
attribute [local irreducible] blk encP
theorem fill7 (w : World) : Calls Try.prog 17 #[.int .u8 7] w fun e w' => e = .returned (.agg (bs (blk 7#8))) ∧ Below w.heap.size w w' := by
  have h := fill_any 7#8 w
  rw [show bd 7#8 = 7 by decide] at h
  exact h
set_option maxHeartbeats 400000 in
theorem pkwakes_any (w : World) : Calls Try.prog 6 #[] w fun x w' => x = .returned (.bool true) ∧ Below w.heap.size w w' := by
  have HS := St.nil w noF
  refine enter_en Try.func6 rfl Try.ntmps6 (Nat.le_of_ble_eq_true rfl) fun a0 (HA0 : En 105 [] a0) => ?_
  refine sq_ <| rl_ <| wl_ <| p_ HA0 rfl rfl fun _ H1 => ln_ <| nx <| sq_ <| rl_ <| wl_ <| c_ H1 rfl HS (v := .agg (bs (blk 7#8))) (dc_ Try.func17 rfl (args1 rfl) (fill7 w) (fun _ w9 h9 => ⟨_, h9.1, rfl, h9.2⟩)) fun _ HS2 _ H2 => wl_ <| i_ H2 rfl (v := .agg (catA [[.int .i64 4], bytesV (blk 7#8)])) (dd_bld rfl (ps := [(0, .int .i64 4), (1, .agg (bs (blk 7#8)))]) (pr1 rfl (pr1 (H2.ev 10 rfl) (pr0))) (Lz := [[.int .i64 0], bytesV (zer 32)]) (by kernel_rfl) (lens_cons rfl (lens_cons (len_bv (length_zer 32)) (lens_nil))) (fit_cons (i := 0) rfl rfl (fit_cons (i := 1) rfl ((size_bs _).trans (length_blk 7#8)) (fit_nil))) (cs := catA [[.int .i64 4], bytesV (blk 7#8)]) rfl) fun _ H3 => wl_ <| n_ H3 rfl (fun _ h => dd_lit1 HS2 (z := .agg (catA [[.int .i64 0], bytesV (zer 32)])) (sz := 33) rfl (H3.ev 11 rfl) Try.underlying23 (by kernel_rfl) (cat_size (lens_cons rfl (lens_cons (len_bv (length_blk 7#8)) (lens_nil)))) rfl rfl h) fun g12 _ HS4 _ H4 => wl_ <| i_ H4 rfl (v := .agg #[.int .i64 1, .int .u32 258, .int .u32 3, .slice (some ⟨g12, 0, none⟩) 1 1]) (dd_bld rfl (ps := [(0, .int .i64 1), (1, .int .u32 258), (2, .int .u32 3), (3, .slice (some ⟨g12, 0, none⟩) 1 1)]) (pr1 rfl (pr1 rfl (pr1 rfl (pr1 (H4.ev 12 rfl) (pr0))))) (Lz := [[.int .i64 0], [.int .u32 0], [.int .u32 0], [.slice none 0 0]]) (by kernel_rfl) (lens_cons rfl (lens_cons rfl (lens_cons rfl (lens_cons rfl (lens_nil))))) (fit_cons (i := 0) rfl rfl (fit_cons (i := 1) rfl rfl (fit_cons (i := 2) rfl rfl (fit_cons (i := 3) rfl rfl (fit_nil))))) (cs := #[.int .i64 1, .int .u32 258, .int .u32 3, .slice (some ⟨g12, 0, none⟩) 1 1]) rfl) fun _ H5 => wl_ <| n_ H5 rfl (fun _ h => dd_new HS4 #[.int .i64 0, .int .u32 0, .int .u32 0, .slice none 0 0] rfl (z := .agg #[.int .i64 0, .int .u32 0, .int .u32 0, .slice none 0 0]) (by kernel_rfl) rfl h) fun g1 _ HS6 _ H6 => wl_ <| t_ rfl (fun _ h => dd_setrow HS6 1 rfl rfl (H6.ev 1 rfl) (H6.ev 13 rfl) (by kernel_rfl) (rfl : #[.int .i64 1, .int .u32 258, .int .u32 3, .slice (some ⟨g12, 0, none⟩) 1 1].size = 4) (rfl : #[.int .i64 0, .int .u32 0, .int .u32 0, .slice none 0 0].size = 4) (one_l (ao_cons rfl (ao_cons rfl (ao_cons rfl (ao_cons rfl ao_nil))))) h) fun W7 HS7 => ln_ <| nx <| sq_ <| rl_ <| wl_ <| i_ H6 rfl (v := .agg #[.int .i64 1, .int .u32 258, .int .u32 3, .slice (some ⟨g12, 0, none⟩) 1 1]) (dd_load HS7 1 0 rfl rfl (H6.ev 1 rfl) (slab_whole _) Try.underlying25 rfl (by kernel_rfl)) fun _ H8 => ?_
  clear HA0 H1 HS H2 HS2 H3 H4 HS4 H5 HS6
  clear H6
  refine wl_ <| d_ H8 rfl (R := fun v w9 => ∃ gc10 cc10 cbc10, v = .tuple #[.slice (some ⟨gc10, 0, none⟩) 45 cc10, .int .i64 0] ∧ (W7.heap.size ≤ gc10) ∧ (Row w9 gc10 5 cbc10) ∧ (OwnC cbc10 cc10 45 1 (bytesV (encP wkp))) ∧ Below W7.heap.size W7 w9) (dc_ Try.func8 rfl (args1 (H8.ev 15 rfl)) (pktenc_S wkp (.slice (some ⟨g12, 0, none⟩) 1 1) _ 45 W7 (puts_row (HS7.row 0 rfl) (Nat.le_refl 1) wk_ok) wk_may rfl wk_len) (fun _ w9 ⟨g9, c9, cb9, he, h1, h2, h3, hb⟩ => ⟨_, he, g9, c9, cb9, rfl, h1, h2, h3, hb⟩)) ?_
  rintro _ W9 ⟨gc10, cc10, cbc10, rfl, hg10, hr10, Oc10, hb9⟩ a9 H9
  have HS9 := HS7.same hb9
  clear H8
  have HS9j : St w noF [⟨g12, 48, catA [[.int .i64 4], bytesV (blk 7#8)]⟩, ⟨g1, 25, #[.int .i64 1, .int .u32 258, .int .u32 3, .slice (some ⟨g12, 0, none⟩) 1 1]⟩, ⟨gc10, 5, cbc10⟩] W9 := HS7.joins hb9 hr10 hg10
  clear HS9 hr10 hg10
  clear HS7 hb9
  refine wl_ <| p_ H9 rfl rfl fun _ H11 => wl_ <| i_ H11 rfl (v := .slice (some ⟨gc10, 0, none⟩) 45 cc10) (dd_ext rfl (H11.ev 14 rfl) rfl) fun _ H12 => wl_ <| i_ H12 rfl (v := .int .i64 0) (dd_ext rfl (H12.ev 14 rfl) rfl) fun _ H13 => q_ H13 2 rfl fun _ H14 => ln_ <| nx <| sq_ <| rl_ <| wl_ <| p_ H14 rfl rfl fun _ H15 => ?_
  clear H9 H11 H12 H13 H14
  refine wl_ <| d_ H15 rfl (R := fun v w9 => ∃ gc17 cc17 cbc17, v = .tuple #[.agg #[.int .i64 wkp.k, .int .u32 (wd wkp.e), .int .u32 (wd wkp.s), .slice (some ⟨gc17, 0, none⟩) 1 cc17], .int .i64 0] ∧ (W9.heap.size ≤ gc17) ∧ (Row w9 gc17 48 cbc17) ∧ (OwnC cbc17 cc17 1 33 ((wkp.l.map pcell).flatten)) ∧ Below W9.heap.size W9 w9) (dc_ Try.func10 rfl (args1 (H15.ev 20 rfl)) (pkdec_encS wkp _ _ _ 1 _ W9 (slice_own (HS9j.row 2 rfl) Oc10 wk_len) rfl wk_may wk_w rfl (by decide)) (fun _ w9 ⟨g9, c9, cb9, he, h1, h2, h3, hb⟩ => ⟨_, he, g9, c9, cb9, rfl, h1, h2, h3, hb⟩)) ?_
  rintro _ W16 ⟨gc17, cc17, cbc17, rfl, hg17, hr17, Oc17, hb16⟩ a16 H16
  have HS16 := HS9j.same hb16
  clear H15
  have HS16j : St w noF [⟨g12, 48, catA [[.int .i64 4], bytesV (blk 7#8)]⟩, ⟨g1, 25, #[.int .i64 1, .int .u32 258, .int .u32 3, .slice (some ⟨g12, 0, none⟩) 1 1]⟩, ⟨gc10, 5, cbc10⟩, ⟨gc17, 48, cbc17⟩] W16 := HS9j.joins hb16 hr17 hg17
  clear HS16 hr17 hg17
  clear HS9j hb16
  refine wl_ <| p_ H16 rfl rfl fun _ H18 => wl_ <| i_ H18 rfl (v := .agg #[.int .i64 wkp.k, .int .u32 (wd wkp.e), .int .u32 (wd wkp.s), .slice (some ⟨gc17, 0, none⟩) 1 cc17]) (dd_ext rfl (H18.ev 19 rfl) rfl) fun _ H19 => wl_ <| i_ H19 rfl (v := .int .i64 0) (dd_ext rfl (H19.ev 19 rfl) rfl) fun _ H20 => wl_ <| n_ H20 rfl (fun _ h => dd_new HS16j #[.int .i64 0, .int .u32 0, .int .u32 0, .slice none 0 0] rfl (z := .agg #[.int .i64 0, .int .u32 0, .int .u32 0, .slice none 0 0]) (by kernel_rfl) rfl h) fun g4 _ HS21 _ H21 => wl_ <| t_ rfl (S := [⟨g12, 48, catA [[.int .i64 4], bytesV (blk 7#8)]⟩, ⟨g1, 25, #[.int .i64 1, .int .u32 258, .int .u32 3, .slice (some ⟨g12, 0, none⟩) 1 1]⟩, ⟨gc10, 5, cbc10⟩, ⟨gc17, 48, cbc17⟩, ⟨g4, 25, #[.int .i64 wkp.k, .int .u32 (wd wkp.e), .int .u32 (wd wkp.s), .slice (some ⟨gc17, 0, none⟩) 1 cc17]⟩]) (fun _ h => dd_setrow HS21 4 rfl rfl (H21.ev 4 rfl) (H21.ev 22 rfl) (by kernel_rfl) (rfl : #[.int .i64 wkp.k, .int .u32 (wd wkp.e), .int .u32 (wd wkp.s), .slice (some ⟨gc17, 0, none⟩) 1 cc17].size = 4) (rfl : #[.int .i64 0, .int .u32 0, .int .u32 0, .slice none 0 0].size = 4) (one_l (ao_cons rfl (ao_cons rfl (ao_cons rfl (ao_cons rfl ao_nil))))) h) fun W22 HS22 => wl_ <| p_ H21 rfl rfl fun _ H23 => ln_ <| nx <| sq_ <| rl_ <| wl_ <| i_ H23 rfl (v := .agg #[.int .i64 3, .int .u32 0, .int .u32 0, .slice none 0 0]) (dd_bld rfl (ps := [(0, .int .i64 3)]) (pr1 rfl (pr0)) (Lz := [[.int .i64 0], [.int .u32 0], [.int .u32 0], [.slice none 0 0]]) (by kernel_rfl) (lens_cons rfl (lens_cons rfl (lens_cons rfl (lens_cons rfl (lens_nil))))) (fit_cons (i := 0) rfl rfl (fit_nil)) (cs := #[.int .i64 3, .int .u32 0, .int .u32 0, .slice none 0 0]) rfl) fun _ H24 => ?_
  clear H16 H18 H19 HS16j H20 HS21 H21 H23
  refine wl_ <| d_ H24 rfl (R := fun v w9 => ∃ gc26 cc26 cbc26, v = .tuple #[.slice (some ⟨gc26, 0, none⟩) 12 cc26, .int .i64 0] ∧ (W22.heap.size ≤ gc26) ∧ (Row w9 gc26 5 cbc26) ∧ (OwnC cbc26 cc26 12 1 (bytesV (encP wkA))) ∧ Below W22.heap.size W22 w9) (dc_ Try.func8 rfl (args1 (H24.ev 25 rfl)) (pktenc_S wkA (.slice none 0 0) _ 12 W22 (puts_nil _) wkA_may rfl wkA_len) (fun _ w9 ⟨g9, c9, cb9, he, h1, h2, h3, hb⟩ => ⟨_, he, g9, c9, cb9, rfl, h1, h2, h3, hb⟩)) ?_
  rintro _ W25 ⟨gc26, cc26, cbc26, rfl, hg26, hr26, Oc26, hb25⟩ a25 H25
  have HS25 := HS22.same hb25
  clear H24
  have HS25j : St w noF [⟨g12, 48, catA [[.int .i64 4], bytesV (blk 7#8)]⟩, ⟨g1, 25, #[.int .i64 1, .int .u32 258, .int .u32 3, .slice (some ⟨g12, 0, none⟩) 1 1]⟩, ⟨gc10, 5, cbc10⟩, ⟨gc17, 48, cbc17⟩, ⟨g4, 25, #[.int .i64 wkp.k, .int .u32 (wd wkp.e), .int .u32 (wd wkp.s), .slice (some ⟨gc17, 0, none⟩) 1 cc17]⟩, ⟨gc26, 5, cbc26⟩] W25 := HS22.joins hb25 hr26 hg26
  clear HS25 hr26 hg26
  clear HS22 hb25
  refine wl_ <| p_ H25 rfl rfl fun _ H27 => wl_ <| i_ H27 rfl (v := .slice (some ⟨gc26, 0, none⟩) 12 cc26) (dd_ext rfl (H27.ev 24 rfl) rfl) fun _ H28 => wl_ <| i_ H28 rfl (v := .int .i64 0) (dd_ext rfl (H28.ev 24 rfl) rfl) fun _ H29 => q_ H29 2 rfl fun _ H30 => ln_ <| ?_
  clear H25 H27 H28 H29
  have H31 := H30.sel [1, 2, 3, 4, 5, 6, 7] rfl
  refine nx <| sq_ <| rl_ <| wl_ <| i_ H31 rfl (v := .agg #[.int .i64 2, .int .u32 0, .int .u32 0, .slice none 0 0]) (dd_bld rfl (ps := [(0, .int .i64 2)]) (pr1 rfl (pr0)) (Lz := [[.int .i64 0], [.int .u32 0], [.int .u32 0], [.slice none 0 0]]) (by kernel_rfl) (lens_cons rfl (lens_cons rfl (lens_cons rfl (lens_cons rfl (lens_nil))))) (fit_cons (i := 0) rfl rfl (fit_nil)) (cs := #[.int .i64 2, .int .u32 0, .int .u32 0, .slice none 0 0]) rfl) fun _ H32 => wl_ <| c_ H32 rfl HS25j (dcs Try.func8 rfl (args1 (H32.ev 30 rfl)) (pktenc_bad wkS (.slice none 0 0) W25 (puts_nil _) (by decide) wkS_may) (.tuple #[.slice none 0 0, .int .i64 11])) fun W33 HS33 _ H33 => wl_ <| p_ H33 rfl rfl fun _ H34 => wl_ <| i_ H34 rfl (v := .slice none 0 0) (dd_ext rfl (H34.ev 29 rfl) rfl) fun _ H35 => wl_ <| i_ H35 rfl (v := .int .i64 11) (dd_ext rfl (H35.ev 29 rfl) rfl) fun _ H36 => q_ H36 2 rfl fun _ H37 => ln_ <| nx <| sq_ <| rl_ <| wl_ <| p_ H37 rfl rfl fun _ H38 => wl_ <| i_ H38 rfl (dd_cmp rfl (H38.ev 34 rfl) rfl (eq_t (by decide))) fun _ H39 => ?_
  clear H30 H31 H32 HS25j H33 H34 H35 H36 H37
  refine wl_ <| p_ H39 rfl rfl fun _ H40 => wl_ <| ig H40 (wg_ H40 rfl rfl rfl rfl) rfl (dd_mv rfl (H40.ev 2 rfl)) fun _ H41 => wl_ <| ig H41 (wg_ H41 rfl rfl rfl rfl) rfl (v := .int .i64 45) (dd_len rfl (H41.ev 37 rfl) Try.underlying26) fun _ H42 => wl_ <| ig H42 (wg_ H42 rfl rfl rfl rfl) rfl (dd_cmp rfl (H42.ev 38 rfl) rfl (eq_t (by decide))) fun _ H43 => q_ H43 2 rfl fun _ H44 => wl_ <| ig H44 (wg_ H44 rfl rfl rfl rfl) rfl (dd_mv rfl (H44.ev 2 rfl)) fun _ H45 => wl_ <| ig H45 (wg_ H45 rfl rfl rfl rfl) rfl (xS 1 1 rfl (H45.ev 42 rfl) rfl) fun _ H46 => wl_ <| ig H46 (wg_ H46 rfl rfl rfl rfl) rfl (dd_at rfl (H46.ev 43 rfl) ((own_at (HS33.row 2 rfl) Oc10 wk_len 1 (by decide)).trans wk_at1) Try.underlying5 rfl) fun _ H47 => ?_
  clear H38 H39 H40 H41 H42 H43 H44 H45
  refine wl_ <| ig H47 (wg_ H47 rfl rfl rfl rfl) rfl (dd_cmp rfl (H47.ev 44 rfl) rfl (eq_t (by decide))) fun _ H48 => q_ H48 2 rfl fun _ H49 => wl_ <| ig H49 (wg_ H49 rfl rfl rfl rfl) rfl (dd_mv rfl (H49.ev 2 rfl)) fun _ H50 => wl_ <| ig H50 (wg_ H50 rfl rfl rfl rfl) rfl (xS 1 2 rfl (H50.ev 48 rfl) rfl) fun _ H51 => wl_ <| ig H51 (wg_ H51 rfl rfl rfl rfl) rfl (dd_at rfl (H51.ev 49 rfl) ((own_at (HS33.row 2 rfl) Oc10 wk_len 2 (by decide)).trans wk_at2) Try.underlying5 rfl) fun _ H52 => wl_ <| ig H52 (wg_ H52 rfl rfl rfl rfl) rfl (dd_cmp rfl (H52.ev 50 rfl) rfl (eq_t (by decide))) fun _ H53 => q_ H53 2 rfl fun _ H54 => wl_ <| ig H54 (wg_ H54 rfl rfl rfl rfl) rfl (dd_mv rfl (H54.ev 2 rfl)) fun _ H55 => ?_
  clear H46 H47 H48 H49 H50 H51 H52 H53
  refine wl_ <| ig H55 (wg_ H55 rfl rfl rfl rfl) rfl (xS 1 5 rfl (H55.ev 54 rfl) rfl) fun _ H56 => wl_ <| ig H56 (wg_ H56 rfl rfl rfl rfl) rfl (dd_at rfl (H56.ev 55 rfl) ((own_at (HS33.row 2 rfl) Oc10 wk_len 5 (by decide)).trans wk_at5) Try.underlying5 rfl) fun _ H57 => wl_ <| ig H57 (wg_ H57 rfl rfl rfl rfl) rfl (dd_cmp rfl (H57.ev 56 rfl) rfl (eq_t (by decide))) fun _ H58 => q_ H58 2 rfl fun _ H59 => wl_ <| ig H59 (wg_ H59 rfl rfl rfl rfl) rfl (dd_mv rfl (H59.ev 2 rfl)) fun _ H60 => wl_ <| ig H60 (wg_ H60 rfl rfl rfl rfl) rfl (xS 1 9 rfl (H60.ev 60 rfl) rfl) fun _ H61 => wl_ <| ig H61 (wg_ H61 rfl rfl rfl rfl) rfl (dd_at rfl (H61.ev 61 rfl) ((own_at (HS33.row 2 rfl) Oc10 wk_len 9 (by decide)).trans wk_at9) Try.underlying5 rfl) fun _ H62 => wl_ <| ig H62 (wg_ H62 rfl rfl rfl rfl) rfl (dd_cmp rfl (H62.ev 62 rfl) rfl (eq_t (by decide))) fun _ H63 => ?_
  clear H54 H55 H56 H57 H58 H59 H60 H61
  refine q_ H63 2 rfl fun _ H64 => wl_ <| ig H64 (wg_ H64 rfl rfl rfl rfl) rfl (dd_mv rfl (H64.ev 2 rfl)) fun _ H65 => wl_ <| ig H65 (wg_ H65 rfl rfl rfl rfl) rfl (xS 1 10 rfl (H65.ev 66 rfl) rfl) fun _ H66 => wl_ <| ig H66 (wg_ H66 rfl rfl rfl rfl) rfl (dd_at rfl (H66.ev 67 rfl) ((own_at (HS33.row 2 rfl) Oc10 wk_len 10 (by decide)).trans wk_at10) Try.underlying5 rfl) fun _ H67 => wl_ <| ig H67 (wg_ H67 rfl rfl rfl rfl) rfl (dd_cmp rfl (H67.ev 68 rfl) rfl (eq_t (by decide))) fun _ H68 => q_ H68 2 rfl fun _ H69 => wl_ <| ig H69 (wg_ H69 rfl rfl rfl rfl) rfl (dd_mv rfl (H69.ev 2 rfl)) fun _ H70 => wl_ <| ig H70 (wg_ H70 rfl rfl rfl rfl) rfl (xS 1 11 rfl (H70.ev 72 rfl) rfl) fun _ H71 => ?_
  clear H62 H63 H64 H65 H66 H67 H68 H69
  refine wl_ <| ig H71 (wg_ H71 rfl rfl rfl rfl) rfl (dd_at rfl (H71.ev 73 rfl) ((own_at (HS33.row 2 rfl) Oc10 wk_len 11 (by decide)).trans wk_at11) Try.underlying5 rfl) fun _ H72 => wl_ <| ig H72 (wg_ H72 rfl rfl rfl rfl) rfl (dd_cmp rfl (H72.ev 74 rfl) rfl (eq_t (by decide))) fun _ H73 => q_ H73 2 rfl fun _ H74 => wl_ <| ig H74 (wg_ H74 rfl rfl rfl rfl) rfl (dd_mv rfl (H74.ev 5 rfl)) fun _ H75 => wl_ <| ig H75 (wg_ H75 rfl rfl rfl rfl) rfl (dd_cmp rfl (H75.ev 78 rfl) rfl (eq_t (by decide))) fun _ H76 => q_ H76 2 rfl fun _ H77 => wl_ <| ig H77 (wg_ H77 rfl rfl rfl rfl) rfl (v := .agg #[.int .i64 1, .int .u32 258, .int .u32 3, .slice (some ⟨g12, 0, none⟩) 1 1]) (dd_load HS33 1 0 rfl rfl (H77.ev 1 rfl) (slab_whole _) Try.underlying25 rfl (by kernel_rfl)) fun _ H78 => wl_ <| ig H78 (wg_ H78 rfl rfl rfl rfl) rfl (v := .agg #[.int .i64 wkp.k, .int .u32 (wd wkp.e), .int .u32 (wd wkp.s), .slice (some ⟨gc17, 0, none⟩) 1 cc17]) (dd_load HS33 4 0 rfl rfl (H78.ev 4 rfl) (slab_whole _) Try.underlying25 rfl (by kernel_rfl)) fun _ H79 => ?_
  clear H70 H71 H72 H73 H74 H75 H76 H77
  refine wl_ <| cg H79 (wg_ H79 rfl rfl rfl rfl) rfl HS33 (v := .bool true) (dc_ Try.func14 rfl (args2 (H79.ev 82 rfl) (H79.ev 83 rfl)) (same_any wkp wkp _ _ _ _ _ _ W33 (puts_row (HS33.row 0 rfl) (Nat.le_refl 1) wk_ok) (puts_ownl rfl (ownc_to (HS33.row 3 rfl) Oc17 (Nat.zero_le _)) wk_ok) (by decide)) (fun _ w9 h9 => ⟨_, h9.1, by rw [(decide_eq_true rfl)], h9.2⟩)) fun W80 HS80 _ H80 => q_ H80 2 rfl fun _ H81 => wl_ <| ig H81 (wg_ H81 rfl rfl rfl rfl) rfl (dd_mv rfl (H81.ev 7 rfl)) fun _ H82 => wl_ <| ig H82 (wg_ H82 rfl rfl rfl rfl) rfl (dd_cmp rfl (H82.ev 87 rfl) rfl (eq_t (by decide))) fun _ H83 => q_ H83 2 rfl fun _ H84 => wl_ <| ig H84 (wg_ H84 rfl rfl rfl rfl) rfl (dd_mv rfl (H84.ev 6 rfl)) fun _ H85 => wl_ <| ig H85 (wg_ H85 rfl rfl rfl rfl) rfl (v := .int .i64 12) (dd_len rfl (H85.ev 91 rfl) Try.underlying26) fun _ H86 => wl_ <| ig H86 (wg_ H86 rfl rfl rfl rfl) rfl (dd_cmp rfl (H86.ev 92 rfl) rfl (eq_t (by decide))) fun _ H87 => ?_
  clear H78 H79 HS33 H80 H81 H82 H83 H84 H85
  refine q_ H87 2 rfl fun _ H88 => wl_ <| ig H88 (wg_ H88 rfl rfl rfl rfl) rfl (dd_mv rfl (H88.ev 9 rfl)) fun _ H89 => wl_ <| ig H89 (wg_ H89 rfl rfl rfl rfl) rfl (dd_cmp rfl (H89.ev 96 rfl) rfl (eq_t (by decide))) fun _ H90 => q_ H90 2 rfl fun _ H91 => wl_ <| ig H91 (wg_ H91 rfl rfl rfl rfl) rfl (v := .agg #[.int .i64 1, .int .u32 258, .int .u32 3, .slice (some ⟨g12, 0, none⟩) 1 1]) (dd_load HS80 1 0 rfl rfl (H91.ev 1 rfl) (slab_whole _) Try.underlying25 rfl (by kernel_rfl)) fun _ H92 => wl_ <| ig H92 (wg_ H92 rfl rfl rfl rfl) rfl (v := .agg #[.int .i64 0, .int .u32 0, .int .u32 0, .slice none 0 0]) (dd_bld rfl (ps := []) (pr0) (Lz := [[.int .i64 0], [.int .u32 0], [.int .u32 0], [.slice none 0 0]]) (by kernel_rfl) (lens_cons rfl (lens_cons rfl (lens_cons rfl (lens_cons rfl (lens_nil))))) (fit_nil) (cs := #[.int .i64 0, .int .u32 0, .int .u32 0, .slice none 0 0]) rfl) fun _ H93 => wl_ <| cg H93 (wg_ H93 rfl rfl rfl rfl) rfl HS80 (v := .bool false) (dc_ Try.func14 rfl (args2 (H93.ev 100 rfl) (H93.ev 101 rfl)) (same_any wkp wkZ _ _ _ _ _ _ W80 (puts_row (HS80.row 0 rfl) (Nat.le_refl 1) wk_ok) (puts_nil _) (by decide)) (fun _ w9 h9 => ⟨_, h9.1, by rw [wk_ne], h9.2⟩)) fun _ HS94 _ H94 => wl_ <| ig H94 (wg_ H94 rfl rfl rfl rfl) rfl (v := .bool true) (dd_nt rfl (H94.ev 102 rfl) rfl) fun _ H95 => ?_
  clear H86 H87 H88 H89 H90 H91 H92 H93 HS80
  refine q_ H95 2 rfl fun _ H96 => ln_ <| ?_
  clear H94 H95
  have H97 := H96.sel [0] rfl
  refine nx <| wp_ret <| ret_run H97.env0 (res_t Try.results6 (H97.get 0 rfl)) <| ?_
  clear H96
  exact ⟨rfl, HS94.below⟩
end Go.Proofs.Ytlpfdghciegnnaa

/- Whether two packets are told as alike; a packet of one's own. -/
set_option maxRecDepth 4000
namespace Go.Proofs.Ytlpfdghciegnnaa
open Go Go.RowKit
theorem kp_k {p r : Pkt} (h : ¬ (p.k : Int) = r.k) : decide (p = r) = false := decide_eq_false fun e => h (by rw [e])
theorem kp_e {p r : Pkt} (h : ¬ (wd p.e : Int) = wd r.e) : decide (p = r) = false := decide_eq_false fun e => h (by rw [e])
theorem kp_s {p r : Pkt} (h : ¬ (wd p.s : Int) = wd r.s) : decide (p = r) = false := decide_eq_false fun e => h (by rw [e])
theorem kp_l {p r : Pkt} {b : Bool} (h1 : (p.k : Int) = r.k) (h2 : (wd p.e : Int) = wd r.e) (h3 : (wd p.s : Int) = wd r.s) (h4 : decide (p.l = r.l) = b) : decide (p = r) = b := by
  refine same_l (n := 0) (m := 0) ?_ h4
  exact decide_eq_true ⟨h1, h2, h3, rfl⟩
set_option maxHeartbeats 800000 in
theorem keeppk_any (p r : Pkt) (A A2 : Option Addr) (n c m c2 : Nat) (w : World) (hp : PutsAt w (.slice A n c) p.l) (hr : PutsAt w (.slice A2 m c2) r.l) (hpn : p.l.length = n) (hn : n ≤ 1000000) : Calls Try.prog 13 #[.agg #[.int .i64 p.k, .int .u32 (wd p.e), .int .u32 (wd p.s), .slice A n c], .agg #[.int .i64 r.k, .int .u32 (wd r.e), .int .u32 (wd r.s), .slice A2 m c2]] w fun x w' => x = .returned (.bool (decide (p = r))) ∧ Below w.heap.size w w' := by
  have HS := St.nil w noF
  have HP : ∀ W, Below w.heap.size w W → PutsAt W (.slice A n c) p.l := fun W hb => hp.below hb (Nat.le_refl _)
  have HR : ∀ W, Below w.heap.size w W → PutsAt W (.slice A2 m c2) r.l := fun W hb => hr.below hb (Nat.le_refl _)
  refine enter_en Try.func13 rfl Try.ntmps13 (Nat.le_of_ble_eq_true rfl) fun a0 (HA0 : En 31 [(0, .agg #[.int .i64 p.k, .int .u32 (wd p.e), .int .u32 (wd p.s), .slice A n c]), (1, .agg #[.int .i64 r.k, .int .u32 (wd r.e), .int .u32 (wd r.s), .slice A2 m c2])] a0) => ?_
  refine sq_ <| rl_ <| wl_ <| n_ HA0 rfl (fun _ h => dd_box HS rfl (HA0.ev 0 rfl) (cs := #[.int .i64 p.k, .int .u32 (wd p.e), .int .u32 (wd p.s), .slice A n c]) rfl h) fun _ _ HS1 _ H1 => wl_ <| n_ H1 rfl (fun _ h => dd_box HS1 rfl (H1.ev 1 rfl) (cs := #[.int .i64 r.k, .int .u32 (wd r.e), .int .u32 (wd r.s), .slice A2 m c2]) rfl h) fun _ W2 HS2 _ H2 => wl_ <| p_ H2 rfl rfl fun _ H3 => ln_ <| nx <| sq_ <| rl_ <| wl_ <| i_ H3 rfl (xf 0 0 rfl (H3.ev 2 rfl)) fun _ H4 => wl_ <| i_ H4 rfl (dd_get HS2 0 0 rfl rfl (H4.ev 5 rfl) rfl Try.underlying3 rfl) fun _ H5 => wl_ <| i_ H5 rfl (xf 0 0 rfl (H5.ev 3 rfl)) fun _ H6 => wl_ <| i_ H6 rfl (dd_get HS2 1 0 rfl rfl (H6.ev 7 rfl) rfl Try.underlying3 rfl) fun _ H7 => ?_
  clear HS HA0 HS1 H1 H2 H3 H4 H5 H6
  by_cases hc9 : (p.k : Int) = r.k
  ·
   refine wl_ <| i_ H7 rfl (dd_cmp rfl (H7.ev 6 rfl) (H7.ev 8 rfl) (eq_t hc9)) fun _ H10 => wl_ <| p_ H10 rfl rfl fun _ H11 => wl_ <| ig H11 (wg_ H11 rfl rfl rfl rfl) rfl (xf 1 1 rfl (H11.ev 2 rfl)) fun _ H12 => wl_ <| ig H12 (wg_ H12 rfl rfl rfl rfl) rfl (dd_get HS2 0 1 rfl rfl (H12.ev 11 rfl) rfl Try.underlying22 rfl) fun _ H13 => wl_ <| ig H13 (wg_ H13 rfl rfl rfl rfl) rfl (xf 1 1 rfl (H13.ev 3 rfl)) fun _ H14 => wl_ <| ig H14 (wg_ H14 rfl rfl rfl rfl) rfl (dd_get HS2 1 1 rfl rfl (H14.ev 13 rfl) rfl Try.underlying22 rfl) fun _ H15 => ?_
   clear H7 H10 H11 H12 H13 H14
   by_cases hc17 : (wd p.e : Int) = wd r.e
   ·
    refine wl_ <| ig H15 (wg_ H15 rfl rfl rfl rfl) rfl (dd_cmp rfl (H15.ev 12 rfl) (H15.ev 14 rfl) (eq_t hc17)) fun _ H18 => q_ H18 2 rfl fun _ H19 => wl_ <| ig H19 (wg_ H19 rfl rfl rfl rfl) rfl (xf 2 2 rfl (H19.ev 2 rfl)) fun _ H20 => wl_ <| ig H20 (wg_ H20 rfl rfl rfl rfl) rfl (dd_get HS2 0 2 rfl rfl (H20.ev 18 rfl) rfl Try.underlying22 rfl) fun _ H21 => wl_ <| ig H21 (wg_ H21 rfl rfl rfl rfl) rfl (xf 2 2 rfl (H21.ev 3 rfl)) fun _ H22 => wl_ <| ig H22 (wg_ H22 rfl rfl rfl rfl) rfl (dd_get HS2 1 2 rfl rfl (H22.ev 20 rfl) rfl Try.underlying22 rfl) fun _ H23 => ?_
    clear H15 H18 H19 H20 H21 H22
    by_cases hc25 : (wd p.s : Int) = wd r.s
    ·
     refine wl_ <| ig H23 (wg_ H23 rfl rfl rfl rfl) rfl (dd_cmp rfl (H23.ev 19 rfl) (H23.ev 21 rfl) (eq_t hc25)) fun _ H26 => q_ H26 2 rfl fun _ H27 => wl_ <| ig H27 (wg_ H27 rfl rfl rfl rfl) rfl (xf 3 3 rfl (H27.ev 2 rfl)) fun _ H28 => wl_ <| ig H28 (wg_ H28 rfl rfl rfl rfl) rfl (dd_get HS2 0 3 rfl rfl (H28.ev 25 rfl) rfl Try.underlying23 rfl) fun _ H29 => wl_ <| ig H29 (wg_ H29 rfl rfl rfl rfl) rfl (xf 3 3 rfl (H29.ev 3 rfl)) fun _ H30 => wl_ <| ig H30 (wg_ H30 rfl rfl rfl rfl) rfl (dd_get HS2 1 3 rfl rfl (H30.ev 27 rfl) rfl Try.underlying23 rfl) fun _ H31 => ?_
     clear H23 H26 H27 H28 H29 H30
     cases hb33 : decide (p.l = r.l)
     ·
      refine wl_ <| cg H31 (wg_ H31 rfl rfl rfl rfl) rfl HS2 (v := .bool false) (dc_ Try.func29 rfl (args2 (H31.ev 26 rfl) (H31.ev 28 rfl)) (keepputs_any p.l r.l _ _ W2 (HP _ HS2.below) (HR _ HS2.below) (by rw [hpn]; exact hn)) (fun _ w9 h9 => ⟨_, h9.1, by rw [hb33], h9.2⟩)) fun _ HS34 _ H34 => q_ H34 2 rfl fun _ H35 => ln_ <| ?_
      clear H31 HS2 H34
      have H36 := H35.sel [4] rfl
      refine nx <| wp_ret <| ret_run H36.env0 (res_t Try.results13 (H36.get 4 rfl)) <| ?_
      clear H35
      exact ⟨by rw [kp_l hc9 hc17 hc25 hb33], HS34.below⟩
     refine wl_ <| cg H31 (wg_ H31 rfl rfl rfl rfl) rfl HS2 (v := .bool true) (dc_ Try.func29 rfl (args2 (H31.ev 26 rfl) (H31.ev 28 rfl)) (keepputs_any p.l r.l _ _ W2 (HP _ HS2.below) (HR _ HS2.below) (by rw [hpn]; exact hn)) (fun _ w9 h9 => ⟨_, h9.1, by rw [hb33], h9.2⟩)) fun _ HS37 _ H37 => q_ H37 2 rfl fun _ H38 => ln_ <| ?_
     clear H31 HS2 H37
     have H39 := H38.sel [4] rfl
     refine nx <| wp_ret <| ret_run H39.env0 (res_t Try.results13 (H39.get 4 rfl)) <| ?_
     clear H38
     exact ⟨by rw [kp_l hc9 hc17 hc25 hb33], HS37.below⟩
    refine wl_ <| ig H23 (wg_ H23 rfl rfl rfl rfl) rfl (dd_cmp rfl (H23.ev 19 rfl) (H23.ev 21 rfl) (eq_f hc25)) fun _ H40 => q_ H40 2 rfl fun _ H41 => wl_ <| k_ H41 (wg_ H41 rfl rfl rfl rfl) rfl fun _ H42 => wl_ <| k_ H42 (wg_ H42 rfl rfl rfl rfl) rfl fun _ H43 => wl_ <| k_ H43 (wg_ H43 rfl rfl rfl rfl) rfl fun _ H44 => wl_ <| k_ H44 (wg_ H44 rfl rfl rfl rfl) rfl fun _ H45 => wl_ <| k_ H45 (wg_ H45 rfl rfl rfl rfl) rfl fun _ H46 => q_ H46 2 rfl fun _ H47 => ?_
    clear H23 H40 H41 H42 H43 H44 H45
    refine ln_ <| ?_
    clear H46
    have H48 := H47.sel [4] rfl
    refine nx <| wp_ret <| ret_run H48.env0 (res_t Try.results13 (H48.get 4 rfl)) <| ?_
    clear H47
    exact ⟨by rw [kp_s hc25], HS2.below⟩
   refine wl_ <| ig H15 (wg_ H15 rfl rfl rfl rfl) rfl (dd_cmp rfl (H15.ev 12 rfl) (H15.ev 14 rfl) (eq_f hc17)) fun _ H49 => q_ H49 2 rfl fun _ H50 => wl_ <| k_ H50 (wg_ H50 rfl rfl rfl rfl) rfl fun _ H51 => wl_ <| k_ H51 (wg_ H51 rfl rfl rfl rfl) rfl fun _ H52 => wl_ <| k_ H52 (wg_ H52 rfl rfl rfl rfl) rfl fun _ H53 => wl_ <| k_ H53 (wg_ H53 rfl rfl rfl rfl) rfl fun _ H54 => wl_ <| k_ H54 (wg_ H54 rfl rfl rfl rfl) rfl fun _ H55 => q_ H55 2 rfl fun _ H56 => ?_
   clear H15 H49 H50 H51 H52 H53 H54
   refine wl_ <| k_ H56 (wg_ H56 rfl rfl rfl rfl) rfl fun _ H57 => wl_ <| k_ H57 (wg_ H57 rfl rfl rfl rfl) rfl fun _ H58 => wl_ <| k_ H58 (wg_ H58 rfl rfl rfl rfl) rfl fun _ H59 => wl_ <| k_ H59 (wg_ H59 rfl rfl rfl rfl) rfl fun _ H60 => wl_ <| k_ H60 (wg_ H60 rfl rfl rfl rfl) rfl fun _ H61 => q_ H61 2 rfl fun _ H62 => ln_ <| ?_
   clear H55 H56 H57 H58 H59 H60 H61
   have H63 := H62.sel [4] rfl
   refine nx <| wp_ret <| ret_run H63.env0 (res_t Try.results13 (H63.get 4 rfl)) <| ?_
   clear H62
   exact ⟨by rw [kp_e hc17], HS2.below⟩
  refine wl_ <| i_ H7 rfl (dd_cmp rfl (H7.ev 6 rfl) (H7.ev 8 rfl) (eq_f hc9)) fun _ H64 => wl_ <| p_ H64 rfl rfl fun _ H65 => wl_ <| k_ H65 (wg_ H65 rfl rfl rfl rfl) rfl fun _ H66 => wl_ <| k_ H66 (wg_ H66 rfl rfl rfl rfl) rfl fun _ H67 => wl_ <| k_ H67 (wg_ H67 rfl rfl rfl rfl) rfl fun _ H68 => wl_ <| k_ H68 (wg_ H68 rfl rfl rfl rfl) rfl fun _ H69 => wl_ <| k_ H69 (wg_ H69 rfl rfl rfl rfl) rfl fun _ H70 => q_ H70 2 rfl fun _ H71 => ?_
  clear H7 H64 H65 H66 H67 H68 H69
  refine wl_ <| k_ H71 (wg_ H71 rfl rfl rfl rfl) rfl fun _ H72 => wl_ <| k_ H72 (wg_ H72 rfl rfl rfl rfl) rfl fun _ H73 => wl_ <| k_ H73 (wg_ H73 rfl rfl rfl rfl) rfl fun _ H74 => wl_ <| k_ H74 (wg_ H74 rfl rfl rfl rfl) rfl fun _ H75 => wl_ <| k_ H75 (wg_ H75 rfl rfl rfl rfl) rfl fun _ H76 => q_ H76 2 rfl fun _ H77 => wl_ <| k_ H77 (wg_ H77 rfl rfl rfl rfl) rfl fun _ H78 => wl_ <| k_ H78 (wg_ H78 rfl rfl rfl rfl) rfl fun _ H79 => ?_
  clear H70 H71 H72 H73 H74 H75 H76 H77
  refine wl_ <| k_ H79 (wg_ H79 rfl rfl rfl rfl) rfl fun _ H80 => wl_ <| k_ H80 (wg_ H80 rfl rfl rfl rfl) rfl fun _ H81 => wl_ <| k_ H81 (wg_ H81 rfl rfl rfl rfl) rfl fun _ H82 => q_ H82 2 rfl fun _ H83 => ln_ <| ?_
  clear H78 H79 H80 H81 H82
  have H84 := H83.sel [4] rfl
  refine nx <| wp_ret <| ret_run H84.env0 (res_t Try.results13 (H84.get 4 rfl)) <| ?_
  clear H83
  exact ⟨by rw [kp_k hc9], HS2.below⟩
theorem len_putsF {l : List Pt} {n : Nat} (h : ∀ x ∈ l, x.2.length = 32 ∧ -9223372036854775808 ≤ x.1 ∧ x.1 < 9223372036854775808) (hn : l.length = n) : ((l.map pcell).flatten).length = n * 33 := by
  subst hn
  induction l with
  | nil => rfl
  | cons x l ih =>
    rw [List.map_cons, List.flatten_cons, List.length_append, ih (fun y hy => h y (List.mem_cons_of_mem _ hy)), len_pcell (h x (List.mem_cons_self ..)).1, List.length_cons]
    omega
theorem one_putsF (l : List Pt) : ∀ v ∈ (l.map pcell).flatten, Value.oneCell' v = true := fun v hv => by
  obtain ⟨c, hc, hv⟩ := List.mem_flatten.1 hv
  obtain ⟨x, _, rfl⟩ := List.mem_map.1 hc
  unfold pcell at hv
  rcases List.mem_cons.1 hv with rfl | hv
  · rfl
  · exact one_bytesV _ v hv
theorem puts_cat {w : World} {A : Option Addr} {n c : Nat} {l : List Pt} (h : PutsAt w (.slice A n c) l) (hn : n ≠ 0) : ∃ b o, A = some ⟨b, o, none⟩ ∧ CAt w b o (l.map pcell).flatten := by
  obtain ⟨A', c', e, _, h32, h4⟩ := h
  injection e with e1 e2 e3
  subst e1
  obtain ⟨b, o, e4, h5, h6⟩ := h4 (by rintro rfl; exact hn e2)
  refine ⟨b, o, e4, h5, fun j v hv => ?_⟩
  have hl : ∀ c ∈ l.map pcell, c.length = 33 := fun c hc => by
    obtain ⟨y, hy, rfl⟩ := List.mem_map.1 hc
    exact len_pcell (h32 y hy).1
  have hj : j < l.length * 33 := by rw [← len_putsF h32 rfl]; exact (List.getElem?_eq_some_iff.1 hv).1
  obtain ⟨k, m, hm, rfl⟩ : ∃ k m, m < 33 ∧ j = k * 33 + m := ⟨j / 33, j % 33, Nat.mod_lt _ (by decide), by omega⟩
  obtain ⟨x, hx⟩ : ∃ x, l[k]? = some x := ⟨_, List.getElem?_eq_getElem (by omega)⟩
  rw [flat_get (sz := 33) (l.map pcell) hl k m (pcell x) (by rw [List.getElem?_map, hx]; rfl) hm] at hv
  rw [← Nat.add_assoc]
  exact h6 k x hx m v hv
set_option maxHeartbeats 800000 in
theorem own18_any (p : Pkt) (A : Option Addr) (n c : Nat) (w : World) (hp : PutsAt w (.slice A n c) p.l) (hpn : p.l.length = n) (hpo : ∀ x ∈ p.l, x.2.length = 32 ∧ -9223372036854775808 ≤ x.1 ∧ x.1 < 9223372036854775808) (hn : n ≤ 1000000) : Calls Try.prog 7 #[.agg #[.int .i64 p.k, .int .u32 (wd p.e), .int .u32 (wd p.s), .slice A n c]] w fun x w' => ∃ g c' cb, x = .returned (.agg #[.int .i64 p.k, .int .u32 (wd p.e), .int .u32 (wd p.s), .slice (some ⟨g, 0, none⟩) n c']) ∧ w.heap.size ≤ g ∧ Row w' g 48 cb ∧ OwnC cb c' n 33 (p.l.map pcell).flatten ∧ Below w.heap.size w w' := by
  have HS := St.nil w noF
  have HP : ∀ W, Below w.heap.size w W → PutsAt W (.slice A n c) p.l := fun W hb => hp.below hb (Nat.le_refl _)
  refine enter_en Try.func7 rfl Try.ntmps7 (Nat.le_of_ble_eq_true rfl) fun a0 (HA0 : En 9 [(0, .agg #[.int .i64 p.k, .int .u32 (wd p.e), .int .u32 (wd p.s), .slice A n c])] a0) => ?_
  refine sq_ <| rl_ <| wl_ <| n_ HA0 rfl (fun _ h => dd_box HS rfl (HA0.ev 0 rfl) (cs := #[.int .i64 p.k, .int .u32 (wd p.e), .int .u32 (wd p.s), .slice A n c]) rfl h) fun g1 _ HS1 _ H1 => wl_ <| n_ H1 rfl (fun _ h => dd_new HS1 #[.int .i64 0, .int .u32 0, .int .u32 0, .slice none 0 0] rfl (z := .agg #[.int .i64 0, .int .u32 0, .int .u32 0, .slice none 0 0]) (by kernel_rfl) rfl h) fun g2 _ HS2 _ H2 => ln_ <| nx <| sq_ <| rl_ <| wl_ <| n_ H2 rfl (A := fun g3 => .slice (some ⟨g3, 0, none⟩) 0 0) (fun _ h => dd_lit0 HS2 rfl rfl Try.underlying23 (sz := 33) (by kernel_rfl) h) fun g3 _ HS3 _ H3 => wl_ <| i_ H3 rfl (xf 3 3 rfl (H3.ev 1 rfl)) fun _ H4 => wl_ <| i_ H4 rfl (dd_get HS3 0 3 rfl rfl (H4.ev 4 rfl) rfl Try.underlying23 rfl) fun _ H5 => wl_ <| a_ H5 rfl (S := fun g6_7 cb6_7 => [⟨g1, 25, #[.int .i64 p.k, .int .u32 (wd p.e), .int .u32 (wd p.s), .slice A n c]⟩, ⟨g2, 25, #[.int .i64 0, .int .u32 0, .int .u32 0, .slice none 0 0]⟩, ⟨g6_7, 48, cb6_7⟩]) (fun g6_7 c6_7 => .slice (some ⟨g6_7, 0, none⟩) (0 + n) c6_7) (T := fun _ c6_7 cb6_7 => OwnC cb6_7 c6_7 (0 + n) 33 ((p.l.map pcell).flatten)) (fun _ h => dd_appX HS3 2 rfl (ownc_nil0 33) rfl (H5.ev 3 rfl) (z := .agg (catA [[.int .i64 0], bytesV (zer 32)])) (bytes := 40) Try.underlying23 (by kernel_rfl) rfl (by decide) ((p.l.map pcell).flatten) (H5.ev 5 rfl) (len_putsF hpo hpn) (fun h9 => puts_cat (HP _ HS3.below) h9) (one_putsF _) (by unfold maxLen; omega) (by omega) h) fun g6_7 c6_7 cb6_7 _ O6_7 HS6 _ H6 => wl_ <| i_ H6 rfl (xf 3 3 rfl (H6.ev 1 rfl)) fun _ H8 => wl_ <| t_ rfl (fun _ h => dd_put (cs := #[.int .i64 p.k, .int .u32 (wd p.e), .int .u32 (wd p.s), .slice (some ⟨g6_7, 0, none⟩) (0 + n) c6_7]) HS6 0 3 rfl rfl (H8.ev 7 rfl) (H8.ev 6 rfl) (by kernel_rfl) rfl rfl rfl rfl h) fun _ HS9 => ?_
  clear HS HA0 HS1 H1 HS2 H2 H3 H4 HS3 H5 H6
  refine ln_ <| nx <| sq_ <| rl_ <| wl_ <| i_ H8 rfl (v := .agg #[.int .i64 p.k, .int .u32 (wd p.e), .int .u32 (wd p.s), .slice (some ⟨g6_7, 0, none⟩) (0 + n) c6_7]) (dd_load HS9 0 0 rfl rfl (H8.ev 1 rfl) (slab_whole _) Try.underlying25 rfl (by kernel_rfl)) fun _ H10 => wl_ <| t_ rfl (fun _ h => dd_setrow HS9 1 rfl rfl (H10.ev 2 rfl) (H10.ev 8 rfl) (by kernel_rfl) (rfl : #[.int .i64 p.k, .int .u32 (wd p.e), .int .u32 (wd p.s), .slice (some ⟨g6_7, 0, none⟩) (0 + n) c6_7].size = 4) (rfl : #[.int .i64 0, .int .u32 0, .int .u32 0, .slice none 0 0].size = 4) (one_l (ao_cons rfl (ao_cons rfl (ao_cons rfl (ao_cons rfl ao_nil))))) h) fun _ HS11 => ln_ <| nx <| wp_ret <| ret_run H10.env0 (res_c Try.results7 (H10.get 2 rfl) (HS11.row 1 rfl) Try.underlying25 rfl (by kernel_rfl)) <| ?_
  clear HS6 H8 HS9
  refine ⟨g6_7, c6_7, cb6_7, congrArg (fun z => Ending.returned (.agg #[.int .i64 p.k, .int .u32 (wd p.e), .int .u32 (wd p.s), .slice (some ⟨g6_7, 0, none⟩) z c6_7])) (Nat.zero_add n), st_fresh2 HS11 2 rfl, HS11.row 2 rfl, ?_, HS11.below⟩
  have h9 := O6_7
  rw [Nat.zero_add] at h9
  exact h9
end Go.Proofs.Ytlpfdghciegnnaa

/- The statement PacketTurns: its walk. -/
set_option maxRecDepth 4000
namespace Go.Proofs.Ytlpfdghciegnnaa
open Go Go.RowKit
end Go.Proofs.Ytlpfdghciegnnaa

/- The statement PacketPlaces: its walk. -/
set_option maxRecDepth 4000
namespace Go.Proofs.Ytlpfdghciegnnaa
open Go Go.RowKit
theorem put_slA {w : World} {b o : Nat} {x : Pt} (hb : b < w.heap.size) (h : w.rangeAt b o (pcell x)) (hx : x.2.length = 32) : Slice w (.slice (some ⟨b, o + 1, none⟩) 32 32) x.2 := by
  refine ⟨some ⟨b, o + 1, none⟩, 32, by rw [hx], by rw [hx]; exact Nat.le_refl _, fun _ => ⟨b, o + 1, rfl, hb, fun j y hy => ?_⟩⟩
  have h9 := h (j + 1) (.int .u8 (bd y)) (by
    unfold pcell bytesV
    rw [List.getElem?_cons_succ, List.getElem?_map, hy]
    rfl)
  rw [show o + 1 + j = o + (j + 1) by omega]
  exact h9
end Go.Proofs.Ytlpfdghciegnnaa
