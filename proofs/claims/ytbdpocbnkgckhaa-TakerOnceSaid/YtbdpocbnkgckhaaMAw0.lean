/- Merged: Aw AwS AwD AwM AwH AwL AwN AwQ AwT AwR StF Res DskR TabFresh AwW AwX NdFn NdFn2 NdFn3 NdLaw NdTornL Chk InR AwZ AwY ChkP PktSp2 PktHd. -/
import Derived.OrdersHeld
import Derived.Deep.DeepAppendWide
import Derived.Lib.SliceRun
import Derived.RangeFuncNested
import Derived.RangeFuncBound
import Derived.RangeFuncCalls
import Derived.RangeFuncLeaves
import Derived.RangeFuncFrom
import Derived.Shelf.Abstract
import Derived.Shelf.RegionOpen
import Derived.WalkKit
import Derived.OwnWalkIn
import Derived.TacticsInMore
import Derived.LoopNIn
import Derived.LoopIn
import Derived.Test.YtbdpocbnkgckhaaMGen0
import Derived.Test.YtbdpocbnkgckhaaMStr0
import Derived.Test.YtbdpocbnkgckhaaMDisk0
import Derived.Test.YtbdpocbnkgckhaaMWal0
import Derived.Test.YtbdpocbnkgckhaaMNode0
import Derived.Test.YtbdpocbnkgckhaaMLabel0
/- Walks whose every step is one lemma: the frame as a list of slots that are known; regions in order, and regions that draw. No function of the program is named here. -/
set_option maxRecDepth 4000
namespace Go.Proofs.Ytbdpocbnkgckhaa
open Go Go.RowKit
/- the frame, as far as it is known -/
structure Env (N : Nat) (L : List (Nat × Value)) (a : Act) : Prop where
  size : a.tmps.size = N
  defers : a.defers = []
  at_ : ∀ (i k : Nat) (v : Value), L[i]? = some (k, v) → a.tmps[k]? = some v
def kp (L : List (Nat × Value)) : List Nat → List (Nat × Value)
  | [] => []
  | i :: is => match L[i]? with
    | some p => p :: kp L is
    | none => kp L is
def setd : Option Tmp → Value → List (Nat × Value) → List (Nat × Value)
  | some d, v, L => (d, v) :: L
  | none, _, L => L
def okd : Option Tmp → Nat → List (Nat × Value) → Bool
  | some d, N, L => Nat.blt d N && L.all fun p => !Nat.beq p.1 d
  | none, _, _ => true
theorem kp_at (L : List (Nat × Value)) : ∀ (is : List Nat) (i : Nat) (p : Nat × Value), (kp L is)[i]? = some p → ∃ j : Nat, L[j]? = some p
  | [], i, p, h => by simp [kp] at h
  | j :: is, i, p, h => by
    unfold kp at h
    cases hj : L[j]? with
    | none => rw [hj] at h; exact kp_at L is i p h
    | some q =>
      rw [hj] at h
      cases i with
      | zero => exact ⟨j, by rw [hj]; simpa using h⟩
      | succ i => exact kp_at L is i p (by simpa using h)
section
variable {P : Program} {N : Nat} {L : List (Nat × Value)} {a : Act}
theorem Env.ev (h : Env N L a) (i : Nat) {k : Nat} {v : Value} (hi : L[i]? = some (k, v)) : a.eval (.tmp k) = v := eval_of_get (h.at_ i k v hi)
theorem Env.get (h : Env N L a) (i : Nat) {k : Nat} {v : Value} (hi : L[i]? = some (k, v)) : a.tmps[k]? = some v := h.at_ i k v hi
theorem Env.keep (h : Env N L a) (is : List Nat) : Env N (kp L is) a := ⟨h.size, h.defers, fun i k v hi => by obtain ⟨j, hj⟩ := kp_at L is i (k, v) hi; exact h.at_ j k v hj⟩
theorem Env.put (h : Env N L a) (is : List Nat) (d : Option Tmp) (v : Value) (hk : okd d N (kp L is) = true) : Env N (setd d v (kp L is)) (a.put d v) := by
  cases d with
  | none => exact h.keep is
  | some d =>
    simp only [okd, Bool.and_eq_true, List.all_eq_true] at hk
    have hd : d < N := by have := hk.1; unfold Nat.blt at this; exact Nat.le_of_ble_eq_true this
    refine ⟨by simp [Act.put, h.size], h.defers, fun i k u hi => ?_⟩
    cases i with
    | zero =>
      have hi : (d, v) = (k, u) := by simpa [setd] using hi
      injection hi with h1 h2
      subst h1 h2
      simp [Act.put, h.size, hd]
    | succ i =>
      have hi : (kp L is)[i]? = some (k, u) := by simpa [setd] using hi
      have h1 := hk.2 _ (List.mem_of_getElem? hi)
      have hne : d ≠ k := fun e => by subst e; simp at h1
      obtain ⟨j, hj⟩ := kp_at L is i (k, u) hi
      simp only [Act.put]
      rw [Array.getElem?_setIfInBounds_ne hne]
      exact h.at_ j k u hj
theorem env_nil (hs : a.tmps.size = N) (hd : a.defers = []) : Env N [] a := ⟨hs, hd, fun i k v h => by simp at h⟩
def argL : List Value → Nat → List (Nat × Value)
  | [], _ => []
  | v :: vs, i => (i, v) :: argL vs (i + 1)
end
/- code -/
section
variable {P : Program} {Q Q' : Exit → Act → World → Prop} {K : Act → World → Prop} {a : Act} {w : World} {id j : Nat} {x y : Code}
theorem nx (h : K a w) : Exit.then K Q .normal a w := h
theorem tx (h : Q (.exit id) a w) : Exit.then K Q (.exit id) a w := h
theorem tr (h : Q .ret a w) : Exit.then K Q .ret a w := h
theorem bn (h : Q .normal a w) : Exit.inBlock id Q .normal a w := h
theorem br_ (h : Q .ret a w) : Exit.inBlock id Q .ret a w := h
theorem bx (h : Q .normal a w) : Exit.inBlock id Q (.exit id) a w := by simpa [Exit.inBlock] using h
/- a loop with what counts it down standing in no slot -/
theorem wp_loopG {ι : Type} {c : Code} (I : ι → Act → World → Prop) (μ : ι → Nat) (i0 : ι) (h0 : I i0 a w)
    (round : ∀ i a w, I i a w → c.wp P (Exit.then (fun a' w' => ∃ i', I i' a' w' ∧ μ i' < μ i) Q) a w) : (Code.loop c).wp P Q a w := by
  classical
  have key : ∀ n, ∀ i a w, μ i = n → I i a w → ∃ m, (∃ i, I i a w ∧ μ i = m) ∧ ∀ k, (∃ i, I i a w ∧ μ i = k) → m ≤ k := by
    intro n
    induction n using Nat.strongRecOn with
    | _ n ih =>
      intro i a w hn hi
      by_cases h : ∃ i', I i' a w ∧ μ i' < n
      · obtain ⟨i', h1, h2⟩ := h
        exact ih (μ i') h2 i' a w rfl h1
      · exact ⟨n, ⟨i, hi, hn⟩, fun k ⟨i', h1, h2⟩ => by
          apply Decidable.byContradiction
          intro hk
          exact h ⟨i', h1, by omega⟩⟩
  refine wp_loop (fun a w => ∃ i, I i a w) (fun a w => if h : ∃ m, (∃ i, I i a w ∧ μ i = m) ∧ ∀ k, (∃ i, I i a w ∧ μ i = k) → m ≤ k then h.choose else 0) ⟨i0, h0⟩ fun a w hI => ?_
  obtain ⟨i1, h1⟩ := hI
  have hex := key _ i1 a w rfl h1
  obtain ⟨⟨i, hi, him⟩, hmin⟩ := hex.choose_spec
  refine wp_mono (round i a w hi) fun e a' w' hq => ?_
  cases e with
  | normal =>
    obtain ⟨i', h2, h3⟩ := hq
    refine ⟨⟨i', h2⟩, ?_⟩
    have hex' := key _ i' a' w' rfl h2
    have := hex'.choose_spec.2 (μ i') ⟨i', h2, rfl⟩
    rw [dif_pos hex, dif_pos hex']
    omega
  | _ => exact hq
end
/- what a call tells when it returns -/
section
variable {P : Program} {fn : Func} {R : Ending → World → Prop} {N : Nat} {L : List (Nat × Value)} {a : Act} {w : World}
theorem ret_run (HA : Env N L a) {v : Value} (hv : (results fn a.tmps).run P w = .ok v w) (h : R (.returned v) w) : bodyPost P fn R .ret a w := ⟨HA.defers, v, hv, h⟩
theorem getD_get2 {t : Array Value} {k : Nat} {v : Value} (h : t[k]? = some v) : (t[k]?).getD undef = v := by rw [h]; rfl
theorem res_t {t : Array Value} {i : Nat} {v : Value} (hr : fn.results = #[.tmp i]) (h1 : t[i]? = some v) : (results fn t).run P w = .ok v w := by
  unfold results; simp [hr, getD_get2 h1]
theorem res_tt {t : Array Value} {i j : Nat} {v u : Value} (hr : fn.results = #[.tmp i, .tmp j]) (h1 : t[i]? = some v) (h2 : t[j]? = some u) : (results fn t).run P w = .ok (.tuple #[v, u]) w := by
  unfold results; simp [hr, getD_get2 h1, getD_get2 h2]
theorem load_cell {g : Nat} {ty t : TypeId} {cs : Array Value} {d : TypeDesc} (hg : Row w g t cs) (hu : P.underlying ty = some d) (hd : (match d with | .struct _ | .array _ _ => true | _ => false) = true) (hi : (P.info? ty).map (·.size) = some cs.size) : (loadVar ty ⟨g, 0, none⟩).run P w = .ok (.agg cs) w := run_loadVar_row w g t ty cs (0, 0) d hg hu hd hi
theorem res_c {t : Array Value} {i g : Nat} {ty ty' : TypeId} {cs : Array Value} {d : TypeDesc} (hr : fn.results = #[.cell i ty]) (h1 : t[i]? = some (.pointer (some ⟨g, 0, none⟩))) (hg : Row w g ty' cs) (hu : P.underlying ty = some d) (hd : (match d with | .struct _ | .array _ _ => true | _ => false) = true) (hi : (P.info? ty).map (·.size) = some cs.size) : (results fn t).run P w = .ok (.agg cs) w := by
  unfold results; simp [hr, getD_get2 h1, asAddr, load_cell hg hu hd hi]
theorem res_ct {t : Array Value} {i g j : Nat} {u : Value} {ty ty' : TypeId} {cs : Array Value} {d : TypeDesc} (hr : fn.results = #[.cell i ty, .tmp j]) (h1 : t[i]? = some (.pointer (some ⟨g, 0, none⟩))) (hg : Row w g ty' cs) (hu : P.underlying ty = some d) (hd : (match d with | .struct _ | .array _ _ => true | _ => false) = true) (hi : (P.info? ty).map (·.size) = some cs.size) (h2 : t[j]? = some u) : (results fn t).run P w = .ok (.tuple #[.agg cs, u]) w := by
  unfold results; simp [hr, getD_get2 h1, getD_get2 h2, asAddr, load_cell hg hu hd hi]
end
end Go.Proofs.Ytbdpocbnkgckhaa

/- The steps of a walk: one operation in a region that goes in order, or that draws. No function of the program is named here. -/
set_option maxRecDepth 4000
namespace Go.Proofs.Ytbdpocbnkgckhaa
open Go Go.RowKit
section
variable {P : Program} {Q : Exit → Act → World → Prop} {ops : Array Oper} {rest : List Oper} {o : Oper} {N : Nat} {L : List (Nat × Value)} {a : Act} {w : World}
theorem want_n (hg : o.guard = none) : Region.wanted o (yielded ops a.tmps) = true := by simp [Region.wanted, hg]
theorem want_g {j t : Nat} {b c d : Bool} (hg : o.guard = some (j, b)) (hd : dstAt ops j = some t) (ht : a.tmps[t]? = some (.bool c)) (h : (c == b) = d) : Region.wanted o (yielded ops a.tmps) = d := by
  unfold dstAt at hd
  simp only [Region.wanted, hg, yielded, hd, Option.bind_some, ht]
  rw [← h]; cases c <;> cases b <;> rfl
theorem want_u {j t : Nat} {b : Bool} (hg : o.guard = some (j, b)) (hd : dstAt ops j = some t) (ht : a.tmps[t]? = some undef) : Region.wanted o (yielded ops a.tmps) = false := by
  unfold dstAt at hd
  simp only [Region.wanted, hg, yielded, hd, Option.bind_some, ht]
  rfl
end
/- what a step knows of the slots -/
section
variable {ops : Array Oper} {n : Nat} {Vl : List (Value → World → Prop)} {a a0 : Act} {x : Nat → Value} {w : World} {o : Oper} {N : Nat} {L : List (Nat × Value)}
end
end Go.Proofs.Ytbdpocbnkgckhaa

/- What the operations yield, one by one. No function of the program is named here. -/
set_option maxRecDepth 4000
namespace Go.Proofs.Ytbdpocbnkgckhaa
open Go Go.RowKit
theorem i64_bdA (x : BitVec 8) : IntKind.i64.wrap (bd x) = bd x := by rw [IntKind.wrap_i64]; have := bd_lo x; have := bd_hi x; omega
def fieldOff (P : Program) (s : TypeId) (f : Nat) : Option Nat :=
  match P.underlying s with
  | some (.struct fields) => match fields[f]? with
    | some fd => match (P.info? fd.type).map (·.size) with
      | some (_ + 1) => some fd.offset
      | _ => none
    | none => none
  | _ => none
def arrOf (P : Program) (t : TypeId) : Option (Nat × Nat) :=
  match P.underlying t with
  | some (.array n e) => (P.info? e).map fun i => (n, i.size)
  | _ => none
def slOf (P : Program) (t : TypeId) : Option Nat :=
  match P.underlying t with
  | some (.slice e) => (P.info? e).map fun i => i.size
  | _ => none
def intOfT (P : Program) (t : TypeId) : Option IntKind :=
  match P.underlying t with
  | some (.int k) => some k
  | _ => none
def cmpI : BinOp → Int → Int → Option Bool
  | .eql, x, y => some (x == y)
  | .neq, x, y => some (x != y)
  | .lss, x, y => some (decide (x < y))
  | .leq, x, y => some (decide (x ≤ y))
  | .gtr, x, y => some (decide (x > y))
  | .geq, x, y => some (decide (x ≥ y))
  | _, _, _ => none
def ariI : BinOp → Int → Int → Option Int
  | .add, x, y => some (x + y)
  | .sub, x, y => some (x - y)
  | .mul, x, y => some (x * y)
  | _, _, _ => none
section
variable {P : Program} {o : Oper} {a : Act} {w : World} {R : Value → World → Prop}
theorem dd_mv {x : Operand} {v : Value} (ho : o.op = .move x) (hx : a.eval x = v) : (execOp a.eval o).run P w = .ok (.value v) w :=
  by simp only [execOp, ho, hx, Sem.run_pure]
theorem dd_as {x : Operand} {v : Value} (ho : o.op = .assign x) (hx : a.eval x = v) : (execOp a.eval o).run P w = .ok (.value v) w :=
  by simp only [execOp, ho, hx, Sem.run_pure]
theorem dd_pickT {c x y : Operand} {v : Value} (ho : o.op = .pick c x y) (hc : a.eval c = .bool true) (hx : a.eval x = v) : (execOp a.eval o).run P w = .ok (.value v) w :=
  by simp [execOp, ho, hc, hx, asBool]
theorem dd_pickF {c x y : Operand} {v : Value} (ho : o.op = .pick c x y) (hc : a.eval c = .bool false) (hy : a.eval y = v) : (execOp a.eval o).run P w = .ok (.value v) w :=
  by simp [execOp, ho, hc, hy, asBool]
theorem dd_nt {ty : TypeId} {x : Operand} {b c : Bool} (ho : o.op = .unOp .not ty x) (hx : a.eval x = .bool b) (hc : (!b) = c) : (execOp a.eval o).run P w = .ok (.value (.bool c)) w :=
  by simp [execOp, ho, hx, Op.unary, ← hc]
theorem dd_ext {x : Operand} {i : Nat} {vs : Array Value} {v : Value} (ho : o.op = .extract x i) (hx : a.eval x = .tuple vs) (hv : vs[i]? = some v) : (execOp a.eval o).run P w = .ok (.value v) w :=
  by simp [execOp, ho, hx, Instr.extract, hv]
theorem dd_cmp {op : BinOp} {ty ty2 : TypeId} {x y : Operand} {k : IntKind} {m n : Int} {b : Bool} (ho : o.op = .binOp op ty x y ty2) (hx : a.eval x = .int k m) (hy : a.eval y = .int k n) (hb : cmpI op m n = some b) : (execOp a.eval o).run P w = .ok (.value (.bool b)) w := by
  cases op <;> simp [cmpI] at hb <;> simp [execOp, ho, hx, hy, eqGuard, binOp, Op.intCmp, ← hb]
theorem dd_ari {op : BinOp} {ty ty2 : TypeId} {x y : Operand} {k : IntKind} {m n z z' : Int} (ho : o.op = .binOp op ty x y ty2) (hx : a.eval x = .int k m) (hy : a.eval y = .int k n) (hz : ariI op m n = some z') (hk : k.wrap z' = z) : (execOp a.eval o).run P w = .ok (.value (.int k z)) w := by
  cases op <;> simp [ariI] at hz <;> simp [execOp, ho, hx, hy, eqGuard, binOp, Op.intArith, hz, hk]
theorem dd_eqa {ty ty2 : TypeId} {x y : Operand} {cs ds : Array Value} {b : Bool} (ho : o.op = .binOp .eql ty x y ty2) (hx : a.eval x = .agg cs) (hy : a.eval y = .agg ds) (hg : P.eqGuardType P.depth ty = false) (hb : ∀ w, (Op.equalIn 10000 ty (.agg cs) (.agg ds)).run P w = .ok b w) : (execOp a.eval o).run P w = .ok (.value (.bool b)) w := by
  have e : (Op.equal ty (.agg cs) (.agg ds)).run P w = .ok b w := hb w
  simp [execOp, ho, hx, hy, eqGuard, binOp, e, hg]
theorem dd_nea {ty ty2 : TypeId} {x y : Operand} {cs ds : Array Value} {b c : Bool} (ho : o.op = .binOp .neq ty x y ty2) (hx : a.eval x = .agg cs) (hy : a.eval y = .agg ds) (hg : P.eqGuardType P.depth ty = false) (hb : ∀ w, (Op.equalIn 10000 ty (.agg cs) (.agg ds)).run P w = .ok b w) (hc : (!b) = c) : (execOp a.eval o).run P w = .ok (.value (.bool c)) w := by
  have e : (Op.equal ty (.agg cs) (.agg ds)).run P w = .ok b w := hb w
  simp [execOp, ho, hx, hy, eqGuard, binOp, e, hg, ← hc]
theorem dd_conv {src dst : TypeId} {x : Operand} {k k' : IntKind} {n z : Int} {d : TypeDesc} (ho : o.op = .convert src dst x) (hx : a.eval x = .int k' n) (hs : P.underlying src = some d) (hd : intOfT P dst = some k) (hz : k.wrap n = z) : (execOp a.eval o).run P w = .ok (.value (.int k z)) w := by
  have hu : P.underlying dst = some (.int k) := by
    unfold intOfT at hd
    cases hq : P.underlying dst with
    | none => rw [hq] at hd; cases hd
    | some q => rw [hq] at hd; cases q <;> simp_all
  simp [execOp, ho, hx, Go.convert, run_underlying hu, run_underlying hs, Conv.intToInt, hz]
theorem dd_field {s : TypeId} {x : Operand} {f g i off j : Nat} (ho : o.op = .fieldAddr s x f) (hx : a.eval x = .pointer (some ⟨g, i, none⟩)) (hf : fieldOff P s f = some off) (hj : i + off = j) : (execOp a.eval o).run P w = .ok (.value (.pointer (some ⟨g, j, none⟩))) w := by
  subst hj
  unfold fieldOff at hf
  cases hu : P.underlying s with
  | none => rw [hu] at hf; cases hf
  | some d =>
    rw [hu] at hf
    cases d with
    | struct fields =>
      simp only at hf
      cases hfd : fields[f]? with
      | none => rw [hfd] at hf; cases hf
      | some fd =>
        rw [hfd] at hf
        simp only at hf
        cases hi : P.info? fd.type with
        | none => rw [hi] at hf; cases hf
        | some inf =>
          rw [hi] at hf
          simp only [Option.map_some] at hf
          cases hs : inf.size with
          | zero => rw [hs] at hf; cases hf
          | succ m =>
            rw [hs] at hf
            simp only [Option.some.injEq] at hf
            simp [execOp, ho, hx, Instr.fieldAt, Instr.sureAddr, run_underlying hu, hfd, fieldPlace, sizeOf, typeInfo, hi, hs, Addr.add_mid, hf]
    | _ => simp only at hf; cases hf
theorem dd_idxA {t : TypeId} {x ix : Operand} {g i n sz j : Nat} {k : IntKind} {m : Int} (ho : o.op = .indexAddr t x ix) (hx : a.eval x = .pointer (some ⟨g, i, none⟩)) (hi : a.eval ix = .int k m) (ht : arrOf P t = some (n, sz)) (h0 : 0 ≤ m) (hn : m < (n : Int)) (hj : i + m.toNat * sz = j) : (execOp a.eval o).run P w = .ok (.value (.pointer (some ⟨g, j, none⟩))) w := by
  subst hj
  unfold arrOf at ht
  cases hu : P.underlying t with
  | none => rw [hu] at ht; cases ht
  | some d =>
    rw [hu] at ht
    cases d with
    | array n' e =>
      simp only at ht
      cases hq : P.info? e with
      | none => rw [hq] at ht; cases ht
      | some inf =>
        rw [hq] at ht
        simp only [Option.map_some, Option.some.injEq, Prod.mk.injEq] at ht
        obtain ⟨rfl, rfl⟩ := ht
        simp [execOp, ho, hx, hi, Instr.indexAt, Instr.sureAddr, asIntOf, run_underlying hu, sizeOf, typeInfo, hq, h0, hn, Addr.add_mid]
    | _ => simp only at ht; cases ht
theorem dd_idxS {t : TypeId} {x ix : Operand} {g i n c sz j : Nat} {k : IntKind} {m : Int} (ho : o.op = .indexAddr t x ix) (hx : a.eval x = .slice (some ⟨g, i, none⟩) n c) (hi : a.eval ix = .int k m) (ht : slOf P t = some sz) (h0 : 0 ≤ m) (hn : m < (n : Int)) (hj : i + m.toNat * sz = j) : (execOp a.eval o).run P w = .ok (.value (.pointer (some ⟨g, j, none⟩))) w := by
  subst hj
  unfold slOf at ht
  cases hu : P.underlying t with
  | none => rw [hu] at ht; cases ht
  | some d =>
    rw [hu] at ht
    cases d with
    | slice e =>
      simp only at ht
      cases hq : P.info? e with
      | none => rw [hq] at ht; cases ht
      | some inf =>
        rw [hq] at ht
        simp only [Option.map_some, Option.some.injEq] at ht
        subst ht
        simp [execOp, ho, hx, hi, Instr.indexAt, asIntOf, run_underlying hu, sizeOf, typeInfo, hq, h0, hn, Addr.add_mid]
    | _ => simp only at ht; cases ht
theorem dd_nilc {x : Operand} {p : Addr} (ho : o.op = .nilCheck x) (hx : a.eval x = .pointer (some p)) : (execOp a.eval o).run P w = .ok (.value (.pointer (some p))) w :=
  by simp [execOp, ho, hx]
theorem dd_len {x : Operand} {t : TypeId} {A : Option Addr} {n c : Nat} {e : TypeId} (ho : o.op = .call { callee := .builtin .len, args := #[x], argTypes := #[t] }) (hx : a.eval x = .slice A n c) (hu : P.underlying t = some (.slice e)) : (execOp a.eval o).run P w = .ok (.value (.int .i64 (n : Int))) w :=
  by simp [execOp, ho, resolve, invoke, builtin, Builtin.len_, hx, run_underlying hu, goInt]
theorem dd_rn {v : Value} (hr : (execOp a.eval o).run P w = .ok (.value v) w) (h : R v w) : Does P o a w R := does_run hr h
theorem dd_at {ty : TypeId} {x : Operand} (ho : o.op = .load ty x) {p : Addr} (hx : a.eval x = .pointer (some p)) {v : Value} (hc : w.cell? p = some v) {d : TypeDesc} (hu : P.underlying ty = some d) (hd : d.isRow = false) : (execOp a.eval o).run P w = .ok (.value v) w := by
  have hagg : (isAgg ty).run P w = .ok false w := by
    unfold isAgg
    rw [Sem.run_bind, run_underlying hu w]
    cases d <;> simp_all
  simp [execOp, ho, hx, Instr.loadAt, Instr.sureAddr, loadVar, Sem.run_bind, hagg, hc]
/- memory that is known as a list of blocks -/
variable {w0 : World} {F : Nat → Prop} {S : List Blk}
theorem dd_get (HS : St w0 F S w) (k i : Nat) {ty : TypeId} {x : Operand} (ho : o.op = .load ty x) {r : Blk} (hk : S[k]? = some r) (hx : a.eval x = .pointer (some ⟨r.g, i, none⟩)) {v : Value} (hv : r.cs[i]? = some v) {d : TypeDesc} (hu : P.underlying ty = some d) (hd : d.isRow = false) : (execOp a.eval o).run P w = .ok (.value v) w :=
  dd_at ho hx ((HS.row k hk).get hv) hu hd
theorem dd_load (HS : St w0 F S w) (k i : Nat) {ty : TypeId} {x : Operand} (ho : o.op = .load ty x) {r : Blk} (hk : S[k]? = some r) (hx : a.eval x = .pointer (some ⟨r.g, i, none⟩)) {cs : Array Value} (hv : (r.cs.toList.drop i).take cs.size = cs.toList) {d : TypeDesc} (hu : P.underlying ty = some d) (hd : d.isRow = true) (hi : (P.info? ty).map (·.size) = some cs.size) : (execOp a.eval o).run P w = .ok (.value (.agg cs)) w := by
  have hc := (HS.row k hk).slab i cs.toList (by simpa using hv)
  unfold execOp
  simp only [ho, hx, Instr.loadAt, Instr.sureAddr, Sem.run_bind, Sem.run_pure, Result.andThen_ok, run_loadVar_mid w r.g i ty cs.toList d hc hu hd (by simpa using hi)]
theorem dd_atN {ty : TypeId} {x : Operand} (ho : o.op = .load ty x) {g i : Nat} (hx : a.eval x = .pointer (some ⟨g, i, none⟩)) {L : List Value} (hc : w.rangeAt g i L) {d : TypeDesc} (hu : P.underlying ty = some d) (hd : d.isRow = true) (hi : (P.info? ty).map (·.size) = some L.length) : (execOp a.eval o).run P w = .ok (.value (.agg L.toArray)) w := by
  unfold execOp
  simp only [ho, hx, Instr.loadAt, Instr.sureAddr, Sem.run_bind, Sem.run_pure, Result.andThen_ok, run_loadVar_mid w g i ty L d hc hu hd hi]
theorem dd_new (HS : St w0 F S w) {e : TypeId} (cs : Array Value) (ho : o.op = .alloc e) {z : Value} (hz : (P.info? e).bind (·.zero) = some z) (hc : z.cells = cs) (h : ∀ g w', St w0 F (S ++ [⟨g, e, cs⟩]) w' → R (.pointer (some ⟨g, 0, none⟩)) w') : Does P o a w R := fun _ _ hK =>
  wp_st_alloc HS e cs ho z hz hc fun g w' h1 => hK _ _ (h g w' h1)
theorem dd_box (HS : St w0 F S w) {e : TypeId} {x : Operand} (ho : o.op = .box e x) {v : Value} (hx : a.eval x = v) {cs : Array Value} (hc : v.cells = cs) (h : ∀ g w', St w0 F (S ++ [⟨g, e, cs⟩]) w' → R (.pointer (some ⟨g, 0, none⟩)) w') : Does P o a w R := fun _ _ hK =>
  wp_st_box HS e x ho v hx cs hc fun g w' h1 => hK _ _ (h g w' h1)
theorem dd_store (HS : St w0 F S w) (k i : Nat) {ty : TypeId} {x y : Operand} (ho : o.op = .store ty x y) {r : Blk} (hk : S[k]? = some r) (hx : a.eval x = .pointer (some ⟨r.g, i, none⟩)) {v : Value} (hy : a.eval y = v) (hi : (P.info? ty).map (·.size) = some v.cells.size) (hfit : i + v.cells.size ≤ r.cs.size) (h1 : v.cells.all (·.oneCell') = true)
    {cs : Array Value} (hcs : (spl r.cs.toList i v.cells.toList).toArray = cs) (h : ∀ w', St w0 F (S.set k ⟨r.g, r.t, cs⟩) w' → R undef w') : Does P o a w R := fun _ _ hK =>
  wp_st_store HS k i ty x y ho hk hx v hy hi hfit h1 cs hcs fun w' h1 => hK _ _ (h w' h1)
theorem dd_put (HS : St w0 F S w) (k i : Nat) {ty : TypeId} {x y : Operand} (ho : o.op = .store ty x y) {r : Blk} (hk : S[k]? = some r) (hx : a.eval x = .pointer (some ⟨r.g, i, none⟩)) {v : Value} (hy : a.eval y = v) (hi : (P.info? ty).map (·.size) = some 1) (hv : v.cells = #[v]) (h1 : v.oneCell' = true) (hfit : Nat.blt i r.cs.size = true)
    {cs : Array Value} (hcs : r.cs.setIfInBounds i v = cs) (h : ∀ w', St w0 F (S.set k ⟨r.g, r.t, cs⟩) w' → R undef w') : Does P o a w R := fun _ _ hK =>
  wp_st_put HS k i ty x y ho hk hx v hy hi hv h1 (Nat.le_of_ble_eq_true hfit) cs hcs fun w' h1 => hK _ _ (h w' h1)
/- calls -/
theorem dd_call {f : FuncId} {fn : Func} {xs : Array Operand} {ts : Array TypeId} {l : List Value} {R' : Ending → World → Prop} (hf : P.funcs[f]? = some fn) (hn : (fn.name == "runtime.NumGoroutine") = false) (hb : fn.body.isNone = false) (ho : o.op = .call { callee := .value (.func f), args := xs, argTypes := ts }) (hx : (xs.map a.eval) = l.toArray) (C : Calls P f l.toArray w R')
    (h : ∀ e w', R' e w' → ∃ v, e = .returned v ∧ R v w') : Does P o a w R := fun K Q hK => by
  have hcf : (callFunc f (#[] ++ l.toArray ++ #[])).run P w = .ok (.enter f l.toArray) w := by
    have hn' : ¬ fn.name = "runtime.NumGoroutine" := by simpa using hn
    have hb' : ¬ fn.body = none := fun e => by rw [e] at hb; cases hb
    simp [callFunc, hf, hn', hb']
  have he : execOp a.eval o = callFunc f (#[] ++ l.toArray ++ #[]) := by
    unfold execOp
    rw [ho]
    simp only [resolve, Act.eval, Deferred.ofValue]
    rw [← hx]
    rfl
  unfold Oper.wp
  rw [he, hcf]
  refine Calls.mono C fun e w' hr => ?_
  obtain ⟨v, rfl, hv⟩ := h e w' hr
  exact hK v w' hv
end
/- comparisons -/
theorem lt_t {m n : Int} (h : m < n) : cmpI .lss m n = some true := by simp [cmpI, h]
theorem lt_f {m n : Int} (h : ¬ m < n) : cmpI .lss m n = some false := by simp [cmpI]; omega
theorem gt_t {m n : Int} (h : n < m) : cmpI .gtr m n = some true := by simp [cmpI, h]
theorem gt_f {m n : Int} (h : ¬ n < m) : cmpI .gtr m n = some false := by simp [cmpI]; omega
theorem ge_t {m n : Int} (h : n ≤ m) : cmpI .geq m n = some true := by simp [cmpI, h]
theorem ge_f {m n : Int} (h : ¬ n ≤ m) : cmpI .geq m n = some false := by simp [cmpI]; omega
theorem eq_t {m n : Int} (h : m = n) : cmpI .eql m n = some true := by simp [cmpI, h]
theorem eq_f {m n : Int} (h : ¬ m = n) : cmpI .eql m n = some false := by simp [cmpI, h]
theorem ne_t {m n : Int} (h : ¬ m = n) : cmpI .neq m n = some true := by simp [cmpI, h]
theorem ne_f {m n : Int} (h : m = n) : cmpI .neq m n = some false := by simp [cmpI, h]
end Go.Proofs.Ytbdpocbnkgckhaa

/- Memory in a walk: rows side by side, literals, slices of the call's own that grow. No function of the program is named here. -/
set_option maxRecDepth 4000
namespace Go.Proofs.Ytbdpocbnkgckhaa
open Go Go.RowKit
/- cells as pieces, one behind the other -/
def catA (L : List (List Value)) : Array Value := L.flatten.toArray
theorem lens_nil : ([] : List (List Value)).map List.length = [] := rfl
theorem lens_cons {l : List Value} {L : List (List Value)} {n : Nat} {ns : List Nat} (h : l.length = n) (t : L.map List.length = ns) : (l :: L).map List.length = n :: ns := by rw [List.map_cons, h, t]
theorem len_bv {q : List (BitVec 8)} {n : Nat} (h : q.length = n) : (bytesV q).length = n := by rw [len_bytesV, h]
section
variable {L M : List (List Value)} {ns : List Nat}
theorem cat_size (h : L.map List.length = ns) : (catA L).size = ns.sum := by unfold catA; rw [List.size_toArray, List.length_flatten, h]
theorem take_sum (h : L.map List.length = ns) (j : Nat) : (L.take j).flatten.length = (ns.take j).sum := by rw [List.length_flatten, List.map_take, h]
theorem cat_split (L : List (List Value)) (j : Nat) : L.flatten = (L.take j).flatten ++ (L.drop j).flatten := by rw [← List.flatten_append, List.take_append_drop]
theorem cat_slab (h : L.map List.length = ns) (j m : Nat) {off : Nat} (ho : (ns.take j).sum = off) : ((catA L).toList.drop off).take (catA ((L.drop j).take m)).size = (catA ((L.drop j).take m)).toList := by
  show (L.flatten.drop off).take _ = ((L.drop j).take m).flatten
  rw [cat_split L j, List.drop_left' (by rw [take_sum h j, ho]), cat_split (L.drop j) m]
  exact List.take_left' (by unfold catA; simp)
theorem cat_slab1 (h : L.map List.length = ns) (j : Nat) {off : Nat} {l : List Value} (ho : (ns.take j).sum = off) (hl : L[j]? = some l) : ((catA L).toList.drop off).take l.toArray.size = l.toArray.toList := by
  have e := cat_slab h j 1 ho
  have e1 : (L.drop j).take 1 = [l] := by
    have hj := (List.getElem?_eq_some_iff.1 hl)
    obtain ⟨hj, hjl⟩ := hj
    rw [List.drop_eq_getElem_cons hj, List.take_succ_cons, List.take_zero, hjl]
  rw [e1] at e
  have e2 : catA [l] = l.toArray := by unfold catA; simp
  rwa [e2] at e
theorem cat_get (h : L.map List.length = ns) (j : Nat) {off : Nat} {v : Value} (ho : (ns.take j).sum = off) (hl : L[j]? = some [v]) : (catA L)[off]? = some v := by
  have hj := (List.getElem?_eq_some_iff.1 hl)
  obtain ⟨hj, hjl⟩ := hj
  unfold catA
  rw [List.getElem?_toArray, cat_split L j, List.getElem?_append_right (by rw [take_sum h j, ho]; exact Nat.le_refl _), take_sum h j, ho, Nat.sub_self, List.drop_eq_getElem_cons hj, hjl]
  rfl
theorem cat_store (h : L.map List.length = ns) (j m : Nat) {off : Nat} (ho : (ns.take j).sum = off) (hm : M.flatten.length = ((ns.drop j).take m).sum) : (spl (catA L).toList off M.flatten).toArray = catA (L.take j ++ M ++ L.drop (j + m)) := by
  unfold catA spl
  have e1 : (L.take j).flatten.length = off := by rw [take_sum h j, ho]
  have e2 : ((L.drop j).take m).flatten.length = M.flatten.length := by rw [hm, List.length_flatten, List.map_take, List.map_drop, h]
  rw [List.flatten_append, List.flatten_append]
  congr 1
  rw [cat_split L j, List.take_left' e1, List.append_assoc, List.append_assoc]
  congr 2
  rw [← List.drop_drop, List.drop_left' e1, cat_split (L.drop j) m, List.drop_left' e2, List.drop_drop]
theorem cat_store1 (h : L.map List.length = ns) (j : Nat) {off n : Nat} {cs : Array Value} (ho : (ns.take j).sum = off) (hm : cs.size = n) (hn : ns[j]? = some n) : (spl (catA L).toList off (Value.agg cs).cells.toList).toArray = catA (L.set j cs.toList) := by
  have hj : j < ns.length := (List.getElem?_eq_some_iff.1 hn).1
  have hjL : j < L.length := by rw [← h] at hj; simpa using hj
  have e := cat_store (M := [cs.toList]) h j 1 ho (by
    rw [List.drop_eq_getElem_cons hj, List.take_succ_cons, List.take_zero]
    have := (List.getElem?_eq_some_iff.1 hn).2
    simp [this, hm])
  have e3 : (Value.agg cs).cells.toList = [cs.toList].flatten := by simp [Value.cells]
  rw [e3, e, List.set_eq_take_append_cons_drop, if_pos hjL]
  simp
theorem cat_one (h : ∀ l ∈ L, ∀ v ∈ l, Value.oneCell' v = true) : (Value.agg (catA L)).cells.all (·.oneCell') = true := by
  show (catA L).all _ = true
  unfold catA
  simp only [List.all_toArray, List.all_eq_true, List.mem_flatten]
  rintro v ⟨l, hl, hv⟩
  exact h l hl v hv
end
/- literals of structs and arrays, field by field; what is not given is zero -/
def setSegs : List (List Value) → List (Nat × Value) → List (List Value)
  | L, [] => L
  | L, (i, v) :: r => setSegs (L.set i v.cells.toList) r
def zsegs (P : Program) (t : TypeId) : Option (List (List Value)) :=
  match P.info? t, P.underlying t with
  | some it, some (.struct fields) => match it.zero, fields.toList.mapM (fun f => (P.info? f.type).map fun i => (f.offset, i.size)) with
    | some z, some places => if fits 0 (places.map (·.2)) places && ((places.map (·.2)).sum == z.cells.size) then some (places.map fun p => (z.cells.toList.drop p.1).take p.2) else none
    | _, _ => none
  | _, _ => none
theorem set_same {l : List Nat} {i : Nat} {x : Nat} (h : l[i]? = some x) : l.set i x = l := by
  apply List.ext_getElem?
  intro k
  by_cases hk : i = k
  · subst hk
    rw [List.getElem?_set_self (List.getElem?_eq_some_iff.1 h).1, h]
  · rw [List.getElem?_set_ne hk]
theorem fill_segs (place : Nat → Option (Nat × Nat)) : ∀ (ps : List (Nat × Value)) (L : List (List Value)) (ns : List Nat), L.map List.length = ns → (∀ i s, ns[i]? = some s → place i = some ((ns.take i).sum, s)) → (∀ p ∈ ps, ns[p.1]? = some p.2.cells.size) →
    Instr.fill place (catA L) ps = some (catA (setSegs L ps))
  | [], L, ns, _, _, _ => by simp [Instr.fill, setSegs]
  | (i, v) :: ps, L, ns, h, hp, hf => by
    have h1 := hf (i, v) (by simp)
    have hplace := hp i _ h1
    simp only at h1 hplace
    have hi : i < ns.length := (List.getElem?_eq_some_iff.1 h1).1
    have hv : v.cells.toList.length = v.cells.size := Array.length_toList
    have hle : (ns.take i).sum + v.cells.size ≤ (catA L).size := by
      rw [cat_size h]
      have e := congrArg List.sum (List.take_append_drop i ns)
      rw [List.sum_append, List.drop_eq_getElem_cons hi, List.sum_cons, (List.getElem?_eq_some_iff.1 h1).2] at e
      omega
    have e := fill_set (ns.take i).sum v.cells (catA L) hle
    have e2 := cat_store1 (L := L) (cs := v.cells) h i rfl rfl h1
    have e3 : (Value.agg v.cells).cells.toList = v.cells.toList := rfl
    rw [e3] at e2
    simp only [Instr.fill, hplace]
    rw [if_neg (by simp; omega), e, e2, setSegs]
    refine fill_segs place ps _ ns ?_ hp fun p hp => hf p (by simp [hp])
    rw [List.map_set, h, hv]
    exact set_same h1
theorem zsegs_flat {P : Program} {t : TypeId} {Lz : List (List Value)} (hz : zsegs P t = some Lz) (ps : List (Nat × Value)) (hf : ∀ p ∈ ps, (Lz.map List.length)[p.1]? = some p.2.cells.size) : P.built t ps = some (catA (setSegs Lz ps)) := by
  unfold zsegs at hz
  unfold Program.built
  cases hit : P.info? t with
  | none => simp [hit] at hz
  | some it =>
    cases hu : P.underlying t with
    | none => simp [hit, hu] at hz
    | some d =>
      cases d <;> try (simp [hit, hu] at hz; done)
      case struct fields =>
        simp only [hit, hu] at hz ⊢
        cases hzz : it.zero with
        | none => simp [hzz] at hz
        | some z =>
          cases hm : fields.toList.mapM (fun f => (P.info? f.type).map fun i => (f.offset, i.size)) with
          | none => simp [hzz, hm] at hz
          | some pl =>
            simp only [hzz, hm] at hz ⊢
            split at hz
            · rename_i hc
              simp only [Bool.and_eq_true, beq_iff_eq] at hc
              obtain ⟨hfit, hsum⟩ := hc
              injection hz with hz
              have hzl : z.cells.toList.length = z.cells.size := Array.length_toList
              have hat := fits_at _ 0 pl hfit
              have hlens : Lz.map List.length = pl.map (·.2) := by
                rw [← hz, List.map_map]
                refine List.map_congr_left fun p hp => ?_
                obtain ⟨k, hk⟩ := List.getElem?_of_mem hp
                have h2 := hat k p.2 (by simp [hk])
                rw [hk] at h2
                injection h2 with h2
                have h3 : p.1 = ((pl.map (·.2)).take k).sum := by rw [h2]; simp
                have hlt : k < (pl.map (·.2)).length := by have := (List.getElem?_eq_some_iff.1 hk).1; simpa using this
                have e := congrArg List.sum (List.take_append_drop k (pl.map (·.2)))
                rw [List.sum_append, List.drop_eq_getElem_cons hlt, List.sum_cons] at e
                have h4 : (pl.map (·.2))[k] = p.2 := by have := (List.getElem?_eq_some_iff.1 hk).2; simp [this]
                simp only [Function.comp, List.length_take, List.length_drop]
                omega
              have hflat : ∀ (ss : List Nat) (o : Nat) (pl : List (Nat × Nat)) (l : List Value), fits o ss pl = true → (pl.map fun p => (l.drop p.1).take p.2).flatten = (l.drop o).take ss.sum := by
                intro ss
                induction ss with
                | nil => intro o pl l h
                         cases pl with
                         | nil => simp
                         | cons => simp [fits] at h
                | cons s ss ih =>
                  intro o pl l h
                  cases pl with
                  | nil => simp [fits] at h
                  | cons p pl =>
                    obtain ⟨o', s'⟩ := p
                    simp only [fits, Bool.and_eq_true, beq_iff_eq] at h
                    obtain ⟨⟨rfl, rfl⟩, h⟩ := h
                    simp only [List.map_cons, List.flatten_cons, List.sum_cons]
                    rw [ih _ _ _ h, List.take_add, List.drop_drop]
              have hcat : catA Lz = z.cells := by
                unfold catA
                rw [← hz, hflat _ 0 pl _ hfit, List.drop_zero, hsum, List.take_of_length_le (by omega)]
              rw [← hcat]
              refine fill_segs _ ps Lz _ rfl (fun i s hs => ?_) hf
              rw [hlens] at hs ⊢
              rw [List.getElem?_toArray, hat i s hs, Nat.zero_add]
            · cases hz
section
variable {P : Program} {o : Oper} {a : Act} {w : World} {R : Value → World → Prop}
theorem fit_nil {ns : List Nat} : ∀ p ∈ ([] : List (Nat × Value)), ns[p.1]? = some p.2.cells.size := fun p h => by cases h
theorem fit_cons {ns : List Nat} {i n : Nat} {v : Value} {ps : List (Nat × Value)} (h : ns[i]? = some n) (hv : v.cells.size = n) (t : ∀ p ∈ ps, ns[p.1]? = some p.2.cells.size) : ∀ p ∈ (i, v) :: ps, ns[p.1]? = some p.2.cells.size := fun p hp => by
  cases hp with
  | head => rw [h, hv]
  | tail _ hp => exact t p hp
theorem dd_bld {t : TypeId} {parts : Array (Nat × Operand)} {ps : List (Nat × Value)} {Lz : List (List Value)} {ns : List Nat} {cs : Array Value} (ho : o.op = .build t parts) (hp : (parts.map fun (i, x) => (i, a.eval x)).toList = ps) (hz : zsegs P t = some Lz) (hL : Lz.map List.length = ns) (hf : ∀ p ∈ ps, ns[p.1]? = some p.2.cells.size)
    (hc : catA (setSegs Lz ps) = cs) : (execOp a.eval o).run P w = .ok (.value (.agg cs)) w := by
  subst hL hc
  have hb := zsegs_flat hz ps hf
  rw [← hp] at hb ⊢
  unfold execOp
  simp only [ho, Sem.run_bind, run_build w t _ _ hb, Result.andThen_ok, Sem.run_pure]
end
theorem dd_bldk {P : Program} {o : Oper} {a : Act} {w : World} {t : TypeId} {parts : Array (Nat × Operand)} {ps : List (Nat × Value)} {cs : Array Value} (ho : o.op = .build t parts) (hp : (parts.map fun (i, x) => (i, a.eval x)).toList = ps) (hb : P.built t ps = some cs) : (execOp a.eval o).run P w = .ok (.value (.agg cs)) w := by
  rw [← hp] at hb
  unfold execOp
  simp only [ho, Sem.run_bind, run_build w t _ cs hb, Result.andThen_ok, Sem.run_pure]
/- slices of the call's own: the block that they lie in -/
structure OwnC (cb : Array Value) (c n sz : Nat) (L : List Value) : Prop where
  le : n ≤ c
  cap : c ≤ maxLen
  size : cb.size = c * sz
  len : L.length = n * sz
  take : cb.toList.take (n * sz) = L
theorem ownc_to {w : World} {g e c n sz b : Nat} {cb : Array Value} {L : List Value} (h : Row w g e cb) (O : OwnC cb c n sz L) (hb : b ≤ g) : w.ownsRow b e sz (.slice (some ⟨g, 0, none⟩) n c) n L :=
  ⟨O.len, .inr ⟨g, c, cb, rfl, hb, h, O.le, O.cap, O.size, O.take⟩⟩
theorem ownc_of {w : World} {b e n sz : Nat} {v : Value} {L : List Value} (h : w.ownsRow b e sz v n L) (h0 : v ≠ .slice none 0 0) : ∃ g c cb, v = .slice (some ⟨g, 0, none⟩) n c ∧ b ≤ g ∧ Row w g e cb ∧ OwnC cb c n sz L := by
  obtain ⟨hl, h | ⟨g, cap, cur, h1, h2, h3, h4, h5, h6, h7⟩⟩ := h
  · exact absurd h.1 h0
  · exact ⟨g, cap, cur, h1, h2, h3, h4, h5, h6, hl, h7⟩
theorem ownc_pos {w : World} {b e n sz : Nat} {v : Value} {L : List Value} (h : w.ownsRow b e sz v n L) (h0 : 0 < n) : ∃ g c cb, v = .slice (some ⟨g, 0, none⟩) n c ∧ b ≤ g ∧ Row w g e cb ∧ OwnC cb c n sz L := by
  refine ownc_of h fun e => ?_
  rcases h.2 with h | ⟨g, cap, cur, h1, _⟩
  · omega
  · rw [e] at h1; cases h1
/- memory as a list of blocks: one goes, one comes -/
theorem st_erase {w0 w : World} {F : Nat → Prop} {S : List Blk} (h : St w0 F S w) (k : Nat) : St w0 F (S.eraseIdx k) w := by
  have at_ : ∀ j r, (S.eraseIdx k)[j]? = some r → ∃ i, S[i]? = some r ∧ i = (if j < k then j else j + 1) := fun j r hj => by
    rw [List.getElem?_eraseIdx] at hj
    split at hj
    · exact ⟨j, hj, by rw [if_pos (by assumption)]⟩
    · exact ⟨j + 1, hj, by rw [if_neg (by assumption)]⟩
  refine ⟨h.chg, fun j r hj => ?_, fun i j r s hij hi hj => ?_, fun j r hj => ?_⟩
  · obtain ⟨i, hi, _⟩ := at_ j r hj; exact h.rows i r hi
  · obtain ⟨i', hi', ei⟩ := at_ i r hi
    obtain ⟨j', hj', ej⟩ := at_ j s hj
    refine h.apart i' j' r s (fun e => hij ?_) hi' hj'
    rw [ei, ej] at e
    split at e <;> split at e <;> omega
  · obtain ⟨i, hi, _⟩ := at_ j r hj; exact h.own i r hi
theorem St.joins {w0 W W' : World} {F : Nat → Prop} {S : List Blk} (h : St w0 F S W) (hb : Below W.heap.size W W') {g : Nat} {t : TypeId} {cs : Array Value} (hr : Row W' g t cs) (hg : W.heap.size ≤ g) : St w0 F (S ++ [⟨g, t, cs⟩]) W' :=
  (h.same hb).join hr (Nat.le_trans h.chg.size hg) fun b hm e => by have := h.lt hm; omega
theorem st_snoc {w0 w : World} {F : Nat → Prop} {S : List Blk} (h : St w0 F S w) {g : Nat} {t : TypeId} {cs : Array Value} (hr : Row w g t cs) (hg : F g ∨ w0.heap.size ≤ g) (hne : ∀ b ∈ S, b.g ≠ g) : St w0 F (S ++ [⟨g, t, cs⟩]) w := by
  have at_ : ∀ (j : Nat) (s : Blk), (S ++ [(⟨g, t, cs⟩ : Blk)])[j]? = some s → (j < S.length ∧ S[j]? = some s) ∨ (j = S.length ∧ s = ⟨g, t, cs⟩) := fun j s hj => by
    by_cases e : j < S.length
    · rw [List.getElem?_append_left e] at hj; exact .inl ⟨e, hj⟩
    · rw [List.getElem?_append_right (by omega)] at hj
      have e2 : j - S.length = 0 := by
        rcases Nat.eq_zero_or_pos (j - S.length) with h0 | h0
        · exact h0
        · rw [List.getElem?_eq_none (by simp; omega)] at hj; cases hj
      rw [e2] at hj
      exact .inr ⟨by omega, (Option.some.inj hj).symm⟩
  refine ⟨h.chg, fun j s hj => ?_, fun i j s u hij hi hj => ?_, fun j s hj => ?_⟩
  · rcases at_ j s hj with ⟨_, hk⟩ | ⟨_, rfl⟩
    · exact h.rows j s hk
    · exact hr
  · rcases at_ i s hi with ⟨_, hk⟩ | ⟨e1, rfl⟩ <;> rcases at_ j u hj with ⟨_, hu⟩ | ⟨e2, rfl⟩
    · exact h.apart _ _ _ _ hij hk hu
    · exact hne s (List.mem_of_getElem? hk)
    · exact fun e => hne u (List.mem_of_getElem? hu) e.symm
    · omega
  · rcases at_ j s hj with ⟨_, hk⟩ | ⟨_, rfl⟩
    · exact h.own j s hk
    · exact hg
section
variable {P : Program} {o : Oper} {a : Act} {w w0 : World} {R : Value → World → Prop} {F : Nat → Prop} {S : List Blk}
/- a literal slice -/
theorem dd_lits (HS : St w0 F S w) {t e : TypeId} {len : Nat} {parts : Array (Nat × Operand)} (cells : Array Value) (ho : o.op = .buildSlice t len parts) {ps : List (Nat × Value)} (hp : (parts.map fun (i, x) => (i, a.eval x)).toList = ps) {z : Value} {sz : Nat}
    (hu : P.underlying t = some (.slice e)) (hie : (P.info? e).map (fun i => (i.zero, i.size)) = some (some z, sz)) (hpos : Nat.blt 0 (len * sz) = true) (hsmall : Nat.ble (len * sz) 16777216 = true)
    (hf : Instr.fill (fun i => some (i * sz, sz)) ((Array.range (len * sz)).map (z.cells[· % z.cells.size]!)) ps = some cells)
    (h : ∀ g w', St w0 F (S ++ [⟨g, e, cells⟩]) w' → R (.slice (some ⟨g, 0, none⟩) len len) w') : Does P o a w R := fun _ _ hK => by
  obtain ⟨ie, hi, he⟩ := Option.map_eq_some_iff.1 hie
  injection he with hz hsz
  subst hsz
  have h1 := Nat.le_of_ble_eq_true hsmall
  have h2 : 0 < len * ie.size := Nat.le_of_ble_eq_true hpos
  exact wp_buildSlice t e len parts ho cells ie z hu hi hz (by omega) (by omega) (by rw [hp]; exact hf) (hK _ _ (h _ _ (HS.snoc e cells)))
/- append to a slice whose block is known -/
theorem dd_app (HS : St w0 F S w) (k : Nat) {g c n sz : Nat} {cb : Array Value} {e t : TypeId} {L : List Value} (hk : S[k]? = some ⟨g, e, cb⟩) (O : OwnC cb c n sz L) {s x : Operand} (ho : o.op = .call { callee := .builtin .append, args := #[s, x], argTypes := #[t, t] })
    (hs : a.eval s = .slice (some ⟨g, 0, none⟩) n c) {z : Value} {bytes : Nat} (ht : P.underlying t = some (.slice e)) (hi : (P.info? e).map (fun i => (i.zero, i.size, i.bytes)) = some (some z, sz, bytes)) (hzs : z.cells.size = sz) (hsz : 0 < sz)
    {ad : Addr} {m c2 : Nat} (news : List Value) (hx : a.eval x = .slice (some ad) m c2) (hl : news.length = m * sz) (hnews : ∀ j u, news[j]? = some u → w.cell? (ad.add j) = some u) (h1 : ∀ u ∈ news, u.oneCell' = true)
    (h63 : n + m ≤ maxLen) (hbytes : (n + m) * bytes ≤ 140737488355328)
    (h : ∀ g' c' cb' w', OwnC cb' c' (n + m) sz (L ++ news) → St w0 F (S.eraseIdx k ++ [⟨g', e, cb'⟩]) w' → R (.slice (some ⟨g', 0, none⟩) (n + m) c') w') : Does P o a w R := fun _ _ hK => by
  have hrow := HS.row k hk
  have hown := ownc_to hrow O (Nat.zero_le g)
  obtain ⟨i, hi1, hz1, hz2, hz3⟩ := info_parts hi
  obtain ⟨v', w', hr, h2, h3, h4⟩ := run_append_where (P := P) w 0 t o.type e i z sz bytes ht hi1 hz1 hz2 hz3 hzs hsz _ n L hown ad m c2 news hl hnews h1 h63 hbytes (Nat.zero_le _)
  obtain ⟨v3, w3, hr3, _, _, h6⟩ := run_append_own (P := P) w 0 t o.type e i z sz bytes ht hi1 hz1 hz2 hz3 hzs hsz _ n L hown ad m c2 news hl hnews h1 h63 hbytes (Nat.zero_le _)
  rw [hr] at hr3
  injection hr3 with hr3 _
  subst hr3
  obtain ⟨g', c', cb', rfl, _, hrow', O'⟩ := ownc_of h2 (fun ev => by have := (h6.1 ev).1; cases this)
  have hne : ∀ j r, S[j]? = some r → j ≠ k → r.g ≠ g' := fun j r hj hjk e' => by
    have hjr := HS.rows j r hj
    rcases h4.cases (k := g') rfl with h5 | h5
    · injection h5 with h5
      have h5 : g = g' := h5
      exact HS.apart j k r _ hjk hj hk (by rw [e', ← h5])
    · have := hjr.lt; omega
  have hS1 : St w0 F (S.eraseIdx k) w' := by
    have hE := st_erase HS k
    have hg : F g ∨ w0.heap.size ≤ g := HS.own k _ hk
    have hrows : ∀ b ∈ S.eraseIdx k, b.g ≠ g := fun b hb e' => by
      obtain ⟨j, hj⟩ := List.getElem?_of_mem hb
      rw [List.getElem?_eraseIdx] at hj
      split at hj
      · exact HS.apart j k b _ (by omega) hj hk e'
      · exact HS.apart (j + 1) k b _ (by omega) hj hk e'
    exact ⟨hE.chg.grown h3 (fun j e' => by injection e' with e'; have e' : g = j := e'; subst e'; exact hg), fun j r hj => (hE.rows j r hj).only h3 (hrows r (List.mem_of_getElem? hj)), hE.apart, hE.own⟩
  have hg' : F g' ∨ w0.heap.size ≤ g' := by
    rcases h4.cases (k := g') rfl with h5 | h5
    · injection h5 with h5
      have h5 : g = g' := h5
      rw [← h5]; exact HS.own k _ hk
    · exact .inr (Nat.le_trans HS.chg.size h5)
  have hS2 := st_snoc hS1 hrow' hg' (fun b hb => by
    obtain ⟨j, hj⟩ := List.getElem?_of_mem hb
    rw [List.getElem?_eraseIdx] at hj
    split at hj
    · exact hne j b hj (by omega)
    · exact hne (j + 1) b hj (by omega))
  unfold Oper.wp execOp
  simp only [ho, resolve, invoke, builtin, Sem.run_bind, Sem.run_pure, Result.andThen_ok, List.map_toArray, List.map_cons, List.map_nil, hs, hx, hr]
  exact hK _ _ (h g' c' cb' w' O' hS2)
theorem dd_setrow (HS : St w0 F S w) (k : Nat) {ty : TypeId} {x y : Operand} (ho : o.op = .store ty x y) {g n : Nat} {t : TypeId} {old cs : Array Value} (hk : S[k]? = some ⟨g, t, old⟩) (hx : a.eval x = .pointer (some ⟨g, 0, none⟩)) (hy : a.eval y = .agg cs) (hi : (P.info? ty).map (·.size) = some n) (hn : cs.size = n) (hn2 : old.size = n) (h1 : (Value.agg cs).cells.all (·.oneCell') = true)
    (h : ∀ w', St w0 F (S.set k ⟨g, t, cs⟩) w' → R undef w') : Does P o a w R :=
  dd_store HS k 0 ho hk hx hy (by rw [hi, show (Value.agg cs).cells.size = n from hn]) (by show 0 + cs.size ≤ old.size; omega) h1 (spl_agg _ _ _ rfl (by show old.size = cs.size; omega)) h
end
def Ones (L : List (List Value)) : Prop := ∀ l ∈ L, ∀ v ∈ l, Value.oneCell' v = true
theorem ones_nil : Ones [] := fun l h => by cases h
theorem ones_cons {l : List Value} {L : List (List Value)} (h : ∀ v ∈ l, Value.oneCell' v = true) (t : Ones L) : Ones (l :: L) := fun m hm => by
  cases hm with
  | head => exact h
  | tail _ hm => exact t m hm
theorem ones_c {v : Value} (h : Value.oneCell' v = true) : ∀ u ∈ [v], Value.oneCell' u = true := fun u hu => by
  cases hu with
  | head => exact h
  | tail _ hu => cases hu
theorem all_one {cs : Array Value} (h : (Value.agg cs).cells.all (·.oneCell') = true) : ∀ v ∈ cs.toList, Value.oneCell' v = true := fun v hv => (Array.all_eq_true_iff_forall_mem.1 h) v (by simpa [Value.cells] using hv)
theorem ao_nil : ∀ v ∈ ([] : List Value), Value.oneCell' v = true := fun v h => by cases h
theorem ao_cons {v : Value} {l : List Value} (h : Value.oneCell' v = true) (t : ∀ v ∈ l, Value.oneCell' v = true) : ∀ u ∈ v :: l, Value.oneCell' u = true := fun u hu => by
  cases hu with
  | head => exact h
  | tail _ hu => exact t u hu
theorem one_l {l : List Value} (h : ∀ v ∈ l, Value.oneCell' v = true) : (Value.agg l.toArray).cells.all (·.oneCell') = true := by
  show l.toArray.all _ = true
  simpa using h
theorem args0 {f : Operand → Value} : (#[] : Array Operand).map f = ([] : List Value).toArray := by simp
theorem args1 {f : Operand → Value} {x1 : Operand} {v1 : Value} (h1 : f x1 = v1) : (#[x1] : Array Operand).map f = [v1].toArray := by simp [h1]
theorem args2 {f : Operand → Value} {x1 x2 : Operand} {v1 v2 : Value} (h1 : f x1 = v1) (h2 : f x2 = v2) : (#[x1, x2] : Array Operand).map f = [v1, v2].toArray := by simp [h1, h2]
theorem args3 {f : Operand → Value} {x1 x2 x3 : Operand} {v1 v2 v3 : Value} (h1 : f x1 = v1) (h2 : f x2 = v2) (h3 : f x3 = v3) : (#[x1, x2, x3] : Array Operand).map f = [v1, v2, v3].toArray := by simp [h1, h2, h3]
theorem args4 {f : Operand → Value} {x1 x2 x3 x4 : Operand} {v1 v2 v3 v4 : Value} (h1 : f x1 = v1) (h2 : f x2 = v2) (h3 : f x3 = v3) (h4 : f x4 = v4) : (#[x1, x2, x3, x4] : Array Operand).map f = [v1, v2, v3, v4].toArray := by simp [h1, h2, h3, h4]
theorem pr1 {i : Nat} {f : Operand → Value} {x : Operand} {v : Value} {l : List (Nat × Operand)} {ps : List (Nat × Value)} (h : f x = v) (t : (l.toArray.map fun (i, x) => (i, f x)).toList = ps) : (((i, x) :: l).toArray.map fun (i, x) => (i, f x)).toList = (i, v) :: ps := by
  simp only [List.map_toArray, List.map_cons, h] at *
  simpa using t
theorem pr0 {f : Operand → Value} : (([] : List (Nat × Operand)).toArray.map fun (i, x) => (i, f x)).toList = [] := by simp
/- bytes that a slice reads, as what is appended -/
theorem slice_news {w : World} {ad : Addr} {m c : Nat} {q : List (BitVec 8)} (h : Slice w (.slice (some ad) m c) q) : ∀ (j : Nat) (u : Value), (bytesV q)[j]? = some u → w.cell? (ad.add j) = some u := fun j u hu => by
  have hj : j < (bytesV q).length := (List.getElem?_eq_some_iff.1 hu).1
  rw [len_bytesV] at hj
  obtain ⟨A, c', e, _, h3⟩ := h
  injection e with e1 _ _
  subst e1
  obtain ⟨b, o, e2, _, h4⟩ := h3 (fun e => by rw [e] at hj; simp at hj)
  injection e2 with e2
  subst e2
  have h5 := h4 j q[j] (List.getElem?_eq_getElem hj)
  rw [Addr.add_mid, h5]
  simp [bytesV, List.getElem?_eq_getElem hj] at hu
  rw [hu]
theorem len_app {p q : List (BitVec 8)} {n m : Nat} (h : p.length = n) (k : q.length = m) : (p ++ q).length = n + m := by rw [List.length_append, h, k]
theorem slice_own {w : World} {g c n : Nat} {cb : Array Value} {t : TypeId} {q : List (BitVec 8)} (h : Row w g t cb) (O : OwnC cb c n 1 (bytesV q)) (hq : q.length = n) : Slice w (.slice (some ⟨g, 0, none⟩) n c) q := by
  subst hq
  refine ⟨_, c, rfl, O.le, fun _ => ⟨g, 0, rfl, h.lt, fun j x hx => ?_⟩⟩
  have hj : j < q.length := (List.getElem?_eq_some_iff.1 hx).1
  rw [Nat.zero_add]
  refine h.get ?_
  have h1 := O.take
  rw [Nat.mul_one] at h1
  rw [← Array.getElem?_toList, ← List.getElem?_take_of_lt hj, h1]
  simp [bytesV, hx]
theorem item_own {w : World} {g c n : Nat} {cb : Array Value} {t : TypeId} {q : List (BitVec 8)} (h : Row w g t cb) (O : OwnC cb c n 1 (bytesV q)) (hq : q.length = n) : Item w (.slice (some ⟨g, 0, none⟩) n c) q :=
  ⟨_, c, by rw [hq], by rw [hq]; exact slice_own h O hq, fun h => (by cases h), by rw [hq]; exact Nat.le_trans O.le O.cap⟩
theorem len_drop {q : List (BitVec 8)} {n k m : Nat} (h : q.length = n) (hm : n - k = m) : (q.drop k).length = m := by rw [List.length_drop, h, hm]
theorem len_take {q : List (BitVec 8)} {n k : Nat} (h : q.length = n) (hk : k ≤ n) : (q.take k).length = k := by rw [List.length_take, h]; omega
theorem row_news {w : World} {g : Nat} {t : TypeId} {cs : Array Value} (h : Row w g t cs) (o : Nat) {L : List Value} (hL : (cs.toList.drop o).take L.length = L) : ∀ (j : Nat) (u : Value), L[j]? = some u → w.cell? ((⟨g, o, none⟩ : Addr).add j) = some u := fun j u hu => by
  rw [Addr.add_mid]; exact h.slab o L hL j u hu
theorem ownc_app {cb : Array Value} {c n : Nat} {p q : List (BitVec 8)} (h : OwnC cb c n 1 (bytesV p ++ bytesV q)) : OwnC cb c n 1 (bytesV (p ++ q)) := (show bytesV (p ++ q) = bytesV p ++ bytesV q by simp [bytesV]) ▸ h
section
variable {P : Program} {o : Oper} {a : Act} {w : World} {R : Value → World → Prop}
theorem dd_slA {t : TypeId} {x : Operand} {g i n sz : Nat} (ho : o.op = .slice t x none none none) (hx : a.eval x = .pointer (some ⟨g, i, none⟩)) (ht : arrOf P t = some (n, sz)) : (execOp a.eval o).run P w = .ok (.value (.slice (some ⟨g, i, none⟩) n n)) w := by
  unfold arrOf at ht
  cases hu : P.underlying t with
  | none => rw [hu] at ht; cases ht
  | some d =>
    rw [hu] at ht
    cases d with
    | array n' e =>
      simp only at ht
      cases hq : P.info? e with
      | none => rw [hq] at ht; cases ht
      | some inf =>
        rw [hq] at ht
        simp only [Option.map_some, Option.some.injEq, Prod.mk.injEq] at ht
        obtain ⟨rfl, rfl⟩ := ht
        simp [execOp, ho, hx, Instr.sliceAt, Instr.sureAddr, run_underlying hu, sizeOf, typeInfo, hq, Instr.sliceBounds, Addr.add_mid]
    | _ => simp only at ht; cases ht
theorem dd_sllh {t : TypeId} {x lo hi : Operand} {g i n c sz j : Nat} {k k' : IntKind} {l u : Nat} (ho : o.op = .slice t x (some lo) (some hi) none) (hx : a.eval x = .slice (some ⟨g, i, none⟩) n c) (hl : a.eval lo = .int k (l : Int)) (hh : a.eval hi = .int k' (u : Int)) (ht : slOf P t = some sz) (h1 : l ≤ u) (h2 : u ≤ c) (h3 : l < c) (hj : i + l * sz = j) {n' c' : Nat} (hn : u - l = n') (hc : c - l = c')
    : (execOp a.eval o).run P w = .ok (.value (.slice (some ⟨g, j, none⟩) n' c')) w := by
  subst hj hn hc
  unfold slOf at ht
  cases hu : P.underlying t with
  | none => rw [hu] at ht; cases ht
  | some d =>
    rw [hu] at ht
    cases d with
    | slice e =>
      simp only at ht
      cases hq : P.info? e with
      | none => rw [hq] at ht; cases ht
      | some inf =>
        rw [hq] at ht
        simp only [Option.map_some, Option.some.injEq] at ht
        subst ht
        have e3 : ¬ c = l := by omega
        simp [execOp, ho, hx, hl, hh, Instr.sliceAt, run_underlying hu, Instr.slice, Instr.sliceBounds, Instr.sliceBound, asIntOf, sizeOf, typeInfo, hq, h1, h2, e3, Addr.add_mid]
    | _ => simp only at ht; cases ht
theorem dd_sll {t : TypeId} {x lo : Operand} {g i n c sz j : Nat} {k : IntKind} {l : Nat} (ho : o.op = .slice t x (some lo) none none) (hx : a.eval x = .slice (some ⟨g, i, none⟩) n c) (hl : a.eval lo = .int k (l : Int)) (ht : slOf P t = some sz) (h1 : l ≤ n) (h3 : l < c) (hj : i + l * sz = j) {n' c' : Nat} (hn : n - l = n') (hc : c - l = c')
    : (execOp a.eval o).run P w = .ok (.value (.slice (some ⟨g, j, none⟩) n' c')) w := by
  subst hj hn hc
  unfold slOf at ht
  cases hu : P.underlying t with
  | none => rw [hu] at ht; cases ht
  | some d =>
    rw [hu] at ht
    cases d with
    | slice e =>
      simp only at ht
      cases hq : P.info? e with
      | none => rw [hq] at ht; cases ht
      | some inf =>
        rw [hq] at ht
        simp only [Option.map_some, Option.some.injEq] at ht
        subst ht
        have e3 : ¬ c = l := by omega
        have e1 : l ≤ n := h1
        simp [execOp, ho, hx, hl, Instr.sliceAt, run_underlying hu, Instr.slice, Instr.sliceBounds, Instr.sliceBound, asIntOf, sizeOf, typeInfo, hq, e1, e3, Addr.add_mid]
    | _ => simp only at ht; cases ht
end
end Go.Proofs.Ytbdpocbnkgckhaa

/- Regions that draw, order by order, what only reads taken first; ways that meet again. No function of the program is named here. -/
set_option maxRecDepth 4000
namespace Go.Proofs.Ytbdpocbnkgckhaa
open Go Go.RowKit
def PQ (Q : Exit → Act → World → Prop) : Prop := ∀ c (a : Act) (d : Option Tmp) (v : Value) (w : World), Q (.panic c) (a.put d v) w → Q (.panic c) a w
theorem pq_then {K : Act → World → Prop} {Q : Exit → Act → World → Prop} (h : PQ Q) : PQ (Exit.then K Q) := h
theorem pq_block {id : Nat} {Q : Exit → Act → World → Prop} (h : PQ Q) : PQ (Exit.inBlock id Q) := h
theorem pq_body {P : Program} {fn : Func} {R : Ending → World → Prop} : PQ (bodyPost P fn R) := fun c a d v w h => by
  cases d <;> exact h
section
variable {P : Program} {Q : Exit → Act → World → Prop} {ops : Array Oper} {o : Oper} {N i fuel : Nat} {L : List (Nat × Value)} {a : Act} {w : World} {listed : Array Bool} {S : World → Prop}
theorem wp_held {id : Nat} {l : List Oper} {M : Nat} (S : World → Prop) (hm : P.follows .mixedOrders = true) (hM : l.length = M) (h : wpAnyH P .any l.toArray Q S M (Array.replicate M false) a w.drew) : (Code.region id l.toArray true).wp P Q a w := by
  subst hM
  refine wp_region_held (S := S) hm ?_
  have e : l.toArray.size = l.length := by simp
  rw [e]; exact h
theorem hm_nil {K : Nat → Prop} : ∀ i ∈ ([] : List Nat), K i := fun i h => by cases h
theorem hm_cons {K : Nat → Prop} {j : Nat} {l : List Nat} (h : K j) (t : ∀ i ∈ l, K i) : ∀ i ∈ j :: l, K i := fun i hi => by
  cases hi with
  | head => exact h
  | tail _ hi => exact t i hi
end
theorem wp_cut {P : Program} {Q : Exit → Act → World → Prop} {c : Code} {a : Act} {w : World} (I : Act → World → Prop) (h : c.wp P (Exit.then I Q) a w) (k : ∀ a w, I a w → Q .normal a w) : c.wp P Q a w :=
  wp_mono h fun e a w q => by
    cases e with
    | normal => exact k a w q
    | _ => exact q
/- some of the blocks, in whatever order -/
def selB (S : List Blk) : List Nat → List Blk
  | [] => []
  | i :: is => match S[i]? with
    | some r => r :: selB S is
    | none => selB S is
theorem sel_at (S : List Blk) : ∀ (is : List Nat), is.Nodup → ∀ (i j : Nat) (r s : Blk), (selB S is)[i]? = some r → (selB S is)[j]? = some s → ∃ i' j', i' ∈ is ∧ j' ∈ is ∧ S[i']? = some r ∧ S[j']? = some s ∧ (i ≠ j → i' ≠ j')
  | [], _, i, j, r, s, h, _ => by simp [selB] at h
  | k :: is, hn, i, j, r, s, hi, hj => by
    obtain ⟨hk, hn⟩ := List.nodup_cons.1 hn
    unfold selB at hi hj
    cases hs : S[k]? with
    | none =>
      rw [hs] at hi hj
      obtain ⟨i', j', h1, h2, h3⟩ := sel_at S is hn i j r s hi hj
      exact ⟨i', j', by simp [h1], by simp [h2], h3⟩
    | some u =>
      rw [hs] at hi hj
      cases i with
      | zero =>
        obtain rfl : u = r := by simpa using hi
        cases j with
        | zero => obtain rfl : u = s := by simpa using hj
                  exact ⟨k, k, by simp, by simp, hs, hs, fun h => absurd rfl h⟩
        | succ j =>
          obtain ⟨j', _, h1, _, h3, _, _⟩ := sel_at S is hn j j s s (by simpa using hj) (by simpa using hj)
          exact ⟨k, j', by simp, by simp [h1], hs, h3, fun _ e => hk (e ▸ h1)⟩
      | succ i =>
        cases j with
        | zero =>
          obtain rfl : u = s := by simpa using hj
          obtain ⟨i', _, h1, _, h3, _, _⟩ := sel_at S is hn i i r r (by simpa using hi) (by simpa using hi)
          exact ⟨i', k, by simp [h1], by simp, h3, hs, fun _ e => hk (e ▸ h1)⟩
        | succ j =>
          obtain ⟨i', j', h1, h2, h3, h4, h5⟩ := sel_at S is hn i j r s (by simpa using hi) (by simpa using hj)
          exact ⟨i', j', by simp [h1], by simp [h2], h3, h4, fun h => h5 (by omega)⟩
theorem st_sel {w0 w : World} {F : Nat → Prop} {S : List Blk} (h : St w0 F S w) (is : List Nat) (hn : is.Nodup) : St w0 F (selB S is) w :=
  ⟨h.chg, fun j r hj => by obtain ⟨i', _, _, _, h1, _⟩ := sel_at S is hn j j r r hj hj; exact h.rows i' r h1,
    fun i j r s hij hi hj => by obtain ⟨i', j', _, _, h1, h2, h3⟩ := sel_at S is hn i j r s hi hj; exact h.apart i' j' r s (h3 hij) h1 h2,
    fun j r hj => by obtain ⟨i', _, _, _, h1, _⟩ := sel_at S is hn j j r r hj hj; exact h.own i' r h1⟩
end Go.Proofs.Ytbdpocbnkgckhaa

/- Loops in a walk; rows of bytes, cell by cell; slices that are made. No function of the program is named here. -/
set_option maxRecDepth 4000
namespace Go.Proofs.Ytbdpocbnkgckhaa
open Go Go.RowKit
/- a loop of at most so many rounds -/
def unr (P : Program) (c : Code) (Q : Exit → Act → World → Prop) : Nat → Act → World → Prop
  | 0, _, _ => False
  | n + 1, a, w => c.wp P (Exit.then (unr P c Q n) Q) a w
theorem wp_unr {P : Program} {c : Code} {Q : Exit → Act → World → Prop} {a : Act} {w : World} (n : Nat) (h : unr P c Q n a w) : (Code.loop c).wp P Q a w :=
  wp_loopG (ι := Nat) (fun i a w => unr P c Q i a w) id n h fun i a w hI => by
    cases i with
    | zero => exact hI.elim
    | succ i =>
      refine wp_mono hI (fun e a w q => ?_)
      cases e with
      | normal => exact ⟨i, q, Nat.lt_succ_self _⟩
      | _ => exact q
theorem unr_go {P : Program} {c : Code} {Q : Exit → Act → World → Prop} {a : Act} {w : World} {n : Nat} (h : c.wp P (Exit.then (unr P c Q n) Q) a w) : unr P c Q (n + 1) a w := h
theorem i64_of {z : Int} (h0 : -9223372036854775808 ≤ z) (h1 : z < 9223372036854775808) : IntKind.i64.wrap z = z := by rw [IntKind.wrap_i64]; omega
theorem bs_slab {q : List (BitVec 8)} {n : Nat} (hq : q.length = n) (off m : Nat) (h : off + m ≤ n) : ((bs q).toList.drop off).take (bs ((q.drop off).take m)).size = (bs ((q.drop off).take m)).toList := by
  rw [size_bs, List.length_take, List.length_drop, hq, Nat.min_eq_left (by omega), bs_toList, bs_toList]
  simp [bytesV, List.map_take, List.map_drop]
section
variable {P : Program} {o : Oper} {a : Act} {w w0 : World} {R : Value → World → Prop} {F : Nat → Prop} {S : List Blk}
theorem dd_s2a {t : TypeId} {x : Operand} {A : Option Addr} {n c m sz : Nat} (ho : o.op = .sliceToArrayPointer t x) (hx : a.eval x = .slice A n c) (ht : arrOf P t = some (m, sz)) (h : m ≤ n) : (execOp a.eval o).run P w = .ok (.value (.pointer A)) w := by
  unfold arrOf at ht
  cases hu : P.underlying t with
  | none => rw [hu] at ht; cases ht
  | some d =>
    rw [hu] at ht
    cases d with
    | array n' e =>
      simp only at ht
      cases hq : P.info? e with
      | none => rw [hq] at ht; cases ht
      | some inf =>
        rw [hq] at ht
        simp only [Option.map_some, Option.some.injEq, Prod.mk.injEq] at ht
        obtain ⟨rfl, rfl⟩ := ht
        have e3 : ¬ n < n' := by omega
        simp [execOp, ho, hx, Instr.arrayAt, run_underlying hu, e3]
    | _ => simp only at ht; cases ht
end
section
variable {o : Oper} {a : Act} {w w0 : World} {R : Value → World → Prop} {F : Nat → Prop} {S : List Blk}
end
end Go.Proofs.Ytbdpocbnkgckhaa

/- More operations of a walk: rows that are far, appends to nothing. No function of the program is named here. -/
set_option maxRecDepth 4000
namespace Go.Proofs.Ytbdpocbnkgckhaa
open Go Go.RowKit
theorem sl_at {x : Value} {A : Option Addr} {p : Addr} {n c : Nat} (h : x = .slice A n c) (hA : A = some p) : x = .slice (some p) n c := hA ▸ h
theorem lenA {cs : Array Value} {n : Nat} (h : cs.size = n) : cs.toList.length = n := by rw [Array.length_toList, h]
theorem slabA {cs ds : Array Value} {o : Nat} (h : (cs.toList.drop o).take ds.size = ds.toList) : (cs.toList.drop o).take ds.toList.length = ds.toList := by rw [Array.length_toList]; exact h
theorem mod_nat (x : Int) (m : Nat) (h0 : 0 ≤ x) (hm : 0 < m) : ∃ r : Nat, x.tmod m = (r : Int) ∧ r < m := by
  refine ⟨(x.tmod m).toNat, ?_, ?_⟩
  · have := Int.emod_nonneg x (show (m : Int) ≠ 0 by omega)
    rw [Int.tmod_eq_emod_of_nonneg h0]; omega
  · have := Int.emod_lt_of_pos x (show (0 : Int) < m by omega)
    have := Int.emod_nonneg x (show (m : Int) ≠ 0 by omega)
    rw [Int.tmod_eq_emod_of_nonneg h0]; omega
section
variable {P : Program} {o : Oper} {a : Act} {w w0 : World} {R : Value → World → Prop} {F : Nat → Prop} {S : List Blk}
theorem run_eqB {P : Program} (ty : TypeId) (w : World) (p q : Bool) (hu : P.underlying ty = some .bool) : (Op.equal ty (.bool p) (.bool q)).run P w = .ok (p == q) w := by
  show (Op.equalIn 10000 ty (.bool p) (.bool q)).run P w = .ok (p == q) w
  rw [show (10000 : Nat) = 9999 + 1 from rfl]
  unfold Op.equalIn
  simp [Sem.run_bind, run_underlying hu]
theorem dd_neb {ty ty2 : TypeId} {x y : Operand} {p q b : Bool} (ho : o.op = .binOp .neq ty x y ty2) (hx : a.eval x = .bool p) (hy : a.eval y = .bool q) (hu : P.underlying ty = some .bool) (hb : (p != q) = b) : (execOp a.eval o).run P w = .ok (.value (.bool b)) w := by
  subst hb
  simp [execOp, ho, hx, hy, eqGuard, binOp, run_eqB ty w p q hu, bne]
theorem dd_rem {ty ty2 : TypeId} {x y : Operand} {k : IntKind} {m n z : Int} (ho : o.op = .binOp .rem ty x y ty2) (hx : a.eval x = .int k m) (hy : a.eval y = .int k n) (hn : n ≠ 0) (hz : m.tmod n = z) : (execOp a.eval o).run P w = .ok (.value (.int k z)) w := by
  subst hz
  simp [execOp, ho, hx, hy, eqGuard, binOp, Op.intDiv, hn]
theorem dd_getR {g : Nat} {t : TypeId} {cs : Array Value} (hr : Row w g t cs) {i : Nat} {ty : TypeId} {x : Operand} (ho : o.op = .load ty x) (hx : a.eval x = .pointer (some ⟨g, i, none⟩)) {v : Value} (hv : cs[i]? = some v) {d : TypeDesc} (hu : P.underlying ty = some d) (hd : d.isRow = false) : (execOp a.eval o).run P w = .ok (.value v) w :=
  dd_at ho hx (hr.get hv) hu hd
theorem dd_loadR {g : Nat} {t : TypeId} {cs : Array Value} (hr : Row w g t cs) {i : Nat} {ty : TypeId} {x : Operand} (ho : o.op = .load ty x) (hx : a.eval x = .pointer (some ⟨g, i, none⟩)) {ds : Array Value} (hv : (cs.toList.drop i).take ds.size = ds.toList) {d : TypeDesc} (hu : P.underlying ty = some d) (hd : d.isRow = true) (hi : (P.info? ty).map (·.size) = some ds.size) : (execOp a.eval o).run P w = .ok (.value (.agg ds)) w :=
  dd_atN ho hx (hr.slab i ds.toList (by simpa using hv)) hu hd (by simpa using hi)
theorem dd_app0 (HS : St w0 F S w) {e t : TypeId} {s x : Operand} (ho : o.op = .call { callee := .builtin .append, args := #[s, x], argTypes := #[t, t] })
    (hs : a.eval s = .slice none 0 0) {z : Value} {bytes sz : Nat} (ht : P.underlying t = some (.slice e)) (hi : (P.info? e).map (fun i => (i.zero, i.size, i.bytes)) = some (some z, sz, bytes)) (hzs : z.cells.size = sz) (hsz : 0 < sz)
    {ad : Addr} {m c2 : Nat} (news : List Value) (hx : a.eval x = .slice (some ad) m c2) (hl : news.length = m * sz) (hnews : ∀ j u, news[j]? = some u → w.cell? (ad.add j) = some u) (h1 : ∀ u ∈ news, u.oneCell' = true)
    (h63 : m ≤ maxLen) (hbytes : m * bytes ≤ 140737488355328)
    (h : ∀ g' c' cb' w', OwnC cb' c' m sz news → St w0 F (S ++ [⟨g', e, cb'⟩]) w' → R (.slice (some ⟨g', 0, none⟩) m c') w') (hm : Nat.blt 0 m = true := by rfl) : Does P o a w R := fun _ _ hK => by
  have hm := Nat.le_of_ble_eq_true hm
  have hown : w.ownsRow 0 e sz (.slice none 0 0) 0 [] := ⟨by simp, .inl ⟨rfl, rfl⟩⟩
  obtain ⟨i, hi1, hz1, hz2, hz3⟩ := info_parts hi
  obtain ⟨v', w', hr, h2, h3, h4⟩ := run_append_where (P := P) w 0 t o.type e i z sz bytes ht hi1 hz1 hz2 hz3 hzs hsz _ 0 [] hown ad m c2 news hl hnews h1 (by omega) (by rw [Nat.zero_add]; exact hbytes) (Nat.zero_le _)
  rw [Nat.zero_add, List.nil_append] at h2
  obtain ⟨g', c', cb', rfl, _, hrow', O'⟩ := ownc_pos h2 (by omega)
  have hg' : w.heap.size ≤ g' := by
    rcases h4.cases (k := g') rfl with h5 | h5
    · cases h5
    · exact h5
  have hS1 : St w0 F S w' := HS.same (by
    have := h3
    exact below_of_grown h3 (fun g e => by cases e) (Nat.le_refl _))
  have hS2 := st_snoc hS1 hrow' (.inr (Nat.le_trans HS.chg.size hg')) (fun b hb e => by have := HS.lt hb; omega)
  unfold Oper.wp execOp
  simp only [ho, resolve, invoke, builtin, Sem.run_bind, Sem.run_pure, Result.andThen_ok, List.map_toArray, List.map_cons, List.map_nil, hs, hx, hr]
  exact hK _ _ (h g' c' cb' w' O' hS2)
end
end Go.Proofs.Ytbdpocbnkgckhaa

/- Short steps of a walk: the frame by its slots' numbers, an operation apart from where it stands. No function of the program is named here. -/
set_option maxRecDepth 4000
namespace Go.Proofs.Ytbdpocbnkgckhaa
open Go Go.RowKit
def look : List (Nat × Value) → Nat → Option Value
  | [], _ => none
  | (j, v) :: L, k => bif Nat.beq j k then some v else look L k
def sels (L : List (Nat × Value)) : List Nat → List (Nat × Value) → Option (List (Nat × Value))
  | [], acc => some acc
  | k :: ks, acc => match look L k with
    | some v => sels L ks ((k, v) :: acc)
    | none => none
structure En (N : Nat) (L : List (Nat × Value)) (a : Act) : Prop where
  size : a.tmps.size = N
  defers : a.defers = []
  at_ : ∀ (k : Nat) (v : Value), look L k = some v → a.tmps[k]? = some v
def dq (N : Nat) (o : Oper) : Option Nat := match o.dst with
  | some d => bif Nat.blt d N then some d else none
  | none => none
def dg (N : Nat) (o : Oper) : Option Nat := match o.guard with
  | none => dq N o
  | some _ => none
def dn (o : Oper) : Bool := match o.guard, o.dst with
  | none, none => true
  | _, _ => false
theorem dq_is {N : Nat} {o : Oper} {d : Nat} (h : dq N o = some d) : o.dst = some d ∧ d < N := by
  unfold dq at h
  split at h
  · rename_i e he
    cases hb : Nat.blt e N with
    | false => rw [hb] at h; cases h
    | true =>
      rw [hb] at h
      injection h with h
      subst h
      exact ⟨he, Nat.le_of_ble_eq_true hb⟩
  · cases h
theorem dg_is {N : Nat} {o : Oper} {d : Nat} (h : dg N o = some d) : o.guard = none ∧ dq N o = some d := by
  unfold dg at h
  split at h
  · exact ⟨by assumption, h⟩
  · cases h
theorem dn_is {o : Oper} (h : dn o = true) : o.guard = none ∧ o.dst = none := by
  unfold dn at h
  split at h
  · exact ⟨by assumption, by assumption⟩
  · cases h
section
variable {P : Program} {N : Nat} {L : List (Nat × Value)} {a : Act}
theorem En.ev (h : En N L a) (k : Nat) {v : Value} (hi : look L k = some v) : a.eval (.tmp k) = v := eval_of_get (h.at_ k v hi)
theorem En.get (h : En N L a) (k : Nat) {v : Value} (hi : look L k = some v) : a.tmps[k]? = some v := h.at_ k v hi
theorem En.sub (h : En N L a) {L2 : List (Nat × Value)} (hs : ∀ k v, look L2 k = some v → look L k = some v) : En N L2 a := ⟨h.size, h.defers, fun k v hi => h.at_ k v (hs k v hi)⟩
theorem sels_sub {L : List (Nat × Value)} : ∀ (ks : List Nat) (acc L2 : List (Nat × Value)), (∀ k v, look acc k = some v → look L k = some v) → sels L ks acc = some L2 → ∀ k v, look L2 k = some v → look L k = some v
  | [], acc, L2, h, e => by
    injection e with e
    subst e; exact h
  | j :: ks, acc, L2, h, e => by
    unfold sels at e
    cases hj : look L j with
    | none => rw [hj] at e; cases e
    | some u =>
      rw [hj] at e
      refine sels_sub ks _ L2 (fun k v hk => ?_) e
      unfold look at hk
      cases hb : Nat.beq j k with
      | false => simp only [hb] at hk; exact h k v hk
      | true =>
        simp only [hb] at hk
        have := Nat.eq_of_beq_eq_true hb
        subst this
        rw [hj]; exact hk
theorem En.sel (h : En N L a) (ks : List Nat) {L2 : List (Nat × Value)} (e : sels L ks [] = some L2) : En N L2 a := h.sub (sels_sub ks [] L2 (fun k v hk => by cases hk) e)
theorem En.env0 (h : En N L a) : Env N [] a := env_nil h.size h.defers
theorem En.put (h : En N L a) {d : Nat} (hd : d < N) (v : Value) : En N ((d, v) :: L) (a.put (some d) v) := by
  refine ⟨by simp [Act.put, h.size], h.defers, fun k u hi => ?_⟩
  unfold look at hi
  simp only [Act.put]
  cases hb : Nat.beq d k with
  | true =>
    simp only [hb] at hi
    have := Nat.eq_of_beq_eq_true hb
    subst this
    have hi : v = u := Option.some.inj hi
    subst hi
    simp [h.size, hd]
  | false =>
    simp only [hb] at hi
    have hne : d ≠ k := fun e => by subst e; simp at hb
    rw [Array.getElem?_setIfInBounds_ne hne]
    exact h.at_ k u hi
theorem en_nil (hs : a.tmps.size = N) (hd : a.defers = []) : En N [] a := ⟨hs, hd, fun k v h => by cases h⟩
theorem en_cons {k : Nat} {v : Value} (h : En N L a) (hk : a.tmps[k]? = some v) : En N ((k, v) :: L) a := ⟨h.size, h.defers, fun j u hi => by
  unfold look at hi
  cases hb : Nat.beq k j with
  | true =>
    simp only [hb] at hi
    have := Nat.eq_of_beq_eq_true hb
    subst this
    have hi : v = u := Option.some.inj hi
    subst hi
    exact hk
  | false => simp only [hb] at hi; exact h.at_ j u hi⟩
theorem look_arg : ∀ (vs : List Value) (i k : Nat) (v : Value), look (argL vs i) k = some v → i ≤ k ∧ vs[k - i]? = some v
  | [], i, k, v, h => by cases h
  | u :: vs, i, k, v, h => by
    unfold argL look at h
    cases hb : Nat.beq i k with
    | true =>
      simp only [hb] at h
      have := Nat.eq_of_beq_eq_true hb
      subst this
      simpa using h
    | false =>
      simp only [hb] at h
      have hne : i ≠ k := fun e => by subst e; simp at hb
      obtain ⟨h1, h2⟩ := look_arg vs (i + 1) k v h
      refine ⟨by omega, ?_⟩
      have e : k - i = (k - (i + 1)) + 1 := by omega
      rw [e]; simpa using h2
theorem enter_en {f : FuncId} {fn : Func} {c : Code} {l : List Value} {w : World} {R : Ending → World → Prop} (hf : P.funcs[f]? = some fn) (hb : fn.body = some c) (hN : fn.ntmps = N) (hl : l.length ≤ N)
    (h : ∀ a, En N (argL l 0) a → c.wp P (bodyPost P fn R) a w) : Calls P f l.toArray w R := by
  refine calls_of_wp hf hb (h _ ⟨by simp [hN]; omega, rfl, fun k v hi => ?_⟩)
  obtain ⟨_, h2⟩ := look_arg l 0 k v hi
  have hlt := (List.getElem?_eq_some_iff.1 h2).1
  simp only
  rw [Array.getElem?_append_left (by simpa using hlt)]
  simpa using h2
end
/- an operation, wherever it stands: K is what must hold behind it -/
def Og (P : Program) (ops : Array Oper) (Q : Exit → Act → World → Prop) (o : Oper) (K : Act → World → Prop) (a : Act) (w : World) : Prop :=
  ∀ K' : Act → World → Prop, (∀ a w, K a w → K' a w) → if Region.wanted o (yielded ops a.tmps) = true then Oper.wp P o a w K' Q else K' (a.put o.dst undef) w
section
variable {P : Program} {ops : Array Oper} {Q : Exit → Act → World → Prop} {rest : List Oper} {o : Oper} {K : Act → World → Prop} {N i fuel : Nat} {L : List (Nat × Value)} {a : Act} {w w0 : World} {listed : Array Bool} {S : World → Prop} {F : Nat → Prop} {B : List Blk} {d : Nat}
theorem wl_ (h : Og P ops Q o (wpList P ops Q rest) a w) : wpList P ops Q (o :: rest) a w := wpList_step h
theorem ho_ (ho : ops[i]? = some o) (h : Og P ops Q o K a w) : wpOp P ops Q i K a w := wpOp_step ho h
theorem h1_ (i : Nat) {o : Oper} (ho : ops[i]? = some o) (h : Og P ops Q o (fun a' w' => S w' ∧ wpAnyH P .any ops Q S fuel (listed.setIfInBounds i true) a' w') a w) (hr : Region.ready .any ops listed = [i] := by kernel_rfl) : wpAnyH P .any ops Q S (fuel + 1) listed a w :=
  wpAnyH_all hr (by simp) fun j hj => by
    obtain rfl : j = i := by simpa using hj
    exact wpOp_step ho h
theorem wg_ (H : En N L a) {j t : Nat} {b c e : Bool} (hg : o.guard = some (j, b)) (hd : dstAt ops j = some t) (ht : look L t = some (.bool c)) (h : (c == b) = e) : Region.wanted o (yielded ops a.tmps) = e := want_g hg hd (H.get t ht) h
theorem wu_ (H : En N L a) {j t : Nat} {b : Bool} (hg : o.guard = some (j, b)) (hd : dstAt ops j = some t) (ht : look L t = some undef) : Region.wanted o (yielded ops a.tmps) = false := want_u hg hd (H.get t ht)
theorem dr_ (H : En N L a) (hw : Region.wanted o (yielded ops a.tmps) = true) (hd : dq N o = some d) {R : Value → World → Prop} (hD : Does P o a w R) (h : ∀ v w', R v w' → ∀ a', En N ((d, v) :: L) a' → K a' w') : Og P ops Q o K a w := fun K' hK => by
  obtain ⟨h1, h2⟩ := dq_is hd
  rw [if_pos hw]
  exact hD K' Q fun v w' hR => by rw [h1]; exact hK _ _ (h v w' hR _ (H.put h2 v))
theorem d_ (H : En N L a) (hd : dg N o = some d) {R : Value → World → Prop} (hD : Does P o a w R) (h : ∀ v w', R v w' → ∀ a', En N ((d, v) :: L) a' → K a' w') : Og P ops Q o K a w := dr_ H (want_n (dg_is hd).1) (dg_is hd).2 hD h
theorem k_ (H : En N L a) (hw : Region.wanted o (yielded ops a.tmps) = false) (hd : dq N o = some d) (h : ∀ a', En N ((d, undef) :: L) a' → K a' w) : Og P ops Q o K a w := fun K' hK => by
  obtain ⟨h1, h2⟩ := dq_is hd
  rw [hw, if_neg (by decide), h1]
  exact hK _ _ (h _ (H.put h2 undef))
theorem i_ (H : En N L a) (hd : dg N o = some d) {v : Value} (hD : (execOp a.eval o).run P w = .ok (.value v) w) (h : ∀ a', En N ((d, v) :: L) a' → K a' w) : Og P ops Q o K a w :=
  d_ H hd (R := fun u w' => u = v ∧ w' = w) (dd_rn hD ⟨rfl, rfl⟩) fun v' w' hR a' HA' => by obtain ⟨rfl, rfl⟩ := hR; exact h a' HA'
theorem ig (H : En N L a) (hw : Region.wanted o (yielded ops a.tmps) = true) (hd : dq N o = some d) {v : Value} (hD : (execOp a.eval o).run P w = .ok (.value v) w) (h : ∀ a', En N ((d, v) :: L) a' → K a' w) : Og P ops Q o K a w :=
  dr_ H hw hd (R := fun u w' => u = v ∧ w' = w) (dd_rn hD ⟨rfl, rfl⟩) fun v' w' hR a' HA' => by obtain ⟨rfl, rfl⟩ := hR; exact h a' HA'
theorem icg (H : En N L a) (hw : Region.wanted o (yielded ops a.tmps) = true) (hd : dq N o = some d) {v : Value} (hD : Does P o a w fun u w' => u = v ∧ w' = w) (h : ∀ a', En N ((d, v) :: L) a' → K a' w) : Og P ops Q o K a w :=
  dr_ H hw hd hD fun v' w' hR a' HA' => by obtain ⟨rfl, rfl⟩ := hR; exact h a' HA'
theorem i0 (hd : dn o = true) {v : Value} (hD : (execOp a.eval o).run P w = .ok (.value v) w) (h : K a w) : Og P ops Q o K a w := fun K' hK => by
  rw [if_pos (want_n (dn_is hd).1)]
  exact dd_rn (R := fun u w' => u = v ∧ w' = w) hD ⟨rfl, rfl⟩ K' Q fun v' w' hR => by
    obtain ⟨rfl, rfl⟩ := hR
    rw [(dn_is hd).2]; exact hK _ _ h
/- a new block -/
theorem n_ (H : En N L a) (hd : dg N o = some d) {S : Nat → List Blk} {A : Nat → Value} (hD : ∀ R : Value → World → Prop, (∀ g w', St w0 F (S g) w' → R (A g) w') → Does P o a w R) (h : ∀ g w', St w0 F (S g) w' → ∀ a', En N ((d, A g) :: L) a' → K a' w') : Og P ops Q o K a w :=
  d_ H hd (hD (fun v w' => ∃ g, v = A g ∧ St w0 F (S g) w') fun g w' k => ⟨g, rfl, k⟩) fun v w' hR a' HA' => by
    obtain ⟨g, rfl, k⟩ := hR; exact h g w' k a' HA'
/- a store -/
theorem t_ (hd : dn o = true) {S : List Blk} (hD : ∀ R : Value → World → Prop, (∀ w', St w0 F S w' → R undef w') → Does P o a w R) (h : ∀ w', St w0 F S w' → K a w') : Og P ops Q o K a w := fun K' hK => by
  rw [if_pos (want_n (dn_is hd).1)]
  refine hD (fun _ w' => St w0 F S w') (fun _ k => k) K' Q fun v w' k => ?_
  rw [(dn_is hd).2]; exact hK _ _ (h w' k)
/- bytes or values behind a slice of the call's own -/
theorem a_ (H : En N L a) (hd : dg N o = some d) {S : Nat → Array Value → List Blk} (A : Nat → Nat → Value) {T : Nat → Nat → Array Value → Prop} (hD : ∀ R : Value → World → Prop, (∀ g c cb w', T g c cb → St w0 F (S g cb) w' → R (A g c) w') → Does P o a w R) (h : ∀ g c cb w', T g c cb → St w0 F (S g cb) w' → ∀ a', En N ((d, A g c) :: L) a' → K a' w') : Og P ops Q o K a w :=
  d_ H hd (hD (fun v w' => ∃ g c cb, v = A g c ∧ T g c cb ∧ St w0 F (S g cb) w') fun g c cb w' k1 k2 => ⟨g, c, cb, rfl, k1, k2⟩) fun v w' hR a' HA' => by
    obtain ⟨g, c, cb, rfl, k1, k2⟩ := hR; exact h g c cb w' k1 k2 a' HA'
/- a call that leaves what was there -/
theorem c_ (H : En N L a) (hd : dg N o = some d) (HS : St w0 F B w) {v : Value} (hD : Does P o a w fun u w' => u = v ∧ Below w.heap.size w w') (h : ∀ w', St w0 F B w' → ∀ a', En N ((d, v) :: L) a' → K a' w') : Og P ops Q o K a w :=
  d_ H hd hD fun u w' hR a' HA' => by obtain ⟨rfl, k⟩ := hR; exact h w' (HS.same k) a' HA'
theorem cg (H : En N L a) (hw : Region.wanted o (yielded ops a.tmps) = true) (hd : dq N o = some d) (HS : St w0 F B w) {v : Value} (hD : Does P o a w fun u w' => u = v ∧ Below w.heap.size w w') (h : ∀ w', St w0 F B w' → ∀ a', En N ((d, v) :: L) a' → K a' w') : Og P ops Q o K a w :=
  dr_ H hw hd hD fun u w' hR a' HA' => by obtain ⟨rfl, k⟩ := hR; exact h w' (HS.same k) a' HA'
theorem dc_ {f : FuncId} {fn : Func} {xs : Array Operand} {ts : Array TypeId} {l : List Value} {R' : Ending → World → Prop} {R : Value → World → Prop} (hf : P.funcs[f]? = some fn) (ho : o.op = .call { callee := .value (.func f), args := xs, argTypes := ts }) (hx : (xs.map a.eval) = l.toArray) (C : Calls P f l.toArray w R')
    (h : ∀ e w', R' e w' → ∃ v, e = .returned v ∧ R v w') (hn : (fn.name == "runtime.NumGoroutine") = false := by kernel_rfl) (hb : fn.body.isNone = false := by kernel_rfl) : Does P o a w R := dd_call hf hn hb ho hx C h
theorem dcs {f : FuncId} {fn : Func} {xs : Array Operand} {ts : Array TypeId} {l : List Value} (hf : P.funcs[f]? = some fn) (ho : o.op = .call { callee := .value (.func f), args := xs, argTypes := ts }) (hx : (xs.map a.eval) = l.toArray) {v : Value} (C : Calls P f l.toArray w fun e w' => e = .returned v ∧ Below w.heap.size w w') (v' : Value)
    (hv : v = v' := by rfl) (hn : (fn.name == "runtime.NumGoroutine") = false := by kernel_rfl) (hb : fn.body.isNone = false := by kernel_rfl) : Does P o a w fun u w' => u = v' ∧ Below w.heap.size w w' := dd_call hf hn hb ho hx C fun _ _ h => ⟨v, h.1, hv, h.2⟩
/- several operations that only move values, in order -/
def opv (L : List (Nat × Value)) : Operand → Option Value
  | .tmp k => look L k
  | .const v => some v
  | _ => none
theorem opv_is (H : En N L a) {x : Operand} {v : Value} (h : opv L x = some v) : a.eval x = v := by
  cases x with
  | tmp k => exact H.ev k h
  | const u => exact Option.some.inj h
  | _ => cases h
def pur (L : List (Nat × Value)) (o : Oper) : Option Value := match o.op with
  | .move x => opv L x
  | .assign x => opv L x
  | .pick c x y => match opv L c with
    | some (.bool true) => opv L x
    | some (.bool false) => opv L y
    | _ => none
  | _ => none
theorem pur_is (H : En N L a) {v : Value} (h : pur L o = some v) : (execOp a.eval o).run P w = .ok (.value v) w := by
  unfold pur at h
  split at h
  · exact dd_mv (by assumption) (opv_is H h)
  · exact dd_as (by assumption) (opv_is H h)
  · split at h
    · exact dd_pickT (by assumption) (opv_is H (by assumption)) (opv_is H h)
    · exact dd_pickF (by assumption) (opv_is H (by assumption)) (opv_is H h)
    · cases h
  · cases h
def purs (N : Nat) : Nat → List (Nat × Value) → List Oper → Option (List (Nat × Value) × List Oper)
  | 0, L, l => some (L, l)
  | _ + 1, _, [] => none
  | n + 1, L, o :: l => match dg N o with
    | none => none
    | some d => match pur L o with
      | none => none
      | some v => purs N n ((d, v) :: L) l
theorem purs_is : ∀ (n : Nat) {L L' : List (Nat × Value)} {l l' : List Oper} {a : Act}, En N L a → purs N n L l = some (L', l') → (∀ a', En N L' a' → wpList P ops Q l' a' w) → wpList P ops Q l a w
  | 0, L, L', l, l', a, H, e, h => by
    injection e with e
    injection e with e1 e2
    subst e1 e2
    exact h a H
  | n + 1, L, L', [], l', a, H, e, h => by cases e
  | n + 1, L, L', o :: l, l', a, H, e, h => by
    unfold purs at e
    split at e
    · cases e
    · split at e
      · cases e
      · rename_i d hd _ v hv
        exact wl_ (i_ H hd (pur_is H hv) fun a' H' => purs_is n H' e h)
theorem q_ (H : En N L a) (n : Nat) {l l' : List Oper} {L' : List (Nat × Value)} (e : purs N n L l = some (L', l')) (h : ∀ a', En N L' a' → wpList P ops Q l' a' w) : wpList P ops Q l a w := purs_is n H e h
theorem p_ (H : En N L a) (hd : dg N o = some d) {v : Value} (hp : pur L o = some v) (h : ∀ a', En N ((d, v) :: L) a' → K a' w) : Og P ops Q o K a w := i_ H hd (pur_is H hp) h
/- regions that draw -/
class PQc (Q : Exit → Act → World → Prop) : Prop where
  pq : PQ Q
instance {K : Act → World → Prop} {Q : Exit → Act → World → Prop} [h : PQc Q] : PQc (Exit.then K Q) := ⟨pq_then h.pq⟩
instance {id : Nat} {Q : Exit → Act → World → Prop} [h : PQc Q] : PQc (Exit.inBlock id Q) := ⟨pq_block h.pq⟩
instance {fn : Func} {R : Ending → World → Prop} : PQc (bodyPost P fn R) := ⟨pq_body⟩
def Sx (w0 : World) (F : Nat → Prop) (B : List Blk) (w : World) : Prop := ∃ R9, St w0 F (B ++ R9) w
theorem sxi {S R9 : List Blk} (h : St w0 F S w) (is : List Nat) (e : selB S is = B ++ R9) (hn : is.Nodup := by decide) : Sx w0 F B w := ⟨R9, e ▸ st_sel h is hn⟩
theorem ss {S : List Blk} (h : St w0 F S w) (is : List Nat) (hn : is.Nodup := by decide) : St w0 F (selB S is) w := st_sel h is hn
def hck (ops : Array Oper) (listed : Array Bool) (i : Nat) : Bool := Region.noSelect ops && Region.free .any ops listed i && (Region.ready .any ops listed).contains i
theorem hck_is (h : hck ops listed i = true) : Region.noSelect ops = true ∧ Region.free .any ops listed i = true ∧ (Region.ready .any ops listed).contains i = true := by
  unfold hck at h
  simp only [Bool.and_eq_true] at h
  exact ⟨h.1.1, h.1.2, h.2⟩
theorem htg [hq : PQc Q] (H : En N L a) (i : Nat) {o : Oper} (hS : Sx w0 F B w) (hi : ops[i]? = some o) (hw : Region.wanted o (yielded ops a.tmps) = true) (hd : dq N o = some d) {v : Value} (hy : ∀ w R9, St w0 F (B ++ R9) w → (execOp a.eval o).run P w = .ok (.value v) w)
    (h : ∀ a', En N ((d, v) :: L) a' → wpAnyH P .any ops Q (Sx w0 F B) fuel (listed.setIfInBounds i true) a' w) (hc : hck ops listed i = true := by kernel_rfl) : wpAnyH P .any ops Q (Sx w0 F B) (fuel + 1) listed a w := by
  obtain ⟨h1, h2, h3⟩ := hck_is hc
  refine wpAnyH_take hi h1 h2 h3 (fun c a w => hq.pq c a o.dst v w) (.inl ⟨hw, fun w ⟨R9, k⟩ => hy w R9 k⟩) hS ?_
  rw [(dq_is hd).1]
  exact h _ (H.put (dq_is hd).2 v)
theorem ht_ [PQc Q] (H : En N L a) (i : Nat) {o : Oper} (hS : Sx w0 F B w) (hi : ops[i]? = some o) (hd : dg N o = some d) {v : Value} (hy : ∀ w R9, St w0 F (B ++ R9) w → (execOp a.eval o).run P w = .ok (.value v) w)
    (h : ∀ a', En N ((d, v) :: L) a' → wpAnyH P .any ops Q (Sx w0 F B) fuel (listed.setIfInBounds i true) a' w) (hc : hck ops listed i = true := by kernel_rfl) : wpAnyH P .any ops Q (Sx w0 F B) (fuel + 1) listed a w :=
  htg H i hS hi (want_n (dg_is hd).1) (dg_is hd).2 hy h hc
theorem hp_ [PQc Q] (H : En N L a) (i : Nat) {o : Oper} (hS : Sx w0 F B w) (hi : ops[i]? = some o) (hd : dg N o = some d) {v : Value} (hp : pur L o = some v)
    (h : ∀ a', En N ((d, v) :: L) a' → wpAnyH P .any ops Q (Sx w0 F B) fuel (listed.setIfInBounds i true) a' w) (hc : hck ops listed i = true := by kernel_rfl) : wpAnyH P .any ops Q (Sx w0 F B) (fuel + 1) listed a w :=
  ht_ H i hS hi hd (fun _ _ _ => pur_is H hp) h hc
theorem sx_ {A B : Prop} (h : A) (k : A → B) : A ∧ B := ⟨h, k h⟩
theorem wh_ {S : List Blk} (HS : St w0 F S w) (B : List Blk) {id : Nat} {l : List Oper} {M : Nat} (hM : l.length = M) (hx : Sx w0 F B w) (h : St w0 F S w.drew → Sx w0 F B w.drew → wpAnyH P .any l.toArray Q (Sx w0 F B) M (Array.replicate M false) a w.drew) (hm : P.follows .mixedOrders = true := by kernel_rfl) : (Code.region id l.toArray true).wp P Q a w :=
  wp_held _ hm hM (h HS.drew (let ⟨R9, k⟩ := hx; ⟨R9, k.drew⟩))
theorem wi_ {S : List Blk} (HS : St w0 F S w) (is : List Nat) {id : Nat} {l : List Oper} {M : Nat} (hM : l.length = M) {R9 : List Blk} (js : List Nat) (e : selB S js = selB S is ++ R9) (h : St w0 F S w.drew → Sx w0 F (selB S is) w.drew → wpAnyH P .any l.toArray Q (Sx w0 F (selB S is)) M (Array.replicate M false) a w.drew) (hn : js.Nodup := by decide) (hm : P.follows .mixedOrders = true := by kernel_rfl) : (Code.region id l.toArray true).wp P Q a w :=
  wh_ HS (selB S is) hM (sxi HS js e hn) h hm
end
/- shorter names -/
section
variable {P : Program} {o : Oper} {a : Act} {w : World}
theorem xAo (n sz j : Nat) {t : TypeId} {x y : Operand} {g i : Nat} {k : IntKind} {m : Int} (ho : o.op = .indexAddr t x y) (hx : a.eval x = .pointer (some ⟨g, i, none⟩)) (hy : a.eval y = .int k m) (ht : arrOf P t = some (n, sz) := by kernel_rfl) (h0 : 0 ≤ m := by omega) (hn : m < (n : Int) := by omega) (hj : i + m.toNat * sz = j := by omega) : (execOp a.eval o).run P w = .ok (.value (.pointer (some ⟨g, j, none⟩))) w := dd_idxA ho hx hy ht h0 hn hj
theorem xS (sz j : Nat) {t : TypeId} {x y : Operand} {g i n c : Nat} {k : IntKind} {m : Int} (ho : o.op = .indexAddr t x y) (hx : a.eval x = .slice (some ⟨g, i, none⟩) n c) (hy : a.eval y = .int k m) (ht : slOf P t = some sz := by kernel_rfl) (h0 : 0 ≤ m := by decide) (hn : m < (n : Int) := by decide) (hj : i + m.toNat * sz = j := by rfl) : (execOp a.eval o).run P w = .ok (.value (.pointer (some ⟨g, j, none⟩))) w := dd_idxS ho hx hy ht h0 hn hj
theorem xSo (sz j : Nat) {t : TypeId} {x y : Operand} {g i n c : Nat} {k : IntKind} {m : Int} (ho : o.op = .indexAddr t x y) (hx : a.eval x = .slice (some ⟨g, i, none⟩) n c) (hy : a.eval y = .int k m) (ht : slOf P t = some sz := by kernel_rfl) (h0 : 0 ≤ m := by omega) (hn : m < (n : Int) := by omega) (hj : i + m.toNat * sz = j := by omega) : (execOp a.eval o).run P w = .ok (.value (.pointer (some ⟨g, j, none⟩))) w := dd_idxS ho hx hy ht h0 hn hj
theorem xf (off j : Nat) {s : TypeId} {x : Operand} {f g i : Nat} (ho : o.op = .fieldAddr s x f) (hx : a.eval x = .pointer (some ⟨g, i, none⟩)) (hf : fieldOff P s f = some off := by kernel_rfl) (hj : i + off = j := by rfl) : (execOp a.eval o).run P w = .ok (.value (.pointer (some ⟨g, j, none⟩))) w := dd_field ho hx hf hj
end
/- code -/
section
variable {P : Program} {Q : Exit → Act → World → Prop} {a : Act} {w : World} {N : Nat} {L : List (Nat × Value)} {x y : Code} {id : Nat}
theorem sq_ (h : x.wp P (Exit.then (y.wp P Q) Q) a w) : (Code.seq x y).wp P Q a w := wp_seq h
theorem rl_ {l : List Oper} (h : wpList P l.toArray Q l a w) : (Code.region id l.toArray false).wp P Q a w := wp_region_lit h
theorem ln_ {ops : Array Oper} (h : Q .normal a w) : wpList P ops Q [] a w := h
theorem ct_ (H : En N L a) {k : Nat} (hk : look L k = some (.bool true)) (h : x.wp P Q a w) : (Code.cond (.tmp k) x y).wp P Q a w := wp_cond_true (H.ev k hk) h
theorem cf_ (H : En N L a) {k : Nat} (hk : look L k = some (.bool false)) (h : y.wp P Q a w) : (Code.cond (.tmp k) x y).wp P Q a w := wp_cond_false (H.ev k hk) h
end
end Go.Proofs.Ytbdpocbnkgckhaa

/- Strings and copies in a walk. No function of the program is named here. -/
set_option maxRecDepth 4000
namespace Go.Proofs.Ytbdpocbnkgckhaa
open Go Go.RowKit
section
variable {o : Oper} {a : Act} {w w0 : World} {R : Value → World → Prop} {F : Nat → Prop} {S : List Blk}
end
section
variable {o : Oper} {a : Act} {w w0 : World} {R : Value → World → Prop} {F : Nat → Prop} {S : List Blk}
/- bytes behind bytes of the call's own, whatever slice they stand in -/
theorem dd_appB (HS : St w0 F S w) (k : Nat) {g c n n2 : Nat} {cb : Array Value} {q r q2 : List (BitVec 8)} (hk : S[k]? = some ⟨g, 5, cb⟩) (O : OwnC cb c n 1 (bytesV q)) {s x : Operand} (ho : o.op = .call { callee := .builtin .append, args := #[s, x], argTypes := #[23, 23] })
    (hs : a.eval s = .slice (some ⟨g, 0, none⟩) n c) {A : Option Addr} {m c2 : Nat} (hx : a.eval x = .slice A m c2) (hr : Slice w (.slice A m c2) r) (hA : A = none → c2 = 0) (hn : n + m = n2) (hq : q ++ r = q2) (h63 : n2 ≤ maxLen) (hbytes : n2 ≤ 140737488355328)
    (h : ∀ g' c' cb' w', OwnC cb' c' n2 1 (bytesV q2) → St w0 F (S.eraseIdx k ++ [⟨g', 5, cb'⟩]) w' → R (.slice (some ⟨g', 0, none⟩) n2 c') w') : Does Try.prog o a w R := by
  subst hn hq
  have hm : r.length = m := by obtain ⟨A', c', e, _⟩ := hr; injection e with _ e _; exact e.symm
  cases A with
  | none =>
    have hr0 : r = [] := by
      apply Decidable.byContradiction
      intro hne
      obtain ⟨A', c', e, _, h3⟩ := hr
      obtain ⟨_, _, h4, _⟩ := h3 hne
      injection e with e _ _
      rw [h4] at e; cases e
    obtain rfl := hA rfl
    subst hr0
    have hm0 : m = 0 := by simpa using hm.symm
    subst hm0
    intro K Q hK
    obtain ⟨i0, hi, hz0, hz1, hz2⟩ := info_parts info_u8
    have hrow := HS.row k hk
    have hown := ownc_to hrow O (Nat.zero_le g)
    have hrun := run_append_owned_none (P := Try.prog) (w := w) 0 23 o.type 5 i0 1 Try.underlying23 hi _ n _ hown
    unfold Oper.wp
    simp [execOp, ho, resolve, invoke, builtin, hs, hx, hrun, Result.andThen]
    have hS2 := st_snoc (st_erase HS k) hrow (HS.own k _ hk) (fun b hb e => by
      obtain ⟨j, hj⟩ := List.getElem?_of_mem hb
      rw [List.getElem?_eraseIdx] at hj
      split at hj
      · exact HS.apart j k b _ (by omega) hj hk e
      · exact HS.apart (j + 1) k b _ (by omega) hj hk e)
    exact hK _ _ (h g c cb w (by simpa using O) hS2)
  | some ad =>
    refine dd_app HS k hk O ho hs (z := .int .u8 0) (bytes := 1) Try.underlying23 (by kernel_rfl) rfl (by decide) (bytesV r) hx (by rw [len_bytesV, hm, Nat.mul_one]) (slice_news hr) (one_bytesV _) h63 (by omega) fun g' c' cb' w' O' h' => ?_
    exact h g' c' cb' w' (ownc_app O') h'
end
end Go.Proofs.Ytbdpocbnkgckhaa

/- Bytes of a constant text, made a slice: their block bears a mark, so it is no row; what is told of it stays. No function of the program is named here. -/
set_option maxRecDepth 4000
namespace Go.Proofs.Ytbdpocbnkgckhaa
open Go Go.RowKit
def MarkAt (w : World) (g : Nat) (q : List (BitVec 8)) : Prop := ∃ fr, w.heap[g]? = some (.cells (bs q) 5 fr)
theorem MarkAt.lt {w : World} {g : Nat} {q : List (BitVec 8)} (h : MarkAt w g q) : g < w.heap.size := by
  obtain ⟨fr, h⟩ := h
  exact (Array.getElem?_eq_some_iff.1 h).1
theorem MarkAt.of {w w' : World} {g : Nat} {q : List (BitVec 8)} (h : MarkAt w g q) (e : w'.heap[g]? = w.heap[g]?) : MarkAt w' g q := by
  obtain ⟨fr, h⟩ := h
  exact ⟨fr, e.trans h⟩
theorem MarkAt.call {w w' : World} {g : Nat} {q : List (BitVec 8)} (h : MarkAt w g q) (hb : Below w.heap.size w w') : MarkAt w' g q := h.of (hb.block g h.lt)
theorem MarkAt.slice {w : World} {g n : Nat} {q : List (BitVec 8)} (h : MarkAt w g q) (hn : q.length = n) : Slice w (.slice (some ⟨g, 0, none⟩) n n) q := by
  obtain ⟨fr, h⟩ := h
  subst hn
  refine ⟨_, _, rfl, Nat.le_refl _, fun _ => ⟨g, 0, rfl, (Array.getElem?_eq_some_iff.1 h).1, fun j x hx => ?_⟩⟩
  rw [Nat.zero_add, cell_of_row w g j (bs q) 5 fr h, ← Array.getElem?_toList, bs_toList]
  simp [bytesV, hx]
def inS (S : List Blk) (k : Nat) : Prop := ∃ r ∈ S, r.g = k
theorem MarkAt.chg {w w' : World} {g : Nat} {q : List (BitVec 8)} {S S' : List Blk} (h : MarkAt w g q) (HS : St w (inS S) S' w') (hg : ∀ r ∈ S, r.g ≠ g) : MarkAt w' g q := h.of (HS.chg.block g h.lt fun ⟨r, h1, h2⟩ => hg r h1 h2)
/- the rows' own frame: what lies elsewhere stays, for a while -/
theorem St.frame {w0 w : World} {F : Nat → Prop} {S : List Blk} (h : St w0 F S w) : St w (inS S) S w :=
  ⟨Chg.refl _ _, h.rows, h.apart, fun _ r hk => .inl ⟨r, List.mem_of_getElem? hk, rfl⟩⟩
theorem St.unframe {w0 w w' : World} {S S' : List Blk} (h : St w0 noF S w) (k : St w (inS S) S' w') : St w0 noF S' w' := by
  have hw : ∀ j, inS S j → w0.heap.size ≤ j := fun j ⟨r, h1, h2⟩ => by
    obtain ⟨i, hi⟩ := List.getElem?_of_mem h1
    rcases h.own i r hi with hf | hf
    · exact hf.elim
    · omega
  refine ⟨⟨k.chg.os.trans h.chg.os, k.chg.tape.trans h.chg.tape, k.chg.output.trans h.chg.output, Nat.le_trans h.chg.size k.chg.size, fun j hj hn => ?_⟩, k.rows, k.apart, fun i r hi => .inr ?_⟩
  · exact (k.chg.block j (Nat.lt_of_lt_of_le hj h.chg.size) fun hf => by have := hw j hf; omega).trans (h.chg.block j hj hn)
  · rcases k.own i r hi with hf | hf
    · exact hw _ hf
    · exact Nat.le_trans h.chg.size hf
theorem run_conv_lit2 (w : World) (g n c : Nat) (C : Array Value) (fr : Nat × Nat) (hg : w.heap[g]? = some (.cells C 5 fr)) :
    ∃ w', (convert 23 23 (.slice (some ⟨g, 0, none⟩) n c)).run Try.prog w = .ok (.slice (some ⟨g, 0, none⟩) n c) w' ∧ (∃ fr', w'.heap[g]? = some (.cells C 5 fr')) ∧ Chg (fun k => k = g) w w' ∧ ∀ k, k ≠ g → w'.heap[k]? = w.heap[k]? := by
  have hsh : w.shape? g = some (5, C.size) := by unfold World.shape?; rw [hg]
  have hk : ∀ k, k ≠ g → (w.freeze ⟨g, C.size, none⟩ 1).heap[k]? = w.heap[k]? := fun k hk => by
    simp only [World.freeze, if_neg (show ¬ (1 = 0) by decide), Array.getElem?_modify]
    rw [if_neg (fun e => hk e.symm)]
  refine ⟨w.freeze ⟨g, C.size, none⟩ 1, by simp [convert, run_underlying Try.underlying23, run_underlying Try.underlying5, markStringish, hsh], ?_, ⟨rfl, rfl, rfl, by simp [World.freeze], fun k _ h => hk k h⟩, hk⟩
  simp only [World.freeze, if_neg (show ¬ (1 = 0) by decide), Array.getElem?_modify]
  rw [if_pos trivial, hg]
  exact ⟨_, rfl⟩
theorem dd_cvl {o : Oper} {a : Act} {w w0 : World} {R : Value → World → Prop} {F : Nat → Prop} {S : List Blk} (HS : St w0 F S w) (k : Nat) {x : Operand} {g n : Nat} {q : List (BitVec 8)} (ho : o.op = .convert 23 23 x) (hk : S[k]? = some ⟨g, 5, bs q⟩) (hx : a.eval x = .slice (some ⟨g, 0, none⟩) n n)
    (h : ∀ w', St w0 F (S.eraseIdx k) w' → MarkAt w' g q → (∀ r ∈ S.eraseIdx k, r.g ≠ g) → R (.slice (some ⟨g, 0, none⟩) n n) w') : Does Try.prog o a w R := by
  have hr : Row w g 5 (bs q) := HS.row k hk
  obtain ⟨w', h1, h2, h3, h4⟩ := run_conv_lit2 w g n n (bs q) (0, 0) hr
  have hne : ∀ r ∈ S.eraseIdx k, r.g ≠ g := fun r hr e => by
    obtain ⟨j, hj⟩ := List.getElem?_of_mem hr
    rw [List.getElem?_eraseIdx] at hj
    split at hj
    · exact HS.apart j k r _ (by omega) hj hk e
    · exact HS.apart (j + 1) k r _ (by omega) hj hk e
  have hE := st_erase HS k
  have hg := HS.own k _ hk
  refine does_run (w' := w') (v := .slice (some ⟨g, 0, none⟩) n n) (by simp only [execOp, ho, hx, Sem.run_bind, h1, Result.andThen_ok, Sem.run_pure]) (h w' ⟨⟨h3.os.trans hE.chg.os, h3.tape.trans hE.chg.tape, h3.output.trans hE.chg.output, Nat.le_trans hE.chg.size h3.size, fun j hj hf => ?_⟩, fun j r hj => ?_, hE.apart, hE.own⟩ h2 hne)
  · refine (h4 j fun e => ?_).trans (hE.chg.block j hj hf)
    subst e
    rcases hg with hg | hg
    · exact hf hg
    · exact absurd hj (Nat.not_lt.2 hg)
  · exact (h4 r.g (hne r (List.mem_of_getElem? hj))).trans (hE.rows j r hj)
end Go.Proofs.Ytbdpocbnkgckhaa

/- Rows handed to a call, the others staying, whatever the frame. No function of the program is named here. -/
set_option maxRecDepth 4000
namespace Go.Proofs.Ytbdpocbnkgckhaa
open Go Go.RowKit
theorem St.reframeF {F : Nat → Prop} {w0 w w' : World} {S1 S2 S1' : List Blk} (h : St w0 F (S1 ++ S2) w) (k : St w (inS S1) S1' w') : St w0 F (S1' ++ S2) w' := by
  have hw : ∀ j, inS S1 j → F j ∨ w0.heap.size ≤ j := fun j ⟨r, h1, h2⟩ => by
    obtain ⟨i, hi⟩ := List.getElem?_of_mem (List.mem_append_left S2 h1)
    exact h2 ▸ h.own i r hi
  have hap : ∀ (r s : Blk), r ∈ S1 → ∀ (j : Nat), S2[j]? = some s → r.g ≠ s.g := fun r s hr j hj => by
    obtain ⟨i, hi⟩ := List.getElem?_of_mem hr
    have hlt := (List.getElem?_eq_some_iff.1 hi).1
    exact h.apart i (S1.length + j) r s (by omega) (by rw [List.getElem?_append_left hlt]; exact hi) (by rw [List.getElem?_append_right (by omega), Nat.add_sub_cancel_left]; exact hj)
  have hS2 : ∀ (j : Nat) (s : Blk), S2[j]? = some s → ¬ inS S1 s.g ∧ s.g < w.heap.size ∧ (F s.g ∨ w0.heap.size ≤ s.g) ∧ Row w s.g s.t s.cs := fun j s hj => by
    have hi : (S1 ++ S2)[S1.length + j]? = some s := by rw [List.getElem?_append_right (by omega), Nat.add_sub_cancel_left]; exact hj
    exact ⟨fun ⟨r, h1, h2⟩ => hap r s h1 j hj h2, (h.rows _ _ hi).lt, h.own _ _ hi, h.rows _ _ hi⟩
  have hx : ∀ (i j : Nat) (r s : Blk), S1'[i]? = some r → S2[j]? = some s → r.g ≠ s.g := fun i j r s hi hj e => by
    obtain ⟨h1, h2, _⟩ := hS2 j s hj
    rcases k.own i r hi with hf | hf
    · exact h1 (e ▸ hf)
    · omega
  refine ⟨⟨k.chg.os.trans h.chg.os, k.chg.tape.trans h.chg.tape, k.chg.output.trans h.chg.output, Nat.le_trans h.chg.size k.chg.size, fun j hj hn => ?_⟩, fun i r hi => ?_, fun i j r s hij hi hj => ?_, fun i r hi => ?_⟩
  · exact (k.chg.block j (Nat.lt_of_lt_of_le hj h.chg.size) fun hf => (hw j hf).elim hn fun h9 => by omega).trans (h.chg.block j hj hn)
  · by_cases hlt : i < S1'.length
    · rw [List.getElem?_append_left hlt] at hi; exact k.rows i r hi
    · rw [List.getElem?_append_right (by omega)] at hi
      obtain ⟨h1, h2, _, h4⟩ := hS2 _ _ hi
      exact (k.chg.block r.g h2 h1).trans h4
  · by_cases hli : i < S1'.length <;> by_cases hlj : j < S1'.length
    · rw [List.getElem?_append_left hli] at hi; rw [List.getElem?_append_left hlj] at hj; exact k.apart i j r s hij hi hj
    · rw [List.getElem?_append_left hli] at hi; rw [List.getElem?_append_right (by omega)] at hj; exact hx _ _ _ _ hi hj
    · rw [List.getElem?_append_right (by omega)] at hi; rw [List.getElem?_append_left hlj] at hj; exact fun e => hx _ _ _ _ hj hi e.symm
    · rw [List.getElem?_append_right (by omega)] at hi hj
      exact h.apart (S1.length + (i - S1'.length)) (S1.length + (j - S1'.length)) r s (by omega) (by rw [List.getElem?_append_right (by omega), Nat.add_sub_cancel_left]; exact hi) (by rw [List.getElem?_append_right (by omega), Nat.add_sub_cancel_left]; exact hj)
  · by_cases hlt : i < S1'.length
    · rw [List.getElem?_append_left hlt] at hi
      rcases k.own i r hi with hf | hf
      · exact hw _ hf
      · exact .inr (Nat.le_trans h.chg.size hf)
    · rw [List.getElem?_append_right (by omega)] at hi
      exact (hS2 _ _ hi).2.2.1
end Go.Proofs.Ytbdpocbnkgckhaa

/- Things in memory besides rows, each with a footprint of its own; what is known of the memory as rows and things; calls that change some of them. No function of the program is named here. -/
set_option maxRecDepth 4000
namespace Go.Proofs.Ytbdpocbnkgckhaa
open Go Go.RowKit
structure Thing where
  at_ : World → (Nat → Prop) → Prop
  lt : ∀ {w : World} {f : Nat → Prop}, at_ w f → ∀ k, f k → k < w.heap.size
  keep : ∀ {w w' : World} {f G : Nat → Prop}, at_ w f → Chg G w w' → (∀ k, f k → ¬ G k) → at_ w' f
def selT : List Thing → List Nat → List Thing
  | _, [] => []
  | S, i :: is => match S[i]? with
    | some r => r :: selT S is
    | none => selT S is
abbrev Tp := Thing × (Nat → Prop)
def selP : List Tp → List Nat → List Tp
  | _, [] => []
  | S, i :: is => match S[i]? with
    | some r => r :: selP S is
    | none => selP S is
theorem selP_map (P : List Tp) : ∀ is : List Nat, (selP P is).map (·.1) = selT (P.map (·.1)) is
  | [] => rfl
  | i :: is => by
    unfold selP selT
    rw [List.getElem?_map]
    cases P[i]? with
    | none => exact selP_map P is
    | some x => rw [List.map_cons, selP_map P is]; rfl
theorem selP_at (S : List Tp) : ∀ (is : List Nat), is.Nodup → ∀ (i j : Nat) (r s : Tp), (selP S is)[i]? = some r → (selP S is)[j]? = some s → ∃ i' j', i' ∈ is ∧ j' ∈ is ∧ S[i']? = some r ∧ S[j']? = some s ∧ (i ≠ j → i' ≠ j')
  | [], _, i, j, r, s, h, _ => by simp [selP] at h
  | k :: is, hn, i, j, r, s, hi, hj => by
    obtain ⟨hk, hn⟩ := List.nodup_cons.1 hn
    unfold selP at hi hj
    cases hs : S[k]? with
    | none =>
      rw [hs] at hi hj
      obtain ⟨i', j', h1, h2, h3⟩ := selP_at S is hn i j r s hi hj
      exact ⟨i', j', by simp [h1], by simp [h2], h3⟩
    | some u =>
      rw [hs] at hi hj
      cases i with
      | zero =>
        obtain rfl : u = r := by simpa using hi
        cases j with
        | zero => obtain rfl : u = s := by simpa using hj
                  exact ⟨k, k, by simp, by simp, hs, hs, fun h => absurd rfl h⟩
        | succ j =>
          obtain ⟨j', _, h1, _, h3, _, _⟩ := selP_at S is hn j j s s (by simpa using hj) (by simpa using hj)
          exact ⟨k, j', by simp, by simp [h1], hs, h3, fun _ e => hk (e ▸ h1)⟩
      | succ i =>
        cases j with
        | zero =>
          obtain rfl : u = s := by simpa using hj
          obtain ⟨i', _, h1, _, h3, _, _⟩ := selP_at S is hn i i r r (by simpa using hi) (by simpa using hi)
          exact ⟨i', k, by simp [h1], by simp, h3, hs, fun _ e => hk (e ▸ h1)⟩
        | succ j =>
          obtain ⟨i', j', h1, h2, h3, h4, h5⟩ := selP_at S is hn i j r s (by simpa using hi) (by simpa using hj)
          exact ⟨i', j', by simp [h1], by simp [h2], h3, h4, fun h => h5 (by omega)⟩
structure Rs (w0 : World) (F : Nat → Prop) (R : List Blk) (Q : List Thing) (w : World) : Prop where
  st : St w0 F R w
  th : ∃ P : List Tp, P.map (·.1) = Q ∧ (∀ (i : Nat) (x : Tp), P[i]? = some x → x.1.at_ w x.2 ∧ ∀ k, x.2 k → (F k ∨ w0.heap.size ≤ k) ∧ ¬ inS R k) ∧ ∀ (i j : Nat) (x y : Tp), i ≠ j → P[i]? = some x → P[j]? = some y → ∀ k, x.2 k → ¬ y.2 k
theorem St.after {w0 w1 w : World} {F : Nat → Prop} {R R' : List Blk} (h : St w0 F R w1) (k : St w1 (inS R) R' w) : St w0 F R' w := by
  have := St.reframeF (S2 := []) (by rw [List.append_nil]; exact h) k
  rwa [List.append_nil] at this
section
variable {w0 w1 w w' : World} {F G : Nat → Prop} {R R' R1 R2 : List Blk} {Q Q' Q1 Q2 : List Thing}
theorem Rs.of (h : St w0 F R w) : Rs w0 F R [] w := ⟨h, [], rfl, fun i x hx => by simp at hx, fun i j x y _ hx => by simp at hx⟩
theorem Rs.move (h : Rs w0 F R Q w1) (k : St w1 (inS R) R' w) : Rs w0 F R' Q w := by
  obtain ⟨P, h0, h1, h2⟩ := h.th
  refine ⟨h.st.after k, P, h0, fun i x hx => ?_, h2⟩
  obtain ⟨h3, h4⟩ := h1 i x hx
  refine ⟨x.1.keep h3 k.chg fun j hj => (h4 j hj).2, fun j hj => ⟨(h4 j hj).1, ?_⟩⟩
  rintro ⟨r, hr, rfl⟩
  obtain ⟨n, hn⟩ := List.getElem?_of_mem hr
  rcases k.own n r hn with hf | hf
  · exact (h4 _ hj).2 hf
  · have := x.1.lt h3 r.g hj; omega
theorem Rs.sel (h : Rs w0 F R Q w) (is js : List Nat) (hn : is.Nodup := by decide) (hm : js.Nodup := by decide) : Rs w0 F (selB R is) (selT Q js) w := by
  obtain ⟨P, h0, h1, h2⟩ := h.th
  refine ⟨st_sel h.st is hn, selP P js, by rw [selP_map, h0], fun i x hx => ?_, fun i j x y hij hx hy => ?_⟩
  · obtain ⟨i', _, _, _, h3, _⟩ := selP_at P js hm i i x x hx hx
    obtain ⟨h4, h5⟩ := h1 i' x h3
    refine ⟨h4, fun k hk => ⟨(h5 k hk).1, ?_⟩⟩
    rintro ⟨r, hr, rfl⟩
    obtain ⟨n, hn'⟩ := List.getElem?_of_mem hr
    obtain ⟨n', _, _, _, h6, _⟩ := sel_at R is hn n n r r hn' hn'
    exact (h5 _ hk).2 ⟨r, List.mem_of_getElem? h6, rfl⟩
  · obtain ⟨i', j', _, _, h3, h4, h5⟩ := selP_at P js hm i j x y hx hy
    exact h2 i' j' x y (h5 hij) h3 h4
/- some rows and things handed to a call -/
theorem Rs.reframe (h : Rs w0 F (R1 ++ R2) (Q1 ++ Q2) w) : ∃ G, Rs w G R1 Q1 w ∧ (∀ k, G k → (F k ∨ w0.heap.size ≤ k) ∧ k < w.heap.size ∧ ¬ inS R2 k) ∧ (∀ R1' Q1' w', Rs w G R1' Q1' w' → Rs w0 F (R1' ++ R2) (Q1' ++ Q2) w') ∧ ∀ (i : Nat) (q : Thing), Q2[i]? = some q → ∃ f, q.at_ w f ∧ ∀ k, f k → ¬ G k := by
  obtain ⟨P, h0, h1, h2⟩ := h.th
  obtain ⟨P1, P2, rfl, rfl, rfl⟩ := List.map_eq_append_iff.1 h0
  have hR : ∀ r ∈ R1, (F r.g ∨ w0.heap.size ≤ r.g) ∧ r.g < w.heap.size ∧ ¬ inS R2 r.g := fun r hr => by
    obtain ⟨i, hi⟩ := List.getElem?_of_mem hr
    have hlt := (List.getElem?_eq_some_iff.1 hi).1
    have hi2 : (R1 ++ R2)[i]? = some r := by rw [List.getElem?_append_left hlt]; exact hi
    refine ⟨h.st.own i r hi2, (h.st.rows i r hi2).lt, ?_⟩
    rintro ⟨s, hs, e⟩
    obtain ⟨j, hj⟩ := List.getElem?_of_mem hs
    exact h.st.apart i (R1.length + j) r s (by omega) hi2 (by rw [List.getElem?_append_right (by omega), Nat.add_sub_cancel_left]; exact hj) e.symm
  have a1 : ∀ (i : Nat) (x : Tp), P1[i]? = some x → (P1 ++ P2)[i]? = some x := fun i x hx => by
    rw [List.getElem?_append_left (List.getElem?_eq_some_iff.1 hx).1]; exact hx
  have a2 : ∀ (i : Nat) (x : Tp), P2[i]? = some x → (P1 ++ P2)[P1.length + i]? = some x := fun i x hx => by
    rw [List.getElem?_append_right (by omega), Nat.add_sub_cancel_left]; exact hx
  have b1 : ∀ k, inS R1 k → inS (R1 ++ R2) k := fun k ⟨r, hr, e⟩ => ⟨r, List.mem_append_left _ hr, e⟩
  have b2 : ∀ k, inS R2 k → inS (R1 ++ R2) k := fun k ⟨r, hr, e⟩ => ⟨r, List.mem_append_right _ hr, e⟩
  refine ⟨fun k => inS R1 k ∨ ∃ x ∈ P1, x.2 k, ⟨?_, P1, rfl, fun i x hx => ?_, fun i j x y hij hx hy => h2 i j x y hij (a1 i x hx) (a1 j y hy)⟩, fun k hk => ?_, fun R1' Q1' w' k => ?_, fun i q hq => ?_⟩
  · refine ⟨Chg.refl _ _, fun i r hi => h.st.rows i r (by rw [List.getElem?_append_left (List.getElem?_eq_some_iff.1 hi).1]; exact hi), fun i j r s hij hi hj => h.st.apart i j r s hij (by rw [List.getElem?_append_left (List.getElem?_eq_some_iff.1 hi).1]; exact hi) (by rw [List.getElem?_append_left (List.getElem?_eq_some_iff.1 hj).1]; exact hj), fun i r hi => .inl (.inl ⟨r, List.mem_of_getElem? hi, rfl⟩)⟩
  · obtain ⟨h3, h4⟩ := h1 i x (a1 i x hx)
    exact ⟨h3, fun k hk => ⟨.inl (.inr ⟨x, List.mem_of_getElem? hx, hk⟩), fun h9 => (h4 k hk).2 (b1 k h9)⟩⟩
  · rcases hk with ⟨r, hr, rfl⟩ | ⟨x, hx, hk⟩
    · exact hR r hr
    · obtain ⟨i, hi⟩ := List.getElem?_of_mem hx
      obtain ⟨h3, h4⟩ := h1 i x (a1 i x hi)
      exact ⟨(h4 k hk).1, x.1.lt h3 k hk, fun h9 => (h4 k hk).2 (b2 k h9)⟩
  · have hG : ∀ k, (inS R1 k ∨ ∃ x ∈ P1, x.2 k) → (F k ∨ w0.heap.size ≤ k) ∧ k < w.heap.size ∧ ¬ inS R2 k := fun k hk => by
      rcases hk with ⟨r, hr, rfl⟩ | ⟨x, hx, hk⟩
      · exact hR r hr
      · obtain ⟨i, hi⟩ := List.getElem?_of_mem hx
        obtain ⟨h3, h4⟩ := h1 i x (a1 i x hi)
        exact ⟨(h4 k hk).1, x.1.lt h3 k hk, fun h9 => (h4 k hk).2 (b2 k h9)⟩
    have hsz := k.st.chg.size
    have hw0 := h.st.chg.size
    have hR2 : ∀ (i : Nat) (r : Blk), R2[i]? = some r → (R1 ++ R2)[R1.length + i]? = some r := fun i r hi => by
      rw [List.getElem?_append_right (by omega), Nat.add_sub_cancel_left]; exact hi
    have hn2 : ∀ (i : Nat) (r : Blk), R2[i]? = some r → r.g < w.heap.size ∧ ¬ (inS R1 r.g ∨ ∃ x ∈ P1, x.2 r.g) := fun i r hi =>
      ⟨(h.st.rows _ _ (hR2 i r hi)).lt, fun h9 => (hG _ h9).2.2 ⟨r, List.mem_of_getElem? hi, rfl⟩⟩
    have hx2 : ∀ (i j : Nat) (r s : Blk), R1'[i]? = some r → R2[j]? = some s → r.g ≠ s.g := fun i j r s hi hj e => by
      obtain ⟨h3, h4⟩ := hn2 j s hj
      rcases k.st.own i r hi with h5 | h5
      · exact h4 (e ▸ h5)
      · omega
    obtain ⟨P1', e1, k1, k2⟩ := k.th
    have hnx : ∀ (i : Nat) (x : Tp), P2[i]? = some x → ∀ j, x.2 j → j < w.heap.size ∧ ¬ (inS R1 j ∨ ∃ y ∈ P1, y.2 j) := fun i x hx j hj => by
      obtain ⟨h3, h4⟩ := h1 _ x (a2 i x hx)
      refine ⟨x.1.lt h3 j hj, ?_⟩
      rintro (h5 | ⟨y, hy, h5⟩)
      · exact (h4 j hj).2 (b1 j h5)
      · obtain ⟨n, hn⟩ := List.getElem?_of_mem hy
        have hlt := (List.getElem?_eq_some_iff.1 hn).1
        exact h2 n (P1.length + i) y x (by omega) (a1 n y hn) (a2 i x hx) j h5 hj
    obtain ⟨P1', e1, k1, k2⟩ := k.th
    refine ⟨⟨⟨k.st.chg.os.trans h.st.chg.os, k.st.chg.tape.trans h.st.chg.tape, k.st.chg.output.trans h.st.chg.output, Nat.le_trans hw0 hsz, fun j hj hn => ?_⟩, fun i r hi => ?_, fun i j r s hij hi hj => ?_, fun i r hi => ?_⟩, P1' ++ P2, by rw [List.map_append, e1], fun i x hx => ?_, fun i j x y hij hx hy => ?_⟩
    · exact (k.st.chg.block j (Nat.lt_of_lt_of_le hj hw0) fun hf => (hG j hf).1.elim hn fun h9 => by omega).trans (h.st.chg.block j hj hn)
    · by_cases hlt : i < R1'.length
      · rw [List.getElem?_append_left hlt] at hi; exact k.st.rows i r hi
      · rw [List.getElem?_append_right (by omega)] at hi
        obtain ⟨h3, h4⟩ := hn2 _ _ hi
        exact (k.st.chg.block r.g h3 h4).trans (h.st.rows _ _ (hR2 _ _ hi))
    · by_cases hli : i < R1'.length <;> by_cases hlj : j < R1'.length
      · rw [List.getElem?_append_left hli] at hi; rw [List.getElem?_append_left hlj] at hj; exact k.st.apart i j r s hij hi hj
      · rw [List.getElem?_append_left hli] at hi; rw [List.getElem?_append_right (by omega)] at hj; exact hx2 _ _ _ _ hi hj
      · rw [List.getElem?_append_right (by omega)] at hi; rw [List.getElem?_append_left hlj] at hj; exact fun e => hx2 _ _ _ _ hj hi e.symm
      · rw [List.getElem?_append_right (by omega)] at hi hj
        exact h.st.apart (R1.length + (i - R1'.length)) (R1.length + (j - R1'.length)) r s (by omega) (hR2 _ _ hi) (hR2 _ _ hj)
    · by_cases hlt : i < R1'.length
      · rw [List.getElem?_append_left hlt] at hi
        rcases k.st.own i r hi with h5 | h5
        · exact (hG _ h5).1
        · exact .inr (Nat.le_trans hw0 h5)
      · rw [List.getElem?_append_right (by omega)] at hi
        exact h.st.own _ _ (hR2 _ _ hi)
    · by_cases hlt : i < P1'.length
      · rw [List.getElem?_append_left hlt] at hx
        obtain ⟨h3, h4⟩ := k1 i x hx
        refine ⟨h3, fun j hj => ⟨(h4 j hj).1.elim (fun h5 => (hG j h5).1) (fun h5 => .inr (Nat.le_trans hw0 h5)), ?_⟩⟩
        rintro ⟨r, hr, rfl⟩
        rcases List.mem_append.1 hr with hr | hr
        · exact (h4 _ hj).2 ⟨r, hr, rfl⟩
        · obtain ⟨n, hn⟩ := List.getElem?_of_mem hr
          obtain ⟨h5, h6⟩ := hn2 n r hn
          rcases (h4 _ hj).1 with h7 | h7
          · exact h6 h7
          · omega
      · rw [List.getElem?_append_right (by omega)] at hx
        obtain ⟨h3, h4⟩ := h1 _ x (a2 _ x hx)
        refine ⟨x.1.keep h3 k.st.chg fun j hj => (hnx _ x hx j hj).2, fun j hj => ⟨(h4 j hj).1, ?_⟩⟩
        rintro ⟨r, hr, rfl⟩
        obtain ⟨h5, h6⟩ := hnx _ x hx _ hj
        rcases List.mem_append.1 hr with hr | hr
        · obtain ⟨n, hn⟩ := List.getElem?_of_mem hr
          rcases k.st.own n r hn with h7 | h7
          · exact h6 h7
          · omega
        · exact (h4 _ hj).2 (b2 _ ⟨r, hr, rfl⟩)
    · have hcr : ∀ (i j : Nat) (x y : Tp), P1'[i]? = some x → P2[j]? = some y → ∀ k, x.2 k → ¬ y.2 k := fun i j x y hx hy n hn hn' => by
        obtain ⟨h5, h6⟩ := hnx j y hy n hn'
        rcases ((k1 i x hx).2 n hn).1 with h7 | h7
        · exact h6 h7
        · omega
      by_cases hli : i < P1'.length <;> by_cases hlj : j < P1'.length
      · rw [List.getElem?_append_left hli] at hx; rw [List.getElem?_append_left hlj] at hy; exact k2 i j x y hij hx hy
      · rw [List.getElem?_append_left hli] at hx; rw [List.getElem?_append_right (by omega)] at hy; exact hcr _ _ _ _ hx hy
      · rw [List.getElem?_append_right (by omega)] at hx; rw [List.getElem?_append_left hlj] at hy; exact fun n h8 h9 => hcr _ _ _ _ hy hx n h9 h8
      · rw [List.getElem?_append_right (by omega)] at hx hy
        exact h2 (P1.length + (i - P1'.length)) (P1.length + (j - P1'.length)) x y (by omega) (a2 _ _ hx) (a2 _ _ hy)
  · rw [List.getElem?_map] at hq
    cases hx : P2[i]? with
    | none => rw [hx] at hq; cases hq
    | some x =>
      rw [hx] at hq
      injection hq with hq
      subst hq
      obtain ⟨h3, h4⟩ := h1 _ x (a2 i x hx)
      refine ⟨x.2, h3, fun j hj => ?_⟩
      rintro (h5 | ⟨y, hy, h5⟩)
      · exact (h4 j hj).2 (b1 j h5)
      · obtain ⟨n, hn⟩ := List.getElem?_of_mem hy
        have hlt := (List.getElem?_eq_some_iff.1 hn).1
        exact h2 n (P1.length + i) y x (by omega) (a1 n y hn) (a2 i x hx) j h5 hj
theorem Rs.same (h : Rs w0 F R Q w) (hb : Below w.heap.size w w') : Rs w0 F R Q w' :=
  h.move (R' := R) (h.st.frame.same hb)
theorem Rs.fresh {q : Thing} {f : Nat → Prop} (hb : Below w.heap.size w w') (hq : q.at_ w' f) (hf : ∀ k, f k → w.heap.size ≤ k) : Rs w F [] [q] w' :=
  ⟨⟨Chg.of_below hb, fun i r h => by simp at h, fun i j r s _ h => by simp at h, fun i r h => by simp at h⟩, [(q, f)], rfl, fun i x hx => by
    match i, hx with
    | 0, hx =>
      obtain rfl : (q, f) = x := by simpa using hx
      exact ⟨hq, fun k hk => ⟨.inr (hf k hk), fun ⟨r, hr, _⟩ => by cases hr⟩⟩, fun i j x y hij hx hy => by
    have h1 := (List.getElem?_eq_some_iff.1 hx).1
    have h2 := (List.getElem?_eq_some_iff.1 hy).1
    simp at h1 h2; omega⟩
theorem Rs.addT {q : Thing} {f : Nat → Prop} (h : Rs w0 F R Q w) (hb : Below w.heap.size w w') (hq : q.at_ w' f) (hf : ∀ k, f k → w.heap.size ≤ k) : Rs w0 F R (q :: Q) w' := by
  obtain ⟨G, h1, h2, h3, _⟩ := Rs.reframe (R1 := []) (Q1 := []) h
  exact h3 [] [q] w' (Rs.fresh hb hq hf)
/- the first thing: what it is, and another one in its place, in the same blocks -/
theorem Rs.head {q : Thing} (h : Rs w0 F R (q :: Q) w) : ∃ f, q.at_ w f ∧ (∀ k, f k → (F k ∨ w0.heap.size ≤ k) ∧ ¬ inS R k) ∧ ∀ q' : Thing, q'.at_ w f → Rs w0 F R (q' :: Q) w := by
  obtain ⟨P, h0, h1, h2⟩ := h.th
  obtain ⟨⟨q0, f⟩, P, rfl⟩ : ∃ x P', P = x :: P' := by
    cases P with
    | nil => cases h0
    | cons x P => exact ⟨x, P, rfl⟩
  rw [List.map_cons] at h0
  injection h0 with h0 h0'
  have h0 : q0 = q := h0
  subst h0 h0'
  refine ⟨f, (h1 0 _ rfl).1, (h1 0 _ rfl).2, fun q' hq' => ⟨h.st, (q', f) :: P, rfl, fun i x hx => ?_, fun i j x y hij hx hy => ?_⟩⟩
  · cases i with
    | zero => obtain rfl : (q', f) = x := by simpa using hx
              exact ⟨hq', (h1 0 _ rfl).2⟩
    | succ i => exact h1 (i + 1) x (by simpa using hx)
  · cases i with
    | zero =>
      obtain rfl : (q', f) = x := by simpa using hx
      cases j with
      | zero => exact absurd rfl hij
      | succ j => exact h2 0 (j + 1) (q0, f) y hij rfl (by simpa using hy)
    | succ i =>
      cases j with
      | zero => obtain rfl : (q', f) = y := by simpa using hy
                exact h2 (i + 1) 0 x (q0, f) hij (by simpa using hx) rfl
      | succ j => exact h2 (i + 1) (j + 1) x y hij (by simpa using hx) (by simpa using hy)
/- a call that changes one thing alone -/
theorem Rs.one {q : Thing} (h : Rs w F [] [q] w) : ∃ f, q.at_ w f ∧ (∀ k, f k → F k) ∧ ∀ q' f' w', q'.at_ w' f' → Chg f w w' → (∀ k, f' k → f k ∨ w.heap.size ≤ k) → Rs w F [] [q'] w' := by
  obtain ⟨f, h1, h2, _⟩ := h.head
  have h3 : ∀ k, f k → F k := fun k hk => (h2 k hk).1.resolve_right fun h9 => by have := q.lt h1 k hk; omega
  refine ⟨f, h1, h3, fun q' f' w' hq hc hf => ⟨⟨hc.mono fun k hk => .inl (h3 k hk), fun i r h => by simp at h, fun i j r s _ h => by simp at h, fun i r h => by simp at h⟩, [(q', f')], rfl, fun i x hx => ?_, fun i j x y hij hx hy => ?_⟩⟩
  · match i, hx with
    | 0, hx =>
      obtain rfl : (q', f') = x := by simpa using hx
      exact ⟨hq, fun k hk => ⟨(hf k hk).imp (h3 k) id, fun ⟨r, hr, _⟩ => by cases hr⟩⟩
  · have h1 := (List.getElem?_eq_some_iff.1 hx).1
    have h2 := (List.getElem?_eq_some_iff.1 hy).1
    simp at h1 h2; omega
theorem Rs.mono (h : Rs w F R Q w) (hF : ∀ k, F k → G k) : Rs w G R Q w := by
  obtain ⟨P, h0, h1, h2⟩ := h.th
  exact ⟨⟨Chg.refl _ _, h.st.rows, h.st.apart, fun i r hi => (h.st.own i r hi).imp (hF _) id⟩, P, h0, fun i x hx => ⟨(h1 i x hx).1, fun k hk => ⟨((h1 i x hx).2 k hk).1.imp (hF k) id, ((h1 i x hx).2 k hk).2⟩⟩, h2⟩
theorem Rs.keep (h : Rs w F R Q w) (c : Chg G w w') (hF : ∀ k, F k → ¬ G k) : Rs w' F R Q w' := by
  obtain ⟨P, h0, h1, h2⟩ := h.th
  refine ⟨⟨Chg.refl _ _, fun i r hi => ?_, h.st.apart, fun i r hi => ?_⟩, P, h0, fun i x hx => ?_, h2⟩
  · have h3 := h.st.rows i r hi
    have h4 : F r.g := (h.st.own i r hi).resolve_right fun h9 => by have := h3.lt; omega
    exact (c.block r.g h3.lt (hF _ h4)).trans h3
  · have h3 := h.st.rows i r hi
    exact .inl ((h.st.own i r hi).resolve_right fun h9 => by have := h3.lt; omega)
  · obtain ⟨h3, h4⟩ := h1 i x hx
    have h5 : ∀ k, x.2 k → F k := fun k hk => (h4 k hk).1.resolve_right fun h9 => by have := x.1.lt h3 k hk; omega
    exact ⟨x.1.keep h3 c fun k hk => hF k (h5 k hk), fun k hk => ⟨.inl (h5 k hk), (h4 k hk).2⟩⟩
end
def exT {α : Type} (q : α → Thing) : Thing where
  at_ := fun w f => ∃ x, (q x).at_ w f
  lt := fun ⟨x, h⟩ => (q x).lt h
  keep := fun ⟨x, h⟩ c hF => ⟨x, (q x).keep h c hF⟩
section
variable {w0 w1 w w' : World} {F G : Nat → Prop} {R R' R1 R2 : List Blk} {Q Q' Q1 Q2 : List Thing}
theorem Rs.shut {α : Type} {q : α → Thing} (x : α) (h : Rs w0 F R (q x :: Q) w) : Rs w0 F R (exT q :: Q) w := by
  obtain ⟨f, h1, _, h3⟩ := h.head
  exact h3 _ ⟨x, h1⟩
/- a walk from one call to the next: rows alone are written -/
def Rz (w0 : World) (F : Nat → Prop) (Q : List Thing) (w1 : World) (G : Nat → Prop) : Prop := ∃ R, Rs w0 F R Q w1 ∧ G = inS R
theorem Rs.anchor (h : Rs w0 F R Q w) : ∃ G, Rz w0 F Q w G ∧ St w G R w := ⟨inS R, ⟨R, h, rfl⟩, h.st.frame⟩
theorem Rz.move (h : Rz w0 F Q w1 G) (k : St w1 G R w) : Rs w0 F R Q w := by
  obtain ⟨R1, h1, rfl⟩ := h; exact h1.move k
theorem Rz.chg (h : Rz w0 F Q w1 G) (k : St w1 G R w) : Chg F w0 w := (h.move k).st.chg
theorem Rz.bel (h : Rz w0 noF Q w1 G) (k : St w1 G R w) : Below w0.heap.size w0 w := (h.move k).st.below
end
section
variable {P : Program} {ops : Array Oper} {Q : Exit → Act → World → Prop} {o : Oper} {K : Act → World → Prop} {N : Nat} {a : Act} {w w0 : World} {F : Nat → Prop} {R : List Blk} {Th : List Thing}
theorem Rs.drew (h : Rs w0 F R Th w) : Rs w0 F R Th w.drew := h.same (Below.refl _ _).drew
theorem wr_ (HX : Rs w0 F R Th w) (is js : List Nat) {id : Nat} {l : List Oper} {M : Nat} (hM : l.length = M) {R9 : List Blk} (e : selB R js = selB R is ++ R9) (h : Rs w0 F R Th w.drew → Sx w0 F (selB R is) w.drew → wpAnyH P .any l.toArray Q (Sx w0 F (selB R is)) M (Array.replicate M false) a w.drew) (hn : js.Nodup := by decide) (hm : P.follows .mixedOrders = true := by kernel_rfl) : (Code.region id l.toArray true).wp P Q a w :=
  wi_ HX.st is hM js e (fun _ hx => h HX.drew hx) hn hm
end
theorem Chg.bel {w w' : World} (h : Chg noF w w') : Below w.heap.size w w' := h.below (fun _ hf => hf.elim) (Nat.le_refl _)
end Go.Proofs.Ytbdpocbnkgckhaa

/- The program's disk and log as things: what each call tells, and leaves. -/
set_option maxRecDepth 4000
namespace Go.Proofs.Ytbdpocbnkgckhaa
open Go Go.RowKit
theorem puts_chgT {w w' : World} {v : Value} {l : List (Int × List (BitVec 8))} {F : Nat → Prop} (h : PutsAt w v l) (c : Chg F w w') (hA : l ≠ [] → ∀ k, v.ownBlock = some k → ¬ F k) : PutsAt w' v l := by
  obtain ⟨A, n, rfl, h2, h3, h4⟩ := h
  refine ⟨A, n, rfl, h2, h3, fun hne => ?_⟩
  obtain ⟨b, o, rfl, h6, h7⟩ := h4 hne
  refine ⟨b, o, rfl, Nat.lt_of_lt_of_le h6 c.size, fun k x hx j u hu => ?_⟩
  have := h7 k x hx j u hu
  rw [← this]
  unfold World.cell?
  rw [c.block b h6 (hA hne b rfl)]
def dskT (D : DiskOps) (p : Value) (M : DiskM) : Thing where
  at_ := fun w f => D.A 0 w p M f
  lt := fun h k hk => (D.lt h k hk).2
  keep := fun h c hF => D.keep h c hF
section
variable {D : DiskOps} {w w0 : World} {F F0 : Nat → Prop} {R : List Blk} {Q : List Thing} {p : Value} {M : DiskM}
theorem acts_rs (h : Rs w F [] [dskT D p M] w) : ∃ f, D.A 0 w p M f ∧ (∀ k, f k → F k) ∧ ∀ {M' : DiskM} {r : Value} {e : Ending} {w' : World}, Acts D.A 0 w p f M' r e w' → e = .returned r ∧ Rs w F [] [dskT D p M'] w' := by
  obtain ⟨f, h1, h2, h3⟩ := h.one
  exact ⟨f, h1, h2, fun ⟨he, F', a, c, s⟩ => ⟨he, h3 _ F' _ a c s⟩⟩
theorem dr_ok (h : Rs w0 F0 R (dskT D p M :: Q) w) : M.Ok := by obtain ⟨f, h1, _⟩ := h.head; exact D.ok h1
theorem dr_ptr (h : Rs w0 F0 R (dskT D p M :: Q) w) : ∃ g, p = .pointer (some ⟨g, 0, none⟩) := by obtain ⟨f, h1, _⟩ := h.head; exact D.ptr h1
theorem dr_write (i : Int) (b : List (BitVec 8)) (h : Rs w F [] [dskT D p M] w) (hb : b.length = 32) (hl : M.l.length ≤ few) (hi : -9223372036854775808 ≤ i ∧ i < 9223372036854775808) : Calls Try.prog 61 #[p, .int .i64 i, .agg (bs b)] w fun e w' => e = .returned (.int .i64 (M.wRes i b).1) ∧ Rs w F [] [dskT D p (M.wRes i b).2] w' := by
  obtain ⟨f, h1, _, h3⟩ := acts_rs h
  exact (D.write 0 w p M f i b h1 hb hl hi).mono fun e w' q => h3 q
theorem dr_flush (h : Rs w F [] [dskT D p M] w) (hl : M.l.length ≤ few) : Calls Try.prog 63 #[p] w fun e w' => e = .returned (.int .i64 M.fRes.1) ∧ Rs w F [] [dskT D p M.fRes.2] w' := by
  obtain ⟨f, h1, _, h3⟩ := acts_rs h
  exact (D.flush 0 w p M f h1 hl).mono fun e w' q => h3 q
theorem dr_read (i : Int) (h : Rs w0 F0 R (dskT D p M :: Q) w) (hl : M.l.length ≤ few) (hi : -9223372036854775808 ≤ i ∧ i < 9223372036854775808) : Calls Try.prog 17 #[p, .int .i64 i] w fun e w' => e = .returned (.tuple #[.agg (bs (M.rRes i).1), .int .i64 (M.rRes i).2]) ∧ Below w.heap.size w w' := by
  obtain ⟨f, h1, _⟩ := h.head
  exact D.read 0 w p M f i h1 hl hi
theorem dr_len (h : Rs w0 F0 R (dskT D p M :: Q) w) : Calls Try.prog 16 #[p] w fun e w' => e = .returned (.int .i64 (M.s.length : Int)) ∧ Below w.heap.size w w' := by
  obtain ⟨f, h1, _⟩ := h.head
  exact D.len 0 w p M f h1
theorem dr_new (D : DiskOps) (F : Nat → Prop) (w : World) (n : Nat) (h : 1 ≤ n ∧ n ≤ 1024) : Calls Try.prog 20 #[.int .i64 n] w fun e w' => ∃ g, e = .returned (.tuple #[.pointer (some ⟨g, 0, none⟩), .int .i64 0]) ∧ Rs w F [] [dskT D (.pointer (some ⟨g, 0, none⟩)) (DiskM.new n)] w' := by
  refine (D.new 0 w n (Nat.zero_le _) (by omega)).mono fun e w' q => ?_
  unfold Makes at q
  rw [if_pos (by omega), Int.toNat_natCast] at q
  obtain ⟨g, f, he, ha, hb, hf⟩ := q
  exact ⟨g, he, Rs.fresh hb ha hf⟩
theorem wr_put (W : WalOps D) (i : Int) (e0 s0 : BitVec 32) (A : Option Addr) (n c : Nat) (l : List (Int × List (BitVec 8))) (h : Rs w F [] [dskT D p M] w) (hi : -9223372036854775808 ≤ i ∧ i < 9223372036854775808) (hn : l.length = n) (hp : PutsAt w (.slice A n c) l) (hm : n ≤ maxLen) (hk : l ≠ [] → ∀ k, (Value.slice A n c).ownBlock = some k → k < w.heap.size ∧ ¬ F k) (hl : M.l.length + 10 ≤ few) :
    Calls Try.prog 38 #[p, .int .i64 i, .agg (recW ⟨e0, s0, l⟩ (.slice A n c))] w fun e w' => e = .returned (.int .i64 (walPut M i ⟨e0, s0, l⟩).1) ∧ Rs w F [] [dskT D p (walPut M i ⟨e0, s0, l⟩).2] w' := by
  subst hn
  obtain ⟨f, h1, h2, h3⟩ := acts_rs h
  exact (W.put 0 w p M f i e0 s0 A c l h1 hi hp hm (fun hne k hk' => ⟨(hk hne k hk').1, fun hf => (hk hne k hk').2 (h2 k hf)⟩) hl (Nat.zero_le _)).mono fun e w' q => h3 q
theorem wr_get (W : WalOps D) (i : Int) (h : Rs w0 F0 R (dskT D p M :: Q) w) (hi : -9223372036854775808 ≤ i ∧ i < 9223372036854775808) (hl : M.l.length ≤ few) : Calls Try.prog 30 #[p, .int .i64 i] w (ToldP w (walGet M i).1 (walGet M i).2) := by
  obtain ⟨f, h1, _⟩ := h.head
  exact W.get 0 w p M f i h1 hi hl
end
/- puts that lie somewhere, by nobody written any more -/
def putsT (v : Value) (l : List (Int × List (BitVec 8))) : Thing where
  at_ := fun w f => PutsAt w v l ∧ (∀ k, f k → k < w.heap.size) ∧ (l ≠ [] → ∀ k, v.ownBlock = some k → f k)
  lt := fun h => h.2.1
  keep := fun h c hF => ⟨puts_chgT h.1 c fun hne k hk => hF k (h.2.2 hne k hk), fun k hk => Nat.lt_of_lt_of_le (h.2.1 k hk) c.size, h.2.2⟩
theorem putsT_new {w' : World} {v : Value} {l : List (Int × List (BitVec 8))} {B : Nat} (h : PutsAt w' v l) (ho : ∀ k, v.ownBlock = some k → B ≤ k) : ∃ f, (putsT v l).at_ w' f ∧ ∀ k, f k → B ≤ k := by
  refine ⟨fun k => l ≠ [] ∧ v.ownBlock = some k, ⟨h, fun k hk => ?_, fun hne k hk => ⟨hne, hk⟩⟩, fun k hk => ho k hk.2⟩
  obtain ⟨A, c, rfl, h2, h3, h4⟩ := h
  obtain ⟨b, o, rfl, h6, _⟩ := h4 hk.1
  obtain rfl : b = k := Option.some.inj hk.2
  exact h6
theorem putsT_far {w W : World} {G f : Nat → Prop} {v : Value} {l : List (Int × List (BitVec 8))} (h : (putsT v l).at_ w f) (hd : ∀ k, f k → ¬ G k) (c : Chg G w W) : PutsAt W v l := ((putsT v l).keep h c hd).1
end Go.Proofs.Ytbdpocbnkgckhaa

/- A block of the call's own is new. No function of the program is named here. -/
set_option maxRecDepth 4000
namespace Go.Proofs.Ytbdpocbnkgckhaa
open Go Go.RowKit
theorem st_fresh2 {w0 w : World} {S : List Blk} (h : St w0 noF S w) (k : Nat) {r : Blk} (hk : S[k]? = some r) : w0.heap.size ≤ r.g := (h.own k r hk).resolve_left fun e => e
end Go.Proofs.Ytbdpocbnkgckhaa

/- More of memory in a walk: cells that are far, rows that come back from a call, slices of slices of one's own. No function of the program is named here. -/
set_option maxRecDepth 4000
namespace Go.Proofs.Ytbdpocbnkgckhaa
open Go Go.RowKit
/- block b has these cells from o on -/
structure CAt (w : World) (b o : Nat) (L : List Value) : Prop where
  lt : b < w.heap.size
  at_ : w.rangeAt b o L
theorem CAt.call {w w' : World} {b o : Nat} {L : List Value} (h : CAt w b o L) (hb : Below w.heap.size w w') : CAt w' b o L :=
  ⟨Nat.lt_of_lt_of_le h.lt hb.size, fun j v hv => (hb.cell (p := ⟨b, o + j, none⟩) h.lt).trans (h.at_ j v hv)⟩
theorem CAt.pre {w : World} {b o : Nat} {L M : List Value} (h : CAt w b o (L ++ M)) : CAt w b o L :=
  ⟨h.lt, fun j v hv => h.at_ j v (by rw [List.getElem?_append_left (List.getElem?_eq_some_iff.1 hv).1]; exact hv)⟩
theorem CAt.post {w : World} {b o n : Nat} {L M : List Value} (h : CAt w b o (L ++ M)) (hn : L.length = n) : CAt w b (o + n) M := by
  subst hn
  exact ⟨h.lt, fun j v hv => by
    have := h.at_ (L.length + j) v (by rw [List.getElem?_append_right (by omega), Nat.add_sub_cancel_left]; exact hv)
    rwa [← Nat.add_assoc] at this⟩
theorem CAt.news {w : World} {b o : Nat} {L : List Value} (h : CAt w b o L) : ∀ (j : Nat) (u : Value), L[j]? = some u → w.cell? ((⟨b, o, none⟩ : Addr).add j) = some u := fun j u hu => by
  rw [Addr.add_mid]; exact h.at_ j u hu
/- rows handed to a call, the others staying -/
theorem St.reframe {w0 w w' : World} {S1 S2 S1' : List Blk} (h : St w0 noF (S1 ++ S2) w) (k : St w (inS S1) S1' w') : St w0 noF (S1' ++ S2) w' := by
  have hw : ∀ j, inS S1 j → w0.heap.size ≤ j := fun j ⟨r, h1, h2⟩ => by
    obtain ⟨i, hi⟩ := List.getElem?_of_mem (List.mem_append_left S2 h1)
    rcases h.own i r hi with hf | hf
    · exact hf.elim
    · omega
  have hap : ∀ (r s : Blk), r ∈ S1 → ∀ (j : Nat), S2[j]? = some s → r.g ≠ s.g := fun r s hr j hj => by
    obtain ⟨i, hi⟩ := List.getElem?_of_mem hr
    have hlt := (List.getElem?_eq_some_iff.1 hi).1
    exact h.apart i (S1.length + j) r s (by omega) (by rw [List.getElem?_append_left hlt]; exact hi) (by rw [List.getElem?_append_right (by omega), Nat.add_sub_cancel_left]; exact hj)
  have hS2 : ∀ (j : Nat) (s : Blk), S2[j]? = some s → ¬ inS S1 s.g ∧ s.g < w.heap.size ∧ w0.heap.size ≤ s.g ∧ Row w s.g s.t s.cs := fun j s hj => by
    have hi : (S1 ++ S2)[S1.length + j]? = some s := by rw [List.getElem?_append_right (by omega), Nat.add_sub_cancel_left]; exact hj
    exact ⟨fun ⟨r, h1, h2⟩ => hap r s h1 j hj h2, (h.rows _ _ hi).lt, (h.own _ _ hi).resolve_left fun e => e, h.rows _ _ hi⟩
  have hx : ∀ (i j : Nat) (r s : Blk), S1'[i]? = some r → S2[j]? = some s → r.g ≠ s.g := fun i j r s hi hj e => by
    obtain ⟨h1, h2, _⟩ := hS2 j s hj
    rcases k.own i r hi with hf | hf
    · exact h1 (e ▸ hf)
    · omega
  refine ⟨⟨k.chg.os.trans h.chg.os, k.chg.tape.trans h.chg.tape, k.chg.output.trans h.chg.output, Nat.le_trans h.chg.size k.chg.size, fun j hj hn => ?_⟩, fun i r hi => ?_, fun i j r s hij hi hj => ?_, fun i r hi => .inr ?_⟩
  · exact (k.chg.block j (Nat.lt_of_lt_of_le hj h.chg.size) fun hf => by have := hw j hf; omega).trans (h.chg.block j hj hn)
  · by_cases hlt : i < S1'.length
    · rw [List.getElem?_append_left hlt] at hi; exact k.rows i r hi
    · rw [List.getElem?_append_right (by omega)] at hi
      obtain ⟨h1, h2, _, h4⟩ := hS2 _ _ hi
      exact (k.chg.block r.g h2 h1).trans h4
  · by_cases hli : i < S1'.length <;> by_cases hlj : j < S1'.length
    · rw [List.getElem?_append_left hli] at hi; rw [List.getElem?_append_left hlj] at hj; exact k.apart i j r s hij hi hj
    · rw [List.getElem?_append_left hli] at hi; rw [List.getElem?_append_right (by omega)] at hj; exact hx _ _ _ _ hi hj
    · rw [List.getElem?_append_right (by omega)] at hi; rw [List.getElem?_append_left hlj] at hj; exact fun e => hx _ _ _ _ hj hi e.symm
    · rw [List.getElem?_append_right (by omega)] at hi hj
      exact h.apart (S1.length + (i - S1'.length)) (S1.length + (j - S1'.length)) r s (by omega) (by rw [List.getElem?_append_right (by omega), Nat.add_sub_cancel_left]; exact hi) (by rw [List.getElem?_append_right (by omega), Nat.add_sub_cancel_left]; exact hj)
  · by_cases hlt : i < S1'.length
    · rw [List.getElem?_append_left hlt] at hi
      rcases k.own i r hi with hf | hf
      · exact hw _ hf
      · exact Nat.le_trans h.chg.size hf
    · rw [List.getElem?_append_right (by omega)] at hi
      exact (hS2 _ _ hi).2.2.1
theorem Owns.nil (w : World) : Owns w w (.slice none 0 0) [] := ⟨[], World.ownsRow_nil _ _ _ _, Below.refl _ _, fun j q h => by simp at h⟩
theorem Owns.call {w wr w' : World} {v : Value} {ps : List (List (BitVec 8))} (h : Owns w wr v ps) (hb : Below wr.heap.size wr w') : Owns w w' v ps := by
  obtain ⟨vs, h1, h2, h3⟩ := h
  exact ⟨vs, owns_call h1 hb, h2.trans (hb.mono h2.size), fun j q hq => by obtain ⟨u, h4, h5⟩ := h3 j q hq; exact ⟨u, h4, owns_call h5 hb⟩⟩
section
variable {o : Oper} {a : Act} {w w0 w1 : World} {R : Value → World → Prop} {S : List Blk}
end
end Go.Proofs.Ytbdpocbnkgckhaa

/- Comparisons with nil; what stays while rows that were handed over are written. No function of the program is named here. -/
set_option maxRecDepth 4000
namespace Go.Proofs.Ytbdpocbnkgckhaa
open Go Go.RowKit
section
variable {P : Program} {o : Oper} {a : Act} {w : World}
theorem run_eqP (ty e : TypeId) (w : World) (p : Option Addr) (hu : P.underlying ty = some (.pointer e)) : (Op.equal ty (.pointer p) (.pointer none)).run P w = .ok p.isNone w := by
  show (Op.equalIn 10000 ty (.pointer p) (.pointer none)).run P w = .ok p.isNone w
  rw [show (10000 : Nat) = 9999 + 1 from rfl]
  unfold Op.equalIn
  cases p <;> simp [Sem.run_bind, run_underlying hu]
theorem dd_eqp {ty ty2 e : TypeId} {x y : Operand} {p : Option Addr} {b : Bool} (ho : o.op = .binOp .eql ty x y ty2) (hx : a.eval x = .pointer p) (hy : a.eval y = .pointer none) (hu : P.underlying ty = some (.pointer e)) (hb : p.isNone = b) : (execOp a.eval o).run P w = .ok (.value (.bool b)) w := by
  subst hb
  simp [execOp, ho, hx, hy, eqGuard, binOp, run_eqP ty e w p hu]
end
theorem dd_lit1 {P : Program} {o : Oper} {a : Act} {w w0 : World} {R : Value → World → Prop} {F : Nat → Prop} {S : List Blk} (HS : St w0 F S w) {t e : TypeId} {x : Operand} {cells : Array Value} {z : Value} {sz : Nat} (ho : o.op = .buildSlice t 1 #[(0, x)]) (hx : a.eval x = .agg cells)
    (hu : P.underlying t = some (.slice e)) (hie : (P.info? e).map (fun i => (i.zero, i.size)) = some (some z, sz)) (hc : cells.size = sz) (hp : Nat.blt 0 sz = true) (hs : Nat.ble sz 16777216 = true) (h : ∀ g w', St w0 F (S ++ [⟨g, e, cells⟩]) w' → R (.slice (some ⟨g, 0, none⟩) 1 1) w') : Does P o a w R := fun _ _ hK =>
  wp_buildOne t e x ho cells z sz hx hu hie hc (Nat.le_of_ble_eq_true hp) (Nat.le_of_ble_eq_true hs) (hK _ _ (h _ _ (HS.snoc e cells)))
theorem Chg.cellF {F : Nat → Prop} {w w' : World} (h : Chg F w w') {p : Addr} (hp : p.block < w.heap.size) (hF : ¬ F p.block) : w'.cell? p = w.cell? p := World.cell?_of_block (w := w) (h.block p.block hp hF)
theorem Slice.chg {F : Nat → Prop} {w w' : World} {A : Option Addr} {n c : Nat} {q : List (BitVec 8)} (h : Slice w (.slice A n c) q) (k : Chg F w w') (hF : ∀ ad, A = some ad → ¬ F ad.block) : Slice w' (.slice A n c) q := by
  obtain ⟨A', c', e, h2, h3⟩ := h
  injection e with e1 e2 e3
  subst e1 e2 e3
  refine ⟨_, _, rfl, h2, fun hne => ?_⟩
  obtain ⟨b, o, rfl, h5, h6⟩ := h3 hne
  exact ⟨b, o, rfl, Nat.lt_of_lt_of_le h5 k.size, fun j x hx => (k.cellF (p := ⟨b, o + j, none⟩) h5 (hF ⟨b, o, none⟩ rfl)).trans (h6 j x hx)⟩
end Go.Proofs.Ytbdpocbnkgckhaa

/- The program's node: its functions, over the disk as a thing. -/
set_option maxRecDepth 4000
namespace Go.Proofs.Ytbdpocbnkgckhaa
open Go Go.RowKit
theorem zblk : blk 0#8 = zer 32 := by kernel_rfl
theorem dd_max {P : Program} {o : Oper} {a : Act} {w : World} {x y : Operand} {ts : Array TypeId} {k : IntKind} {m n z : Int} (ho : o.op = .call { callee := .builtin .max, args := #[x, y], argTypes := ts }) (hx : a.eval x = .int k m) (hy : a.eval y = .int k n) (hz : (if n > m then n else m) = z) : (execOp a.eval o).run P w = .ok (.value (.int k z)) w := by
  subst hz
  simp [execOp, ho, resolve, invoke, builtin, Builtin.max_, Builtin.max2, hx, hy]
theorem wd_max (a b : BitVec 32) : (if wd b > wd a then wd b else wd a) = wd (maxU a b) := by
  have ha : wd a = (a.toNat : Int) := rfl
  have hb : wd b = (b.toNat : Int) := rfl
  unfold maxU
  by_cases h : a.toNat < b.toNat
  · rw [if_pos h, if_pos (by omega)]
  · rw [if_neg h, if_neg (by omega)]
theorem wd_add1 (a : BitVec 32) : IntKind.u32.wrap (wd a + 1) = wd (a + 1#32) := by
  have h := a.isLt
  have e : wd (a + 1#32) = ((a.toNat + 1) % 4294967296 : Nat) := by
    show ((a + 1#32).toNat : Int) = _
    rw [BitVec.toNat_add]; rfl
  rw [e]
  have ha : wd a = (a.toNat : Int) := rfl
  rw [IntKind.wrap_u32, ha]; omega
theorem pc_cat {w : World} {b o : Nat} {x : Int × List (BitVec 8)} (h : w.rangeAt b o (pcell x)) : w.rangeAt b o (catA [[.int .i64 x.1], bytesV x.2]).toList := by
  have e : (catA [[Value.int .i64 x.1], bytesV x.2]).toList = pcell x := by unfold catA pcell; simp
  rw [e]; exact h
theorem puts_open {w : World} {A : Option Addr} {n c : Nat} {l : List (Int × List (BitVec 8))} (h : PutsAt w (.slice A n c) l) : l.length = n ∧ n ≤ c ∧ (∀ x ∈ l, x.2.length = 32 ∧ -9223372036854775808 ≤ x.1 ∧ x.1 < 9223372036854775808) ∧ (0 < n → ∃ b o, A = some ⟨b, o, none⟩) := by
  obtain ⟨A', c', e, h2, h3, h4⟩ := h
  injection e with e1 e2 e3
  subst e1 e2 e3
  exact ⟨rfl, h2, h3, fun h0 => by obtain ⟨b, o, e, _⟩ := h4 (by intro e; rw [e] at h0; simp at h0); exact ⟨b, o, e⟩⟩
theorem puts_all_at {w : World} {b o n c : Nat} {l : List (Int × List (BitVec 8))} (h : PutsAt w (.slice (some ⟨b, o, none⟩) n c) l) : ∀ k x, l[k]? = some x → w.rangeAt b (o + k * 33) (pcell x) := fun k x hx => by
  obtain ⟨A', c', e, h2, h3, h4⟩ := h
  injection e with e1 e2 e3
  subst e3
  obtain ⟨b', o', e4, _, h6⟩ := h4 (by intro e; rw [e] at hx; simp at hx)
  rw [← e1] at e4
  injection e4 with e4; injection e4 with e5 e6; subst e5 e6
  exact h6 k x hx
variable (D : DiskOps)
theorem nd_new (F : Nat → Prop) (w : World) : Calls Try.prog 9 #[] w fun x w' => ∃ g, x = .returned (.pointer (some ⟨g, 0, none⟩)) ∧ Rs w F [] [dskT D (.pointer (some ⟨g, 0, none⟩)) (DiskM.new 19)] w' := by
  have HX : Rs w F [] [] w := Rs.of (St.nil w F)
  obtain ⟨G1, HZ1, HS1⟩ := HX.anchor
  clear HX
  refine enter_en Try.func9 rfl Try.ntmps9 (Nat.le_of_ble_eq_true rfl) fun a0 (HA0 : En 8 [] a0) => ?_
  refine sq_ <| rl_ <| wl_ <| p_ HA0 rfl rfl fun _ H2 => ln_ <| nx <| sq_ <| rl_ <| ?_
  clear HA0
  obtain ⟨Gc4, hc4, hf4, hk4, hq4⟩ := Rs.reframe (R1 := []) (R2 := []) (Q1 := []) (Q2 := []) ((HZ1.move HS1).sel [] [])
  refine wl_ <| d_ H2 rfl (R := fun v9 w9 => ∃ gd3 : Nat, v9 = .tuple #[.pointer (some ⟨gd3, 0, none⟩), .int .i64 0] ∧ Rs w F [] [dskT D (.pointer (some ⟨gd3, 0, none⟩)) (DiskM.new 19)] w9) (dc_ Try.func20 rfl (args1 rfl) (dr_new D Gc4 w 19 (by decide)) (fun _ w9 ⟨gd3, he, hX⟩ => ⟨_, he, gd3, rfl, hk4 _ _ _ hX⟩)) ?_
  rintro _ W4 ⟨gd3, rfl, HX4⟩ a4 H4
  clear hc4 hk4 hf4 hq4 HS1 HZ1
  clear H2
  obtain ⟨G5, HZ5, HS5⟩ := HX4.anchor
  clear HX4
  refine wl_ <| p_ H4 rfl rfl fun _ H6 => wl_ <| i_ H6 rfl (v := .pointer (some ⟨gd3, 0, none⟩)) (dd_ext rfl (H6.ev 3 rfl) rfl) fun _ H7 => wl_ <| i_ H7 rfl (v := .int .i64 0) (dd_ext rfl (H7.ev 3 rfl) rfl) fun _ H8 => q_ H8 2 rfl fun _ H9 => ln_ <| nx <| sq_ <| rl_ <| q_ H9 2 rfl fun _ H10 => ln_ <| nx <| wp_ret <| ret_run H10.env0 (res_t Try.results9 (H10.get 0 rfl)) <| ?_
  clear H4 H6 H7 H8 H9
  exact ⟨gd3, rfl, (HZ5.move HS5)⟩
omit D in
theorem ndlabel_at (g : Nat) (p : Value) (L : Lab) (w : World) (hr : Row w g 59 (ndCells p L)) : Calls Try.prog 12 #[.pointer (some ⟨g, 0, none⟩)] w fun x w' => x = .returned (.agg (labCells L)) ∧ Below w.heap.size w w' := by
  have HS := St.nil w noF
  have HX : Rs w noF [] [] w := Rs.of HS
  clear HS
  have HR : ∀ W, Below w.heap.size w W → Row W g 59 (ndCells p L) := fun W hb => hr.call hb
  obtain ⟨G1, HZ1, HS1⟩ := HX.anchor
  clear HX
  refine enter_en Try.func12 rfl Try.ntmps12 (Nat.le_of_ble_eq_true rfl) fun a0 (HA0 : En 10 [(0, .pointer (some ⟨g, 0, none⟩))] a0) => ?_
  refine sq_ <| rl_ <| wl_ <| n_ HA0 rfl (fun _ h => dd_new HS1 #[.int .u32 0, .int .u32 0, .int .u32 0, .int .u16 0, .int .u16 0] rfl (z := .agg #[.int .u32 0, .int .u32 0, .int .u32 0, .int .u16 0, .int .u16 0]) (by kernel_rfl) rfl h) fun _ _ HS2 _ H2 => ln_ <| nx <| sq_ <| sq_ <| rl_ <| wl_ <| p_ H2 rfl rfl fun _ H3 => wl_ <| i_ H3 rfl (v := .bool false) (dd_eqp rfl (H3.ev 3 rfl) rfl Try.underlying30 rfl) fun _ H4 => ln_ <| nx <| cf_ H4 rfl <| wp_skip <| nx <| sq_ <| rl_ <| wl_ <| p_ H4 rfl rfl fun _ H5 => wl_ <| i_ H5 rfl (dd_nilc rfl (H5.ev 6 rfl)) fun _ H6 => wl_ <| i_ H6 rfl (xf 1 1 rfl (H6.ev 7 rfl)) fun _ H7 => wl_ <| i_ H7 rfl (v := .agg #[.int .u32 (wd L.e), .int .u32 (wd L.s), .int .u32 (wd L.n), .int .u16 (hd L.d), .int .u16 (hd L.l)]) (dd_loadR (HR _ (HZ1.bel HS2)) rfl (H7.ev 8 rfl) rfl Try.underlying46 rfl (by kernel_rfl)) fun _ H8 => wl_ <| t_ rfl (fun _ h => dd_setrow HS2 0 rfl rfl (H8.ev 2 rfl) (H8.ev 9 rfl) (by kernel_rfl) (rfl : #[.int .u32 (wd L.e), .int .u32 (wd L.s), .int .u32 (wd L.n), .int .u16 (hd L.d), .int .u16 (hd L.l)].size = 5) (rfl : #[.int .u32 0, .int .u32 0, .int .u32 0, .int .u16 0, .int .u16 0].size = 5) (one_l (ao_cons rfl (ao_cons rfl (ao_cons rfl (ao_cons rfl (ao_cons rfl ao_nil)))))) h) fun _ HS9 => ?_
  clear HS1 HA0 H2 H3 H4 H5 H6 H7
  refine ln_ <| nx <| wp_ret <| ret_run H8.env0 (res_c Try.results12 (H8.get 2 rfl) (HS9.row 0 rfl) Try.underlying46 rfl (by kernel_rfl)) <| ?_
  clear HS2
  exact ⟨rfl, (HZ1.bel HS9)⟩
omit D in
theorem ndlacks_at (g : Nat) (p : Value) (L : Lab) (r : Rec) (v : Value) (w : World) (hr : Row w g 59 (ndCells p L)) : Calls Try.prog 31 #[.pointer (some ⟨g, 0, none⟩), .agg #[.int .u32 (wd r.e), .int .u32 (wd r.s), v]] w fun x w' => x = .returned (.bool (ndLater L r)) ∧ Below w.heap.size w w' := by
  have HS := St.nil w noF
  have HX : Rs w noF [] [] w := Rs.of HS
  clear HS
  have HR : ∀ W, Below w.heap.size w W → Row W g 59 (ndCells p L) := fun W hb => hr.call hb
  obtain ⟨G1, HZ1, HS1⟩ := HX.anchor
  clear HX
  refine enter_en Try.func31 rfl Try.ntmps31 (Nat.le_of_ble_eq_true rfl) fun a0 (HA0 : En 20 [(0, .pointer (some ⟨g, 0, none⟩)), (1, .agg #[.int .u32 (wd r.e), .int .u32 (wd r.s), v])] a0) => ?_
  refine sq_ <| rl_ <| wl_ <| n_ HA0 rfl (fun _ h => dd_box HS1 rfl (HA0.ev 1 rfl) (cs := #[.int .u32 (wd r.e), .int .u32 (wd r.s), v]) rfl h) fun _ W2 HS2 _ H2 => wl_ <| p_ H2 rfl rfl fun _ H3 => ln_ <| nx <| sq_ <| ?_
  clear HS1 HA0 H2
  refine wr_ (HZ1.move HS2) [0] [0] rfl rfl fun HXd5 hx4 => ?_
  obtain ⟨G6, HZ6, HS6⟩ := HXd5.anchor
  clear HXd5
  refine ht_ H3 0 hx4 rfl rfl (fun _ _ _ => xf 0 0 rfl (H3.ev 3 rfl)) fun _ H7 => ht_ H7 1 hx4 rfl rfl (fun _ _ HS9 => dd_get HS9 0 0 rfl rfl (H7.ev 5 rfl) rfl Try.underlying26 rfl) fun _ H8 => ht_ H8 2 hx4 rfl rfl (fun _ _ _ => xf 1 1 rfl (H8.ev 3 rfl)) fun _ H9 => ht_ H9 3 hx4 rfl rfl (fun _ _ HS9 => dd_get HS9 0 1 rfl rfl (H9.ev 7 rfl) rfl Try.underlying26 rfl) fun _ H10 => hp_ H10 4 hx4 rfl rfl rfl fun _ H11 => ht_ H11 5 hx4 rfl rfl (fun _ _ _ => dd_nilc rfl (H11.ev 9 rfl)) fun _ H12 => ht_ H12 6 hx4 rfl rfl (fun _ _ _ => xf 1 1 rfl (H12.ev 10 rfl)) fun _ H13 => ht_ H13 7 hx4 rfl rfl (fun _ _ _ => xf 0 1 rfl (H13.ev 11 rfl)) fun _ H14 => ?_
  clear H3 H7 H8 H9 H10 H11 H12
  refine ht_ H14 8 hx4 rfl rfl (fun _ _ HS9 => dd_getR (HR _ HS9.below) rfl (H14.ev 12 rfl) rfl Try.underlying26 rfl) fun _ H15 => hp_ H15 9 hx4 rfl rfl rfl fun _ H16 => ht_ H16 10 hx4 rfl rfl (fun _ _ _ => dd_nilc rfl (H16.ev 14 rfl)) fun _ H17 => ht_ H17 11 hx4 rfl rfl (fun _ _ _ => xf 1 1 rfl (H17.ev 15 rfl)) fun _ H18 => ht_ H18 12 hx4 rfl rfl (fun _ _ _ => xf 1 2 rfl (H18.ev 16 rfl)) fun _ H19 => ht_ H19 13 hx4 rfl rfl (fun _ _ HS9 => dd_getR (HR _ HS9.below) rfl (H19.ev 17 rfl) rfl Try.underlying26 rfl) fun _ H20 => h1_ 14 rfl <| c_ H20 rfl HS6 (dcs Try.func22 rfl (args4 (H20.ev 6 rfl) (H20.ev 8 rfl) (H20.ev 13 rfl) (H20.ev 18 rfl)) (later_any r.e r.s L.e L.s W2.drew) (.bool (ndLater L r))) fun _ HS21 _ H21 => sx_ (sxi (HZ6.move HS21).st [0] rfl) fun hx22 => ?_
  clear H13 H14 H15 H16 H17 H18 H19 H20 HS6
  refine hp_ H21 15 hx22 rfl rfl rfl fun _ H23 => ?_
  clear hx4 H21
  refine wpAnyH_done (by kernel_rfl) ?_ _
  clear hx22
  refine nx <| wp_ret <| ret_run H23.env0 (res_t Try.results31 (H23.get 4 rfl)) <| ?_
  exact ⟨rfl, (HZ6.bel HS21)⟩
theorem ndblock_at (g : Nat) (p : Value) (M : DiskM) (f : Nat → Prop) (L : Lab) (i : Int) (w : World) (hr : Row w g 59 (ndCells p L)) (hA : D.A 0 w p M f) (hl : M.l.length ≤ few) (hi : -9223372036854775808 ≤ i ∧ i < 9223372036854775808) : Calls Try.prog 13 #[.pointer (some ⟨g, 0, none⟩), .int .i64 i] w fun x w' => x = .returned (.tuple #[.agg (bs (ndBlock M i).1), .int .i64 (ndBlock M i).2]) ∧ Below w.heap.size w w' := by
  have HS := St.nil w noF
  have HX : Rs w noF [] [] w := Rs.of HS
  clear HS
  have HR : ∀ W, Below w.heap.size w W → Row W g 59 (ndCells p L) := fun W hb => hr.call hb
  obtain ⟨G1, HZ1, HS1⟩ := HX.anchor
  clear HX
  refine enter_en Try.func13 rfl Try.ntmps13 (Nat.le_of_ble_eq_true rfl) fun a0 (HA0 : En 26 [(0, .pointer (some ⟨g, 0, none⟩)), (1, .int .i64 i)] a0) => ?_
  refine sq_ <| rl_ <| wl_ <| n_ HA0 rfl (fun _ h => dd_new HS1 (bs (zer 32)) rfl (z := .agg (bs (zer 32))) (by kernel_rfl) rfl h) fun _ W2 HS2 _ H2 => wl_ <| p_ H2 rfl rfl fun _ H3 => ln_ <| nx <| sq_ <| sq_ <| rl_ <| wl_ <| p_ H3 rfl rfl fun _ H4 => wl_ <| i_ H4 rfl (v := .bool false) (dd_eqp rfl (H4.ev 6 rfl) rfl Try.underlying30 rfl) fun _ H5 => wl_ <| p_ H5 rfl rfl fun _ H6 => wl_ <| ig H6 (wg_ H6 rfl rfl rfl rfl) rfl (dd_mv rfl (H6.ev 1 rfl)) fun _ H7 => ?_
  clear HS1 HA0 H2 H3 H4 H5 H6
  by_cases hc9 : (i : Int) < 0
  ·
   refine wl_ <| ig H7 (wg_ H7 rfl rfl rfl rfl) rfl (dd_cmp rfl (H7.ev 9 rfl) rfl (lt_t hc9)) fun _ H10 => q_ H10 2 rfl fun _ H11 => wl_ <| k_ H11 (wg_ H11 rfl rfl rfl rfl) rfl fun _ H12 => wl_ <| k_ H12 (wg_ H12 rfl rfl rfl rfl) rfl fun _ H13 => wl_ <| p_ H13 rfl rfl fun _ H14 => ln_ <| nx <| ct_ H14 rfl <| sq_ <| rl_ <| wl_ <| i_ H14 rfl (v := .agg (bs (zer 32))) (dd_bldk rfl (ps := []) (pr0) (cs := bs (zer 32)) (by kernel_rfl)) fun _ H15 => wl_ <| t_ rfl (fun _ h => dd_setrow HS2 0 rfl rfl (H15.ev 4 rfl) (H15.ev 16 rfl) (by kernel_rfl) (((size_bs _).trans (length_zer 32)) : (bs (zer 32)).size = 32) (((size_bs _).trans (length_zer 32)) : (bs (zer 32)).size = 32) (one_bs _) h) fun _ HS16 => wl_ <| p_ H15 rfl rfl fun _ H17 => ?_
   clear H7 H10 H11 H12 H13 H14 HS2
   refine ln_ <| nx <| wp_ret <| tr <| ret_run H17.env0 (res_ct Try.results13 (H17.get 4 rfl) (HS16.row 0 rfl) Try.underlying37 rfl (by rw [show (bs (zer 32)).size = 32 from ((size_bs _).trans (length_zer 32))]; kernel_rfl) (H17.get 5 rfl)) <| ?_
   clear H15
   exact ⟨by unfold ndBlock; rw [if_neg (by omega)]; show _ = Ending.returned (.tuple #[.agg (bs (blk 0#8)), .int .i64 1]); rw [zblk], (HZ1.bel HS16)⟩
  refine wl_ <| ig H7 (wg_ H7 rfl rfl rfl rfl) rfl (dd_cmp rfl (H7.ev 9 rfl) rfl (lt_f hc9)) fun _ H18 => q_ H18 2 rfl fun _ H19 => wl_ <| ig H19 (wg_ H19 rfl rfl rfl rfl) rfl (dd_mv rfl (H19.ev 1 rfl)) fun _ H20 => ?_
  clear H7 H18 H19
  by_cases hc22 : (12 : Int) ≤ i
  ·
   refine wl_ <| ig H20 (wg_ H20 rfl rfl rfl rfl) rfl (dd_cmp rfl (H20.ev 13 rfl) rfl (ge_t hc22)) fun _ H23 => wl_ <| p_ H23 rfl rfl fun _ H24 => ln_ <| nx <| ct_ H24 rfl <| sq_ <| rl_ <| wl_ <| i_ H24 rfl (v := .agg (bs (zer 32))) (dd_bldk rfl (ps := []) (pr0) (cs := bs (zer 32)) (by kernel_rfl)) fun _ H25 => wl_ <| t_ rfl (fun _ h => dd_setrow HS2 0 rfl rfl (H25.ev 4 rfl) (H25.ev 16 rfl) (by kernel_rfl) (((size_bs _).trans (length_zer 32)) : (bs (zer 32)).size = 32) (((size_bs _).trans (length_zer 32)) : (bs (zer 32)).size = 32) (one_bs _) h) fun _ HS26 => wl_ <| p_ H25 rfl rfl fun _ H27 => ln_ <| nx <| wp_ret <| tr <| ret_run H27.env0 (res_ct Try.results13 (H27.get 4 rfl) (HS26.row 0 rfl) Try.underlying37 rfl (by rw [show (bs (zer 32)).size = 32 from ((size_bs _).trans (length_zer 32))]; kernel_rfl) (H27.get 5 rfl)) <| ?_
   clear H20 H23 H24 HS2 H25
   exact ⟨by unfold ndBlock; rw [if_neg (by omega)]; show _ = Ending.returned (.tuple #[.agg (bs (blk 0#8)), .int .i64 1]); rw [zblk], (HZ1.bel HS26)⟩
  refine wl_ <| ig H20 (wg_ H20 rfl rfl rfl rfl) rfl (dd_cmp rfl (H20.ev 13 rfl) rfl (ge_f hc22)) fun _ H28 => wl_ <| p_ H28 rfl rfl fun _ H29 => ln_ <| nx <| cf_ H29 rfl <| wp_skip <| nx <| sq_ <| rl_ <| wl_ <| p_ H29 rfl rfl fun _ H30 => wl_ <| i_ H30 rfl (dd_nilc rfl (H30.ev 17 rfl)) fun _ H31 => wl_ <| i_ H31 rfl (xf 0 0 rfl (H31.ev 18 rfl)) fun _ H32 => wl_ <| i_ H32 rfl (dd_getR (HR _ (HZ1.bel HS2)) rfl (H32.ev 19 rfl) rfl Try.underlying34 rfl) fun _ H33 => wl_ <| p_ H33 rfl rfl fun _ H34 => wl_ <| i_ H34 rfl (v := .int .i64 (7 + i)) (dd_ari rfl rfl (H34.ev 21 rfl) rfl (i64_of (by first | omega | (have := bd_lo; omega)) (by omega))) fun _ H35 => ?_
  clear H20 H28 H29 H30 H31 H32 H33
  refine wl_ <| c_ H35 rfl HS2 (v := .tuple #[.agg (bs ((M.rRes (7 + i)).1)), .int .i64 ((M.rRes (7 + i)).2)]) (dc_ Try.func17 rfl (args2 (H35.ev 20 rfl) (H35.ev 22 rfl)) (D.read 0 W2 p M f (7 + i) (D.still hA (HZ1.bel HS2)) hl (by omega)) (fun _ w9 h9 => ⟨_, h9.1, rfl, h9.2⟩)) fun _ HS36 _ H36 => wl_ <| i_ H36 rfl (v := .agg (bs ((M.rRes (7 + i)).1))) (dd_ext rfl (H36.ev 23 rfl) rfl) fun _ H37 => wl_ <| i_ H37 rfl (v := .int .i64 ((M.rRes (7 + i)).2)) (dd_ext rfl (H37.ev 23 rfl) rfl) fun _ H38 => wl_ <| t_ rfl (fun _ h => dd_setrow HS36 0 rfl rfl (H38.ev 4 rfl) (H38.ev 24 rfl) (by kernel_rfl) (((size_bs _).trans (rRes_len (D.ok hA) _)) : (bs ((M.rRes (7 + i)).1)).size = 32) (((size_bs _).trans (length_zer 32)) : (bs (zer 32)).size = 32) (one_bs _) h) fun _ HS39 => wl_ <| p_ H38 rfl rfl fun _ H40 => ln_ <| ?_
  clear H34 H35 HS2 H36 H37 HS36 H38
  have H41 := H40.sel [4, 5] rfl
  refine nx <| wp_ret <| ret_run H41.env0 (res_ct Try.results13 (H41.get 4 rfl) (HS39.row 0 rfl) Try.underlying37 rfl (by rw [show (bs ((M.rRes (7 + i)).1)).size = 32 from ((size_bs _).trans (rRes_len (D.ok hA) _))]; kernel_rfl) (H41.get 5 rfl)) <| ?_
  clear H40
  exact ⟨by unfold ndBlock; rw [if_pos (by omega)], (HZ1.bel HS39)⟩
end Go.Proofs.Ytbdpocbnkgckhaa

/- The program's node: SetLabel, writeBlocks, carryOut. -/
set_option maxRecDepth 4000
namespace Go.Proofs.Ytbdpocbnkgckhaa
open Go Go.RowKit
variable (D : DiskOps)
theorem nd_set (F : Nat → Prop) (g : Nat) (p : Value) (M : DiskM) (L L' : Lab) (w : World) (HX : Rs w F [⟨g, 59, ndCells p L⟩] [dskT D p M] w) (hN : M.l.length + 100 ≤ few) : Calls Try.prog 52 #[.pointer (some ⟨g, 0, none⟩), .agg (labCells L')] w fun x w' => x = .returned (.int .i64 (ndSet M L').1) ∧ Rs w F [⟨g, 59, ndCells p (ndLab (ndSet M L').1 L L')⟩] [dskT D p (ndSet M L').2] w' := by
  obtain ⟨G1, HZ1, HS1⟩ := HX.anchor
  clear HX
  refine enter_en Try.func52 rfl Try.ntmps52 (Nat.le_of_ble_eq_true rfl) fun a0 (HA0 : En 31 [(0, .pointer (some ⟨g, 0, none⟩)), (1, .agg #[.int .u32 (wd L'.e), .int .u32 (wd L'.s), .int .u32 (wd L'.n), .int .u16 (hd L'.d), .int .u16 (hd L'.l)])] a0) => ?_
  refine sq_ <| rl_ <| wl_ <| n_ HA0 rfl (fun _ h => dd_box HS1 rfl (HA0.ev 1 rfl) (cs := #[.int .u32 (wd L'.e), .int .u32 (wd L'.s), .int .u32 (wd L'.n), .int .u16 (hd L'.d), .int .u16 (hd L'.l)]) rfl h) fun g3 W2 HS2 _ H2 => wl_ <| p_ H2 rfl rfl fun _ H3 => ln_ <| nx <| sq_ <| sq_ <| rl_ <| wl_ <| p_ H3 rfl rfl fun _ H4 => wl_ <| i_ H4 rfl (v := .bool false) (dd_eqp rfl (H4.ev 7 rfl) rfl Try.underlying30 rfl) fun _ H5 => ln_ <| nx <| cf_ H5 rfl <| wp_skip <| nx <| sq_ <| sq_ <| ?_
  clear HS1 HA0 H2 H3 H4
  refine wr_ (HZ1.move HS2) [0, 1] [0, 1] rfl rfl fun HXd7 hx6 => ?_
  obtain ⟨G8, HZ8, HS8⟩ := HXd7.anchor
  clear HXd7
  refine hp_ H5 0 hx6 rfl rfl rfl fun _ H9 => ht_ H9 1 hx6 rfl rfl (fun _ _ _ => dd_nilc rfl (H9.ev 9 rfl)) fun _ H10 => ht_ H10 2 hx6 rfl rfl (fun _ _ _ => xf 0 0 rfl (H10.ev 10 rfl)) fun _ H11 => ht_ H11 3 hx6 rfl rfl (fun _ _ HS9 => dd_get HS9 0 0 rfl rfl (H11.ev 11 rfl) rfl Try.underlying34 rfl) fun _ H12 => ht_ H12 4 hx6 rfl rfl (v := .agg #[.int .u32 (wd L'.e), .int .u32 (wd L'.s), .int .u32 (wd L'.n), .int .u16 (hd L'.d), .int .u16 (hd L'.l)]) (fun _ _ HS9 => dd_load HS9 1 0 rfl rfl (H12.ev 3 rfl) (slab_whole _) Try.underlying46 rfl (by kernel_rfl)) fun _ H13 => h1_ 5 rfl <| c_ H13 rfl HS8 (dcs Try.func29 rfl (args1 (H13.ev 13 rfl)) (labenc_any L' W2.drew) (.agg (bs (labB L')))) fun _ HS14 _ H14 => sx_ (sxi (HZ8.move HS14).st [0, 1] rfl) fun hx15 => ?_
  clear H5 H9 H10 H11 H12 H13 HS8 hx6
  obtain ⟨Gc16, hc16, hf16, hk16, hq16⟩ := Rs.reframe (R1 := []) (R2 := [⟨g, 59, #[p, .int .u32 (wd L.e), .int .u32 (wd L.s), .int .u32 (wd L.n), .int .u16 (hd L.d), .int .u16 (hd L.l)]⟩, ⟨g3, 46, #[.int .u32 (wd L'.e), .int .u32 (wd L'.s), .int .u32 (wd L'.n), .int .u16 (hd L'.d), .int .u16 (hd L'.l)]⟩]) (Q1 := [dskT D p M]) (Q2 := []) ((HZ8.move HS14).sel [0, 1] [0])
  refine h1_ 6 rfl <| d_ H14 rfl (R := fun v9 w9 => v9 = .int .i64 ((M.wRes 0 (labB L')).1) ∧ Rs w F [⟨g, 59, #[p, .int .u32 (wd L.e), .int .u32 (wd L.s), .int .u32 (wd L.n), .int .u16 (hd L.d), .int .u16 (hd L.l)]⟩, ⟨g3, 46, #[.int .u32 (wd L'.e), .int .u32 (wd L'.s), .int .u32 (wd L'.n), .int .u16 (hd L'.d), .int .u16 (hd L'.l)]⟩] [dskT D p ((M.wRes 0 (labB L')).2)] w9) (dc_ Try.func61 rfl (args3 (H14.ev 12 rfl) rfl (H14.ev 14 rfl)) (dr_write 0 (labB L') hc16 (length_labB _) (Nat.le_trans (Nat.le_refl _) (by omega)) (by decide)) (fun _ w9 ⟨he, hX⟩ => ⟨_, he, rfl, hk16 _ _ _ hX⟩)) ?_
  rintro _ W16 ⟨rfl, HX16⟩ a16 H16
  clear hc16 hk16 hf16 hq16 HS14 HZ8
  clear H14
  obtain ⟨G17, HZ17, HS17⟩ := HX16.anchor
  clear HX16
  refine sx_ (sxi (HZ17.move HS17).st [0, 1] rfl) fun hx18 => hp_ H16 7 hx18 rfl rfl rfl fun _ H19 => ?_
  clear hx15 H16
  refine wpAnyH_done (by kernel_rfl) ?_ _
  clear hx18
  refine nx <| sq_ <| rl_ <| wl_ <| p_ H19 rfl rfl fun _ H20 => ?_
  clear H19
  by_cases hc22 : ((M.wRes 0 (labB L')).1 : Int) = 0
  ·
   refine wl_ <| i_ H20 rfl (dd_cmp rfl (H20.ev 16 rfl) rfl (ne_f hc22)) fun _ H23 => ln_ <| nx <| cf_ H23 rfl <| wp_skip <| nx <| sq_ <| sq_ <| rl_ <| wl_ <| p_ H23 rfl rfl fun _ H24 => wl_ <| i_ H24 rfl (dd_nilc rfl (H24.ev 19 rfl)) fun _ H25 => wl_ <| i_ H25 rfl (xf 0 0 rfl (H25.ev 20 rfl)) fun _ H26 => wl_ <| i_ H26 rfl (dd_get HS17 0 0 rfl rfl (H26.ev 21 rfl) rfl Try.underlying34 rfl) fun _ H27 => ?_
   clear H20 H23 H24 H25 H26
   obtain ⟨Gc28, hc28, hf28, hk28, hq28⟩ := Rs.reframe (R1 := []) (R2 := [⟨g, 59, #[p, .int .u32 (wd L.e), .int .u32 (wd L.s), .int .u32 (wd L.n), .int .u16 (hd L.d), .int .u16 (hd L.l)]⟩, ⟨g3, 46, #[.int .u32 (wd L'.e), .int .u32 (wd L'.s), .int .u32 (wd L'.n), .int .u16 (hd L'.d), .int .u16 (hd L'.l)]⟩]) (Q1 := [dskT D p ((M.wRes 0 (labB L')).2)]) (Q2 := []) ((HZ17.move HS17).sel [0, 1] [0])
   refine wl_ <| d_ H27 rfl (R := fun v9 w9 => v9 = .int .i64 (((M.wRes 0 (labB L')).2).fRes.1) ∧ Rs w F [⟨g, 59, #[p, .int .u32 (wd L.e), .int .u32 (wd L.s), .int .u32 (wd L.n), .int .u16 (hd L.d), .int .u16 (hd L.l)]⟩, ⟨g3, 46, #[.int .u32 (wd L'.e), .int .u32 (wd L'.s), .int .u32 (wd L'.n), .int .u16 (hd L'.d), .int .u16 (hd L'.l)]⟩] [dskT D p (((M.wRes 0 (labB L')).2).fRes.2)] w9) (dc_ Try.func63 rfl (args1 (H27.ev 22 rfl)) (dr_flush hc28 (Nat.le_trans (wRes_l _ _ _ (Nat.le_refl _)) (by omega))) (fun _ w9 ⟨he, hX⟩ => ⟨_, he, rfl, hk28 _ _ _ hX⟩)) ?_
   rintro _ W28 ⟨rfl, HX28⟩ a28 H28
   clear hc28 hk28 hf28 hq28 HS17 HZ17
   clear H27
   obtain ⟨G29, HZ29, HS29⟩ := HX28.anchor
   clear HX28
   refine wl_ <| p_ H28 rfl rfl fun _ H30 => ln_ <| ?_
   clear H28
   have H31 := H30.sel [0, 3, 6] rfl
   refine nx <| sq_ <| rl_ <| wl_ <| p_ H31 rfl rfl fun _ H32 => ?_
   clear H30 H31
   by_cases hc34 : (((M.wRes 0 (labB L')).2).fRes.1 : Int) = 0
   ·
    refine wl_ <| i_ H32 rfl (dd_cmp rfl (H32.ev 24 rfl) rfl (ne_f hc34)) fun _ H35 => ln_ <| nx <| cf_ H35 rfl <| wp_skip <| nx <| sq_ <| rl_ <| wl_ <| p_ H35 rfl rfl fun _ H36 => wl_ <| i_ H36 rfl (v := .agg #[.int .u32 (wd L'.e), .int .u32 (wd L'.s), .int .u32 (wd L'.n), .int .u16 (hd L'.d), .int .u16 (hd L'.l)]) (dd_load HS29 1 0 rfl rfl (H36.ev 3 rfl) (slab_whole _) Try.underlying46 rfl (by kernel_rfl)) fun _ H37 => wl_ <| i_ H37 rfl (dd_nilc rfl (H37.ev 27 rfl)) fun _ H38 => wl_ <| i_ H38 rfl (xf 1 1 rfl (H38.ev 29 rfl)) fun _ H39 => wl_ <| t_ rfl (fun _ h => dd_store (cs := #[p, .int .u32 (wd L'.e), .int .u32 (wd L'.s), .int .u32 (wd L'.n), .int .u16 (hd L'.d), .int .u16 (hd L'.l)]) HS29 0 1 rfl rfl (H39.ev 30 rfl) (H39.ev 28 rfl) (by kernel_rfl) (Nat.le_of_ble_eq_true rfl) (one_l (ao_cons rfl (ao_cons rfl (ao_cons rfl (ao_cons rfl (ao_cons rfl ao_nil)))))) rfl h) fun _ HS40 => ln_ <| nx <| sq_ <| rl_ <| wl_ <| p_ H39 rfl rfl fun _ H41 => ln_ <| nx <| wp_ret <| ret_run H41.env0 (res_t Try.results52 (H41.get 4 rfl)) <| ?_
    clear H32 H35 H36 H37 H38 HS29 H39
    exact ⟨by rw [ndSet_ok hc22]; rw [hc34], by rw [ndSet_ok hc22, ndLab_ok hc34]; exact ((HZ29.move HS40).sel [0] [0])⟩
   refine wl_ <| i_ H32 rfl (dd_cmp rfl (H32.ev 24 rfl) rfl (ne_t hc34)) fun _ H42 => ln_ <| nx <| ct_ H42 rfl <| sq_ <| rl_ <| q_ H42 2 rfl fun _ H43 => ln_ <| nx <| wp_ret <| tr <| ret_run H43.env0 (res_t Try.results52 (H43.get 4 rfl)) <| ?_
   clear H32 H42
   exact ⟨by rw [ndSet_ok hc22], by rw [ndSet_ok hc22, ndLab_no hc34]; exact ((HZ29.move HS29).sel [0] [0])⟩
  refine wl_ <| i_ H20 rfl (dd_cmp rfl (H20.ev 16 rfl) rfl (ne_t hc22)) fun _ H44 => ln_ <| nx <| ct_ H44 rfl <| sq_ <| rl_ <| q_ H44 2 rfl fun _ H45 => ln_ <| ?_
  clear H20 H44
  have H46 := H45.sel [4] rfl
  refine nx <| wp_ret <| tr <| ret_run H46.env0 (res_t Try.results52 (H46.get 4 rfl)) <| ?_
  clear H45
  exact ⟨by rw [ndSet_no hc22], by rw [ndSet_no hc22, ndLab_no hc22]; exact ((HZ17.move HS17).sel [0] [0])⟩
theorem nd_write (F : Nat → Prop) (g : Nat) (p : Value) (M : DiskM) (L : Lab) (A : Option Addr) (n c : Nat) (l : List (Int × List (BitVec 8))) (w : World) (HX : Rs w F [⟨g, 59, ndCells p L⟩] [dskT D p M] w) (hN : M.l.length + 100 ≤ few) (HP : ∀ W, Chg F w W → PutsAt W (.slice A n c) l) (hn5 : n ≤ 5) (hat : ∀ x ∈ l, 0 ≤ x.1 ∧ x.1 < 12) : Calls Try.prog 51 #[.pointer (some ⟨g, 0, none⟩), .slice A n c] w fun x w' => x = .returned (.int .i64 (ndWrite M l).1) ∧ Rs w F [⟨g, 59, ndCells p L⟩] [dskT D p (ndWrite M l).2] w' := by
  have hpo := puts_open (HP w (Chg.refl _ _))
  have hn := hpo.1
  have hwf := hpo.2.2.1
  have hA0 := hpo.2.2.2
  obtain ⟨G1, HZ1, HS1⟩ := HX.anchor
  clear HX
  refine enter_en Try.func51 rfl Try.ntmps51 (Nat.le_of_ble_eq_true rfl) fun a0 (HA0 : En 33 [(0, .pointer (some ⟨g, 0, none⟩)), (1, .slice A n c)] a0) => ?_
  refine sq_ <| rl_ <| wl_ <| p_ HA0 rfl rfl fun _ H2 => ln_ <| nx <| sq_ <| sq_ <| rl_ <| wl_ <| p_ H2 rfl rfl fun _ H3 => wl_ <| i_ H3 rfl (v := .int .i64 n) (dd_len rfl (H3.ev 8 rfl) Try.underlying27) fun _ H4 => wl_ <| p_ H4 rfl rfl fun _ H5 => ln_ <| nx <| wp_block <| ?_
  clear HA0 H2 H3 H4
  refine wp_loopG (ι := Nat) (fun k a9 w9 => (k ≤ n) ∧ ((ndPuts M (l.take k)).1 = 0) ∧ En 33 [(10, .int .i64 k), (9, .int .i64 n), (8, .slice A n c), (0, .pointer (some ⟨g, 0, none⟩))] a9 ∧ Rs w F [⟨g, 59, #[p, .int .u32 (wd L.e), .int .u32 (wd L.s), .int .u32 (wd L.n), .int .u16 (hd L.d), .int .u16 (hd L.l)]⟩] [dskT D p ((ndPuts M (l.take k)).2)] w9) (fun k => n - k) (0) ⟨(Nat.zero_le _), rfl, H5.sel [0, 8, 9, 10] rfl, (HZ1.move HS1).sel [0] [0]⟩ ?_
  clear H5 HS1 HZ1
  rintro k aL6 wL6 ⟨hk, h0, HL6, HXL6⟩
  obtain ⟨G7, HZ7, HS7⟩ := HXL6.anchor
  clear HXL6
  refine sq_ <| rl_ <| ?_
  by_cases hc9 : (k : Int) < n
  ·
   refine wl_ <| i_ HL6 rfl (dd_cmp rfl (HL6.ev 10 rfl) (HL6.ev 9 rfl) (lt_t hc9)) fun _ H10 => ln_ <| nx <| sq_ <| ct_ H10 rfl <| wp_skip <| nx <| sq_ <| wp_block <| sq_ <| ?_
   clear HL6
   obtain ⟨b9, o9, hA9⟩ := hA0 (by omega)
   have HB := fun (W9 : World) (k9 : Chg F w W9) => puts_all_at (hA9 ▸ HP W9 k9)
   refine rl_ <| wl_ <| i_ H10 rfl (dd_idxS (sz := 33) (j := o9 + k * 33) rfl (sl_at (H10.ev 8 rfl) hA9) (H10.ev 10 rfl) (by kernel_rfl) (by omega) (by omega) (by omega)) fun _ H11 => ?_
   clear H10
   obtain ⟨xk, hxk⟩ : ∃ x, l[k]? = some x := ⟨_, List.getElem?_eq_getElem (by rw [hn]; omega)⟩
   have hwk := hwf xk (List.mem_of_getElem? hxk)
   have hatk := hat xk (List.mem_of_getElem? hxk)
   refine wl_ <| i_ H11 rfl (v := .agg (catA [[.int .i64 xk.1], bytesV xk.2])) (dd_atN rfl (H11.ev 12 rfl) (pc_cat (HB _ (HZ7.chg HS7) k xk hxk)) Try.underlying43 rfl (by show _ = some (catA [[.int .i64 xk.1], bytesV xk.2]).toList.length; rw [show (catA [[.int .i64 xk.1], bytesV xk.2]).toList.length = 33 from (Array.length_toList).trans (cat_size (lens_cons rfl (lens_cons (len_bv hwk.1) (lens_nil))))]; kernel_rfl)) fun _ H12 => wl_ <| n_ H12 rfl (fun _ h => dd_new HS7 (catA [[.int .i64 0], bytesV (zer 32)]) rfl (z := .agg (catA [[.int .i64 0], bytesV (zer 32)])) (by kernel_rfl) rfl h) fun g6 _ HS13 _ H13 => wl_ <| t_ rfl (fun _ h => dd_setrow HS13 1 rfl rfl (H13.ev 6 rfl) (H13.ev 13 rfl) (by kernel_rfl) ((cat_size (lens_cons rfl (lens_cons (len_bv hwk.1) (lens_nil)))) : (catA [[.int .i64 xk.1], bytesV xk.2]).size = 33) ((cat_size (lens_cons rfl (lens_cons (len_bv (length_zer 32)) (lens_nil)))) : (catA [[.int .i64 0], bytesV (zer 32)]).size = 33) (cat_one (ones_cons (ones_c rfl) (ones_cons (one_bytesV _) (ones_nil)))) h) fun _ HS14 => ln_ <| nx <| sq_ <| ?_
   clear H11 HS7 H12 HS13
   refine wr_ (HZ7.move HS14) [0, 1] [0, 1] rfl rfl fun HXd16 hx15 => ?_
   obtain ⟨G17, HZ17, HS17⟩ := HXd16.anchor
   clear HXd16
   refine hp_ H13 0 hx15 rfl rfl rfl fun _ H18 => ht_ H18 1 hx15 rfl rfl (fun _ _ _ => dd_nilc rfl (H18.ev 14 rfl)) fun _ H19 => ht_ H19 2 hx15 rfl rfl (fun _ _ _ => xf 0 0 rfl (H19.ev 15 rfl)) fun _ H20 => ht_ H20 3 hx15 rfl rfl (fun _ _ HS9 => dd_get HS9 0 0 rfl rfl (H20.ev 16 rfl) rfl Try.underlying34 rfl) fun _ H21 => ht_ H21 4 hx15 rfl rfl (fun _ _ _ => xf 0 0 rfl (H21.ev 6 rfl)) fun _ H22 => ht_ H22 5 hx15 rfl rfl (fun _ _ HS9 => dd_get HS9 1 0 rfl rfl (H22.ev 18 rfl) (cat_get (lens_cons rfl (lens_cons (len_bv hwk.1) (lens_nil))) 0 rfl rfl) Try.underlying3 rfl) fun _ H23 => ht_ H23 6 hx15 rfl rfl (v := .int .i64 (7 + xk.1)) (fun _ _ _ => dd_ari rfl rfl (H23.ev 19 rfl) rfl (by rw [IntKind.wrap_i64]; omega)) fun _ H24 => ht_ H24 7 hx15 rfl rfl (fun _ _ _ => xf 1 1 rfl (H24.ev 6 rfl)) fun _ H25 => ?_
   clear H13 H18 H19 H20 H21 H22 H23
   refine ht_ H25 8 hx15 rfl rfl (v := .agg (bs xk.2)) (fun _ _ HS9 => dd_load HS9 1 1 rfl rfl (H25.ev 21 rfl) (cat_slab1 (lens_cons rfl (lens_cons (len_bv hwk.1) (lens_nil))) 1 rfl rfl) Try.underlying37 rfl (by rw [show (bs xk.2).size = 32 from ((size_bs _).trans hwk.1)]; kernel_rfl)) fun _ H26 => ?_
   clear H24 H25
   obtain ⟨Gc27, hc27, hf27, hk27, hq27⟩ := Rs.reframe (R1 := []) (R2 := [⟨g, 59, #[p, .int .u32 (wd L.e), .int .u32 (wd L.s), .int .u32 (wd L.n), .int .u16 (hd L.d), .int .u16 (hd L.l)]⟩, ⟨g6, 43, catA [[.int .i64 xk.1], bytesV xk.2]⟩]) (Q1 := [dskT D p ((ndPuts M (l.take k)).2)]) (Q2 := []) ((HZ17.move HS17).sel [0, 1] [0])
   refine h1_ 9 rfl <| d_ H26 rfl (R := fun v9 w9 => v9 = .int .i64 ((((ndPuts M (l.take k)).2).wRes (7 + xk.1) xk.2).1) ∧ Rs w F [⟨g, 59, #[p, .int .u32 (wd L.e), .int .u32 (wd L.s), .int .u32 (wd L.n), .int .u16 (hd L.d), .int .u16 (hd L.l)]⟩, ⟨g6, 43, catA [[.int .i64 xk.1], bytesV xk.2]⟩] [dskT D p ((((ndPuts M (l.take k)).2).wRes (7 + xk.1) xk.2).2)] w9) (dc_ Try.func61 rfl (args3 (H26.ev 17 rfl) (H26.ev 20 rfl) (H26.ev 22 rfl)) (dr_write (7 + xk.1) xk.2 hc27 hwk.1 (Nat.le_trans (ndPuts_lk hn hn5) (by omega)) (by omega)) (fun _ w9 ⟨he, hX⟩ => ⟨_, he, rfl, hk27 _ _ _ hX⟩)) ?_
   rintro _ W27 ⟨rfl, HX27⟩ a27 H27
   clear hc27 hk27 hf27 hq27 HS17 HZ17
   clear H26
   obtain ⟨G28, HZ28, HS28⟩ := HX27.anchor
   clear HX27
   refine sx_ (sxi (HZ28.move HS28).st [0, 1] rfl) fun hx29 => hp_ H27 10 hx29 rfl rfl rfl fun _ H30 => ?_
   clear hx15 H27
   refine wpAnyH_done (by kernel_rfl) ?_ _
   clear hx29
   refine nx <| sq_ <| rl_ <| wl_ <| p_ H30 rfl rfl fun _ H31 => ?_
   clear H30
   by_cases hc33 : ((((ndPuts M (l.take k)).2).wRes (7 + xk.1) xk.2).1 : Int) = 0
   ·
    refine wl_ <| i_ H31 rfl (dd_cmp rfl (H31.ev 24 rfl) rfl (ne_f hc33)) fun _ H34 => ln_ <| nx <| cf_ H34 rfl <| wp_skip <| bn <| nx <| rl_ <| wl_ <| i_ H34 rfl (v := .int .i64 (k + 1)) (dd_ari rfl (H34.ev 10 rfl) rfl rfl (i64_of (by first | omega | (have := bd_lo; omega)) (by omega))) fun _ H35 => wl_ <| p_ H35 rfl rfl fun _ H36 => ln_ <| ?_
    clear H31 H34 H35
    have H37 := H36.sel [0, 8, 9, 10] rfl
    clear H36
    have HXz : Rs w F [⟨g, 59, #[p, .int .u32 (wd L.e), .int .u32 (wd L.s), .int .u32 (wd L.n), .int .u16 (hd L.d), .int .u16 (hd L.l)]⟩, ⟨g6, 43, catA [[.int .i64 xk.1], bytesV xk.2]⟩] [dskT D p ((((ndPuts M (l.take k)).2).wRes (7 + xk.1) xk.2).2)] W27 := (HZ28.move HS28)
    rw [← ndPuts_S h0 hxk] at HXz
    obtain ⟨G38, HZ38, HS38⟩ := HXz.anchor
    clear HXz
    refine nx ⟨k + 1, ⟨(by omega), (by rw [ndPuts_S h0 hxk]; exact hc33), H37.sel [0, 8, 9, 10] rfl, (HZ38.move HS38).sel [0] [0]⟩, (by omega)⟩
   refine wl_ <| i_ H31 rfl (dd_cmp rfl (H31.ev 24 rfl) rfl (ne_t hc33)) fun _ H39 => ln_ <| nx <| ct_ H39 rfl <| sq_ <| rl_ <| q_ H39 2 rfl fun _ H40 => ln_ <| ?_
   clear H31 H39
   have H41 := H40.sel [4] rfl
   refine nx <| wp_ret <| br_ <| tr <| tr <| br_ <| tr <| ret_run H41.env0 (res_t Try.results51 (H41.get 4 rfl)) <| ?_
   clear H40
   exact ⟨by rw [ndWrite_f h0 hxk hc33], by rw [ndWrite_f h0 hxk hc33]; exact ((HZ28.move HS28).sel [0] [0])⟩
  refine wl_ <| i_ HL6 rfl (dd_cmp rfl (HL6.ev 10 rfl) (HL6.ev 9 rfl) (lt_f hc9)) fun _ H42 => ln_ <| nx <| sq_ <| cf_ H42 rfl <| wp_exit <| tx <| tx <| bx <| nx <| sq_ <| rl_ <| wl_ <| p_ H42 rfl rfl fun _ H43 => wl_ <| i_ H43 rfl (dd_nilc rfl (H43.ev 28 rfl)) fun _ H44 => wl_ <| i_ H44 rfl (xf 0 0 rfl (H44.ev 29 rfl)) fun _ H45 => wl_ <| i_ H45 rfl (dd_get HS7 0 0 rfl rfl (H45.ev 30 rfl) rfl Try.underlying34 rfl) fun _ H46 => ?_
  clear HL6 H42 H43 H44 H45
  obtain ⟨Gc47, hc47, hf47, hk47, hq47⟩ := Rs.reframe (R1 := []) (R2 := [⟨g, 59, #[p, .int .u32 (wd L.e), .int .u32 (wd L.s), .int .u32 (wd L.n), .int .u16 (hd L.d), .int .u16 (hd L.l)]⟩]) (Q1 := [dskT D p ((ndPuts M (l.take k)).2)]) (Q2 := []) ((HZ7.move HS7).sel [0] [0])
  refine wl_ <| d_ H46 rfl (R := fun v9 w9 => v9 = .int .i64 (((ndPuts M (l.take k)).2).fRes.1) ∧ Rs w F [⟨g, 59, #[p, .int .u32 (wd L.e), .int .u32 (wd L.s), .int .u32 (wd L.n), .int .u16 (hd L.d), .int .u16 (hd L.l)]⟩] [dskT D p (((ndPuts M (l.take k)).2).fRes.2)] w9) (dc_ Try.func63 rfl (args1 (H46.ev 31 rfl)) (dr_flush hc47 (Nat.le_trans (ndPuts_lk hn hn5) (by omega))) (fun _ w9 ⟨he, hX⟩ => ⟨_, he, rfl, hk47 _ _ _ hX⟩)) ?_
  rintro _ W47 ⟨rfl, HX47⟩ a47 H47
  clear hc47 hk47 hf47 hq47 HS7 HZ7
  clear H46
  obtain ⟨G48, HZ48, HS48⟩ := HX47.anchor
  clear HX47
  refine wl_ <| p_ H47 rfl rfl fun _ H49 => ln_ <| nx <| wp_ret <| ret_run H49.env0 (res_t Try.results51 (H49.get 4 rfl)) <| ?_
  clear H47
  exact ⟨by rw [ndWrite_a hn (by omega) h0], by rw [ndWrite_a hn (by omega) h0]; exact ((HZ48.move HS48).sel [0] [0])⟩
end Go.Proofs.Ytbdpocbnkgckhaa

/- The program's node: carryOut, catchUp, Open, Apply. -/
set_option maxRecDepth 4000
namespace Go.Proofs.Ytbdpocbnkgckhaa
open Go Go.RowKit
variable (D : DiskOps)
theorem nd_carry (F : Nat → Prop) (g : Nat) (p : Value) (M : DiskM) (L : Lab) (r : Rec) (A : Option Addr) (n c : Nat) (d : BitVec 16) (w : World) (HX : Rs w F [⟨g, 59, ndCells p L⟩] [dskT D p M] w) (hN : M.l.length + 200 ≤ few) (HP : ∀ W, Chg F w W → PutsAt W (.slice A n c) r.l) (hg : goodB r.ats = true) : Calls Try.prog 32 #[.pointer (some ⟨g, 0, none⟩), .agg #[.int .u32 (wd r.e), .int .u32 (wd r.s), .slice A n c], .int .u16 (hd d)] w fun x w' => x = .returned (.int .i64 (ndCarry M L r d).1) ∧ Rs w F [⟨g, 59, ndCells p (ndLab (ndCarry M L r d).1 L (doneLab L r d))⟩] [dskT D p (ndCarry M L r d).2] w' := by
  have hn := (puts_open (HP w (Chg.refl _ _))).1
  have hn5 : n ≤ 5 := hn ▸ ndrec_len hg
  have hat := ndrec_at hg
  obtain ⟨G1, HZ1, HS1⟩ := HX.anchor
  clear HX
  refine enter_en Try.func32 rfl Try.ntmps32 (Nat.le_of_ble_eq_true rfl) fun a0 (HA0 : En 35 [(0, .pointer (some ⟨g, 0, none⟩)), (1, .agg #[.int .u32 (wd r.e), .int .u32 (wd r.s), .slice A n c]), (2, .int .u16 (hd d))] a0) => ?_
  refine sq_ <| rl_ <| wl_ <| n_ HA0 rfl (fun _ h => dd_box HS1 rfl (HA0.ev 1 rfl) (cs := #[.int .u32 (wd r.e), .int .u32 (wd r.s), .slice A n c]) rfl h) fun g4 W2 HS2 _ H2 => wl_ <| p_ H2 rfl rfl fun _ H3 => ln_ <| nx <| sq_ <| sq_ <| rl_ <| wl_ <| p_ H3 rfl rfl fun _ H4 => wl_ <| i_ H4 rfl (xf 2 2 rfl (H4.ev 4 rfl)) fun _ H5 => wl_ <| i_ H5 rfl (dd_get HS2 1 2 rfl rfl (H5.ev 9 rfl) rfl Try.underlying27 rfl) fun _ H6 => ?_
  clear HS1 HA0 H2 H3 H4 H5
  obtain ⟨Gc7, hc7, hf7, hk7, hq7⟩ := Rs.reframe (R1 := [⟨g, 59, #[p, .int .u32 (wd L.e), .int .u32 (wd L.s), .int .u32 (wd L.n), .int .u16 (hd L.d), .int .u16 (hd L.l)]⟩]) (R2 := [⟨g4, 67, #[.int .u32 (wd r.e), .int .u32 (wd r.s), .slice A n c]⟩]) (Q1 := [dskT D p M]) (Q2 := []) ((HZ1.move HS2).sel [0, 1] [0])
  refine wl_ <| d_ H6 rfl (R := fun v9 w9 => v9 = .int .i64 ((ndWrite M r.l).1) ∧ Rs w F [⟨g, 59, #[p, .int .u32 (wd L.e), .int .u32 (wd L.s), .int .u32 (wd L.n), .int .u16 (hd L.d), .int .u16 (hd L.l)]⟩, ⟨g4, 67, #[.int .u32 (wd r.e), .int .u32 (wd r.s), .slice A n c]⟩] [dskT D p ((ndWrite M r.l).2)] w9) (dc_ Try.func51 rfl (args2 (H6.ev 8 rfl) (H6.ev 10 rfl)) (nd_write D Gc7 g p M L A n c r.l W2 hc7 (by have h9 : M.l.length ≤ _ := (Nat.le_refl _); omega) (fun W9 k9 => HP W9 ((HZ1.move HS2).st.chg.trans k9 fun j9 hj9 => (hf7 j9 hj9).1)) hn5 hat) (fun _ w9 ⟨he, hX⟩ => ⟨_, he, rfl, hk7 _ _ _ hX⟩)) ?_
  rintro _ W7 ⟨rfl, HX7⟩ a7 H7
  clear hc7 hk7 hf7 hq7 HS2 HZ1
  clear H6
  obtain ⟨G8, HZ8, HS8⟩ := HX7.anchor
  clear HX7
  refine wl_ <| p_ H7 rfl rfl fun a9 H9 => ln_ <| nx <| sq_ <| rl_ <| wl_ <| p_ H9 rfl rfl fun _ H10 => ?_
  clear H7 H9
  by_cases hc12 : ((ndWrite M r.l).1 : Int) = 0
  ·
   refine wl_ <| i_ H10 rfl (dd_cmp rfl (H10.ev 12 rfl) rfl (ne_f hc12)) fun _ H13 => ln_ <| nx <| cf_ H13 rfl <| wp_skip <| nx <| sq_ <| ?_
   clear H10
   refine wp_cut (fun a9 w9 => En 35 [(6, .int .i64 ((ndSet ((ndWrite M r.l).2) (doneLab L r d)).1))] a9 ∧ Rs w F [⟨g, 59, #[p, .int .u32 (wd (ndLab (ndSet ((ndWrite M r.l).2) (doneLab L r d)).1 L (doneLab L r d)).e), .int .u32 (wd (ndLab (ndSet ((ndWrite M r.l).2) (doneLab L r d)).1 L (doneLab L r d)).s), .int .u32 (wd (ndLab (ndSet ((ndWrite M r.l).2) (doneLab L r d)).1 L (doneLab L r d)).n), .int .u16 (hd (ndLab (ndSet ((ndWrite M r.l).2) (doneLab L r d)).1 L (doneLab L r d)).d), .int .u16 (hd (ndLab (ndSet ((ndWrite M r.l).2) (doneLab L r d)).1 L (doneLab L r d)).l)]⟩, ⟨g4, 67, #[.int .u32 (wd r.e), .int .u32 (wd r.s), .slice A n c]⟩] [dskT D p ((ndSet ((ndWrite M r.l).2) (doneLab L r d)).2)] w9) ?_ ?_
   ·
    refine wr_ (HZ8.move HS8) [1] [1, 0] rfl rfl fun HXd15 hx14 => ?_
    obtain ⟨G16, HZ16, HS16⟩ := HXd15.anchor
    clear HXd15
    refine hp_ H13 0 hx14 rfl rfl rfl fun _ H17 => ht_ H17 1 hx14 rfl rfl (fun _ _ _ => xf 0 0 rfl (H17.ev 4 rfl)) fun _ H18 => ht_ H18 2 hx14 rfl rfl (fun _ _ HS9 => dd_get HS9 0 0 rfl rfl (H18.ev 16 rfl) rfl Try.underlying26 rfl) fun _ H19 => ht_ H19 3 hx14 rfl rfl (fun _ _ _ => xf 1 1 rfl (H19.ev 4 rfl)) fun _ H20 => ht_ H20 4 hx14 rfl rfl (fun _ _ HS9 => dd_get HS9 0 1 rfl rfl (H20.ev 18 rfl) rfl Try.underlying26 rfl) fun _ H21 => hp_ H21 5 hx14 rfl rfl rfl fun _ H22 => ht_ H22 6 hx14 rfl rfl (fun _ _ _ => dd_nilc rfl (H22.ev 20 rfl)) fun _ H23 => ht_ H23 7 hx14 rfl rfl (fun _ _ _ => xf 1 1 rfl (H23.ev 21 rfl)) fun _ H24 => ?_
    clear H13 H17 H18 H19 H20 H21 H22
    refine ht_ H24 8 hx14 rfl rfl (fun _ _ _ => xf 2 3 rfl (H24.ev 22 rfl)) fun _ H25 => ht_ H25 10 hx14 rfl rfl (fun _ _ _ => xf 1 1 rfl (H25.ev 4 rfl)) fun _ H26 => ht_ H26 11 hx14 rfl rfl (fun _ _ HS9 => dd_get HS9 0 1 rfl rfl (H26.ev 25 rfl) rfl Try.underlying26 rfl) fun _ H27 => ht_ H27 12 hx14 rfl rfl (v := .int .u32 (wd (r.s + 1#32))) (fun _ _ _ => dd_ari rfl (H27.ev 26 rfl) rfl rfl (wd_add1 _)) fun _ H28 => hp_ H28 14 hx14 rfl rfl rfl fun _ H29 => ht_ H29 15 hx14 rfl rfl (fun _ _ _ => xf 2 2 rfl (H29.ev 4 rfl)) fun _ H30 => ht_ H30 16 hx14 rfl rfl (fun _ _ HS9 => dd_get HS9 0 2 rfl rfl (H30.ev 30 rfl) rfl Try.underlying27 rfl) fun _ H31 => ?_
    clear H23 H24 H25 H26 H27 H28 H29 H30
    refine wpAnyH_all (rs := [9, 17]) (by kernel_rfl) (by decide) (hm_cons ?_ (hm_cons ?_ hm_nil))
    ·
     refine ho_ rfl <| i_ H31 rfl (dd_get HS16 0 3 rfl rfl (H31.ev 23 rfl) rfl Try.underlying26 rfl) fun _ H32 => sx_ (sxi (HZ16.move HS16).st [1, 0] rfl) fun hx33 => ht_ H32 13 hx33 rfl rfl (v := .int .u32 (wd (maxU L.n (r.s + 1#32)))) (fun _ _ _ => dd_max rfl (H32.ev 24 rfl) (H32.ev 27 rfl) (wd_max _ _)) fun _ H34 => h1_ 17 rfl <| c_ H34 rfl HS16 (dcs Try.func53 rfl (args1 (H34.ev 31 rfl)) (labbits_any r.l _ W7.drew (HP _ (HZ16.chg HS16)) (by have h9 := ndrec_len hg; omega)) (.int .u16 (hd (bitsOf r.ats)))) fun W35 HS35 _ H35 => sx_ (sxi (HZ16.move HS35).st [1, 0] rfl) fun hx36 => ht_ H35 18 hx36 rfl rfl (v := .agg #[.int .u32 (wd r.e), .int .u32 (wd r.s), .int .u32 (wd (maxU L.n (r.s + 1#32))), .int .u16 (hd d), .int .u16 (hd (bitsOf r.ats))]) (fun _ _ _ => dd_bld rfl (ps := [(0, .int .u32 (wd r.e)), (1, .int .u32 (wd r.s)), (2, .int .u32 (wd (maxU L.n (r.s + 1#32)))), (3, .int .u16 (hd d)), (4, .int .u16 (hd (bitsOf r.ats)))]) (pr1 (H35.ev 17 rfl) (pr1 (H35.ev 19 rfl) (pr1 (H35.ev 28 rfl) (pr1 (H35.ev 29 rfl) (pr1 (H35.ev 32 rfl) (pr0)))))) (Lz := [[.int .u32 0], [.int .u32 0], [.int .u32 0], [.int .u16 0], [.int .u16 0]]) (by kernel_rfl) (lens_cons rfl (lens_cons rfl (lens_cons rfl (lens_cons rfl (lens_cons rfl (lens_nil)))))) (fit_cons (i := 0) rfl rfl (fit_cons (i := 1) rfl rfl (fit_cons (i := 2) rfl rfl (fit_cons (i := 3) rfl rfl (fit_cons (i := 4) rfl rfl (fit_nil)))))) (cs := #[.int .u32 (wd r.e), .int .u32 (wd r.s), .int .u32 (wd (maxU L.n (r.s + 1#32))), .int .u16 (hd d), .int .u16 (hd (bitsOf r.ats))]) rfl) fun _ H37 => ?_
     clear H31 H32 H34 HS16 hx33 H35
     obtain ⟨Gc38, hc38, hf38, hk38, hq38⟩ := Rs.reframe (R1 := [⟨g, 59, #[p, .int .u32 (wd L.e), .int .u32 (wd L.s), .int .u32 (wd L.n), .int .u16 (hd L.d), .int .u16 (hd L.l)]⟩]) (R2 := [⟨g4, 67, #[.int .u32 (wd r.e), .int .u32 (wd r.s), .slice A n c]⟩]) (Q1 := [dskT D p ((ndWrite M r.l).2)]) (Q2 := []) ((HZ16.move HS35).sel [0, 1] [0])
     refine h1_ 19 rfl <| d_ H37 rfl (R := fun v9 w9 => v9 = .int .i64 ((ndSet ((ndWrite M r.l).2) (doneLab L r d)).1) ∧ Rs w F [⟨g, 59, #[p, .int .u32 (wd (ndLab (ndSet ((ndWrite M r.l).2) (doneLab L r d)).1 L (doneLab L r d)).e), .int .u32 (wd (ndLab (ndSet ((ndWrite M r.l).2) (doneLab L r d)).1 L (doneLab L r d)).s), .int .u32 (wd (ndLab (ndSet ((ndWrite M r.l).2) (doneLab L r d)).1 L (doneLab L r d)).n), .int .u16 (hd (ndLab (ndSet ((ndWrite M r.l).2) (doneLab L r d)).1 L (doneLab L r d)).d), .int .u16 (hd (ndLab (ndSet ((ndWrite M r.l).2) (doneLab L r d)).1 L (doneLab L r d)).l)]⟩, ⟨g4, 67, #[.int .u32 (wd r.e), .int .u32 (wd r.s), .slice A n c]⟩] [dskT D p ((ndSet ((ndWrite M r.l).2) (doneLab L r d)).2)] w9) (dc_ Try.func52 rfl (args2 (H37.ev 15 rfl) (H37.ev 33 rfl)) (nd_set D Gc38 g p ((ndWrite M r.l).2) L (doneLab L r d) W35 hc38 (by have h9 : ((ndWrite M r.l).2).l.length ≤ _ := (Nat.le_trans (ndWrite_l5 (ndrec_len hg)) (Nat.add_le_add_right (Nat.le_refl _) 5)); omega)) (fun _ w9 ⟨he, hX⟩ => ⟨_, he, rfl, hk38 _ _ _ hX⟩)) ?_
     rintro _ W38 ⟨rfl, HX38⟩ a38 H38
     clear hc38 hk38 hf38 hq38 HS35 HZ16
     clear H37
     obtain ⟨G39, HZ39, HS39⟩ := HX38.anchor
     clear HX38
     refine sx_ (sxi (HZ39.move HS39).st [1, 0] rfl) fun hx40 => hp_ H38 20 hx40 rfl rfl rfl fun _ H41 => ?_
     clear hx36 H38
     refine wpAnyH_done (by kernel_rfl) ?_ _
     clear hx40
     exact nx ⟨H41.sel [6] rfl, (HZ39.move HS39).sel [0, 1] [0]⟩
    refine ho_ rfl <| c_ H31 rfl HS16 (dcs Try.func53 rfl (args1 (H31.ev 31 rfl)) (labbits_any r.l _ W7.drew (HP _ (HZ16.chg HS16)) (by have h9 := ndrec_len hg; omega)) (.int .u16 (hd (bitsOf r.ats)))) fun W42 HS42 _ H42 => sx_ (sxi (HZ16.move HS42).st [1, 0] rfl) fun hx43 => h1_ 9 rfl <| i_ H42 rfl (dd_get HS42 0 3 rfl rfl (H42.ev 23 rfl) rfl Try.underlying26 rfl) fun _ H44 => sx_ (sxi (HZ16.move HS42).st [1, 0] rfl) fun hx45 => ht_ H44 13 hx45 rfl rfl (v := .int .u32 (wd (maxU L.n (r.s + 1#32)))) (fun _ _ _ => dd_max rfl (H44.ev 24 rfl) (H44.ev 27 rfl) (wd_max _ _)) fun _ H46 => ht_ H46 18 hx45 rfl rfl (v := .agg #[.int .u32 (wd r.e), .int .u32 (wd r.s), .int .u32 (wd (maxU L.n (r.s + 1#32))), .int .u16 (hd d), .int .u16 (hd (bitsOf r.ats))]) (fun _ _ _ => dd_bld rfl (ps := [(0, .int .u32 (wd r.e)), (1, .int .u32 (wd r.s)), (2, .int .u32 (wd (maxU L.n (r.s + 1#32)))), (3, .int .u16 (hd d)), (4, .int .u16 (hd (bitsOf r.ats)))]) (pr1 (H46.ev 17 rfl) (pr1 (H46.ev 19 rfl) (pr1 (H46.ev 28 rfl) (pr1 (H46.ev 29 rfl) (pr1 (H46.ev 32 rfl) (pr0)))))) (Lz := [[.int .u32 0], [.int .u32 0], [.int .u32 0], [.int .u16 0], [.int .u16 0]]) (by kernel_rfl) (lens_cons rfl (lens_cons rfl (lens_cons rfl (lens_cons rfl (lens_cons rfl (lens_nil)))))) (fit_cons (i := 0) rfl rfl (fit_cons (i := 1) rfl rfl (fit_cons (i := 2) rfl rfl (fit_cons (i := 3) rfl rfl (fit_cons (i := 4) rfl rfl (fit_nil)))))) (cs := #[.int .u32 (wd r.e), .int .u32 (wd r.s), .int .u32 (wd (maxU L.n (r.s + 1#32))), .int .u16 (hd d), .int .u16 (hd (bitsOf r.ats))]) rfl) fun _ H47 => ?_
    clear H31 HS16 H42 hx43 H44 H46
    obtain ⟨Gc48, hc48, hf48, hk48, hq48⟩ := Rs.reframe (R1 := [⟨g, 59, #[p, .int .u32 (wd L.e), .int .u32 (wd L.s), .int .u32 (wd L.n), .int .u16 (hd L.d), .int .u16 (hd L.l)]⟩]) (R2 := [⟨g4, 67, #[.int .u32 (wd r.e), .int .u32 (wd r.s), .slice A n c]⟩]) (Q1 := [dskT D p ((ndWrite M r.l).2)]) (Q2 := []) ((HZ16.move HS42).sel [0, 1] [0])
    refine h1_ 19 rfl <| d_ H47 rfl (R := fun v9 w9 => v9 = .int .i64 ((ndSet ((ndWrite M r.l).2) (doneLab L r d)).1) ∧ Rs w F [⟨g, 59, #[p, .int .u32 (wd (ndLab (ndSet ((ndWrite M r.l).2) (doneLab L r d)).1 L (doneLab L r d)).e), .int .u32 (wd (ndLab (ndSet ((ndWrite M r.l).2) (doneLab L r d)).1 L (doneLab L r d)).s), .int .u32 (wd (ndLab (ndSet ((ndWrite M r.l).2) (doneLab L r d)).1 L (doneLab L r d)).n), .int .u16 (hd (ndLab (ndSet ((ndWrite M r.l).2) (doneLab L r d)).1 L (doneLab L r d)).d), .int .u16 (hd (ndLab (ndSet ((ndWrite M r.l).2) (doneLab L r d)).1 L (doneLab L r d)).l)]⟩, ⟨g4, 67, #[.int .u32 (wd r.e), .int .u32 (wd r.s), .slice A n c]⟩] [dskT D p ((ndSet ((ndWrite M r.l).2) (doneLab L r d)).2)] w9) (dc_ Try.func52 rfl (args2 (H47.ev 15 rfl) (H47.ev 33 rfl)) (nd_set D Gc48 g p ((ndWrite M r.l).2) L (doneLab L r d) W42 hc48 (by have h9 : ((ndWrite M r.l).2).l.length ≤ _ := (Nat.le_trans (ndWrite_l5 (ndrec_len hg)) (Nat.add_le_add_right (Nat.le_refl _) 5)); omega)) (fun _ w9 ⟨he, hX⟩ => ⟨_, he, rfl, hk48 _ _ _ hX⟩)) ?_
    rintro _ W48 ⟨rfl, HX48⟩ a48 H48
    clear hc48 hk48 hf48 hq48 HS42 HZ16
    clear H47
    obtain ⟨G49, HZ49, HS49⟩ := HX48.anchor
    clear HX48
    refine sx_ (sxi (HZ49.move HS49).st [1, 0] rfl) fun hx50 => hp_ H48 20 hx50 rfl rfl rfl fun _ H51 => ?_
    clear hx45 H48
    refine wpAnyH_done (by kernel_rfl) ?_ _
    clear hx50
    exact nx ⟨H51.sel [6] rfl, (HZ49.move HS49).sel [0, 1] [0]⟩
   rintro aj14 wj14 ⟨Hj14, HSj14⟩
   obtain ⟨G53, HZ53, HS53⟩ := HSj14.anchor
   clear HSj14
   refine nx <| wp_ret <| ret_run Hj14.env0 (res_t Try.results32 (Hj14.get 6 rfl)) <| ?_
   exact ⟨by rw [ndCarry_ok hc12], by rw [ndCarry_ok hc12]; exact ((HZ53.move HS53).sel [0] [0])⟩
  refine wl_ <| i_ H10 rfl (dd_cmp rfl (H10.ev 12 rfl) rfl (ne_t hc12)) fun _ H54 => ln_ <| nx <| ct_ H54 rfl <| sq_ <| rl_ <| q_ H54 2 rfl fun _ H55 => ln_ <| nx <| wp_ret <| tr <| ret_run H55.env0 (res_t Try.results32 (H55.get 6 rfl)) <| ?_
  clear H10 H54
  exact ⟨by rw [ndCarry_no hc12], by rw [ndCarry_no hc12, ndLab_no hc12]; exact ((HZ8.move HS8).sel [0] [0])⟩
variable (O : WalOps D)
include O in
theorem nd_catch (F : Nat → Prop) (g : Nat) (p : Value) (M : DiskM) (L : Lab) (w : World) (HX : Rs w F [⟨g, 59, ndCells p L⟩] [dskT D p M] w) (hN : M.l.length + 300 ≤ few) : Calls Try.prog 19 #[.pointer (some ⟨g, 0, none⟩)] w fun x w' => x = .returned (.int .i64 (ndCatch M L).1) ∧ Rs w F [⟨g, 59, ndCells p (ndCatchL M L)⟩] [dskT D p (ndCatch M L).2] w' := by
  obtain ⟨G1, HZ1, HS1⟩ := HX.anchor
  clear HX
  refine enter_en Try.func19 rfl Try.ntmps19 (Nat.le_of_ble_eq_true rfl) fun a0 (HA0 : En 30 [(0, .pointer (some ⟨g, 0, none⟩))] a0) => ?_
  refine sq_ <| rl_ <| wl_ <| p_ HA0 rfl rfl fun _ H2 => ln_ <| nx <| sq_ <| rl_ <| wl_ <| p_ H2 rfl rfl fun _ H3 => wl_ <| i_ H3 rfl (dd_nilc rfl (H3.ev 6 rfl)) fun _ H4 => wl_ <| i_ H4 rfl (xf 0 0 rfl (H4.ev 7 rfl)) fun _ H5 => wl_ <| i_ H5 rfl (dd_get HS1 0 0 rfl rfl (H5.ev 8 rfl) rfl Try.underlying34 rfl) fun _ H6 => ?_
  clear HA0 H2 H3 H4 H5
  refine wl_ <| d_ H6 rfl (R := fun v w9 => ∃ A9 c9, v = .tuple #[.agg #[.int .u32 (wd (walGet M 1).1.e), .int .u32 (wd (walGet M 1).1.s), .slice A9 ((walGet M 1).1.l.length) c9], .int .i64 ((walGet M 1).2)] ∧ (PutsAt w9 (.slice A9 (walGet M 1).1.l.length c9) (walGet M 1).1.l) ∧ (∀ k, (Value.slice A9 (walGet M 1).1.l.length c9).ownBlock = some k → w.heap.size ≤ k) ∧ Below w.heap.size w w9) (dc_ Try.func30 rfl (args2 (H6.ev 9 rfl) rfl) (wr_get O 1 ((HZ1.move HS1).sel [] [0]) (by decide) (Nat.le_trans (Nat.le_refl _) (by omega))) (fun _ w9 ⟨A9, c9, he, hp, hb, ho⟩ => ⟨_, he, A9, c9, rfl, hp, ho, hb⟩)) ?_
  rintro _ W7 ⟨A9, c9, rfl, hp9, ho9, hb7⟩ a7 H7
  have HS7 := HS1.same hb7
  clear H6
  obtain ⟨f9, hf9, hfb9⟩ := putsT_new hp9 ho9
  have HXt7 := Rs.addT (HZ1.move HS1) hb7 hf9 hfb9
  clear HS7 HZ1
  obtain ⟨G8, HZ8, HS8⟩ := HXt7.anchor
  clear HXt7
  clear HS1 hb7
  refine wl_ <| p_ H7 rfl rfl fun _ H9 => wl_ <| i_ H9 rfl (v := .agg #[.int .u32 (wd (walGet M 1).1.e), .int .u32 (wd (walGet M 1).1.s), .slice A9 ((walGet M 1).1.l.length) c9]) (dd_ext rfl (H9.ev 5 rfl) rfl) fun _ H10 => wl_ <| i_ H10 rfl (v := .int .i64 ((walGet M 1).2)) (dd_ext rfl (H10.ev 5 rfl) rfl) fun _ H11 => wl_ <| n_ H11 rfl (fun _ h => dd_new HS8 #[.int .u32 0, .int .u32 0, .slice none 0 0] rfl (z := .agg #[.int .u32 0, .int .u32 0, .slice none 0 0]) (by kernel_rfl) rfl h) fun g3 _ HS12 _ H12 => wl_ <| t_ rfl (fun _ h => dd_setrow HS12 1 rfl rfl (H12.ev 3 rfl) (H12.ev 11 rfl) (by kernel_rfl) (rfl : #[.int .u32 (wd (walGet M 1).1.e), .int .u32 (wd (walGet M 1).1.s), .slice A9 ((walGet M 1).1.l.length) c9].size = 3) (rfl : #[.int .u32 0, .int .u32 0, .slice none 0 0].size = 3) (one_l (ao_cons rfl (ao_cons rfl (ao_cons rfl ao_nil)))) h) fun W13 HS13 => wl_ <| p_ H12 rfl rfl fun _ H14 => ln_ <| nx <| sq_ <| sq_ <| rl_ <| wl_ <| p_ H14 rfl rfl fun _ H15 => ?_
  clear H7 H9 H10 HS8 H11 HS12 H12 H14
  by_cases hc17 : ((walGet M 1).2 : Int) = 11
  ·
   refine wl_ <| i_ H15 rfl (dd_cmp rfl (H15.ev 13 rfl) rfl (eq_t hc17)) fun _ H18 => ln_ <| nx <| ct_ H18 rfl <| sq_ <| rl_ <| wl_ <| p_ H18 rfl rfl fun _ H19 => ln_ <| nx <| wp_ret <| tr <| ret_run H19.env0 (res_t Try.results19 (H19.get 2 rfl)) <| ?_
   clear H15 H18
   have hcu := ndCatch_11 (L := L) hc17
   exact ⟨by rw [hcu.1], by rw [hcu.1, hcu.2]; exact ((HZ8.move HS13).sel [0] [1])⟩
  refine wl_ <| i_ H15 rfl (dd_cmp rfl (H15.ev 13 rfl) rfl (eq_f hc17)) fun _ H20 => ln_ <| nx <| cf_ H20 rfl <| wp_skip <| nx <| sq_ <| sq_ <| rl_ <| wl_ <| p_ H20 rfl rfl fun _ H21 => ?_
  clear H15 H20
  by_cases hc23 : ((walGet M 1).2 : Int) = 0
  ·
   refine wl_ <| i_ H21 rfl (dd_cmp rfl (H21.ev 15 rfl) rfl (ne_f hc23)) fun _ H24 => ln_ <| nx <| cf_ H24 rfl <| wp_skip <| nx <| sq_ <| sq_ <| rl_ <| wl_ <| p_ H24 rfl rfl fun _ H25 => wl_ <| i_ H25 rfl (v := .agg #[.int .u32 (wd (walGet M 1).1.e), .int .u32 (wd (walGet M 1).1.s), .slice A9 ((walGet M 1).1.l.length) c9]) (dd_load HS13 1 0 rfl rfl (H25.ev 3 rfl) (slab_whole _) Try.underlying67 rfl (by kernel_rfl)) fun _ H26 => ?_
   clear H21 H24 H25
   cases hb27 : ndLater L (walGet M 1).1
   ·
    refine wl_ <| c_ H26 rfl HS13 (v := .bool false) (dc_ Try.func31 rfl (args2 (H26.ev 18 rfl) (H26.ev 19 rfl)) (ndlacks_at g _ L (walGet M 1).1 _ W13 (HS13.row 0 rfl)) (fun _ w9 h9 => ⟨_, h9.1, by rw [hb27], h9.2⟩)) fun _ HS28 _ H28 => wl_ <| i_ H28 rfl (v := .bool true) (dd_nt rfl (H28.ev 20 rfl) rfl) fun _ H29 => ln_ <| ?_
    clear H26 HS13 H28
    have H30 := H29.sel [0, 3, 21] rfl
    refine nx <| ct_ H30 rfl <| sq_ <| rl_ <| wl_ <| p_ H30 rfl rfl fun _ H31 => ln_ <| nx <| wp_ret <| tr <| ret_run H31.env0 (res_t Try.results19 (H31.get 2 rfl)) <| ?_
    clear H29 H30
    have hcu := ndCatch_s hc23 hb27
    exact ⟨by rw [hcu.1], by rw [hcu.1, hcu.2]; exact ((HZ8.move HS28).sel [0] [1])⟩
   refine wl_ <| c_ H26 rfl HS13 (v := .bool true) (dc_ Try.func31 rfl (args2 (H26.ev 18 rfl) (H26.ev 19 rfl)) (ndlacks_at g _ L (walGet M 1).1 _ W13 (HS13.row 0 rfl)) (fun _ w9 h9 => ⟨_, h9.1, by rw [hb27], h9.2⟩)) fun W32 HS32 _ H32 => wl_ <| i_ H32 rfl (v := .bool false) (dd_nt rfl (H32.ev 20 rfl) rfl) fun _ H33 => ln_ <| ?_
   clear H26 HS13 H32
   have H34 := H33.sel [0, 3, 21] rfl
   refine nx <| cf_ H34 rfl <| wp_skip <| nx <| sq_ <| ?_
   clear H33
   refine wr_ (HZ8.move HS32) [1] [1, 0] rfl rfl fun HXd36 hx35 => ?_
   obtain ⟨G37, HZ37, HS37⟩ := HXd36.anchor
   clear HXd36
   refine hp_ H34 0 hx35 rfl rfl rfl fun _ H38 => ht_ H38 1 hx35 rfl rfl (v := .agg #[.int .u32 (wd (walGet M 1).1.e), .int .u32 (wd (walGet M 1).1.s), .slice A9 ((walGet M 1).1.l.length) c9]) (fun _ _ HS9 => dd_load HS9 0 0 rfl rfl (H38.ev 3 rfl) (slab_whole _) Try.underlying67 rfl (by kernel_rfl)) fun _ H39 => hp_ H39 2 hx35 rfl rfl rfl fun _ H40 => ht_ H40 3 hx35 rfl rfl (fun _ _ _ => dd_nilc rfl (H40.ev 24 rfl)) fun _ H41 => ht_ H41 4 hx35 rfl rfl (fun _ _ _ => xf 1 1 rfl (H41.ev 25 rfl)) fun _ H42 => ht_ H42 5 hx35 rfl rfl (fun _ _ _ => xf 3 4 rfl (H42.ev 26 rfl)) fun _ H43 => h1_ 6 rfl <| i_ H43 rfl (dd_get HS37 0 4 rfl rfl (H43.ev 27 rfl) rfl Try.underlying44 rfl) fun _ H44 => sx_ (sxi (HZ37.move HS37).st [1, 0] rfl) fun hx45 => ?_
   clear H34 H38 H39 H40 H41 H42 H43
   clear hx35
   obtain ⟨Gc46, hc46, hf46, hk46, hq46⟩ := Rs.reframe (R1 := [⟨g, 59, #[p, .int .u32 (wd L.e), .int .u32 (wd L.s), .int .u32 (wd L.n), .int .u16 (hd L.d), .int .u16 (hd L.l)]⟩]) (R2 := [⟨g3, 67, #[.int .u32 (wd (walGet M 1).1.e), .int .u32 (wd (walGet M 1).1.s), .slice A9 ((walGet M 1).1.l.length) c9]⟩]) (Q1 := [dskT D p M]) (Q2 := [putsT (.slice A9 (walGet M 1).1.l.length c9) (walGet M 1).1.l]) ((HZ37.move HS37).sel [0, 1] [1, 0])
   obtain ⟨fp46, hfp46, hfd46⟩ := hq46 0 _ rfl
   refine h1_ 7 rfl <| d_ H44 rfl (R := fun v9 w9 => v9 = .int .i64 ((ndCarry M L (walGet M 1).1 L.d).1) ∧ Rs w F [⟨g, 59, #[p, .int .u32 (wd (ndLab (ndCarry M L (walGet M 1).1 L.d).1 L (doneLab L (walGet M 1).1 L.d)).e), .int .u32 (wd (ndLab (ndCarry M L (walGet M 1).1 L.d).1 L (doneLab L (walGet M 1).1 L.d)).s), .int .u32 (wd (ndLab (ndCarry M L (walGet M 1).1 L.d).1 L (doneLab L (walGet M 1).1 L.d)).n), .int .u16 (hd (ndLab (ndCarry M L (walGet M 1).1 L.d).1 L (doneLab L (walGet M 1).1 L.d)).d), .int .u16 (hd (ndLab (ndCarry M L (walGet M 1).1 L.d).1 L (doneLab L (walGet M 1).1 L.d)).l)]⟩, ⟨g3, 67, #[.int .u32 (wd (walGet M 1).1.e), .int .u32 (wd (walGet M 1).1.s), .slice A9 ((walGet M 1).1.l.length) c9]⟩] [dskT D p ((ndCarry M L (walGet M 1).1 L.d).2), putsT (.slice A9 (walGet M 1).1.l.length c9) (walGet M 1).1.l] w9) (dc_ Try.func32 rfl (args3 (H44.ev 22 rfl) (H44.ev 23 rfl) (H44.ev 28 rfl)) (nd_carry D Gc46 g p M L (walGet M 1).1 A9 _ c9 L.d W32.drew hc46 (by omega) (fun _ k9 => putsT_far hfp46 hfd46 k9) (walGet_good hc23).1) (fun _ w9 ⟨he, hX⟩ => ⟨_, he, rfl, hk46 _ _ _ hX⟩)) ?_
   rintro _ W46 ⟨rfl, HX46⟩ a46 H46
   clear hc46 hk46 hf46 hq46 HS37 HZ37
   clear H44
   obtain ⟨G47, HZ47, HS47⟩ := HX46.anchor
   clear HX46
   refine sx_ (sxi (HZ47.move HS47).st [1, 0] rfl) fun hx48 => hp_ H46 8 hx48 rfl rfl rfl fun _ H49 => ?_
   clear hx45 H46
   refine wpAnyH_done (by kernel_rfl) ?_ _
   clear hx48
   refine nx <| wp_ret <| ret_run H49.env0 (res_t Try.results19 (H49.get 2 rfl)) <| ?_
   have hcu := ndCatch_a hc23 hb27
   exact ⟨by rw [hcu.1], by rw [hcu.1, hcu.2]; exact ((HZ47.move HS47).sel [0] [0])⟩
  refine wl_ <| i_ H21 rfl (dd_cmp rfl (H21.ev 15 rfl) rfl (ne_t hc23)) fun _ H50 => ln_ <| nx <| ct_ H50 rfl <| sq_ <| rl_ <| q_ H50 2 rfl fun _ H51 => ln_ <| ?_
  clear H21 H50
  have H52 := H51.sel [2] rfl
  refine nx <| wp_ret <| tr <| ret_run H52.env0 (res_t Try.results19 (H52.get 2 rfl)) <| ?_
  clear H51
  have hcu := ndCatch_e (L := L) hc17 hc23
  exact ⟨by rw [hcu.1], by rw [hcu.1, hcu.2]; exact ((HZ8.move HS13).sel [0] [1])⟩
omit D in
theorem nop_1 {M : DiskM} (h : ¬ M.s.length = 19) : ndOpen M = (1, M) := by unfold ndOpen; rw [if_neg h]
omit D in
theorem nop_2 {M : DiskM} (h : M.s.length = 19) (h2 : ¬ (M.rRes 0).2 = 0) : ndOpen M = ((M.rRes 0).2, M) := by unfold ndOpen; rw [if_pos h, if_neg h2]
omit D in
theorem nop_3 {M : DiskM} (h : M.s.length = 19) (h2 : (M.rRes 0).2 = 0) (h3 : ¬ decLabE (M.rRes 0).1 = 0) : ndOpen M = (decLabE (M.rRes 0).1, M) := by unfold ndOpen; rw [if_pos h, if_pos h2, if_neg h3]
omit D in
theorem nop_4 {M : DiskM} (h : M.s.length = 19) (h2 : (M.rRes 0).2 = 0) (h3 : decLabE (M.rRes 0).1 = 0) : ndOpen M = ndCatch M (decLab (M.rRes 0).1) := by unfold ndOpen; rw [if_pos h, if_pos h2, if_pos h3]
omit D in
theorem nop_5 {M : DiskM} (h : M.s.length = 19) (h2 : (M.rRes 0).2 = 0) (h3 : decLabE (M.rRes 0).1 = 0) : ndOpen M = ndCatch M (decLab (M.rRes 0).1) := nop_4 h h2 h3
include O in
theorem nd_open (F : Nat → Prop) (p : Value) (M : DiskM) (w : World) (HX : Rs w F [] [dskT D p M] w) (hN : M.l.length + 400 ≤ few) : Calls Try.prog 8 #[p] w fun x w' => (∃ g, (ndOpen M).1 = 0 ∧ x = .returned (.tuple #[.pointer (some ⟨g, 0, none⟩), .int .i64 0]) ∧ Rs w F [⟨g, 59, ndCells p (ndOpenL M)⟩] [dskT D p (ndOpen M).2] w') ∨
    (¬ (ndOpen M).1 = 0 ∧ x = .returned (.tuple #[.pointer none, .int .i64 (ndOpen M).1]) ∧ Rs w F [] [dskT D p (ndOpen M).2] w') := by
  obtain ⟨gp, rfl⟩ := dr_ptr HX
  obtain ⟨G1, HZ1, HS1⟩ := HX.anchor
  clear HX
  refine enter_en Try.func8 rfl Try.ntmps8 (Nat.le_of_ble_eq_true rfl) fun a0 (HA0 : En 38 [(0, .pointer (some ⟨gp, 0, none⟩))] a0) => ?_
  refine sq_ <| rl_ <| q_ HA0 2 rfl fun _ H2 => ln_ <| nx <| sq_ <| sq_ <| rl_ <| wl_ <| p_ H2 rfl rfl fun _ H3 => wl_ <| c_ H3 rfl HS1 (dcs Try.func16 rfl (args1 (H3.ev 9 rfl)) (dr_len ((HZ1.move HS1).sel [] [0])) (.int .i64 M.s.length)) fun W4 HS4 _ H4 => ?_
  clear HA0 H2 H3 HS1
  by_cases hc6 : (M.s.length : Int) = 19
  ·
   refine wl_ <| i_ H4 rfl (dd_cmp rfl (H4.ev 10 rfl) rfl (ne_f hc6)) fun _ H7 => ln_ <| nx <| cf_ H7 rfl <| wp_skip <| nx <| sq_ <| rl_ <| wl_ <| p_ H7 rfl rfl fun _ H8 => ?_
   clear H4 H7
   refine wl_ <| d_ H8 rfl (R := fun v w9 => v = .tuple #[.agg (bs ((M.rRes 0).1)), .int .i64 ((M.rRes 0).2)] ∧ ((M.rRes 0).1.length = 32) ∧ Below W4.heap.size W4 w9) (dc_ Try.func17 rfl (args2 (H8.ev 13 rfl) rfl) (dr_read 0 ((HZ1.move HS4).sel [] [0]) (Nat.le_trans (Nat.le_refl _) (by omega)) (by decide)) (fun _ w9 h9 => ⟨_, h9.1, rfl, rRes_len (dr_ok ((HZ1.move HS4).sel [] [0])) _, h9.2⟩)) ?_
   rintro _ W10 ⟨rfl, hrl11, hb10⟩ a10 H10
   have HS10 := HS4.same hb10
   clear H8
   clear HS4 hb10
   refine wl_ <| p_ H10 rfl rfl fun _ H12 => wl_ <| i_ H12 rfl (v := .agg (bs ((M.rRes 0).1))) (dd_ext rfl (H12.ev 12 rfl) rfl) fun _ H13 => wl_ <| i_ H13 rfl (v := .int .i64 ((M.rRes 0).2)) (dd_ext rfl (H13.ev 12 rfl) rfl) fun _ H14 => wl_ <| n_ H14 rfl (fun _ h => dd_new HS10 (bs (zer 32)) rfl (z := .agg (bs (zer 32))) (by kernel_rfl) rfl h) fun g4 _ HS15 _ H15 => wl_ <| t_ rfl (fun _ h => dd_setrow HS15 0 rfl rfl (H15.ev 4 rfl) (H15.ev 15 rfl) (by kernel_rfl) (((size_bs _).trans hrl11) : (bs ((M.rRes 0).1)).size = 32) (((size_bs _).trans (length_zer 32)) : (bs (zer 32)).size = 32) (one_bs _) h) fun W16 HS16 => wl_ <| p_ H15 rfl rfl fun _ H17 => ln_ <| nx <| sq_ <| sq_ <| rl_ <| wl_ <| p_ H17 rfl rfl fun _ H18 => ?_
   clear H10 H12 H13 HS10 H14 HS15 H15 H17
   by_cases hc20 : ((M.rRes 0).2 : Int) = 0
   ·
    refine wl_ <| i_ H18 rfl (dd_cmp rfl (H18.ev 17 rfl) rfl (ne_f hc20)) fun _ H21 => ln_ <| nx <| cf_ H21 rfl <| wp_skip <| nx <| sq_ <| rl_ <| wl_ <| i_ H21 rfl (v := .agg (bs ((M.rRes 0).1))) (dd_load HS16 0 0 rfl rfl (H21.ev 4 rfl) (slab_whole _) Try.underlying37 rfl (by rw [show (bs ((M.rRes 0).1)).size = 32 from ((size_bs _).trans hrl11)]; kernel_rfl)) fun _ H22 => wl_ <| c_ H22 rfl HS16 (dcs Try.func18 rfl (args1 (H22.ev 21 rfl)) (labdec_any ((M.rRes 0).1) W16 hrl11) (.tuple #[.agg #[.int .u32 (wd (decLab (M.rRes 0).1).e), .int .u32 (wd (decLab (M.rRes 0).1).s), .int .u32 (wd (decLab (M.rRes 0).1).n), .int .u16 (hd (decLab (M.rRes 0).1).d), .int .u16 (hd (decLab (M.rRes 0).1).l)], .int .i64 (decLabE (M.rRes 0).1)])) fun _ HS23 _ H23 => wl_ <| p_ H23 rfl rfl fun _ H24 => wl_ <| i_ H24 rfl (v := .agg #[.int .u32 (wd (decLab (M.rRes 0).1).e), .int .u32 (wd (decLab (M.rRes 0).1).s), .int .u32 (wd (decLab (M.rRes 0).1).n), .int .u16 (hd (decLab (M.rRes 0).1).d), .int .u16 (hd (decLab (M.rRes 0).1).l)]) (dd_ext rfl (H24.ev 20 rfl) rfl) fun _ H25 => wl_ <| i_ H25 rfl (v := .int .i64 (decLabE (M.rRes 0).1)) (dd_ext rfl (H25.ev 20 rfl) rfl) fun _ H26 => wl_ <| n_ H26 rfl (fun _ h => dd_new HS23 #[.int .u32 0, .int .u32 0, .int .u32 0, .int .u16 0, .int .u16 0] rfl (z := .agg #[.int .u32 0, .int .u32 0, .int .u32 0, .int .u16 0, .int .u16 0]) (by kernel_rfl) rfl h) fun g6 _ HS27 _ H27 => wl_ <| t_ rfl (fun _ h => dd_setrow HS27 1 rfl rfl (H27.ev 6 rfl) (H27.ev 23 rfl) (by kernel_rfl) (rfl : #[.int .u32 (wd (decLab (M.rRes 0).1).e), .int .u32 (wd (decLab (M.rRes 0).1).s), .int .u32 (wd (decLab (M.rRes 0).1).n), .int .u16 (hd (decLab (M.rRes 0).1).d), .int .u16 (hd (decLab (M.rRes 0).1).l)].size = 5) (rfl : #[.int .u32 0, .int .u32 0, .int .u32 0, .int .u16 0, .int .u16 0].size = 5) (one_l (ao_cons rfl (ao_cons rfl (ao_cons rfl (ao_cons rfl (ao_cons rfl ao_nil)))))) h) fun _ HS28 => ?_
    clear H18 H21 H22 HS16 H23 H24 H25 HS23 H26
    refine wl_ <| p_ H27 rfl rfl fun _ H29 => ln_ <| ?_
    clear HS27 H27
    have H30 := H29.sel [0, 6, 5] rfl
    refine nx <| sq_ <| sq_ <| rl_ <| wl_ <| p_ H30 rfl rfl fun _ H31 => ?_
    clear H29 H30
    by_cases hc33 : (decLabE (M.rRes 0).1 : Int) = 0
    ·
     refine wl_ <| i_ H31 rfl (dd_cmp rfl (H31.ev 25 rfl) rfl (ne_f hc33)) fun _ H34 => ln_ <| nx <| cf_ H34 rfl <| wp_skip <| nx <| sq_ <| rl_ <| wl_ <| p_ H34 rfl rfl fun _ H35 => wl_ <| i_ H35 rfl (v := .agg #[.int .u32 (wd (decLab (M.rRes 0).1).e), .int .u32 (wd (decLab (M.rRes 0).1).s), .int .u32 (wd (decLab (M.rRes 0).1).n), .int .u16 (hd (decLab (M.rRes 0).1).d), .int .u16 (hd (decLab (M.rRes 0).1).l)]) (dd_load HS28 1 0 rfl rfl (H35.ev 6 rfl) (slab_whole _) Try.underlying46 rfl (by kernel_rfl)) fun _ H36 => wl_ <| i_ H36 rfl (v := .agg #[.pointer (some ⟨gp, 0, none⟩), .int .u32 (wd (decLab (M.rRes 0).1).e), .int .u32 (wd (decLab (M.rRes 0).1).s), .int .u32 (wd (decLab (M.rRes 0).1).n), .int .u16 (hd (decLab (M.rRes 0).1).d), .int .u16 (hd (decLab (M.rRes 0).1).l)]) (dd_bld rfl (ps := [(0, .pointer (some ⟨gp, 0, none⟩)), (1, .agg #[.int .u32 (wd (decLab (M.rRes 0).1).e), .int .u32 (wd (decLab (M.rRes 0).1).s), .int .u32 (wd (decLab (M.rRes 0).1).n), .int .u16 (hd (decLab (M.rRes 0).1).d), .int .u16 (hd (decLab (M.rRes 0).1).l)])]) (pr1 (H36.ev 28 rfl) (pr1 (H36.ev 29 rfl) (pr0))) (Lz := [[.pointer none], #[.int .u32 0, .int .u32 0, .int .u32 0, .int .u16 0, .int .u16 0].toList]) (by kernel_rfl) (lens_cons rfl (lens_cons ((Array.length_toList).trans rfl) (lens_nil))) (fit_cons (i := 0) rfl rfl (fit_cons (i := 1) rfl rfl (fit_nil))) (cs := #[.pointer (some ⟨gp, 0, none⟩), .int .u32 (wd (decLab (M.rRes 0).1).e), .int .u32 (wd (decLab (M.rRes 0).1).s), .int .u32 (wd (decLab (M.rRes 0).1).n), .int .u16 (hd (decLab (M.rRes 0).1).d), .int .u16 (hd (decLab (M.rRes 0).1).l)]) rfl) fun _ H37 => wl_ <| n_ H37 rfl (S := fun g31 => [⟨g4, 37, bs ((M.rRes 0).1)⟩, ⟨g6, 46, #[.int .u32 (wd (decLab (M.rRes 0).1).e), .int .u32 (wd (decLab (M.rRes 0).1).s), .int .u32 (wd (decLab (M.rRes 0).1).n), .int .u16 (hd (decLab (M.rRes 0).1).d), .int .u16 (hd (decLab (M.rRes 0).1).l)]⟩, ⟨g31, 59, #[.pointer (some ⟨gp, 0, none⟩), .int .u32 (wd (decLab (M.rRes 0).1).e), .int .u32 (wd (decLab (M.rRes 0).1).s), .int .u32 (wd (decLab (M.rRes 0).1).n), .int .u16 (hd (decLab (M.rRes 0).1).d), .int .u16 (hd (decLab (M.rRes 0).1).l)]⟩]) (fun _ h => dd_box HS28 rfl (H37.ev 30 rfl) (cs := #[.pointer (some ⟨gp, 0, none⟩), .int .u32 (wd (decLab (M.rRes 0).1).e), .int .u32 (wd (decLab (M.rRes 0).1).s), .int .u32 (wd (decLab (M.rRes 0).1).n), .int .u16 (hd (decLab (M.rRes 0).1).d), .int .u16 (hd (decLab (M.rRes 0).1).l)]) rfl h) fun g31 W38 HS38 _ H38 => wl_ <| p_ H38 rfl rfl fun _ H39 => ln_ <| nx <| sq_ <| sq_ <| rl_ <| wl_ <| p_ H39 rfl rfl fun _ H40 => ?_
     clear H31 H34 H35 H36 HS28 H37 H38 H39
     obtain ⟨Gc41, hc41, hf41, hk41, hq41⟩ := Rs.reframe (R1 := [⟨g31, 59, #[.pointer (some ⟨gp, 0, none⟩), .int .u32 (wd (decLab (M.rRes 0).1).e), .int .u32 (wd (decLab (M.rRes 0).1).s), .int .u32 (wd (decLab (M.rRes 0).1).n), .int .u16 (hd (decLab (M.rRes 0).1).d), .int .u16 (hd (decLab (M.rRes 0).1).l)]⟩]) (R2 := [⟨g4, 37, bs ((M.rRes 0).1)⟩, ⟨g6, 46, #[.int .u32 (wd (decLab (M.rRes 0).1).e), .int .u32 (wd (decLab (M.rRes 0).1).s), .int .u32 (wd (decLab (M.rRes 0).1).n), .int .u16 (hd (decLab (M.rRes 0).1).d), .int .u16 (hd (decLab (M.rRes 0).1).l)]⟩]) (Q1 := [dskT D (.pointer (some ⟨gp, 0, none⟩)) M]) (Q2 := []) ((HZ1.move HS38).sel [2, 0, 1] [0])
     refine wl_ <| d_ H40 rfl (R := fun v9 w9 => v9 = .int .i64 ((ndCatch M (decLab (M.rRes 0).1)).1) ∧ Rs w F [⟨g31, 59, #[.pointer (some ⟨gp, 0, none⟩), .int .u32 (wd (ndCatchL M (decLab (M.rRes 0).1)).e), .int .u32 (wd (ndCatchL M (decLab (M.rRes 0).1)).s), .int .u32 (wd (ndCatchL M (decLab (M.rRes 0).1)).n), .int .u16 (hd (ndCatchL M (decLab (M.rRes 0).1)).d), .int .u16 (hd (ndCatchL M (decLab (M.rRes 0).1)).l)]⟩, ⟨g4, 37, bs ((M.rRes 0).1)⟩, ⟨g6, 46, #[.int .u32 (wd (decLab (M.rRes 0).1).e), .int .u32 (wd (decLab (M.rRes 0).1).s), .int .u32 (wd (decLab (M.rRes 0).1).n), .int .u16 (hd (decLab (M.rRes 0).1).d), .int .u16 (hd (decLab (M.rRes 0).1).l)]⟩] [dskT D (.pointer (some ⟨gp, 0, none⟩)) ((ndCatch M (decLab (M.rRes 0).1)).2)] w9) (dc_ Try.func19 rfl (args1 (H40.ev 32 rfl)) (nd_catch D O Gc41 g31 _ M (decLab (M.rRes 0).1) W38 hc41 (by omega)) (fun _ w9 ⟨he, hX⟩ => ⟨_, he, rfl, hk41 _ _ _ hX⟩)) ?_
     rintro _ W41 ⟨rfl, HX41⟩ a41 H41
     clear hc41 hk41 hf41 hq41 HS38 HZ1
     clear H40
     obtain ⟨G42, HZ42, HS42⟩ := HX41.anchor
     clear HX41
     refine wl_ <| p_ H41 rfl rfl fun _ H43 => ln_ <| nx <| sq_ <| rl_ <| wl_ <| p_ H43 rfl rfl fun _ H44 => ?_
     clear H41 H43
     by_cases hc46 : ((ndCatch M (decLab (M.rRes 0).1)).1 : Int) = 0
     ·
      refine wl_ <| i_ H44 rfl (dd_cmp rfl (H44.ev 34 rfl) rfl (ne_f hc46)) fun _ H47 => ln_ <| nx <| cf_ H47 rfl <| wp_skip <| nx <| sq_ <| rl_ <| q_ H47 3 rfl fun _ H48 => ln_ <| ?_
      clear H44 H47
      have H49 := H48.sel [2, 3] rfl
      refine nx <| wp_ret <| ret_run H49.env0 (res_tt Try.results8 (H49.get 2 rfl) (H49.get 3 rfl)) <| ?_
      clear H48
      have hop := nop_5 (M := M) (by omega) hc20 hc33
      exact .inl ⟨g31, by rw [hop]; exact hc46, rfl, by rw [hop, show ndOpenL M = ndCatchL M (decLab (M.rRes 0).1) from rfl]; exact ((HZ42.move HS42).sel [0] [0])⟩
     refine wl_ <| i_ H44 rfl (dd_cmp rfl (H44.ev 34 rfl) rfl (ne_t hc46)) fun _ H50 => ln_ <| nx <| ct_ H50 rfl <| sq_ <| rl_ <| q_ H50 3 rfl fun _ H51 => ln_ <| ?_
     clear H44 H50
     have H52 := H51.sel [2, 3] rfl
     refine nx <| wp_ret <| tr <| ret_run H52.env0 (res_tt Try.results8 (H52.get 2 rfl) (H52.get 3 rfl)) <| ?_
     clear H51
     have hop := nop_4 (M := M) (by omega) hc20 hc33
     exact .inr ⟨by rw [hop]; exact hc46, by rw [hop], by rw [hop]; exact ((HZ42.move HS42).sel [] [0])⟩
    refine wl_ <| i_ H31 rfl (dd_cmp rfl (H31.ev 25 rfl) rfl (ne_t hc33)) fun _ H53 => ln_ <| nx <| ct_ H53 rfl <| sq_ <| rl_ <| q_ H53 3 rfl fun _ H54 => ln_ <| nx <| wp_ret <| tr <| ret_run H54.env0 (res_tt Try.results8 (H54.get 2 rfl) (H54.get 3 rfl)) <| ?_
    clear H31 H53
    have hop := nop_3 (M := M) (by omega) hc20 hc33
    exact .inr ⟨by rw [hop]; exact hc33, by rw [hop], by rw [hop]; exact ((HZ1.move HS28).sel [] [0])⟩
   refine wl_ <| i_ H18 rfl (dd_cmp rfl (H18.ev 17 rfl) rfl (ne_t hc20)) fun _ H55 => ln_ <| nx <| ct_ H55 rfl <| sq_ <| rl_ <| q_ H55 3 rfl fun _ H56 => ln_ <| nx <| wp_ret <| tr <| ret_run H56.env0 (res_tt Try.results8 (H56.get 2 rfl) (H56.get 3 rfl)) <| ?_
   clear H18 H55
   have hop := nop_2 (M := M) (by omega) hc20
   exact .inr ⟨by rw [hop]; exact hc20, by rw [hop], by rw [hop]; exact ((HZ1.move HS16).sel [] [0])⟩
  refine wl_ <| i_ H4 rfl (dd_cmp rfl (H4.ev 10 rfl) rfl (ne_t hc6)) fun _ H57 => ln_ <| nx <| ct_ H57 rfl <| sq_ <| rl_ <| q_ H57 2 rfl fun _ H58 => ln_ <| nx <| wp_ret <| tr <| ret_run H58.env0 (res_tt Try.results8 (H58.get 2 rfl) (H58.get 3 rfl)) <| ?_
  clear H4 H57
  have hop := nop_1 (M := M) (by omega)
  exact .inr ⟨by rw [hop]; exact (show ¬ (1 : Int) = 0 by decide), by rw [hop], by rw [hop]; exact ((HZ1.move HS4).sel [] [0])⟩
include O in
theorem nd_open_ok (F : Nat → Prop) (p : Value) (M : DiskM) (w : World) (HX : Rs w F [] [dskT D p M] w) (hN : M.l.length + 400 ≤ few) (h : (ndOpen M).1 = 0) : Calls Try.prog 8 #[p] w fun x w' => ∃ g, x = .returned (.tuple #[.pointer (some ⟨g, 0, none⟩), .int .i64 0]) ∧ Rs w F [⟨g, 59, ndCells p (ndOpenL M)⟩] [dskT D p (ndOpen M).2] w' :=
  (nd_open D O F p M w HX hN).mono fun e w' q => by
    rcases q with ⟨g, _, he, hr⟩ | ⟨hn, _⟩
    · exact ⟨g, he, hr⟩
    · exact absurd h hn
include O in
theorem nd_apply (F : Nat → Prop) (g : Nat) (p : Value) (M : DiskM) (L : Lab) (r : Rec) (A : Option Addr) (n c : Nat) (d : BitVec 16) (w : World) (HX : Rs w F [⟨g, 59, ndCells p L⟩] [dskT D p M] w) (hN : M.l.length + 300 ≤ few) (hp : PutsAt w (.slice A n c) r.l) (hpF : r.l ≠ [] → ∀ k, (Value.slice A n c).ownBlock = some k → k < w.heap.size ∧ ¬ F k) (hmn : n ≤ maxLen) : Calls Try.prog 23 #[.pointer (some ⟨g, 0, none⟩), .agg #[.int .u32 (wd r.e), .int .u32 (wd r.s), .slice A n c], .int .u16 (hd d)] w fun x w' => x = .returned (.int .i64 (ndApply M L r d).1) ∧ Rs w F [⟨g, 59, ndCells p (ndLab (ndApply M L r d).1 L (doneLab L r d))⟩] [dskT D p (ndApply M L r d).2] w' := by
  have HP : ∀ W, Chg F w W → PutsAt W (.slice A n c) r.l := fun W k => puts_chgT hp k fun hne j hj => (hpF hne j hj).2
  have hn := (puts_open hp).1
  have hm : r.l.length ≤ maxLen := hn ▸ hmn
  obtain ⟨G1, HZ1, HS1⟩ := HX.anchor
  clear HX
  refine enter_en Try.func23 rfl Try.ntmps23 (Nat.le_of_ble_eq_true rfl) fun a0 (HA0 : En 33 [(0, .pointer (some ⟨g, 0, none⟩)), (1, .agg #[.int .u32 (wd r.e), .int .u32 (wd r.s), .slice A n c]), (2, .int .u16 (hd d))] a0) => ?_
  refine sq_ <| rl_ <| wl_ <| n_ HA0 rfl (fun _ h => dd_box HS1 rfl (HA0.ev 1 rfl) (cs := #[.int .u32 (wd r.e), .int .u32 (wd r.s), .slice A n c]) rfl h) fun g4 W2 HS2 _ H2 => wl_ <| p_ H2 rfl rfl fun _ H3 => ln_ <| nx <| sq_ <| sq_ <| rl_ <| wl_ <| p_ H3 rfl rfl fun _ H4 => wl_ <| i_ H4 rfl (v := .bool false) (dd_eqp rfl (H4.ev 8 rfl) rfl Try.underlying30 rfl) fun _ H5 => wl_ <| p_ H5 rfl rfl fun _ H6 => wl_ <| ig H6 (wg_ H6 rfl rfl rfl rfl) rfl (xf 2 2 rfl (H6.ev 4 rfl)) fun _ H7 => wl_ <| ig H7 (wg_ H7 rfl rfl rfl rfl) rfl (dd_get HS2 1 2 rfl rfl (H7.ev 11 rfl) rfl Try.underlying27 rfl) fun _ H8 => ?_
  clear HS1 HA0 H2 H3 H4 H5 H6 H7
  cases hb9 : goodB r.ats
  ·
   refine wl_ <| cg H8 (wg_ H8 rfl rfl rfl rfl) rfl HS2 (v := .bool false) (dc_ Try.func37 rfl (args1 (H8.ev 12 rfl)) (O.good r.l _ W2 (HP _ (HZ1.chg HS2)) hm) (fun _ w9 h9 => ⟨_, h9.1, by rw [show goodB (r.l.map (·.1)) = false from hb9], h9.2⟩)) fun _ HS10 _ H10 => wl_ <| ig H10 (wg_ H10 rfl rfl rfl rfl) rfl (v := .bool true) (dd_nt rfl (H10.ev 13 rfl) rfl) fun _ H11 => wl_ <| p_ H11 rfl rfl fun _ H12 => ln_ <| nx <| ct_ H12 rfl <| sq_ <| rl_ <| wl_ <| p_ H12 rfl rfl fun _ H13 => ln_ <| nx <| wp_ret <| tr <| ret_run H13.env0 (res_t Try.results23 (H13.get 6 rfl)) <| ?_
   clear H8 HS2 H10 H11 H12
   have hap := ndApply_1 (M := M) (L := L) (d := d) hb9
   exact ⟨by rw [hap], by rw [hap, ndLab_no (show ¬ (1 : Int) = 0 by decide)]; exact ((HZ1.move HS10).sel [0] [0])⟩
  refine wl_ <| cg H8 (wg_ H8 rfl rfl rfl rfl) rfl HS2 (v := .bool true) (dc_ Try.func37 rfl (args1 (H8.ev 12 rfl)) (O.good r.l _ W2 (HP _ (HZ1.chg HS2)) hm) (fun _ w9 h9 => ⟨_, h9.1, by rw [show goodB (r.l.map (·.1)) = true from hb9], h9.2⟩)) fun W14 HS14 _ H14 => wl_ <| ig H14 (wg_ H14 rfl rfl rfl rfl) rfl (v := .bool false) (dd_nt rfl (H14.ev 13 rfl) rfl) fun _ H15 => wl_ <| p_ H15 rfl rfl fun _ H16 => ln_ <| nx <| cf_ H16 rfl <| wp_skip <| nx <| sq_ <| sq_ <| rl_ <| wl_ <| p_ H16 rfl rfl fun _ H17 => wl_ <| i_ H17 rfl (v := .agg #[.int .u32 (wd r.e), .int .u32 (wd r.s), .slice A n c]) (dd_load HS14 1 0 rfl rfl (H17.ev 4 rfl) (slab_whole _) Try.underlying67 rfl (by kernel_rfl)) fun _ H18 => ?_
  clear H8 HS2 H14 H15 H16 H17
  cases hb19 : ndLater L r
  ·
   refine wl_ <| c_ H18 rfl HS14 (v := .bool false) (dc_ Try.func31 rfl (args2 (H18.ev 16 rfl) (H18.ev 17 rfl)) (ndlacks_at g _ L r _ W14 (HS14.row 0 rfl)) (fun _ w9 h9 => ⟨_, h9.1, by rw [hb19], h9.2⟩)) fun _ HS20 _ H20 => wl_ <| i_ H20 rfl (v := .bool true) (dd_nt rfl (H20.ev 18 rfl) rfl) fun _ H21 => ln_ <| nx <| ct_ H21 rfl <| sq_ <| rl_ <| wl_ <| p_ H21 rfl rfl fun _ H22 => ln_ <| ?_
   clear H18 HS14 H20 H21
   have H23 := H22.sel [6] rfl
   refine nx <| wp_ret <| tr <| ret_run H23.env0 (res_t Try.results23 (H23.get 6 rfl)) <| ?_
   clear H22
   have hap := ndApply_23 (M := M) (L := L) (d := d) hb9 hb19
   exact ⟨by rw [hap], by rw [hap, ndLab_no (show ¬ (23 : Int) = 0 by decide)]; exact ((HZ1.move HS20).sel [0] [0])⟩
  refine wl_ <| c_ H18 rfl HS14 (v := .bool true) (dc_ Try.func31 rfl (args2 (H18.ev 16 rfl) (H18.ev 17 rfl)) (ndlacks_at g _ L r _ W14 (HS14.row 0 rfl)) (fun _ w9 h9 => ⟨_, h9.1, by rw [hb19], h9.2⟩)) fun _ HS24 _ H24 => wl_ <| i_ H24 rfl (v := .bool false) (dd_nt rfl (H24.ev 18 rfl) rfl) fun _ H25 => ln_ <| nx <| cf_ H25 rfl <| wp_skip <| nx <| sq_ <| sq_ <| ?_
  clear H18 HS14 H24
  refine wr_ (HZ1.move HS24) [0, 1] [0, 1] rfl rfl fun HXd27 hx26 => ?_
  obtain ⟨G28, HZ28, HS28⟩ := HXd27.anchor
  clear HXd27
  refine hp_ H25 0 hx26 rfl rfl rfl fun _ H29 => ht_ H29 1 hx26 rfl rfl (fun _ _ _ => dd_nilc rfl (H29.ev 20 rfl)) fun _ H30 => ht_ H30 2 hx26 rfl rfl (fun _ _ _ => xf 0 0 rfl (H30.ev 21 rfl)) fun _ H31 => ht_ H31 3 hx26 rfl rfl (fun _ _ HS9 => dd_get HS9 0 0 rfl rfl (H31.ev 22 rfl) rfl Try.underlying34 rfl) fun _ H32 => ht_ H32 4 hx26 rfl rfl (v := .agg #[.int .u32 (wd r.e), .int .u32 (wd r.s), .slice A n c]) (fun _ _ HS9 => dd_load HS9 1 0 rfl rfl (H32.ev 4 rfl) (slab_whole _) Try.underlying67 rfl (by kernel_rfl)) fun _ H33 => ?_
  clear H25 H29 H30 H31 H32
  obtain ⟨Gc34, hc34, hf34, hk34, hq34⟩ := Rs.reframe (R1 := []) (R2 := [⟨g, 59, #[p, .int .u32 (wd L.e), .int .u32 (wd L.s), .int .u32 (wd L.n), .int .u16 (hd L.d), .int .u16 (hd L.l)]⟩, ⟨g4, 67, #[.int .u32 (wd r.e), .int .u32 (wd r.s), .slice A n c]⟩]) (Q1 := [dskT D p M]) (Q2 := []) ((HZ28.move HS28).sel [0, 1] [0])
  refine h1_ 5 rfl <| d_ H33 rfl (R := fun v9 w9 => v9 = .int .i64 ((walPut M 1 r).1) ∧ Rs w F [⟨g, 59, #[p, .int .u32 (wd L.e), .int .u32 (wd L.s), .int .u32 (wd L.n), .int .u16 (hd L.d), .int .u16 (hd L.l)]⟩, ⟨g4, 67, #[.int .u32 (wd r.e), .int .u32 (wd r.s), .slice A n c]⟩] [dskT D p ((walPut M 1 r).2)] w9) (dc_ Try.func38 rfl (args3 (H33.ev 23 rfl) rfl (H33.ev 24 rfl)) (wr_put O 1 r.e r.s A n c r.l hc34 (by decide) hn (HP _ (HZ28.chg HS28)) (by omega) (fun hne k9 hk9 => ⟨Nat.lt_of_lt_of_le (hpF hne k9 hk9).1 (HZ28.move HS28).st.chg.size, fun hg9 => ((hf34 k9 hg9).1).elim (hpF hne k9 hk9).2 fun h9 => Nat.not_lt.2 h9 (hpF hne k9 hk9).1⟩) (by omega)) (fun _ w9 ⟨he, hX⟩ => ⟨_, he, rfl, hk34 _ _ _ hX⟩)) ?_
  rintro _ W34 ⟨rfl, HX34⟩ a34 H34
  clear hc34 hk34 hf34 hq34 HS28 HZ28
  clear H33
  obtain ⟨G35, HZ35, HS35⟩ := HX34.anchor
  clear HX34
  refine sx_ (sxi (HZ35.move HS35).st [0, 1] rfl) fun hx36 => hp_ H34 6 hx36 rfl rfl rfl fun _ H37 => ?_
  clear hx26 H34
  refine wpAnyH_done (by kernel_rfl) ?_ _
  clear hx36
  refine nx <| sq_ <| rl_ <| wl_ <| p_ H37 rfl rfl fun _ H38 => ?_
  clear H37
  by_cases hc40 : ((walPut M 1 r).1 : Int) = 0
  ·
   refine wl_ <| i_ H38 rfl (dd_cmp rfl (H38.ev 26 rfl) rfl (ne_f hc40)) fun _ H41 => ln_ <| ?_
   clear H38
   have H42 := H41.sel [2, 0, 4, 7, 27] rfl
   refine nx <| cf_ H42 rfl <| wp_skip <| nx <| sq_ <| rl_ <| wl_ <| p_ H42 rfl rfl fun _ H43 => wl_ <| i_ H43 rfl (v := .agg #[.int .u32 (wd r.e), .int .u32 (wd r.s), .slice A n c]) (dd_load HS35 1 0 rfl rfl (H43.ev 4 rfl) (slab_whole _) Try.underlying67 rfl (by kernel_rfl)) fun _ H44 => wl_ <| p_ H44 rfl rfl fun _ H45 => ?_
   clear H41 H42 H43 H44
   obtain ⟨Gc46, hc46, hf46, hk46, hq46⟩ := Rs.reframe (R1 := [⟨g, 59, #[p, .int .u32 (wd L.e), .int .u32 (wd L.s), .int .u32 (wd L.n), .int .u16 (hd L.d), .int .u16 (hd L.l)]⟩]) (R2 := [⟨g4, 67, #[.int .u32 (wd r.e), .int .u32 (wd r.s), .slice A n c]⟩]) (Q1 := [dskT D p ((walPut M 1 r).2)]) (Q2 := []) ((HZ35.move HS35).sel [0, 1] [0])
   refine wl_ <| d_ H45 rfl (R := fun v9 w9 => v9 = .int .i64 ((ndCarry (walPut M 1 r).2 L r d).1) ∧ Rs w F [⟨g, 59, #[p, .int .u32 (wd (ndLab (ndCarry (walPut M 1 r).2 L r d).1 L (doneLab L r d)).e), .int .u32 (wd (ndLab (ndCarry (walPut M 1 r).2 L r d).1 L (doneLab L r d)).s), .int .u32 (wd (ndLab (ndCarry (walPut M 1 r).2 L r d).1 L (doneLab L r d)).n), .int .u16 (hd (ndLab (ndCarry (walPut M 1 r).2 L r d).1 L (doneLab L r d)).d), .int .u16 (hd (ndLab (ndCarry (walPut M 1 r).2 L r d).1 L (doneLab L r d)).l)]⟩, ⟨g4, 67, #[.int .u32 (wd r.e), .int .u32 (wd r.s), .slice A n c]⟩] [dskT D p ((ndCarry (walPut M 1 r).2 L r d).2)] w9) (dc_ Try.func32 rfl (args3 (H45.ev 29 rfl) (H45.ev 30 rfl) (H45.ev 31 rfl)) (nd_carry D Gc46 g p (walPut M 1 r).2 L r A n c d W34 hc46 (by have h9 : ((walPut M 1 r).2).l.length ≤ _ := (ndPut_l M 1 r); omega) (fun W9 k9 => HP W9 ((HZ35.move HS35).st.chg.trans k9 fun j9 hj9 => (hf46 j9 hj9).1)) hb9) (fun _ w9 ⟨he, hX⟩ => ⟨_, he, rfl, hk46 _ _ _ hX⟩)) ?_
   rintro _ W46 ⟨rfl, HX46⟩ a46 H46
   clear hc46 hk46 hf46 hq46 HS35 HZ35
   clear H45
   obtain ⟨G47, HZ47, HS47⟩ := HX46.anchor
   clear HX46
   refine wl_ <| p_ H46 rfl rfl fun _ H48 => ln_ <| nx <| wp_ret <| ret_run H48.env0 (res_t Try.results23 (H48.get 6 rfl)) <| ?_
   clear H46
   have hap := ndApply_a (M := M) (L := L) (d := d) hb9 hb19 hc40
   exact ⟨by rw [hap], by rw [hap]; exact ((HZ47.move HS47).sel [0] [0])⟩
  refine wl_ <| i_ H38 rfl (dd_cmp rfl (H38.ev 26 rfl) rfl (ne_t hc40)) fun _ H49 => ln_ <| ?_
  clear H38
  have H50 := H49.sel [2, 0, 4, 7, 27] rfl
  refine nx <| ct_ H50 rfl <| sq_ <| rl_ <| q_ H50 2 rfl fun _ H51 => ln_ <| nx <| wp_ret <| tr <| ret_run H51.env0 (res_t Try.results23 (H51.get 6 rfl)) <| ?_
  clear H49 H50
  have hap := ndApply_f (M := M) (L := L) (d := d) hb9 hb19 hc40
  exact ⟨by rw [hap], by rw [hap, ndLab_no hc40]; exact ((HZ35.move HS35).sel [0] [0])⟩
end Go.Proofs.Ytbdpocbnkgckhaa

/- The program's node at rest, as the statements meet it: each call of theirs. -/
set_option maxRecDepth 4000
namespace Go.Proofs.Ytbdpocbnkgckhaa
open Go Go.RowKit
theorem inS_at {S : List Blk} (i : Nat) {r : Blk} (h : S[i]? = some r) : inS S r.g := ⟨r, List.mem_of_getElem? h, rfl⟩
theorem puts_one {w : World} {g : Nat} {t : TypeId} {a : Int} {q : List (BitVec 8)} (h : Row w g t (catA [[.int .i64 a], bytesV q])) (hq : q.length = 32) (ha : -9223372036854775808 ≤ a ∧ a < 9223372036854775808) : PutsAt w (.slice (some ⟨g, 0, none⟩) 1 1) [(a, q)] :=
  puts_row (l := [(a, q)]) (c := 1) (by
    rw [show ([(a, q)].map pcell).flatten.toArray = catA [[.int .i64 a], bytesV q] by unfold catA pcell; simp]
    exact h) (Nat.le_refl _) (fun x hx => by
    obtain rfl : x = (a, q) := by simpa using hx
    exact ⟨hq, ha⟩)
section
variable {D : DiskOps} {O : WalOps D} {w w0 : World} {F F0 : Nat → Prop} {R : List Blk} {Q : List Thing} {p : Value} {s : Secs} {L L' : Lab} {B : Bks} {g : Nat} {f : Int}
abbrev rest (s : Secs) (f : Int) : DiskM := ⟨s, [], f, false⟩
theorem rest_few (s : Secs) (f : Int) (k : Nat) (h : k ≤ 1000 := by decide) : (rest s f).l.length + k ≤ few := by show 0 + k ≤ 1000000000; omega
theorem run_free {x : Int × DiskM} {s4 : Secs} {P : Secs → Prop} (hf : f < 0) (h : Run f x s4 [] P) : x = (0, rest s4 f) := by
  rcases h with ⟨f4, e, h1, _⟩ | ⟨h0, _⟩
  · rw [e, h1 hf]
  · omega
theorem lw_sec (h : Rs w0 F0 R (dskT D p (rest s f) :: Q) w) (hN : Nds s L B) : ∀ i : Nat, i < 12 → (B i).length = 32 := fun i hi => by
  have h1 := (dr_ok h).s
  rw [← hN.blk i hi]
  unfold at0
  rw [List.getD_eq_getElem?_getD, List.getElem?_eq_getElem (by rw [hN.len]; omega)]
  exact h1 _ (List.getElem_mem _)
include O in
theorem lw_open (HX : Rs w F [] [dskT D p (rest s f)] w) (hN : Nds s L B) : Calls Try.prog 8 #[p] w fun x w' => ∃ g, x = .returned (.tuple #[.pointer (some ⟨g, 0, none⟩), .int .i64 0]) ∧ Rs w F [⟨g, 59, ndCells p L⟩] [dskT D p (rest s f)] w' := by
  have h := open_still (f := f) hN
  have h2 := nd_open_ok D O F p (rest s f) w HX (rest_few s f 400) (by rw [h.1])
  rw [h.1, h.2] at h2
  exact h2
theorem lw_block (i : Nat) (HX : Rs w0 F0 R (dskT D p (rest s f) :: Q) w) (hr : Row w g 59 (ndCells p L)) (hN : Nds s L B) (hi : i < 12) : Calls Try.prog 13 #[.pointer (some ⟨g, 0, none⟩), .int .i64 i] w fun x w' => x = .returned (.tuple #[.agg (bs (B i)), .int .i64 0]) ∧ Below w.heap.size w w' := by
  obtain ⟨a, ha, _⟩ := HX.head
  have h := ndblock_at D g p (rest s f) a L i w hr ha (rest_few s f 0) (by omega)
  rw [block_at hN hi] at h
  exact h
section
variable {r : Rec} {A : Option Addr} {n c : Nat} {d : BitVec 16}
include O in
theorem lw_apply (r : Rec) (d : BitVec 16) (HX : Rs w F [⟨g, 59, ndCells p L⟩] [dskT D p (rest s f)] w) (hN : Nds s L B) (hf : f < 0) (hg : goodB r.ats = true) (hlt : ndLater L r = true) (hp : PutsAt w (.slice A n c) r.l) (hpF : r.l ≠ [] → ∀ k, (Value.slice A n c).ownBlock = some k → k < w.heap.size ∧ ¬ F k) :
    Calls Try.prog 23 #[.pointer (some ⟨g, 0, none⟩), .agg #[.int .u32 (wd r.e), .int .u32 (wd r.s), .slice A n c], .int .u16 (hd d)] w fun x w' => ∃ s4, x = .returned (.int .i64 0) ∧ Nds s4 (doneLab L r d) (updB r.l B) ∧ at0 s4 1 = headB r.e r.s r.ats ∧ Rs w F [⟨g, 59, ndCells p (doneLab L r d)⟩] [dskT D p (rest s4 f)] w' := by
  obtain ⟨s4, h1, h2, h3⟩ := apply_run (f := f) (d := d) hN hg hlt
  have e := run_free hf h1
  have hn := (puts_open hp).1
  have h5 := ndrec_len hg
  refine (nd_apply D O F g p (rest s f) L r A n c d w HX (rest_few s f 300) hp hpF (by unfold maxLen; omega)).mono fun x w' q => ?_
  rw [show ndApply (rest s f) L r d = (0, rest s4 f) from e] at q
  obtain ⟨q1, q2⟩ := q
  rw [ndLab_ok rfl] at q2
  exact ⟨s4, q1, h2, h3, q2⟩
end
end
theorem own_off1 {w w0 : World} {F G : Nat → Prop} {R2 : List Blk} {g n c : Nat} (hf : ∀ k, G k → (F k ∨ w0.heap.size ≤ k) ∧ k < w.heap.size ∧ ¬ inS R2 k) (i : Nat) {r : Blk} (hi : R2[i]? = some r) (hr : r.g = g) : ∀ k, (Value.slice (some ⟨g, 0, none⟩) n c).ownBlock = some k → ¬ G k := fun k hk hg => by
  obtain rfl : g = k := Option.some.inj hk
  exact (hf _ hg).2.2 (hr ▸ inS_at i hi)
end Go.Proofs.Ytbdpocbnkgckhaa

/- The program's node cut short and opened again, as the statements meet it: each call of theirs. -/
set_option maxRecDepth 4000
namespace Go.Proofs.Ytbdpocbnkgckhaa
open Go Go.RowKit
/- what a cut may have left; what an Up of it leaves -/
def Tn (L : Lab) (r : Rec) (d : BitVec 16) (B : Bks) (e : Int) (s : Secs) : Prop := ((Nds s L B ∨ Nps s L r B) ∧ e ≠ 0) ∨ Nds s (doneLab L r d) (updB r.l B) ∨ (e ≠ 0 ∧ Nds s (doneLab L r L.d) (updB r.l B))
structure Aft (L : Lab) (r : Rec) (d : BitVec 16) (B : Bks) (e : Int) (M : DiskM) : Prop where
  len : M.l.length ≤ 6
  up : ∀ keep, Tn L r d B e (DiskM.put M.s (DiskM.kept M.l keep))
theorem Aft.still {L : Lab} {r : Rec} {d : BitVec 16} {B : Bks} {e : Int} {s : Secs} (f : Int) (h : Tn L r d B e s) : Aft L r d B e (rest s f) := ⟨Nat.zero_le _, fun keep => by
  rw [show DiskM.kept (rest s f).l keep = [] by show DiskM.kept [] keep = []; rfl]
  exact h⟩
theorem Aft.few {L : Lab} {r : Rec} {d : BitVec 16} {B : Bks} {e : Int} {M : DiskM} (h : Aft L r d B e M) : M.l.length ≤ few := Nat.le_trans h.len (by decide)
section
variable {D : DiskOps} {O : WalOps D} {w w0 : World} {F F0 : Nat → Prop} {p : Value} {s : Secs} {L : Lab} {B : Bks} {g : Nat} {f e : Int} {A : Option Addr} {n c : Nat} {r : Rec} {d : BitVec 16}
end
end Go.Proofs.Ytbdpocbnkgckhaa

/- slices.Chunk of bytes, in parts of 33: the iterator's contract. -/
set_option maxRecDepth 4000
namespace Go.Proofs.Ytbdpocbnkgckhaa
open Go Go.RowKit Go.Shelf
attribute [local go_sem] Oper.semAt_some
/- all below n but block B lie as they lay -/
def KpB (n B : Nat) (W W' : World) : Prop := W.heap.size ≤ W'.heap.size ∧ ∀ k, k < n → k ≠ B → W'.heap[k]? = W.heap[k]?
theorem KpB.refl (n B : Nat) (W : World) : KpB n B W W := ⟨Nat.le_refl _, fun _ _ _ => rfl⟩
theorem KpB.trans {n B : Nat} {W W' W'' : World} (h : KpB n B W W') (k : KpB n B W' W'') : KpB n B W W'' := ⟨Nat.le_trans h.1 k.1, fun j hj hne => (k.2 j hj hne).trans (h.2 j hj hne)⟩
theorem KpB.cell {n B : Nat} {W W' : World} (h : KpB n B W W') {p : Addr} (hp : p.block < n) (hne : p.block ≠ B) : W'.cell? p = W.cell? p := by
  unfold World.cell?
  rw [h.2 _ hp hne]
theorem KpB.put {n B : Nat} {w : World} (hn : n ≤ w.heap.size) (W : World) (l : Nat) (o o' : Obj) (hl : w.heap.size ≤ l) (_ : W.heap[l]? = some o) : KpB n B W (W.putObj l o') :=
  ⟨by rw [World.putObj_size]; exact Nat.le_refl _, fun k hk _ => World.putObj_heap_other (by omega)⟩
def upF (m k : Nat) : List (Fin m) := (List.finRange m).take k
theorem upF_succ {m k : Nat} (hk : k < m) : upF m (k + 1) = upF m k ++ [⟨k, hk⟩] := by
  unfold upF
  rw [List.take_succ_eq_append_getElem (by rw [List.length_finRange]; exact hk)]
  simp
theorem upF_len {m k : Nat} (hk : k ≤ m) : (upF m k).length = k := by unfold upF; rw [List.length_take, List.length_finRange]; omega
theorem upF_all (m : Nat) : upF m m = List.finRange m := by unfold upF; rw [List.take_of_length_le (by rw [List.length_finRange]; exact Nat.le_refl _)]
theorem chunk_in (n : Nat) (a : Option Addr) (len cap : Nat) (w : World) :
    CallsIn Fence.wide n Try.prog 54 #[.slice a len cap, .int .i64 33] w fun e w' => e = .returned (.func (.func 67) #[] #[.pointer (some ⟨w.heap.size, 0, none⟩), .pointer (some ⟨w.heap.size + 1, 0, none⟩)]) ∧ w' = (w.alloc (.cells #[.slice a len cap] 23)).alloc (.cells #[.int .i64 33] 3) := by
  refine callsIn_of_wp Try.func54 rfl trivial ?_ rfl
  simp only [Try.ntmps54, List.size_toArray, List.length_cons, List.length_nil, Nat.reduceAdd, Nat.reduceSub, Array.replicate_succ, Array.replicate_zero, List.push_toArray, List.append_toArray, List.nil_append, List.cons_append]
  gi_wp2
  go_ret
  exact ⟨rfl, rfl⟩
set_option maxHeartbeats 2000000 in
theorem chunk1_in (n : Nat) (l Bs Bn n₀ B b off m cap L : Nat) (hL : L = 33 * m) (hbs : Bs < n₀) (hbn : Bn < n₀) (hs' : Bs ≠ B) (hn' : Bn ≠ B) (hc : L ≤ cap) (hx : L ≤ 140737488351232) (J Jx : List (Fin m) → World → Prop) (hD : ∀ s W, J s W → J s W.drew)
    (hY : ∀ pre (x : Fin m) W, J pre W → pre.length < m → YieldAt Fence.wide (n - 1) Try.prog l #[.slice (some ⟨b, off + 33 * x.1, none⟩) 33 33] W fun e W' =>
      (e = .returned (.bool true) ∧ J (pre ++ [x]) W' ∧ KpB n₀ B W W') ∨ (e = .returned (.bool false) ∧ Jx (pre ++ [x]) W'))
    (W : World) (hBs : W.cell? ⟨Bs, 0, none⟩ = some (.slice (some ⟨b, off, none⟩) L cap)) (hBn : W.cell? ⟨Bn, 0, none⟩ = some (.int .i64 33)) (h0 : J [] W) :
    CallsIn Fence.wide n Try.prog 67 #[.func (.yield l) #[] #[], .pointer (some ⟨Bs, 0, none⟩), .pointer (some ⟨Bn, 0, none⟩)] W fun e W' => (∃ v, e = .returned v) ∧
      ((∃ ys, ys = List.finRange m ∧ J ys W') ∨ (∃ pre, Jx pre W')) := by
  refine callsIn_of_wp Try.func67 rfl trivial ?_ rfl
  simp only [Try.ntmps67, List.size_toArray, List.length_cons, List.length_nil, Nat.reduceAdd, Nat.reduceSub, Array.replicate_succ, Array.replicate_zero, List.push_toArray, List.append_toArray, List.nil_append, List.cons_append]
  gi_wp2
  gi_loopw [4] (fun i wr => ∃ k i0 : Nat, k ≤ m ∧ i0 = 33 * k ∧ i = .int .i64 (i0 : Int) ∧ J (upF m k) wr ∧ KpB n₀ B W wr)
    (fun i _ => L - (intOf i).toNat)
  case atStart => exact ⟨0, 0, Nat.zero_le _, rfl, rfl, h0, KpB.refl _ _ _⟩
  case round =>
    obtain ⟨k, i0, hk, hi0, rfl, hJs, hnx⟩ := hrel
    have hcs : wr.cell? ⟨Bs, 0, none⟩ = some (.slice (some ⟨b, off, none⟩) L cap) := (hnx.cell (p := ⟨Bs, 0, none⟩) hbs hs').trans hBs
    have hcn : wr.cell? ⟨Bn, 0, none⟩ = some (.int .i64 33) := (hnx.cell (p := ⟨Bn, 0, none⟩) hbn hn').trans hBn
    by_cases hlt : i0 < L
    · have hkm : k < m := by omega
      have hw : IntKind.i64.wrap ((i0 : Int) + 33) = (i0 : Int) + 33 := i64_id _ (by omega) (by omega)
      have hle : i0 + 33 ≤ L := by omega
      have hmin : min (33 : Int) ((L - i0 : Nat) : Int) = 33 := by omega
      have HL := Lib.hid hL
      have HI := Lib.hid hi0
      clear hL hi0
      gi_wp2
      gi_region
      obtain ⟨fn, tmps, assign, body, hy, hR⟩ := hY _ ⟨k, hkm⟩ wr.drew (hD _ _ hJs) (by rw [upF_len hk]; exact hkm)
      have hz : Value.slice (some { block := b, off := off + 33 * k }) 33 33 = Value.slice (some { block := b, off := off + i0 }) 33 33 := by rw [HI.out]
      dsimp only at hy
      rw [hz] at hy
      clear hz
      have hsub : i0 + 33 - i0 = 33 := by omega
      gi_wp2
      refine ⟨fun h => (by simp [Fence.wide] at h), ?_⟩
      refine hR.mono ?_
      rintro e W3 (⟨rfl, hJ3, hk3⟩ | ⟨rfl, hJx3⟩)
      · have hk4 : KpB n₀ B wr W3 := hk3
        have hk5 := hnx.trans hk4
        have hcs3 : W3.cell? ⟨Bs, 0, none⟩ = some (.slice (some ⟨b, off, none⟩) L cap) := (hk5.cell (p := ⟨Bs, 0, none⟩) hbs hs').trans hBs
        have hcn3 : W3.cell? ⟨Bn, 0, none⟩ = some (.int .i64 33) := (hk5.cell (p := ⟨Bn, 0, none⟩) hbn hn').trans hBn
        gi_wp2
        go_roundw
        case rel => exact ⟨k + 1, i0 + 33, hkm, by have := HI.out; omega, rfl, by rw [upF_succ hkm]; exact hJ3, hk5⟩
        case measure => simp [intOf]; omega
      · gi_wp2
        refine bodyPost_ret (results_none rfl _ _ _) rfl ?_
        exact ⟨⟨_, rfl⟩, .inr ⟨_, hJx3⟩⟩
    · obtain rfl : k = m := by omega
      gi_wp2
      go_end0
      exact ⟨⟨_, rfl⟩, .inl ⟨_, upF_all k, hJs⟩⟩
/- the value that Chunk hands back, as an iterator -/
theorem chunk_stops (n : Nat) (w : World) (Bs Bn n₀ B b off m cap L : Nat) (hL : L = 33 * m) (hn0 : n₀ ≤ w.heap.size) (hbs : Bs < n₀) (hbn : Bn < n₀) (hs' : Bs ≠ B) (hn' : Bn ≠ B) (hc : L ≤ cap) (hx : L ≤ 140737488351232)
    (hBs : w.cell? ⟨Bs, 0, none⟩ = some (.slice (some ⟨b, off, none⟩) L cap)) (hBn : w.cell? ⟨Bn, 0, none⟩ = some (.int .i64 33)) :
    SeqStopsK Fence.wide n Try.prog 67 #[.pointer (some ⟨Bs, 0, none⟩), .pointer (some ⟨Bn, 0, none⟩)] (fun x : Fin m => #[Value.slice (some ⟨b, off + 33 * x.1, none⟩) 33 33]) (KpB n₀ B) (fun ys => ys = List.finRange m) (fun _ => True) m w :=
  fun l J Jx W hW hJ _ hY h0 => by
    have hB1 := (hW.cell (p := ⟨Bs, 0, none⟩) (Nat.lt_of_lt_of_le hbs hn0)).trans hBs
    have hB2 := (hW.cell (p := ⟨Bn, 0, none⟩) (Nat.lt_of_lt_of_le hbn hn0)).trans hBn
    refine (chunk1_in n l Bs Bn n₀ B b off m cap L hL hbs hbn hs' hn' hc hx J Jx ?_ hY W hB1 hB2 h0).mono ?_
    · exact fun s W1 h1 => hJ s W1 W1.drew none h1 ⟨rfl, rfl, rfl, Nat.le_refl _, fun _ _ _ => rfl⟩ (fun r e => by cases e)
    · rintro e W' ⟨he, ⟨ys, h1, h2⟩ | ⟨pre, h2⟩⟩
      · exact ⟨he, .inl ⟨ys, h1, h2⟩⟩
      · exact ⟨he, .inr ⟨pre, trivial, h2⟩⟩
end Go.Proofs.Ytbdpocbnkgckhaa

/- A region of a round: walked as everywhere. -/
set_option maxRecDepth 4000
namespace Go.Proofs.Ytbdpocbnkgckhaa
open Go Go.RowKit
theorem rowsIn_round {P : Program} {n l : Nat} {row : String} {args : Array Value} {w : World} {R : Value → World → Prop} (h : Rows P row args w R) : RowsIn (Fence.wide.inRound l) n P row args w R :=
  fun c cs _ => let ⟨v, w', r, s⟩ := h c cs; ⟨v, w', r, stepsIn_wide.2 s⟩
def noDefer (l : List Oper) : Bool := l.all fun o => match o.op with | .defer _ => false | _ => true
theorem noDefer_is {l : List Oper} (h : noDefer l = true) {i : Nat} {o : Oper} (ho : l.toArray[i]? = some o) (c) : o.op ≠ .defer c := fun e => by
  have h1 : o ∈ l := by
    rw [List.getElem?_toArray] at ho
    exact List.mem_of_getElem? ho
  have h2 := List.all_eq_true.1 h o h1
  rw [e] at h2
  cases h2
class NoOut (Q : Exit → Act → World → Prop) : Prop where
  no : ¬ LetsOut Q
instance {id : Nat} {Q : Exit → Act → World → Prop} [h : NoOut Q] : NoOut (Exit.inBlock id Q) := ⟨fun ⟨a, w, k⟩ => h.no ⟨a, w, k⟩⟩
instance {K : Act → World → Prop} {Q : Exit → Act → World → Prop} [h : NoOut Q] : NoOut (Exit.then K Q) := ⟨fun ⟨a, w, k⟩ => h.no ⟨a, w, k⟩⟩
instance {α : Type} {Kp : World → World → Prop} {I : List α → World → Prop} {Ix : Code → List α → World → Prop} {xs : List α} {W : World} : NoOut (ownPostK Kp I Ix xs W) := ⟨fun ⟨_, _, k⟩ => k⟩
instance {α : Type} {Kp : World → World → Prop} {I : List α → World → Prop} {Ix : Code → List α → World → Prop} {xs : List α} {W : World} : PQc (ownPostK Kp I Ix xs W) := ⟨fun _ _ _ _ _ h => h⟩
theorem wide_no {l : Nat} {k : Prop} : ((Fence.wide.inRound l).depth.isSome = true → k) := fun h => by simp [Fence.wide] at h
theorem op_round {P : Program} {l : List Oper} {l9 n i : Nat} {Q : Exit → Act → World → Prop} {K : Act → World → Prop} {a : Act} {w : World} (hd : noDefer l = true) (hQ : ¬ LetsOut Q) (h : wpOp P l.toArray Q i K a w) : wpOpIn (Fence.wide.inRound l9) n P l.toArray Q i K a w := by
  unfold wpOp at h
  unfold wpOpIn
  cases ho : l.toArray[i]? with
  | none => rw [ho] at h; exact h
  | some o =>
    rw [ho] at h
    simp only at h ⊢
    by_cases hw : Region.wanted o (yielded l.toArray a.tmps) = true
    · rw [if_pos hw] at h
      rw [if_pos hw]
      rcases h with h | h
      · refine ⟨fun _ _ => trivial, ?_⟩
        rw [Fence.inRound_round, Oper.semAt_some l9 _ _ (noDefer_is hd ho)]
        unfold Oper.wp at h
        generalize (execOp a.eval o).run P w = r at h ⊢
        cases r with
        | ok x w' =>
          cases x with
          | value v => exact h
          | skip => exact h
          | defer d => exact h
          | enter f args =>
            rw [Oper.upon_enter] at h
            rw [Oper.uponIn_enter]
            refine ⟨wide_no, CallsIn.inRound l9 ((callsIn_wide.2 h).mono fun e w'' he => ?_)⟩
            cases e <;> exact he
          | row row args =>
            rw [Oper.upon_row] at h
            rw [Oper.uponIn_row]
            exact ⟨wide_no, rowsIn_round h⟩
          | _ => exact h.elim
        | halt x w' => cases x <;> exact h
      · exact absurd h.2 hQ
    · rw [if_neg hw] at h
      rw [if_neg hw]
      exact ⟨fun _ _ => trivial, h⟩
theorem any_round {P : Program} {l : List Oper} {l9 n : Nat} {Q : Exit → Act → World → Prop} (hd : noDefer l = true) (hQ : ¬ LetsOut Q) : ∀ (fuel : Nat) (listed : Array Bool) (a : Act) (w : World), wpAny P .any l.toArray Q fuel listed a w → wpAnyIn (Fence.wide.inRound l9) n P .any l.toArray Q fuel listed a w := by
  intro fuel
  induction fuel with
  | zero => intro listed a w h; exact h
  | succ fuel ih =>
    intro listed a w h
    exact ⟨h.1, fun i hi => wpOpIn_mono (fun a w => ih _ a w) (op_round hd hQ (h.2 i hi))⟩
theorem wiIn_ {P : Program} {Q : Exit → Act → World → Prop} {a : Act} {w w0 : World} {F : Nat → Prop} {l9 n : Nat} [hQ : NoOut Q] {S : List Blk} (HS : St w0 F S w) (is : List Nat) {id : Nat} {l : List Oper} {M : Nat} (hM : l.length = M) {R9 : List Blk} (js : List Nat) (e : selB S js = selB S is ++ R9) (h : St w0 F S w.drew → Sx w0 F (selB S is) w.drew → wpAnyH P .any l.toArray Q (Sx w0 F (selB S is)) M (Array.replicate M false) a w.drew) (hd : noDefer l = true := by kernel_rfl) (hn : js.Nodup := by decide) (hm : P.follows .mixedOrders = true := by kernel_rfl) : (Code.region id l.toArray true).wpIn (Fence.wide.inRound l9) n P Q a w := by
  subst hM
  refine wpIn_region_any hm (any_round hd hQ.no _ _ _ _ (wpAny_of_held _ _ _ _ (S := Sx w0 F (selB S is)) ?_))
  have e9 : l.toArray.size = l.length := by simp
  rw [e9]
  obtain ⟨R9', k⟩ := sxi HS js e hn
  exact h HS.drew ⟨R9', k.drew⟩
theorem wpIn_cut {F : Fence} {n : Nat} {P : Program} {Q : Exit → Act → World → Prop} {c : Code} {a : Act} {w : World} (I : Act → World → Prop) (h : c.wpIn F n P (Exit.then I Q) a w) (k : ∀ a w, I a w → Q .normal a w) : c.wpIn F n P Q a w :=
  Go.wpIn_mono h fun e a w q => by
    cases e with
    | normal => exact k a w q
    | _ => exact q
/- what is around a round -/
theorem st_gn {w0 W W' : World} {S : List Blk} {row : Option Nat} (h : St w0 noF S W) (hg : W.grownBy W' row) (hr : ∀ r, row = some r → w0.heap.size ≤ r ∧ ∃ o : Obj, W.heap[r]? = some o ∧ o.isCells = false) : St w0 noF S W' := by
  cases row with
  | none => exact h.same (below_of_grown hg (fun g e => by cases e) (Nat.le_refl _))
  | some r =>
    obtain ⟨h1, o, h2, h3⟩ := hr r rfl
    refine h.far hg h1 fun b hb e => ?_
    obtain ⟨i, hi⟩ := List.getElem?_of_mem hb
    have h4 := h.rows i b hi
    unfold Row at h4
    rw [e, h2] at h4
    injection h4 with h4
    subst h4
    cases h3
theorem keeps_st {W W' : World} {S S' : List Blk} (h : St W (inS S) S W) (k : St W (inS S) S' W') : KeepsOthers W W' := ⟨k.chg.size, fun j o hj ho => by
  have hl := (Array.getElem?_eq_some_iff.1 hj).1
  refine (k.chg.block j hl fun ⟨r, h1, h2⟩ => ?_).trans hj
  obtain ⟨i, hi⟩ := List.getElem?_of_mem h1
  have h4 := h.rows i r hi
  unfold Row at h4
  rw [h2, hj] at h4
  injection h4 with h4
  subst h4
  cases ho⟩
theorem kpb_st {W W' : World} {S S' : List Blk} {n B : Nat} (k : St W (inS S) S' W') (hn : n ≤ W.heap.size) (hS : ∀ r ∈ S, r.g = B ∨ n ≤ r.g) : KpB n B W W' := ⟨k.chg.size, fun j hj hne => k.chg.block j (by omega) fun ⟨r, h1, h2⟩ => by
  rcases hS r h1 with h3 | h3
  · exact hne (h2.symm.trans h3)
  · omega⟩
end Go.Proofs.Ytbdpocbnkgckhaa

/- Appends of whatever slice, be it of none. No function of the program is named here. -/
set_option maxRecDepth 4000
namespace Go.Proofs.Ytbdpocbnkgckhaa
open Go Go.RowKit
section
variable {P : Program} {o : Oper} {a : Act} {w w0 : World} {R : Value → World → Prop} {F : Nat → Prop} {S : List Blk}
end
end Go.Proofs.Ytbdpocbnkgckhaa

/- What stays while a call writes the rows that were handed to it. No function of the program is named here. -/
set_option maxRecDepth 4000
namespace Go.Proofs.Ytbdpocbnkgckhaa
open Go Go.RowKit
theorem nin_l {w0 w : World} {S : List Blk} (h : St w0 noF S w) {b : Nat} (hb : b < w0.heap.size) : ¬ inS S b := fun ⟨r, h1, h2⟩ => by
  obtain ⟨i, hi⟩ := List.getElem?_of_mem h1
  have := (h.own i r hi).resolve_left fun e => e
  omega
end Go.Proofs.Ytbdpocbnkgckhaa

/- putsFrom: the puts of bytes of which all are there. -/
set_option maxRecDepth 4000
namespace Go.Proofs.Ytbdpocbnkgckhaa
open Go Go.RowKit Go.Shelf
attribute [local go_sem] Oper.semAt_some
def chunkP (q : List (BitVec 8)) (x : Nat) : Int × List (BitVec 8) := (bd (q.getD (33 * x) 0#8), (q.drop (33 * x + 1)).take 32)
def putsL {m : Nat} (q : List (BitVec 8)) (pre : List (Fin m)) : List Value := ((pre.map fun x => chunkP q x.1).map pcell).flatten
theorem putsL_S {m : Nat} {q : List (BitVec 8)} {pre : List (Fin m)} {x : Fin m} {cb : Array Value} {c : Nat} (O : OwnC cb c (pre.length + 1) 33 (putsL q pre ++ (catA [[.int .i64 (bd (q.getD (33 * x.1) 0#8))], bytesV ((q.drop (33 * x.1 + 1)).take 32)]).toList)) : OwnC cb c (pre ++ [x]).length 33 (putsL q (pre ++ [x])) := by
  rw [List.length_append, putsL, List.map_append, List.map_append, List.flatten_append]
  have e : ((([x].map fun x => chunkP q x.1).map pcell).flatten) = (catA [[.int .i64 (bd (q.getD (33 * x.1) 0#8))], bytesV ((q.drop (33 * x.1 + 1)).take 32)]).toList := by simp [chunkP, pcell, catA]
  rw [e]
  exact O
theorem putsL_1 {m : Nat} {q : List (BitVec 8)} {x : Fin m} {cb : Array Value} {c : Nat} (O : OwnC cb c 1 33 ((catA [[.int .i64 (bd (q.getD (33 * x.1) 0#8))], bytesV ((q.drop (33 * x.1 + 1)).take 32)]).toList)) : OwnC cb c ([] ++ [x]).length 33 (putsL q ([] ++ [x])) := putsL_S (pre := []) O
theorem chk_at {w : World} {b off j : Nat} {q : List (BitVec 8)} (h : CAt w b off (bytesV q)) (hj : j < q.length) : w.cell? ⟨b, off + j + 0, none⟩ = some (.int .u8 (bd (q.getD j 0#8))) := by
  refine h.at_ j _ ?_
  unfold bytesV
  rw [List.getElem?_map, List.getElem?_eq_getElem hj, List.getD_eq_getElem?_getD, List.getElem?_eq_getElem hj]
  rfl
theorem chk_len {m : Nat} {q : List (BitVec 8)} (hq : q.length = 33 * m) {x : Fin m} (hx : x.1 < m) : ((q.drop (33 * x.1 + 1)).take 32).length = 32 := by rw [List.length_take, List.length_drop, hq]; omega
theorem chk_sl {w : World} {b off k : Nat} {q : List (BitVec 8)} (h : CAt w b off (bytesV q)) : w.rangeAt b (off + k + 1) (bytesV ((q.drop (k + 1)).take 32)) := fun j v hv => by
  have h1 : j < 32 := by
    have := (List.getElem?_eq_some_iff.1 hv).1
    rw [len_bytesV, List.length_take] at this
    omega
  have := h.at_ (k + 1 + j) v (by
    unfold bytesV at hv ⊢
    rw [List.getElem?_map, List.getElem?_take_of_lt h1, List.getElem?_drop] at hv
    rw [List.getElem?_map]
    exact hv)
  rw [show off + k + 1 + j = off + (k + 1 + j) by omega]
  exact this
theorem new_nil {W W' : World} {B n : Nat} {t : TypeId} {cs cs' : Array Value} {r : Blk} (k : St W (inS [⟨B, t, cs⟩]) [⟨B, t, cs'⟩, r] W') (hn : n ≤ W.heap.size) : n ≤ r.g := by
  rcases k.own 1 r rfl with ⟨s, h1, h2⟩ | h
  · rw [List.mem_singleton] at h1
    subst h1
    exact (k.apart 0 1 _ _ (by decide) rfl rfl h2).elim
  · omega
theorem new_own {W W' : World} {B n : Nat} {t : TypeId} {cs cs' : Array Value} {r r0 : Blk} (_ : St W (inS [⟨B, t, cs⟩, r0]) [⟨B, t, cs⟩, r0] W) (k : St W (inS [⟨B, t, cs⟩, r0]) [⟨B, t, cs'⟩, r] W') (hn : n ≤ W.heap.size) (h0 : n ≤ r0.g) : n ≤ r.g := by
  rcases k.own 1 r rfl with ⟨s, h1, h2⟩ | h
  · rcases List.mem_cons.1 h1 with rfl | h1
    · exact (k.apart 0 1 _ _ (by decide) rfl rfl h2).elim
    · rw [List.mem_singleton] at h1
      subst h1
      omega
  · omega
theorem cat_chg {w w' : World} {F : Nat → Prop} {b o : Nat} {L : List Value} (h : CAt w b o L) (k : Chg F w w') (hn : ¬ F b) : CAt w' b o L :=
  ⟨Nat.lt_of_lt_of_le h.lt k.size, fun j v hv => (World.cell?_of_block (a := ⟨b, o + j, none⟩) (k.block b h.lt hn)).trans (h.at_ j v hv)⟩
theorem putsL_all (m : Nat) (q : List (BitVec 8)) : putsL q (List.finRange m) = (((List.range m).map (chunkP q)).map pcell).flatten := by
  unfold putsL
  congr 2
  apply List.ext_getElem
  · simp
  · intro i h1 h2
    simp
def PutsR (w : World) (m : Nat) (q : List (BitVec 8)) (e : Ending) (w' : World) : Prop := ∃ v, e = .returned v ∧ (m = 0 → v = .slice none 0 0) ∧ w'.ownsRow w.heap.size 43 33 v m (((List.range m).map (chunkP q)).map pcell).flatten ∧ Below w.heap.size w w'
def PutsI {m : Nat} (w0 : World) (n0 B : Nat) (q : List (BitVec 8)) (pre : List (Fin m)) (W : World) : Prop :=
  (pre = [] ∧ n0 ≤ W.heap.size ∧ St w0 noF [⟨B, 27, #[.slice none 0 0]⟩] W) ∨
  (∃ g c cb, n0 ≤ g ∧ n0 ≤ W.heap.size ∧ 0 < pre.length ∧ OwnC cb c pre.length 33 (putsL q pre) ∧ St w0 noF [⟨B, 27, #[.slice (some ⟨g, 0, none⟩) pre.length c]⟩, ⟨g, 43, cb⟩] W)
theorem putsI_own {m : Nat} {w0 : World} {n0 B B0 : Nat} {q : List (BitVec 8)} (h0 : w0.heap.size ≤ B0) : OwnFrom B0 (PutsI (m := m) w0 n0 B q) := fun s W W' row h hg hr => by
  have hr' : ∀ r, row = some r → w0.heap.size ≤ r ∧ ∃ o : Obj, W.heap[r]? = some o ∧ o.isCells = false := fun r e => ⟨Nat.le_trans h0 (hr r e).1, (hr r e).2⟩
  rcases h with ⟨h1, h2, h3⟩ | ⟨g, c, cb, h1, h2, h5, h3, h4⟩
  · exact .inl ⟨h1, Nat.le_trans h2 hg.size, st_gn h3 hg hr'⟩
  · exact .inr ⟨g, c, cb, h1, Nat.le_trans h2 hg.size, h5, h3, st_gn h4 hg hr'⟩
set_option maxHeartbeats 1600000 in
theorem putsfrom_any (b off c m : Nat) (q : List (BitVec 8)) (w : World) (hq : q.length = 33 * m) (hm : m ≤ 1000) (hc : 33 * m ≤ c) (h0 : CAt w b off (bytesV q)) : Calls Try.prog 34 #[.slice (some ⟨b, off, none⟩) (33 * m) c] w fun e w' => PutsR w m q e w' := by
  obtain ⟨L, hL⟩ : ∃ L, L = 33 * m := ⟨_, rfl⟩
  rw [← hL] at hc ⊢
  refine (callsIn_wide (n := 3)).1 ?_
  refine callsIn_of_wp_marks Try.func34 rfl trivial ?_ rfl
  simp only [Try.ntmps34, List.size_toArray, List.length_cons, List.length_nil, Nat.reduceAdd, Nat.reduceSub, Array.replicate_succ, Array.replicate_zero, List.push_toArray, List.append_toArray, List.nil_append, List.cons_append]
  have HL := Lib.hid hL
  clear hL
  gi_wp2_with (refine ⟨trivial, ?_⟩; gi_at_call 54; refine (chunk_in _ _ _ _ _).mono ?_; rintro e w' ⟨rfl, rfl⟩)
  obtain ⟨w3, hw3⟩ : ∃ w3, ((w.alloc (.cells #[.slice none 0 0] 27)).alloc (.cells #[.slice (some ⟨b, off, none⟩) L c] 23)).alloc (.cells #[.int .i64 33] 3) = w3 := ⟨_, rfl⟩
  have hs3 : w3.heap.size = w.heap.size + 3 := by rw [← hw3]; simp
  have HSn := (((St.nil w noF).snoc 27 #[.slice none 0 0]).snoc 23 #[.slice (some ⟨b, off, none⟩) L c]).snoc 3 #[.int .i64 33]
  have hk1 : w3.cell? ⟨w.heap.size + 1, 0, none⟩ = some (.slice (some ⟨b, off, none⟩) L c) := by
    have h1 := (HSn.row 1 rfl).get (i := 0) rfl
    rw [hw3] at h1
    simpa using h1
  have hk2 : w3.cell? ⟨w.heap.size + 2, 0, none⟩ = some (.int .i64 33) := by
    have h1 := (HSn.row 2 rfl).get (i := 0) rfl
    rw [hw3] at h1
    simpa using h1
  clear HSn
  have hI0 : PutsI (m := m) w (w.heap.size + 3) w.heap.size q [] w3 := .inl ⟨rfl, by omega, by
    rw [← hw3]
    exact (((St.nil w noF).snoc 27 #[.slice none 0 0]).same ((Below.refl _ _).alloc (Nat.le_refl _) _)).same ((Below.refl _ _).alloc (Nat.le_refl _) _)⟩
  have hOwn := putsI_own (m := m) (w0 := w) (n0 := w.heap.size + 3) (B := w.heap.size) (B0 := w3.heap.size) (q := q) (by omega)
  rw [hw3]
  refine wpIn_rangeFunc_ownF (α := Fin m) rfl (by decide) (gf := 67) (lb := #[.pointer (some ⟨w.heap.size + 1, 0, none⟩), .pointer (some ⟨w.heap.size + 1 + 1, 0, none⟩)]) rfl trivial (enters_of Try.func67 (by kernel_rfl) rfl)
    (chunk_stops _ w3 (w.heap.size + 1) (w.heap.size + 2) (w.heap.size + 3) w.heap.size b off m c L HL.out (by omega) (by omega) (by omega) (by omega) (by omega) hc (by have := HL.out; omega) hk1 hk2) (fun h k => h.trans k) (fun W l o o' hl h _ _ => KpB.put (w := w3) (by omega) W l o o' hl h) (Below.refl _ _) (fun _ => rfl)
    (PutsI w (w.heap.size + 3) w.heap.size q) (fun _ _ _ => False) hOwn (fun _ _ _ _ _ h _ _ => h) hI0
    (fun x => { tmps := #[.slice (some ⟨b, off, none⟩) L c, undef, .slice none 0 0, .pointer (some ⟨w.heap.size, 0, none⟩), .slice (some ⟨b, off + 33 * x.1, none⟩) 33 33, .slice (some ⟨b, off, none⟩) L c, .func (.func 67) #[] #[.pointer (some ⟨w.heap.size + 1, 0, none⟩), .pointer (some ⟨w.heap.size + 1 + 1, 0, none⟩)], .slice (some ⟨b, off + 33 * x.1, none⟩) 33 33, undef, undef, undef, undef, undef, undef, undef, undef, undef, undef, undef, undef, undef], defers := [] }) ?assign ?body ?done ?stop
  case assign =>
    intro l x W K hK
    gi_wp2
    exact hK
  case body =>
    intro l pre x W hI hpl
    have hx : x.1 < m := x.2
    generalize hB : w.heap.size = B at *
    refine wpIn_block ?_
    generalize ha : (Act.mk _ _) = a1
    have HA1 : En 21 [(4, .slice (some ⟨b, off + 33 * x.1, none⟩) 33 33), (3, .pointer (some ⟨B, 0, none⟩))] a1 := by subst ha; exact en_cons (en_cons (en_nil rfl rfl) rfl) rfl
    clear ha
    rcases hI with ⟨rfl, hn0, HS⟩ | ⟨g, c, cb, hg, hn0, _, O, HS⟩
    · have HSf := HS.frame
      have HC : ∀ W9, Chg (inS [⟨B, 27, #[.slice none 0 0]⟩]) W W9 → CAt W9 b off (bytesV q) := fun W9 k9 => cat_chg (h0.call HS.below) k9 (nin_l HS h0.lt)
      refine wpIn_cut (fun a9 w9 => ∃ g19_16 : Nat, ∃ c19_16 : Nat, ∃ g18 : Nat, ∃ cb19_16 : Array Value, OwnC cb19_16 c19_16 1 33 ((catA [[.int .i64 (bd (q.getD (33 * x.1) 0#8))], bytesV ((q.drop (33 * x.1 + 1)).take 32)]).toList) ∧ En 21 [] a9 ∧ St W (inS [⟨B, 27, #[.slice none 0 0]⟩]) [⟨B, 27, #[.slice (some ⟨g19_16, 0, none⟩) 1 c19_16]⟩, ⟨g18, 43, catA [[.int .i64 (bd (q.getD (33 * x.1) 0#8))], bytesV ((q.drop (33 * x.1 + 1)).take 32)]⟩, ⟨g19_16, 43, cb19_16⟩] w9) ?_ ?_
      ·
       refine wiIn_ HSf [] rfl [0] rfl fun HSh1 hx1 => hp_ HA1 1 hx1 rfl rfl rfl fun _ H2 => ht_ H2 2 hx1 rfl rfl (fun _ _ _ => xS 1 (off + 33 * x.1 + 0) rfl (H2.ev 9 rfl) rfl) fun _ H3 => ht_ H3 3 hx1 rfl rfl (fun _ _ HS9 => dd_at rfl (H3.ev 10 rfl) (chk_at (HC _ HS9.chg) (by omega)) Try.underlying5 rfl) fun _ H4 => ht_ H4 4 hx1 rfl rfl (v := .int .i64 (bd (q.getD (33 * x.1) 0#8))) (fun _ _ _ => dd_conv (k := .i64) rfl (H4.ev 11 rfl) Try.underlying5 (by kernel_rfl) (i64_bdA _)) fun _ H5 => hp_ H5 5 hx1 rfl rfl rfl fun _ H6 => ht_ H6 6 hx1 rfl rfl (v := .slice (some ⟨b, off + 33 * x.1 + 1, none⟩) 32 32) (fun _ _ _ => dd_sll (l := 1) (sz := 1) rfl (H6.ev 13 rfl) rfl (by kernel_rfl) (by decide) (by decide) rfl rfl rfl) fun _ H7 => ht_ H7 7 hx1 rfl rfl (v := .pointer (some ⟨b, off + 33 * x.1 + 1, none⟩)) (fun _ _ _ => dd_s2a (m := 32) (sz := 1) rfl (H7.ev 14 rfl) (by kernel_rfl) (by decide)) fun _ H8 => ?_
       clear HSf HA1 H2 H3 H4 H5 H6
       refine ht_ H8 8 hx1 rfl rfl (v := .agg (bs ((q.drop (33 * x.1 + 1)).take 32))) (fun _ _ HS9 => dd_atN rfl (H8.ev 15 rfl) (chk_sl (HC _ HS9.chg)) Try.underlying37 rfl (by show _ = some (bytesV _).length; rw [len_bytesV, chk_len hq hx]; kernel_rfl)) fun a9 H9 => ht_ H9 9 hx1 rfl rfl (v := .agg (catA [[.int .i64 (bd (q.getD (33 * x.1) 0#8))], bytesV ((q.drop (33 * x.1 + 1)).take 32)])) (fun _ _ _ => dd_bld rfl (ps := [(0, .int .i64 (bd (q.getD (33 * x.1) 0#8))), (1, .agg (bs ((q.drop (33 * x.1 + 1)).take 32)))]) (pr1 (H9.ev 12 rfl) (pr1 (H9.ev 16 rfl) (pr0))) (Lz := [[.int .i64 0], bytesV (zer 32)]) (by kernel_rfl) (lens_cons rfl (lens_cons (len_bv (length_zer 32)) (lens_nil))) (fit_cons (i := 0) rfl rfl (fit_cons (i := 1) rfl ((size_bs _).trans (chk_len hq hx)) (fit_nil))) (cs := catA [[.int .i64 (bd (q.getD (33 * x.1) 0#8))], bytesV ((q.drop (33 * x.1 + 1)).take 32)]) rfl) fun _ H10 => ?_
       clear H7 H8 H9
       refine wpAnyH_all (rs := [0, 10]) (by kernel_rfl) (by decide) (hm_cons ?_ (hm_cons ?_ hm_nil))
       ·
        refine ho_ rfl <| i_ H10 rfl (dd_get HSh1 0 0 rfl rfl (H10.ev 3 rfl) rfl Try.underlying27 rfl) fun _ H11 => sx_ (sxi HSh1 [0] rfl) fun hx12 => h1_ 10 rfl <| n_ H11 rfl (fun _ h => dd_lit1 HSh1 (z := .agg (catA [[.int .i64 0], bytesV (zer 32)])) (sz := 33) rfl (H11.ev 17 rfl) Try.underlying27 (by kernel_rfl) (cat_size (lens_cons rfl (lens_cons (len_bv (chk_len hq hx)) (lens_nil)))) rfl rfl h) fun g18 _ HS13 _ H13 => sx_ (sxi HS13 [0, 1] rfl) fun hx14 => h1_ 11 rfl <| a_ H13 rfl (fun g19_16 c19_16 => .slice (some ⟨g19_16, 0, none⟩) 1 c19_16) (T := fun _ c19_16 cb19_16 => OwnC cb19_16 c19_16 1 33 ((catA [[.int .i64 (bd (q.getD (33 * x.1) 0#8))], bytesV ((q.drop (33 * x.1 + 1)).take 32)]).toList)) (fun _ h => dd_app0 HS13 rfl (H13.ev 8 rfl) (z := .agg (catA [[.int .i64 0], bytesV (zer 32)])) (bytes := 40) (sz := 33) Try.underlying27 (by kernel_rfl) rfl (by decide) ((catA [[.int .i64 (bd (q.getD (33 * x.1) 0#8))], bytesV ((q.drop (33 * x.1 + 1)).take 32)]).toList) (H13.ev 18 rfl) (lenA (cat_size (lens_cons rfl (lens_cons (len_bv (chk_len hq hx)) (lens_nil))))) (row_news (HS13.row 1 rfl) 0 (slabA (slab_whole _))) (all_one (cat_one (ones_cons (ones_c rfl) (ones_cons (one_bytesV _) (ones_nil))))) (by unfold maxLen; omega) (by omega) h) fun g19_16 c19_16 cb19_16 _ O19_16 HS15 _ H15 => sx_ (sxi HS15 [0, 1, 2] rfl) fun hx17 => h1_ 12 rfl <| t_ rfl (fun _ h => dd_put (cs := #[.slice (some ⟨g19_16, 0, none⟩) 1 c19_16]) HS15 0 0 rfl rfl (H15.ev 3 rfl) (H15.ev 19 rfl) (by kernel_rfl) rfl rfl rfl rfl h) fun _ HS18 => sx_ (sxi HS18 [0, 1, 2] rfl) fun hx19 => ?_
        clear H10 HSh1 H11 hx12 HS13 H13 hx14 HS15
        clear hx17
        refine wpAnyH_done (by kernel_rfl) ?_ _
        clear hx19
        exact nx ⟨g19_16, c19_16, _, cb19_16, O19_16, H15.sel [] rfl, ss HS18 [0, 1, 2]⟩
       refine ho_ rfl <| n_ H10 rfl (fun _ h => dd_lit1 HSh1 (z := .agg (catA [[.int .i64 0], bytesV (zer 32)])) (sz := 33) rfl (H10.ev 17 rfl) Try.underlying27 (by kernel_rfl) (cat_size (lens_cons rfl (lens_cons (len_bv (chk_len hq hx)) (lens_nil)))) rfl rfl h) fun g18 _ HS20 _ H20 => sx_ (sxi HS20 [0, 1] rfl) fun hx21 => h1_ 0 rfl <| i_ H20 rfl (dd_get HS20 0 0 rfl rfl (H20.ev 3 rfl) rfl Try.underlying27 rfl) fun _ H22 => sx_ (sxi HS20 [0, 1] rfl) fun hx23 => h1_ 11 rfl <| a_ H22 rfl (fun g19_25 c19_25 => .slice (some ⟨g19_25, 0, none⟩) 1 c19_25) (T := fun _ c19_25 cb19_25 => OwnC cb19_25 c19_25 1 33 ((catA [[.int .i64 (bd (q.getD (33 * x.1) 0#8))], bytesV ((q.drop (33 * x.1 + 1)).take 32)]).toList)) (fun _ h => dd_app0 HS20 rfl (H22.ev 8 rfl) (z := .agg (catA [[.int .i64 0], bytesV (zer 32)])) (bytes := 40) (sz := 33) Try.underlying27 (by kernel_rfl) rfl (by decide) ((catA [[.int .i64 (bd (q.getD (33 * x.1) 0#8))], bytesV ((q.drop (33 * x.1 + 1)).take 32)]).toList) (H22.ev 18 rfl) (lenA (cat_size (lens_cons rfl (lens_cons (len_bv (chk_len hq hx)) (lens_nil))))) (row_news (HS20.row 1 rfl) 0 (slabA (slab_whole _))) (all_one (cat_one (ones_cons (ones_c rfl) (ones_cons (one_bytesV _) (ones_nil))))) (by unfold maxLen; omega) (by omega) h) fun g19_25 c19_25 cb19_25 _ O19_25 HS24 _ H24 => sx_ (sxi HS24 [0, 1, 2] rfl) fun hx26 => h1_ 12 rfl <| t_ rfl (fun _ h => dd_put (cs := #[.slice (some ⟨g19_25, 0, none⟩) 1 c19_25]) HS24 0 0 rfl rfl (H24.ev 3 rfl) (H24.ev 19 rfl) (by kernel_rfl) rfl rfl rfl rfl h) fun _ HS27 => sx_ (sxi HS27 [0, 1, 2] rfl) fun hx28 => ?_
       clear HSh1 H10 H20 hx21 HS20 H22 hx23 HS24
       clear hx26
       refine wpAnyH_done (by kernel_rfl) ?_ _
       clear hx28
       exact nx ⟨g19_25, c19_25, _, cb19_25, O19_25, H24.sel [] rfl, ss HS27 [0, 1, 2]⟩
      rintro aj1 wj1 ⟨g19_16, c19_16, g18, cb19_16, O19_16, Hj1, HSj1⟩
      refine bn <| ?_
      have k9 := ss HSj1 [0, 2]
      exact ⟨keeps_st HSf k9, kpb_st k9 hn0 (by intro r hr; rw [List.mem_singleton] at hr; subst hr; exact .inl rfl), .inr ⟨g19_16, c19_16, cb19_16, (new_nil k9 hn0), Nat.le_trans hn0 k9.chg.size, by rw [List.length_append]; exact Nat.succ_pos _, (putsL_1 O19_16), by rw [List.length_append]; exact St.unframe HS k9⟩⟩
    · have HSf := HS.frame
      have HC : ∀ W9, Chg (inS [⟨B, 27, #[.slice (some ⟨g, 0, none⟩) pre.length c]⟩, ⟨g, 43, cb⟩]) W W9 → CAt W9 b off (bytesV q) := fun W9 k9 => cat_chg (h0.call HS.below) k9 (nin_l HS h0.lt)
      refine wpIn_cut (fun a9 w9 => ∃ g19_16 : Nat, ∃ c19_16 : Nat, ∃ g18 : Nat, ∃ cb19_16 : Array Value, OwnC cb19_16 c19_16 (pre.length + 1) 33 ((putsL q pre) ++ (catA [[.int .i64 (bd (q.getD (33 * x.1) 0#8))], bytesV ((q.drop (33 * x.1 + 1)).take 32)]).toList) ∧ En 21 [] a9 ∧ St W (inS [⟨B, 27, #[.slice (some ⟨g, 0, none⟩) pre.length c]⟩, ⟨g, 43, cb⟩]) [⟨B, 27, #[.slice (some ⟨g19_16, 0, none⟩) (pre.length + 1) c19_16]⟩, ⟨g18, 43, catA [[.int .i64 (bd (q.getD (33 * x.1) 0#8))], bytesV ((q.drop (33 * x.1 + 1)).take 32)]⟩, ⟨g19_16, 43, cb19_16⟩] w9) ?_ ?_
      ·
       refine wiIn_ HSf [] rfl [0, 1] rfl fun HSh1 hx1 => hp_ HA1 1 hx1 rfl rfl rfl fun _ H2 => ht_ H2 2 hx1 rfl rfl (fun _ _ _ => xS 1 (off + 33 * x.1 + 0) rfl (H2.ev 9 rfl) rfl) fun _ H3 => ht_ H3 3 hx1 rfl rfl (fun _ _ HS9 => dd_at rfl (H3.ev 10 rfl) (chk_at (HC _ HS9.chg) (by omega)) Try.underlying5 rfl) fun _ H4 => ht_ H4 4 hx1 rfl rfl (v := .int .i64 (bd (q.getD (33 * x.1) 0#8))) (fun _ _ _ => dd_conv (k := .i64) rfl (H4.ev 11 rfl) Try.underlying5 (by kernel_rfl) (i64_bdA _)) fun _ H5 => hp_ H5 5 hx1 rfl rfl rfl fun _ H6 => ht_ H6 6 hx1 rfl rfl (v := .slice (some ⟨b, off + 33 * x.1 + 1, none⟩) 32 32) (fun _ _ _ => dd_sll (l := 1) (sz := 1) rfl (H6.ev 13 rfl) rfl (by kernel_rfl) (by decide) (by decide) rfl rfl rfl) fun _ H7 => ht_ H7 7 hx1 rfl rfl (v := .pointer (some ⟨b, off + 33 * x.1 + 1, none⟩)) (fun _ _ _ => dd_s2a (m := 32) (sz := 1) rfl (H7.ev 14 rfl) (by kernel_rfl) (by decide)) fun _ H8 => ?_
       clear HSf HA1 H2 H3 H4 H5 H6
       refine ht_ H8 8 hx1 rfl rfl (v := .agg (bs ((q.drop (33 * x.1 + 1)).take 32))) (fun _ _ HS9 => dd_atN rfl (H8.ev 15 rfl) (chk_sl (HC _ HS9.chg)) Try.underlying37 rfl (by show _ = some (bytesV _).length; rw [len_bytesV, chk_len hq hx]; kernel_rfl)) fun a9 H9 => ht_ H9 9 hx1 rfl rfl (v := .agg (catA [[.int .i64 (bd (q.getD (33 * x.1) 0#8))], bytesV ((q.drop (33 * x.1 + 1)).take 32)])) (fun _ _ _ => dd_bld rfl (ps := [(0, .int .i64 (bd (q.getD (33 * x.1) 0#8))), (1, .agg (bs ((q.drop (33 * x.1 + 1)).take 32)))]) (pr1 (H9.ev 12 rfl) (pr1 (H9.ev 16 rfl) (pr0))) (Lz := [[.int .i64 0], bytesV (zer 32)]) (by kernel_rfl) (lens_cons rfl (lens_cons (len_bv (length_zer 32)) (lens_nil))) (fit_cons (i := 0) rfl rfl (fit_cons (i := 1) rfl ((size_bs _).trans (chk_len hq hx)) (fit_nil))) (cs := catA [[.int .i64 (bd (q.getD (33 * x.1) 0#8))], bytesV ((q.drop (33 * x.1 + 1)).take 32)]) rfl) fun _ H10 => ?_
       clear H7 H8 H9
       refine wpAnyH_all (rs := [0, 10]) (by kernel_rfl) (by decide) (hm_cons ?_ (hm_cons ?_ hm_nil))
       ·
        refine ho_ rfl <| i_ H10 rfl (dd_get HSh1 0 0 rfl rfl (H10.ev 3 rfl) rfl Try.underlying27 rfl) fun _ H11 => sx_ (sxi HSh1 [0, 1] rfl) fun hx12 => h1_ 10 rfl <| n_ H11 rfl (fun _ h => dd_lit1 HSh1 (z := .agg (catA [[.int .i64 0], bytesV (zer 32)])) (sz := 33) rfl (H11.ev 17 rfl) Try.underlying27 (by kernel_rfl) (cat_size (lens_cons rfl (lens_cons (len_bv (chk_len hq hx)) (lens_nil)))) rfl rfl h) fun g18 _ HS13 _ H13 => sx_ (sxi HS13 [0, 1, 2] rfl) fun hx14 => h1_ 11 rfl <| a_ H13 rfl (fun g19_16 c19_16 => .slice (some ⟨g19_16, 0, none⟩) (pre.length + 1) c19_16) (T := fun _ c19_16 cb19_16 => OwnC cb19_16 c19_16 (pre.length + 1) 33 ((putsL q pre) ++ (catA [[.int .i64 (bd (q.getD (33 * x.1) 0#8))], bytesV ((q.drop (33 * x.1 + 1)).take 32)]).toList)) (fun _ h => dd_app HS13 1 rfl O rfl (H13.ev 8 rfl) (z := .agg (catA [[.int .i64 0], bytesV (zer 32)])) (bytes := 40) Try.underlying27 (by kernel_rfl) rfl (by decide) ((catA [[.int .i64 (bd (q.getD (33 * x.1) 0#8))], bytesV ((q.drop (33 * x.1 + 1)).take 32)]).toList) (H13.ev 18 rfl) (lenA (cat_size (lens_cons rfl (lens_cons (len_bv (chk_len hq hx)) (lens_nil))))) (row_news (HS13.row 2 rfl) 0 (slabA (slab_whole _))) (all_one (cat_one (ones_cons (ones_c rfl) (ones_cons (one_bytesV _) (ones_nil))))) (by unfold maxLen; omega) (by omega) h) fun g19_16 c19_16 cb19_16 _ O19_16 HS15 _ H15 => sx_ (sxi HS15 [0, 1, 2] rfl) fun hx17 => h1_ 12 rfl <| t_ rfl (fun _ h => dd_put (cs := #[.slice (some ⟨g19_16, 0, none⟩) (pre.length + 1) c19_16]) HS15 0 0 rfl rfl (H15.ev 3 rfl) (H15.ev 19 rfl) (by kernel_rfl) rfl rfl rfl rfl h) fun _ HS18 => sx_ (sxi HS18 [0, 1, 2] rfl) fun hx19 => ?_
        clear H10 HSh1 H11 hx12 HS13 H13 hx14 HS15
        clear hx17
        refine wpAnyH_done (by kernel_rfl) ?_ _
        clear hx19
        exact nx ⟨g19_16, c19_16, _, cb19_16, O19_16, H15.sel [] rfl, ss HS18 [0, 1, 2]⟩
       refine ho_ rfl <| n_ H10 rfl (fun _ h => dd_lit1 HSh1 (z := .agg (catA [[.int .i64 0], bytesV (zer 32)])) (sz := 33) rfl (H10.ev 17 rfl) Try.underlying27 (by kernel_rfl) (cat_size (lens_cons rfl (lens_cons (len_bv (chk_len hq hx)) (lens_nil)))) rfl rfl h) fun g18 _ HS20 _ H20 => sx_ (sxi HS20 [0, 1, 2] rfl) fun hx21 => h1_ 0 rfl <| i_ H20 rfl (dd_get HS20 0 0 rfl rfl (H20.ev 3 rfl) rfl Try.underlying27 rfl) fun _ H22 => sx_ (sxi HS20 [0, 1, 2] rfl) fun hx23 => h1_ 11 rfl <| a_ H22 rfl (fun g19_25 c19_25 => .slice (some ⟨g19_25, 0, none⟩) (pre.length + 1) c19_25) (T := fun _ c19_25 cb19_25 => OwnC cb19_25 c19_25 (pre.length + 1) 33 ((putsL q pre) ++ (catA [[.int .i64 (bd (q.getD (33 * x.1) 0#8))], bytesV ((q.drop (33 * x.1 + 1)).take 32)]).toList)) (fun _ h => dd_app HS20 1 rfl O rfl (H22.ev 8 rfl) (z := .agg (catA [[.int .i64 0], bytesV (zer 32)])) (bytes := 40) Try.underlying27 (by kernel_rfl) rfl (by decide) ((catA [[.int .i64 (bd (q.getD (33 * x.1) 0#8))], bytesV ((q.drop (33 * x.1 + 1)).take 32)]).toList) (H22.ev 18 rfl) (lenA (cat_size (lens_cons rfl (lens_cons (len_bv (chk_len hq hx)) (lens_nil))))) (row_news (HS20.row 2 rfl) 0 (slabA (slab_whole _))) (all_one (cat_one (ones_cons (ones_c rfl) (ones_cons (one_bytesV _) (ones_nil))))) (by unfold maxLen; omega) (by omega) h) fun g19_25 c19_25 cb19_25 _ O19_25 HS24 _ H24 => sx_ (sxi HS24 [0, 1, 2] rfl) fun hx26 => h1_ 12 rfl <| t_ rfl (fun _ h => dd_put (cs := #[.slice (some ⟨g19_25, 0, none⟩) (pre.length + 1) c19_25]) HS24 0 0 rfl rfl (H24.ev 3 rfl) (H24.ev 19 rfl) (by kernel_rfl) rfl rfl rfl rfl h) fun _ HS27 => sx_ (sxi HS27 [0, 1, 2] rfl) fun hx28 => ?_
       clear HSh1 H10 H20 hx21 HS20 H22 hx23 HS24
       clear hx26
       refine wpAnyH_done (by kernel_rfl) ?_ _
       clear hx28
       exact nx ⟨g19_25, c19_25, _, cb19_25, O19_25, H24.sel [] rfl, ss HS27 [0, 1, 2]⟩
      rintro aj1 wj1 ⟨g19_16, c19_16, g18, cb19_16, O19_16, Hj1, HSj1⟩
      refine bn <| ?_
      have k9 := ss HSj1 [0, 2]
      exact ⟨keeps_st HSf k9, kpb_st k9 hn0 (by intro r hr; rcases List.mem_cons.1 hr with rfl | hr; exact .inl rfl; rw [List.mem_singleton] at hr; subst hr; exact .inr hg), .inr ⟨g19_16, c19_16, cb19_16, (new_own HSf k9 hn0 hg), Nat.le_trans hn0 k9.chg.size, by rw [List.length_append]; exact Nat.succ_pos _, (putsL_S O19_16), by rw [List.length_append]; exact St.unframe HS k9⟩⟩
  case done =>
    rintro D ys W hD rfl hI hK
    rcases hI with ⟨he, _, HS⟩ | ⟨g, c2, cb, hg, _, hpos, O, HS⟩
    · have hm0 : m = 0 := by have := congrArg List.length he; simpa using this
      have hb := (HS.row 0 rfl).get (i := 0) rfl
      have hB := HS.below
      have HB := Lib.hid hB
      clear hB HS
      gi_wp2
      refine ⟨by simp, .inl ⟨_, _, rfl, run_takeDeferred hK, ?_⟩⟩
      refine ⟨_, results_tmp rfl _ _ _, ⟨_, rfl, fun _ => rfl, ?_, HB.out.trans (belowK_b (w := w) (Nat.le_refl _) W D _ _ (by omega) hK rfl rfl)⟩⟩
      subst hm0
      exact World.ownsRow_nil _ _ _ _
    · have hb := (HS.row 0 rfl).get (i := 0) rfl
      have hrow := ownc_to (HS.row 1 rfl) O (show w.heap.size ≤ g by omega)
      rw [putsL_all, List.length_finRange] at hrow
      rw [List.length_finRange] at hpos
      have hpm : m ≠ 0 := by omega
      clear hpos
      have hB := HS.below
      have HB := Lib.hid hB
      have HO := Lib.hid hrow
      clear hB HS hrow O
      gi_wp2
      refine ⟨by simp, .inl ⟨_, _, rfl, run_takeDeferred hK, ?_⟩⟩
      refine ⟨_, results_tmp rfl _ _ _, ⟨_, rfl, fun e => absurd e hpm, ?_, HB.out.trans (belowK_b (w := w) (Nat.le_refl _) W D _ _ (by omega) hK rfl rfl)⟩⟩
      have h9 := ownsRow_putObj HO.out (.deferred none) hK rfl
      simpa using h9
  case stop =>
    rintro D c pre W _ _ h _
    exact h.elim
end Go.Proofs.Ytbdpocbnkgckhaa

/- The packet of bytes, plainly. -/
set_option maxRecDepth 4000
namespace Go.Proofs.Ytbdpocbnkgckhaa
open Go Go.RowKit
theorem cat_bat {w : World} {g o : Nat} {q : List (BitVec 8)} (h : BAt w g o q) : CAt w g o (bytesV q) := ⟨h.lt, fun j v hv => by
  unfold bytesV at hv
  rw [List.getElem?_map] at hv
  cases hx : q[j]? with
  | none => rw [hx] at hv; cases hv
  | some x => rw [hx] at hv; injection hv with hv; subst hv; exact h.at_ j x hx⟩
def cntP (q : List (BitVec 8)) : Nat := (q.getD 9 0#8).toNat
def lP (q : List (BitVec 8)) : List Pt := (List.range (cntP q)).map (chunkP ((q.drop 10).take (33 * cntP q)))
def pktP (q : List (BitVec 8)) : Pkt := ⟨bd (q.getD 0 0#8), lv 1 q, lv 5 q, lP q⟩
def pkOk (q : List (BitVec 8)) : Bool := decide (12 ≤ q.length) && (decide (q.length = 12 + 33 * cntP q) && (mayP (pktP q) && decide (encP (pktP q) = q)))
theorem pk_no1 {q : List (BitVec 8)} {n : Nat} (hn : q.length = n) (h : n < 12) : pkOk q = false := by unfold pkOk; rw [decide_eq_false (by omega), Bool.false_and]
theorem pk_no2 {q : List (BitVec 8)} {n : Nat} (hn : q.length = n) (h : ¬ n = 12 + 33 * cntP q) : pkOk q = false := by unfold pkOk; rw [show decide (q.length = 12 + 33 * cntP q) = false from decide_eq_false (by rw [hn]; exact h)]; simp
theorem pk_no3 {q : List (BitVec 8)} (h : mayP (pktP q) = false) : pkOk q = false := by unfold pkOk; rw [h]; simp
theorem pk_no4 {q : List (BitVec 8)} (h : decide (encP (pktP q) = q) = false) : pkOk q = false := by unfold pkOk; rw [h]; simp
theorem pk_yes {q : List (BitVec 8)} {n : Nat} (hn : q.length = n) (h1 : ¬ n < 12) (h2 : n = 12 + 33 * cntP q) (h3 : mayP (pktP q) = true) (h4 : decide (encP (pktP q) = q) = true) : pkOk q = true := by
  unfold pkOk; rw [decide_eq_true (by omega), decide_eq_true (by omega), h3, h4]; rfl
theorem lP_ok {q : List (BitVec 8)} (h : q.length = 12 + 33 * cntP q) : ∀ x ∈ lP q, x.2.length = 32 ∧ -9223372036854775808 ≤ x.1 ∧ x.1 < 9223372036854775808 := fun x hx => by
  obtain ⟨k, hk, rfl⟩ := List.mem_map.1 hx
  rw [List.mem_range] at hk
  refine ⟨chk_len (m := cntP q) (by rw [List.length_take, List.length_drop]; omega) (x := ⟨k, hk⟩) hk, ?_⟩
  have := bd_lo (((q.drop 10).take (33 * cntP q)).getD (33 * k) 0#8)
  have := bd_hi (((q.drop 10).take (33 * cntP q)).getD (33 * k) 0#8)
  exact ⟨by simp only [chunkP]; omega, by simp only [chunkP]; omega⟩
def OwnP (w w' : World) (sl : Value) (n : Nat) (l : List Pt) : Prop := (n = 0 ∧ sl = .slice none 0 0) ∨ (0 < n ∧ ∃ g c cb, sl = .slice (some ⟨g, 0, none⟩) n c ∧ w.heap.size ≤ g ∧ Row w' g 43 cb ∧ OwnC cb c n 33 (l.map pcell).flatten)
theorem putsfrom_0 (b o N c : Nat) (q : List (BitVec 8)) (w : World) (hN : N = 0) (hc : N ≤ c) (hB : BAt w b o q) (hq : q.length = N) : Calls Try.prog 34 #[.slice (some ⟨b, o, none⟩) N c] w fun e w' => e = .returned (.slice none 0 0) ∧ Below w.heap.size w w' := by
  subst hN
  refine (putsfrom_any b o c 0 q w hq (by decide) hc (cat_bat hB)).mono ?_
  rintro e w' ⟨v, rfl, hz, _, hb⟩
  rw [hz rfl]
  exact ⟨rfl, hb⟩
theorem putsfrom_S (b o N c m : Nat) (q : List (BitVec 8)) (w : World) (hN : N = 33 * m) (h0 : 0 < m) (hm : m ≤ 1000) (hc : N ≤ c) (hB : BAt w b o q) (hq : q.length = N) : Calls Try.prog 34 #[.slice (some ⟨b, o, none⟩) N c] w fun e w' => ∃ g c' cb, e = .returned (.slice (some ⟨g, 0, none⟩) m c') ∧ w.heap.size ≤ g ∧ Row w' g 43 cb ∧ OwnC cb c' m 33 (((List.range m).map (chunkP q)).map pcell).flatten ∧ Below w.heap.size w w' := by
  subst hN
  refine (putsfrom_any b o c m q w hq hm hc (cat_bat hB)).mono ?_
  rintro e w' ⟨v, rfl, _, ho, hb⟩
  obtain ⟨g, c', cb, rfl, h1, h2, h3⟩ := ownc_pos ho h0
  exact ⟨g, c', cb, rfl, h1, h2, h3, hb⟩
def pktN (q : List (BitVec 8)) (n : Nat) : Pkt := ⟨bd (q.getD 0 0#8), lv 1 q, lv 5 q, (List.range n).map (chunkP ((q.drop 10).take (33 * n)))⟩
theorem puts_ownl {w : World} {base n : Nat} {v : Value} {l : List Pt} (hn : l.length = n) (h : w.ownsRow base 43 33 v n (l.map pcell).flatten) (hl : ∀ x ∈ l, x.2.length = 32 ∧ -9223372036854775808 ≤ x.1 ∧ x.1 < 9223372036854775808) : PutsAt w v l := by
  subst hn
  exact puts_own h hl
theorem pn_len (q : List (BitVec 8)) (n : Nat) : (pktN q n).l.length = n := by
  show ((List.range n).map _).length = n
  rw [List.length_map, List.length_range]
theorem puts_nil (w : World) : PutsAt w (.slice none 0 0) [] := ⟨none, 0, rfl, Nat.le_refl _, (fun x hx => by cases hx), fun h => absurd rfl h⟩
theorem pn_nil {w : World} {q : List (BitVec 8)} {n : Nat} (h : n = 0) : PutsAt w (.slice none 0 0) (pktN q n).l := by
  subst h
  exact puts_nil w
end Go.Proofs.Ytbdpocbnkgckhaa

/- The head that bytes begin with. -/
set_option maxRecDepth 4000
namespace Go.Proofs.Ytbdpocbnkgckhaa
open Go Go.RowKit
theorem lv_drop (k : Nat) (q : List (BitVec 8)) : lv 0 (q.drop k) = lv k q := by
  have e : ∀ j, (q.drop k).getD j 0#8 = q.getD (k + j) 0#8 := fun j => by rw [List.getD_eq_getElem?_getD, List.getD_eq_getElem?_getD, List.getElem?_drop]
  unfold lv sv
  simp only [e, Nat.zero_add, Nat.add_zero, Nat.add_assoc]
theorem long_lv (b off n c k : Nat) (q : List (BitVec 8)) (w : World) (hB : BAt w b off q) (hq : k + 4 ≤ q.length) (hn : 4 ≤ n) (hc : n ≤ c) : Calls Try.prog 44 #[.slice (some ⟨b, off + k, none⟩) n c] w fun e w' => e = .returned (.int .u32 (wd (lv k q))) ∧ Below w.heap.size w w' := by
  rw [← lv_drop]
  exact long_at b (off + k) n c (q.drop k) w (hB.drop k) (by rw [List.length_drop]; omega) hn hc
set_option maxHeartbeats 800000 in
theorem headfrom_any (b off n c : Nat) (q : List (BitVec 8)) (w : World) (hB : BAt w b off q) (hq : q.length = n) (hn : 12 ≤ n) (hc : n ≤ c) : Calls Try.prog 33 #[.slice (some ⟨b, off, none⟩) n c] w fun x w' => x = .returned (.agg #[.int .i64 (bd (q.getD 0 0#8)), .int .u32 (wd (lv 1 q)), .int .u32 (wd (lv 5 q)), .int .i64 (bd (q.getD 9 0#8))]) ∧ Below w.heap.size w w' := by
  have HS := St.nil w noF
  have HB : ∀ W, Below w.heap.size w W → BAt W b off q := fun W hb => hB.call hb
  refine enter_en Try.func33 rfl Try.ntmps33 (Nat.le_of_ble_eq_true rfl) fun a0 (HA0 : En 19 [(0, .slice (some ⟨b, off, none⟩) n c)] a0) => ?_
  refine sq_ <| rl_ <| wl_ <| n_ HA0 rfl (fun _ h => dd_new HS #[.int .i64 0, .int .u32 0, .int .u32 0, .int .i64 0] rfl (z := .agg #[.int .i64 0, .int .u32 0, .int .u32 0, .int .i64 0]) (by kernel_rfl) rfl h) fun _ W1 HS1 _ H1 => ln_ <| nx <| sq_ <| ?_
  clear HS HA0
  refine wi_ HS1 [] rfl [0] rfl fun HSh2 hx2 => hp_ H1 0 hx2 rfl rfl rfl fun _ H3 => ht_ H3 1 hx2 rfl rfl (fun _ _ _ => xSo 1 (off + 0) rfl (H3.ev 3 rfl) rfl) fun _ H4 => ht_ H4 2 hx2 rfl rfl (fun _ _ HS9 => dd_at rfl (H4.ev 4 rfl) ((HB _ HS9.below).get 0 (by rw [hq]; omega)) Try.underlying5 rfl) fun _ H5 => ht_ H5 3 hx2 rfl rfl (v := .int .i64 (bd (q.getD 0 0#8))) (fun _ _ _ => dd_conv (k := .i64) rfl (H5.ev 5 rfl) Try.underlying5 (by kernel_rfl) (i64_bdA _)) fun _ H6 => hp_ H6 4 hx2 rfl rfl rfl fun _ H7 => ht_ H7 5 hx2 rfl rfl (v := .slice (some ⟨b, off + 1, none⟩) (n - 1) (c - 1)) (fun _ _ _ => dd_sll (l := 1) (sz := 1) rfl (H7.ev 7 rfl) rfl (by kernel_rfl) (by omega) (by omega) rfl rfl rfl) fun _ H8 => hp_ H8 7 hx2 rfl rfl rfl fun _ H9 => ?_
  clear HS1 H1 H3 H4 H5 H6 H7
  refine ht_ H9 8 hx2 rfl rfl (v := .slice (some ⟨b, off + 5, none⟩) (n - 5) (c - 5)) (fun _ _ _ => dd_sll (l := 5) (sz := 1) rfl (H9.ev 10 rfl) rfl (by kernel_rfl) (by omega) (by omega) rfl rfl rfl) fun _ H10 => hp_ H10 11 hx2 rfl rfl rfl fun _ H11 => ht_ H11 12 hx2 rfl rfl (fun _ _ _ => xSo 1 (off + 9) rfl (H11.ev 14 rfl) rfl) fun _ H12 => ht_ H12 13 hx2 rfl rfl (fun _ _ HS9 => dd_at rfl (H12.ev 15 rfl) ((HB _ HS9.below).get 9 (by rw [hq]; omega)) Try.underlying5 rfl) fun _ H13 => ht_ H13 14 hx2 rfl rfl (v := .int .i64 (bd (q.getD 9 0#8))) (fun _ _ _ => dd_conv (k := .i64) rfl (H13.ev 16 rfl) Try.underlying5 (by kernel_rfl) (i64_bdA _)) fun _ H14 => h1_ 6 rfl <| c_ H14 rfl HSh2 (dcs Try.func44 rfl (args1 (H14.ev 8 rfl)) (long_lv b off (n - 1) (c - 1) 1 q W1.drew (HB _ HSh2.below) (by omega) (by omega) (by omega)) (.int .u32 (wd (lv 1 q)))) fun W15 HS15 _ H15 => sx_ (sxi HS15 [0] rfl) fun hx16 => h1_ 9 rfl <| c_ H15 rfl HS15 (dcs Try.func44 rfl (args1 (H15.ev 11 rfl)) (long_lv b off (n - 5) (c - 5) 5 q W15 (HB _ HS15.below) (by omega) (by omega) (by omega)) (.int .u32 (wd (lv 5 q)))) fun _ HS17 _ H17 => ?_
  clear H8 H9 H10 H11 H12 H13 H14 HSh2 hx2
  refine sx_ (sxi HS17 [0] rfl) fun hx18 => ht_ H17 10 hx18 rfl rfl (v := .agg #[.int .u32 (wd (lv 1 q)), .int .u32 (wd (lv 5 q))]) (fun _ _ _ => dd_bld rfl (ps := [(0, .int .u32 (wd (lv 1 q))), (1, .int .u32 (wd (lv 5 q)))]) (pr1 (H17.ev 9 rfl) (pr1 (H17.ev 12 rfl) (pr0))) (Lz := [[.int .u32 0], [.int .u32 0]]) (by kernel_rfl) (lens_cons rfl (lens_cons rfl (lens_nil))) (fit_cons (i := 0) rfl rfl (fit_cons (i := 1) rfl rfl (fit_nil))) (cs := #[.int .u32 (wd (lv 1 q)), .int .u32 (wd (lv 5 q))]) rfl) fun _ H19 => ht_ H19 15 hx18 rfl rfl (v := .agg #[.int .i64 (bd (q.getD 0 0#8)), .int .u32 (wd (lv 1 q)), .int .u32 (wd (lv 5 q)), .int .i64 (bd (q.getD 9 0#8))]) (fun _ _ _ => dd_bld rfl (ps := [(0, .int .i64 (bd (q.getD 0 0#8))), (1, .agg #[.int .u32 (wd (lv 1 q)), .int .u32 (wd (lv 5 q))]), (2, .int .i64 (bd (q.getD 9 0#8)))]) (pr1 (H19.ev 6 rfl) (pr1 (H19.ev 13 rfl) (pr1 (H19.ev 17 rfl) (pr0)))) (Lz := [[.int .i64 0], #[.int .u32 0, .int .u32 0].toList, [.int .i64 0]]) (by kernel_rfl) (lens_cons rfl (lens_cons ((Array.length_toList).trans rfl) (lens_cons rfl (lens_nil)))) (fit_cons (i := 0) rfl rfl (fit_cons (i := 1) rfl rfl (fit_cons (i := 2) rfl rfl (fit_nil)))) (cs := #[.int .i64 (bd (q.getD 0 0#8)), .int .u32 (wd (lv 1 q)), .int .u32 (wd (lv 5 q)), .int .i64 (bd (q.getD 9 0#8))]) rfl) fun _ H20 => h1_ 16 rfl <| t_ rfl (fun _ h => dd_setrow HS17 0 rfl rfl (H20.ev 2 rfl) (H20.ev 18 rfl) (by kernel_rfl) (rfl : #[.int .i64 (bd (q.getD 0 0#8)), .int .u32 (wd (lv 1 q)), .int .u32 (wd (lv 5 q)), .int .i64 (bd (q.getD 9 0#8))].size = 4) (rfl : #[.int .i64 0, .int .u32 0, .int .u32 0, .int .i64 0].size = 4) (one_l (ao_cons rfl (ao_cons rfl (ao_cons rfl (ao_cons rfl ao_nil))))) h) fun _ HS21 => sx_ (sxi HS21 [0] rfl) fun hx22 => ?_
  clear H15 HS15 hx16 H17 H19 HS17 hx18
  refine wpAnyH_done (by kernel_rfl) ?_ _
  clear hx22
  refine nx <| wp_ret <| ret_run H20.env0 (res_c Try.results33 (H20.get 2 rfl) (HS21.row 0 rfl) Try.underlying88 rfl (by kernel_rfl)) <| ?_
  exact ⟨rfl, HS21.below⟩
end Go.Proofs.Ytbdpocbnkgckhaa
