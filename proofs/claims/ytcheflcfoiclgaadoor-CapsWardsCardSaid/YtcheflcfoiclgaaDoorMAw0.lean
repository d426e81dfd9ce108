/- Merged: Aw AwS AwD AwM AwH AwL AwN AwQ AwT CapSpec CapPrg CapRef AwR TabFresh CapOwn CapWakes. -/
import Derived.OrdersHeld
import Derived.Test.YtcheflcfoiclgaaDoorMGen0
import Derived.Test.YtcheflcfoiclgaaDoorMStr0
import Derived.Test.YtcheflcfoiclgaaDoorMLabel0
/- Walks whose every step is one lemma: the frame as a list of slots that are known; regions in order, and regions that draw. No function of the program is named here. -/
set_option maxRecDepth 4000
namespace Go.Proofs.YtcheflcfoiclgaaDoor
open Go Go.RowKit
/- the frame, as far as it is known -/
structure Env (N : Nat) (L : List (Nat × Value)) (a : Act) : Prop where
  size : a.tmps.size = N
  defers : a.defers = []
  at_ : ∀ (i k : Nat) (v : Value), L[i]? = some (k, v) → a.tmps[k]? = some v
def kp (L : List (Nat × Value)) : List Nat → List (Nat × Value)
  | [] => []
  | i :: is => match L[i]? with
    | some p => p :: kp L is
    | none => kp L is
def setd : Option Tmp → Value → List (Nat × Value) → List (Nat × Value)
  | some d, v, L => (d, v) :: L
  | none, _, L => L
def okd : Option Tmp → Nat → List (Nat × Value) → Bool
  | some d, N, L => Nat.blt d N && L.all fun p => !Nat.beq p.1 d
  | none, _, _ => true
theorem kp_at (L : List (Nat × Value)) : ∀ (is : List Nat) (i : Nat) (p : Nat × Value), (kp L is)[i]? = some p → ∃ j : Nat, L[j]? = some p
  | [], i, p, h => by simp [kp] at h
  | j :: is, i, p, h => by
    unfold kp at h
    cases hj : L[j]? with
    | none => rw [hj] at h; exact kp_at L is i p h
    | some q =>
      rw [hj] at h
      cases i with
      | zero => exact ⟨j, by rw [hj]; simpa using h⟩
      | succ i => exact kp_at L is i p (by simpa using h)
section
variable {P : Program} {N : Nat} {L : List (Nat × Value)} {a : Act}
theorem Env.ev (h : Env N L a) (i : Nat) {k : Nat} {v : Value} (hi : L[i]? = some (k, v)) : a.eval (.tmp k) = v := eval_of_get (h.at_ i k v hi)
theorem Env.get (h : Env N L a) (i : Nat) {k : Nat} {v : Value} (hi : L[i]? = some (k, v)) : a.tmps[k]? = some v := h.at_ i k v hi
theorem Env.keep (h : Env N L a) (is : List Nat) : Env N (kp L is) a := ⟨h.size, h.defers, fun i k v hi => by obtain ⟨j, hj⟩ := kp_at L is i (k, v) hi; exact h.at_ j k v hj⟩
theorem Env.put (h : Env N L a) (is : List Nat) (d : Option Tmp) (v : Value) (hk : okd d N (kp L is) = true) : Env N (setd d v (kp L is)) (a.put d v) := by
  cases d with
  | none => exact h.keep is
  | some d =>
    simp only [okd, Bool.and_eq_true, List.all_eq_true] at hk
    have hd : d < N := by have := hk.1; unfold Nat.blt at this; exact Nat.le_of_ble_eq_true this
    refine ⟨by simp [Act.put, h.size], h.defers, fun i k u hi => ?_⟩
    cases i with
    | zero =>
      have hi : (d, v) = (k, u) := by simpa [setd] using hi
      injection hi with h1 h2
      subst h1 h2
      simp [Act.put, h.size, hd]
    | succ i =>
      have hi : (kp L is)[i]? = some (k, u) := by simpa [setd] using hi
      have h1 := hk.2 _ (List.mem_of_getElem? hi)
      have hne : d ≠ k := fun e => by subst e; simp at h1
      obtain ⟨j, hj⟩ := kp_at L is i (k, u) hi
      simp only [Act.put]
      rw [Array.getElem?_setIfInBounds_ne hne]
      exact h.at_ j k u hj
theorem env_nil (hs : a.tmps.size = N) (hd : a.defers = []) : Env N [] a := ⟨hs, hd, fun i k v h => by simp at h⟩
def argL : List Value → Nat → List (Nat × Value)
  | [], _ => []
  | v :: vs, i => (i, v) :: argL vs (i + 1)
end
/- code -/
section
variable {P : Program} {Q Q' : Exit → Act → World → Prop} {K : Act → World → Prop} {a : Act} {w : World} {id j : Nat} {x y : Code}
theorem nx (h : K a w) : Exit.then K Q .normal a w := h
theorem tr (h : Q .ret a w) : Exit.then K Q .ret a w := h
theorem bn (h : Q .normal a w) : Exit.inBlock id Q .normal a w := h
theorem br_ (h : Q .ret a w) : Exit.inBlock id Q .ret a w := h
end
/- what a call tells when it returns -/
section
variable {P : Program} {fn : Func} {R : Ending → World → Prop} {N : Nat} {L : List (Nat × Value)} {a : Act} {w : World}
theorem ret_run (HA : Env N L a) {v : Value} (hv : (results fn a.tmps).run P w = .ok v w) (h : R (.returned v) w) : bodyPost P fn R .ret a w := ⟨HA.defers, v, hv, h⟩
theorem getD_get2 {t : Array Value} {k : Nat} {v : Value} (h : t[k]? = some v) : (t[k]?).getD undef = v := by rw [h]; rfl
theorem res_t {t : Array Value} {i : Nat} {v : Value} (hr : fn.results = #[.tmp i]) (h1 : t[i]? = some v) : (results fn t).run P w = .ok v w := by
  unfold results; simp [hr, getD_get2 h1]
theorem load_cell {g : Nat} {ty t : TypeId} {cs : Array Value} {d : TypeDesc} (hg : Row w g t cs) (hu : P.underlying ty = some d) (hd : (match d with | .struct _ | .array _ _ => true | _ => false) = true) (hi : (P.info? ty).map (·.size) = some cs.size) : (loadVar ty ⟨g, 0, none⟩).run P w = .ok (.agg cs) w := run_loadVar_row w g t ty cs (0, 0) d hg hu hd hi
theorem res_c {t : Array Value} {i g : Nat} {ty ty' : TypeId} {cs : Array Value} {d : TypeDesc} (hr : fn.results = #[.cell i ty]) (h1 : t[i]? = some (.pointer (some ⟨g, 0, none⟩))) (hg : Row w g ty' cs) (hu : P.underlying ty = some d) (hd : (match d with | .struct _ | .array _ _ => true | _ => false) = true) (hi : (P.info? ty).map (·.size) = some cs.size) : (results fn t).run P w = .ok (.agg cs) w := by
  unfold results; simp [hr, getD_get2 h1, asAddr, load_cell hg hu hd hi]
theorem res_ct {t : Array Value} {i g j : Nat} {u : Value} {ty ty' : TypeId} {cs : Array Value} {d : TypeDesc} (hr : fn.results = #[.cell i ty, .tmp j]) (h1 : t[i]? = some (.pointer (some ⟨g, 0, none⟩))) (hg : Row w g ty' cs) (hu : P.underlying ty = some d) (hd : (match d with | .struct _ | .array _ _ => true | _ => false) = true) (hi : (P.info? ty).map (·.size) = some cs.size) (h2 : t[j]? = some u) : (results fn t).run P w = .ok (.tuple #[.agg cs, u]) w := by
  unfold results; simp [hr, getD_get2 h1, getD_get2 h2, asAddr, load_cell hg hu hd hi]
end
end Go.Proofs.YtcheflcfoiclgaaDoor

/- The steps of a walk: one operation in a region that goes in order, or that draws. No function of the program is named here. -/
set_option maxRecDepth 4000
namespace Go.Proofs.YtcheflcfoiclgaaDoor
open Go Go.RowKit
section
variable {P : Program} {Q : Exit → Act → World → Prop} {ops : Array Oper} {rest : List Oper} {o : Oper} {N : Nat} {L : List (Nat × Value)} {a : Act} {w : World}
theorem want_n (hg : o.guard = none) : Region.wanted o (yielded ops a.tmps) = true := by simp [Region.wanted, hg]
theorem want_g {j t : Nat} {b c d : Bool} (hg : o.guard = some (j, b)) (hd : dstAt ops j = some t) (ht : a.tmps[t]? = some (.bool c)) (h : (c == b) = d) : Region.wanted o (yielded ops a.tmps) = d := by
  unfold dstAt at hd
  simp only [Region.wanted, hg, yielded, hd, Option.bind_some, ht]
  rw [← h]; cases c <;> cases b <;> rfl
end
/- what a step knows of the slots -/
section
variable {ops : Array Oper} {n : Nat} {Vl : List (Value → World → Prop)} {a a0 : Act} {x : Nat → Value} {w : World} {o : Oper} {N : Nat} {L : List (Nat × Value)}
end
end Go.Proofs.YtcheflcfoiclgaaDoor

/- What the operations yield, one by one. No function of the program is named here. -/
set_option maxRecDepth 4000
namespace Go.Proofs.YtcheflcfoiclgaaDoor
open Go Go.RowKit
theorem i64_bdA (x : BitVec 8) : IntKind.i64.wrap (bd x) = bd x := by rw [IntKind.wrap_i64]; have := bd_lo x; have := bd_hi x; omega
def fieldOff (P : Program) (s : TypeId) (f : Nat) : Option Nat :=
  match P.underlying s with
  | some (.struct fields) => match fields[f]? with
    | some fd => match (P.info? fd.type).map (·.size) with
      | some (_ + 1) => some fd.offset
      | _ => none
    | none => none
  | _ => none
def arrOf (P : Program) (t : TypeId) : Option (Nat × Nat) :=
  match P.underlying t with
  | some (.array n e) => (P.info? e).map fun i => (n, i.size)
  | _ => none
def intOfT (P : Program) (t : TypeId) : Option IntKind :=
  match P.underlying t with
  | some (.int k) => some k
  | _ => none
def cmpI : BinOp → Int → Int → Option Bool
  | .eql, x, y => some (x == y)
  | .neq, x, y => some (x != y)
  | .lss, x, y => some (decide (x < y))
  | .leq, x, y => some (decide (x ≤ y))
  | .gtr, x, y => some (decide (x > y))
  | .geq, x, y => some (decide (x ≥ y))
  | _, _, _ => none
def ariI : BinOp → Int → Int → Option Int
  | .add, x, y => some (x + y)
  | .sub, x, y => some (x - y)
  | .mul, x, y => some (x * y)
  | _, _, _ => none
section
variable {P : Program} {o : Oper} {a : Act} {w : World} {R : Value → World → Prop}
theorem dd_mv {x : Operand} {v : Value} (ho : o.op = .move x) (hx : a.eval x = v) : (execOp a.eval o).run P w = .ok (.value v) w :=
  by simp only [execOp, ho, hx, Sem.run_pure]
theorem dd_as {x : Operand} {v : Value} (ho : o.op = .assign x) (hx : a.eval x = v) : (execOp a.eval o).run P w = .ok (.value v) w :=
  by simp only [execOp, ho, hx, Sem.run_pure]
theorem dd_pickT {c x y : Operand} {v : Value} (ho : o.op = .pick c x y) (hc : a.eval c = .bool true) (hx : a.eval x = v) : (execOp a.eval o).run P w = .ok (.value v) w :=
  by simp [execOp, ho, hc, hx, asBool]
theorem dd_pickF {c x y : Operand} {v : Value} (ho : o.op = .pick c x y) (hc : a.eval c = .bool false) (hy : a.eval y = v) : (execOp a.eval o).run P w = .ok (.value v) w :=
  by simp [execOp, ho, hc, hy, asBool]
theorem dd_nt {ty : TypeId} {x : Operand} {b c : Bool} (ho : o.op = .unOp .not ty x) (hx : a.eval x = .bool b) (hc : (!b) = c) : (execOp a.eval o).run P w = .ok (.value (.bool c)) w :=
  by simp [execOp, ho, hx, Op.unary, ← hc]
theorem dd_ext {x : Operand} {i : Nat} {vs : Array Value} {v : Value} (ho : o.op = .extract x i) (hx : a.eval x = .tuple vs) (hv : vs[i]? = some v) : (execOp a.eval o).run P w = .ok (.value v) w :=
  by simp [execOp, ho, hx, Instr.extract, hv]
theorem dd_cmp {op : BinOp} {ty ty2 : TypeId} {x y : Operand} {k : IntKind} {m n : Int} {b : Bool} (ho : o.op = .binOp op ty x y ty2) (hx : a.eval x = .int k m) (hy : a.eval y = .int k n) (hb : cmpI op m n = some b) : (execOp a.eval o).run P w = .ok (.value (.bool b)) w := by
  cases op <;> simp [cmpI] at hb <;> simp [execOp, ho, hx, hy, eqGuard, binOp, Op.intCmp, ← hb]
theorem dd_ari {op : BinOp} {ty ty2 : TypeId} {x y : Operand} {k : IntKind} {m n z z' : Int} (ho : o.op = .binOp op ty x y ty2) (hx : a.eval x = .int k m) (hy : a.eval y = .int k n) (hz : ariI op m n = some z') (hk : k.wrap z' = z) : (execOp a.eval o).run P w = .ok (.value (.int k z)) w := by
  cases op <;> simp [ariI] at hz <;> simp [execOp, ho, hx, hy, eqGuard, binOp, Op.intArith, hz, hk]
theorem dd_bits {op : BinOp} {ty ty2 : TypeId} {x y : Operand} {k : IntKind} {m n z : Int} (ho : o.op = .binOp op ty x y ty2) (hop : op = .and ∨ op = .or ∨ op = .xor ∨ op = .andNot) (hx : a.eval x = .int k m) (hy : a.eval y = .int k n) (hz : Op.intBits op k m n = pure (.int k z)) : (execOp a.eval o).run P w = .ok (.value (.int k z)) w := by
  rcases hop with rfl | rfl | rfl | rfl <;> simp [execOp, ho, hx, hy, eqGuard, binOp, hz]
theorem dd_nes {ty ty2 : TypeId} {x y : Operand} {s t : ByteArray} {b : Bool} (ho : o.op = .binOp .neq ty x y ty2) (hx : a.eval x = .string s) (hy : a.eval y = .string t) (hb : (s.toList != t.toList) = b) : (execOp a.eval o).run P w = .ok (.value (.bool b)) w := by
  simp [execOp, ho, hx, hy, eqGuard, binOp, Op.stringOp, ← hb, bne]
theorem dd_conv {src dst : TypeId} {x : Operand} {k k' : IntKind} {n z : Int} {d : TypeDesc} (ho : o.op = .convert src dst x) (hx : a.eval x = .int k' n) (hs : P.underlying src = some d) (hd : intOfT P dst = some k) (hz : k.wrap n = z) : (execOp a.eval o).run P w = .ok (.value (.int k z)) w := by
  have hu : P.underlying dst = some (.int k) := by
    unfold intOfT at hd
    cases hq : P.underlying dst with
    | none => rw [hq] at hd; cases hd
    | some q => rw [hq] at hd; cases q <;> simp_all
  simp [execOp, ho, hx, Go.convert, run_underlying hu, run_underlying hs, Conv.intToInt, hz]
theorem dd_field {s : TypeId} {x : Operand} {f g i off j : Nat} (ho : o.op = .fieldAddr s x f) (hx : a.eval x = .pointer (some ⟨g, i, none⟩)) (hf : fieldOff P s f = some off) (hj : i + off = j) : (execOp a.eval o).run P w = .ok (.value (.pointer (some ⟨g, j, none⟩))) w := by
  subst hj
  unfold fieldOff at hf
  cases hu : P.underlying s with
  | none => rw [hu] at hf; cases hf
  | some d =>
    rw [hu] at hf
    cases d with
    | struct fields =>
      simp only at hf
      cases hfd : fields[f]? with
      | none => rw [hfd] at hf; cases hf
      | some fd =>
        rw [hfd] at hf
        simp only at hf
        cases hi : P.info? fd.type with
        | none => rw [hi] at hf; cases hf
        | some inf =>
          rw [hi] at hf
          simp only [Option.map_some] at hf
          cases hs : inf.size with
          | zero => rw [hs] at hf; cases hf
          | succ m =>
            rw [hs] at hf
            simp only [Option.some.injEq] at hf
            simp [execOp, ho, hx, Instr.fieldAt, Instr.sureAddr, run_underlying hu, hfd, fieldPlace, sizeOf, typeInfo, hi, hs, Addr.add_mid, hf]
    | _ => simp only at hf; cases hf
theorem dd_idxA {t : TypeId} {x ix : Operand} {g i n sz j : Nat} {k : IntKind} {m : Int} (ho : o.op = .indexAddr t x ix) (hx : a.eval x = .pointer (some ⟨g, i, none⟩)) (hi : a.eval ix = .int k m) (ht : arrOf P t = some (n, sz)) (h0 : 0 ≤ m) (hn : m < (n : Int)) (hj : i + m.toNat * sz = j) : (execOp a.eval o).run P w = .ok (.value (.pointer (some ⟨g, j, none⟩))) w := by
  subst hj
  unfold arrOf at ht
  cases hu : P.underlying t with
  | none => rw [hu] at ht; cases ht
  | some d =>
    rw [hu] at ht
    cases d with
    | array n' e =>
      simp only at ht
      cases hq : P.info? e with
      | none => rw [hq] at ht; cases ht
      | some inf =>
        rw [hq] at ht
        simp only [Option.map_some, Option.some.injEq, Prod.mk.injEq] at ht
        obtain ⟨rfl, rfl⟩ := ht
        simp [execOp, ho, hx, hi, Instr.indexAt, Instr.sureAddr, asIntOf, run_underlying hu, sizeOf, typeInfo, hq, h0, hn, Addr.add_mid]
    | _ => simp only at ht; cases ht
theorem dd_len {x : Operand} {t : TypeId} {A : Option Addr} {n c : Nat} {e : TypeId} (ho : o.op = .call { callee := .builtin .len, args := #[x], argTypes := #[t] }) (hx : a.eval x = .slice A n c) (hu : P.underlying t = some (.slice e)) : (execOp a.eval o).run P w = .ok (.value (.int .i64 (n : Int))) w :=
  by simp [execOp, ho, resolve, invoke, builtin, Builtin.len_, hx, run_underlying hu, goInt]
theorem dd_lens {x : Operand} {t : TypeId} {s : ByteArray} {n : Int} (ho : o.op = .call { callee := .builtin .len, args := #[x], argTypes := #[t] }) (hx : a.eval x = .string s) (hu : P.underlying t = some .string) (hn : (s.size : Int) = n) : (execOp a.eval o).run P w = .ok (.value (.int .i64 n)) w :=
  by simp [execOp, ho, resolve, invoke, builtin, Builtin.len_, hx, run_underlying hu, goInt, hn]
theorem dd_rn {v : Value} (hr : (execOp a.eval o).run P w = .ok (.value v) w) (h : R v w) : Does P o a w R := does_run hr h
theorem dd_at {ty : TypeId} {x : Operand} (ho : o.op = .load ty x) {p : Addr} (hx : a.eval x = .pointer (some p)) {v : Value} (hc : w.cell? p = some v) {d : TypeDesc} (hu : P.underlying ty = some d) (hd : d.isRow = false) : (execOp a.eval o).run P w = .ok (.value v) w := by
  have hagg : (isAgg ty).run P w = .ok false w := by
    unfold isAgg
    rw [Sem.run_bind, run_underlying hu w]
    cases d <;> simp_all
  simp [execOp, ho, hx, Instr.loadAt, Instr.sureAddr, loadVar, Sem.run_bind, hagg, hc]
/- memory that is known as a list of blocks -/
variable {w0 : World} {F : Nat → Prop} {S : List Blk}
theorem dd_get (HS : St w0 F S w) (k i : Nat) {ty : TypeId} {x : Operand} (ho : o.op = .load ty x) {r : Blk} (hk : S[k]? = some r) (hx : a.eval x = .pointer (some ⟨r.g, i, none⟩)) {v : Value} (hv : r.cs[i]? = some v) {d : TypeDesc} (hu : P.underlying ty = some d) (hd : d.isRow = false) : (execOp a.eval o).run P w = .ok (.value v) w :=
  dd_at ho hx ((HS.row k hk).get hv) hu hd
theorem dd_load (HS : St w0 F S w) (k i : Nat) {ty : TypeId} {x : Operand} (ho : o.op = .load ty x) {r : Blk} (hk : S[k]? = some r) (hx : a.eval x = .pointer (some ⟨r.g, i, none⟩)) {cs : Array Value} (hv : (r.cs.toList.drop i).take cs.size = cs.toList) {d : TypeDesc} (hu : P.underlying ty = some d) (hd : d.isRow = true) (hi : (P.info? ty).map (·.size) = some cs.size) : (execOp a.eval o).run P w = .ok (.value (.agg cs)) w := by
  have hc := (HS.row k hk).slab i cs.toList (by simpa using hv)
  unfold execOp
  simp only [ho, hx, Instr.loadAt, Instr.sureAddr, Sem.run_bind, Sem.run_pure, Result.andThen_ok, run_loadVar_mid w r.g i ty cs.toList d hc hu hd (by simpa using hi)]
theorem dd_atN {ty : TypeId} {x : Operand} (ho : o.op = .load ty x) {g i : Nat} (hx : a.eval x = .pointer (some ⟨g, i, none⟩)) {L : List Value} (hc : w.rangeAt g i L) {d : TypeDesc} (hu : P.underlying ty = some d) (hd : d.isRow = true) (hi : (P.info? ty).map (·.size) = some L.length) : (execOp a.eval o).run P w = .ok (.value (.agg L.toArray)) w := by
  unfold execOp
  simp only [ho, hx, Instr.loadAt, Instr.sureAddr, Sem.run_bind, Sem.run_pure, Result.andThen_ok, run_loadVar_mid w g i ty L d hc hu hd hi]
theorem dd_new (HS : St w0 F S w) {e : TypeId} (cs : Array Value) (ho : o.op = .alloc e) {z : Value} (hz : (P.info? e).bind (·.zero) = some z) (hc : z.cells = cs) (h : ∀ g w', St w0 F (S ++ [⟨g, e, cs⟩]) w' → R (.pointer (some ⟨g, 0, none⟩)) w') : Does P o a w R := fun _ _ hK =>
  wp_st_alloc HS e cs ho z hz hc fun g w' h1 => hK _ _ (h g w' h1)
theorem dd_box (HS : St w0 F S w) {e : TypeId} {x : Operand} (ho : o.op = .box e x) {v : Value} (hx : a.eval x = v) {cs : Array Value} (hc : v.cells = cs) (h : ∀ g w', St w0 F (S ++ [⟨g, e, cs⟩]) w' → R (.pointer (some ⟨g, 0, none⟩)) w') : Does P o a w R := fun _ _ hK =>
  wp_st_box HS e x ho v hx cs hc fun g w' h1 => hK _ _ (h g w' h1)
theorem dd_store (HS : St w0 F S w) (k i : Nat) {ty : TypeId} {x y : Operand} (ho : o.op = .store ty x y) {r : Blk} (hk : S[k]? = some r) (hx : a.eval x = .pointer (some ⟨r.g, i, none⟩)) {v : Value} (hy : a.eval y = v) (hi : (P.info? ty).map (·.size) = some v.cells.size) (hfit : i + v.cells.size ≤ r.cs.size) (h1 : v.cells.all (·.oneCell') = true)
    {cs : Array Value} (hcs : (spl r.cs.toList i v.cells.toList).toArray = cs) (h : ∀ w', St w0 F (S.set k ⟨r.g, r.t, cs⟩) w' → R undef w') : Does P o a w R := fun _ _ hK =>
  wp_st_store HS k i ty x y ho hk hx v hy hi hfit h1 cs hcs fun w' h1 => hK _ _ (h w' h1)
theorem dd_put (HS : St w0 F S w) (k i : Nat) {ty : TypeId} {x y : Operand} (ho : o.op = .store ty x y) {r : Blk} (hk : S[k]? = some r) (hx : a.eval x = .pointer (some ⟨r.g, i, none⟩)) {v : Value} (hy : a.eval y = v) (hi : (P.info? ty).map (·.size) = some 1) (hv : v.cells = #[v]) (h1 : v.oneCell' = true) (hfit : Nat.blt i r.cs.size = true)
    {cs : Array Value} (hcs : r.cs.setIfInBounds i v = cs) (h : ∀ w', St w0 F (S.set k ⟨r.g, r.t, cs⟩) w' → R undef w') : Does P o a w R := fun _ _ hK =>
  wp_st_put HS k i ty x y ho hk hx v hy hi hv h1 (Nat.le_of_ble_eq_true hfit) cs hcs fun w' h1 => hK _ _ (h w' h1)
/- calls -/
theorem dd_call {f : FuncId} {fn : Func} {xs : Array Operand} {ts : Array TypeId} {l : List Value} {R' : Ending → World → Prop} (hf : P.funcs[f]? = some fn) (hn : (fn.name == "runtime.NumGoroutine") = false) (hb : fn.body.isNone = false) (ho : o.op = .call { callee := .value (.func f), args := xs, argTypes := ts }) (hx : (xs.map a.eval) = l.toArray) (C : Calls P f l.toArray w R')
    (h : ∀ e w', R' e w' → ∃ v, e = .returned v ∧ R v w') : Does P o a w R := fun K Q hK => by
  have hcf : (callFunc f (#[] ++ l.toArray ++ #[])).run P w = .ok (.enter f l.toArray) w := by
    have hn' : ¬ fn.name = "runtime.NumGoroutine" := by simpa using hn
    have hb' : ¬ fn.body = none := fun e => by rw [e] at hb; cases hb
    simp [callFunc, hf, hn', hb']
  have he : execOp a.eval o = callFunc f (#[] ++ l.toArray ++ #[]) := by
    unfold execOp
    rw [ho]
    simp only [resolve, Act.eval, Deferred.ofValue]
    rw [← hx]
    rfl
  unfold Oper.wp
  rw [he, hcf]
  refine Calls.mono C fun e w' hr => ?_
  obtain ⟨v, rfl, hv⟩ := h e w' hr
  exact hK v w' hv
end
theorem gt_t {m n : Int} (h : n < m) : cmpI .gtr m n = some true := by simp [cmpI, h]
theorem gt_f {m n : Int} (h : ¬ n < m) : cmpI .gtr m n = some false := by simp [cmpI]; omega
theorem eq_t {m n : Int} (h : m = n) : cmpI .eql m n = some true := by simp [cmpI, h]
theorem eq_f {m n : Int} (h : ¬ m = n) : cmpI .eql m n = some false := by simp [cmpI, h]
theorem ne_t {m n : Int} (h : ¬ m = n) : cmpI .neq m n = some true := by simp [cmpI, h]
theorem ne_f {m n : Int} (h : m = n) : cmpI .neq m n = some false := by simp [cmpI, h]
end Go.Proofs.YtcheflcfoiclgaaDoor

/- Memory in a walk: rows side by side, literals, slices of the call's own that grow. No function of the program is named here. -/
set_option maxRecDepth 4000
namespace Go.Proofs.YtcheflcfoiclgaaDoor
open Go Go.RowKit
/- cells as pieces, one behind the other -/
def catA (L : List (List Value)) : Array Value := L.flatten.toArray
theorem lens_nil : ([] : List (List Value)).map List.length = [] := rfl
theorem lens_cons {l : List Value} {L : List (List Value)} {n : Nat} {ns : List Nat} (h : l.length = n) (t : L.map List.length = ns) : (l :: L).map List.length = n :: ns := by rw [List.map_cons, h, t]
theorem len_bv {q : List (BitVec 8)} {n : Nat} (h : q.length = n) : (bytesV q).length = n := by rw [len_bytesV, h]
section
variable {L M : List (List Value)} {ns : List Nat}
theorem cat_size (h : L.map List.length = ns) : (catA L).size = ns.sum := by unfold catA; rw [List.size_toArray, List.length_flatten, h]
theorem take_sum (h : L.map List.length = ns) (j : Nat) : (L.take j).flatten.length = (ns.take j).sum := by rw [List.length_flatten, List.map_take, h]
theorem cat_split (L : List (List Value)) (j : Nat) : L.flatten = (L.take j).flatten ++ (L.drop j).flatten := by rw [← List.flatten_append, List.take_append_drop]
theorem cat_store (h : L.map List.length = ns) (j m : Nat) {off : Nat} (ho : (ns.take j).sum = off) (hm : M.flatten.length = ((ns.drop j).take m).sum) : (spl (catA L).toList off M.flatten).toArray = catA (L.take j ++ M ++ L.drop (j + m)) := by
  unfold catA spl
  have e1 : (L.take j).flatten.length = off := by rw [take_sum h j, ho]
  have e2 : ((L.drop j).take m).flatten.length = M.flatten.length := by rw [hm, List.length_flatten, List.map_take, List.map_drop, h]
  rw [List.flatten_append, List.flatten_append]
  congr 1
  rw [cat_split L j, List.take_left' e1, List.append_assoc, List.append_assoc]
  congr 2
  rw [← List.drop_drop, List.drop_left' e1, cat_split (L.drop j) m, List.drop_left' e2, List.drop_drop]
theorem cat_store1 (h : L.map List.length = ns) (j : Nat) {off n : Nat} {cs : Array Value} (ho : (ns.take j).sum = off) (hm : cs.size = n) (hn : ns[j]? = some n) : (spl (catA L).toList off (Value.agg cs).cells.toList).toArray = catA (L.set j cs.toList) := by
  have hj : j < ns.length := (List.getElem?_eq_some_iff.1 hn).1
  have hjL : j < L.length := by rw [← h] at hj; simpa using hj
  have e := cat_store (M := [cs.toList]) h j 1 ho (by
    rw [List.drop_eq_getElem_cons hj, List.take_succ_cons, List.take_zero]
    have := (List.getElem?_eq_some_iff.1 hn).2
    simp [this, hm])
  have e3 : (Value.agg cs).cells.toList = [cs.toList].flatten := by simp [Value.cells]
  rw [e3, e, List.set_eq_take_append_cons_drop, if_pos hjL]
  simp
theorem cat_one (h : ∀ l ∈ L, ∀ v ∈ l, Value.oneCell' v = true) : (Value.agg (catA L)).cells.all (·.oneCell') = true := by
  show (catA L).all _ = true
  unfold catA
  simp only [List.all_toArray, List.all_eq_true, List.mem_flatten]
  rintro v ⟨l, hl, hv⟩
  exact h l hl v hv
end
/- literals of structs and arrays, field by field; what is not given is zero -/
def setSegs : List (List Value) → List (Nat × Value) → List (List Value)
  | L, [] => L
  | L, (i, v) :: r => setSegs (L.set i v.cells.toList) r
def zsegs (P : Program) (t : TypeId) : Option (List (List Value)) :=
  match P.info? t, P.underlying t with
  | some it, some (.struct fields) => match it.zero, fields.toList.mapM (fun f => (P.info? f.type).map fun i => (f.offset, i.size)) with
    | some z, some places => if fits 0 (places.map (·.2)) places && ((places.map (·.2)).sum == z.cells.size) then some (places.map fun p => (z.cells.toList.drop p.1).take p.2) else none
    | _, _ => none
  | _, _ => none
theorem set_same {l : List Nat} {i : Nat} {x : Nat} (h : l[i]? = some x) : l.set i x = l := by
  apply List.ext_getElem?
  intro k
  by_cases hk : i = k
  · subst hk
    rw [List.getElem?_set_self (List.getElem?_eq_some_iff.1 h).1, h]
  · rw [List.getElem?_set_ne hk]
theorem fill_segs (place : Nat → Option (Nat × Nat)) : ∀ (ps : List (Nat × Value)) (L : List (List Value)) (ns : List Nat), L.map List.length = ns → (∀ i s, ns[i]? = some s → place i = some ((ns.take i).sum, s)) → (∀ p ∈ ps, ns[p.1]? = some p.2.cells.size) →
    Instr.fill place (catA L) ps = some (catA (setSegs L ps))
  | [], L, ns, _, _, _ => by simp [Instr.fill, setSegs]
  | (i, v) :: ps, L, ns, h, hp, hf => by
    have h1 := hf (i, v) (by simp)
    have hplace := hp i _ h1
    simp only at h1 hplace
    have hi : i < ns.length := (List.getElem?_eq_some_iff.1 h1).1
    have hv : v.cells.toList.length = v.cells.size := Array.length_toList
    have hle : (ns.take i).sum + v.cells.size ≤ (catA L).size := by
      rw [cat_size h]
      have e := congrArg List.sum (List.take_append_drop i ns)
      rw [List.sum_append, List.drop_eq_getElem_cons hi, List.sum_cons, (List.getElem?_eq_some_iff.1 h1).2] at e
      omega
    have e := fill_set (ns.take i).sum v.cells (catA L) hle
    have e2 := cat_store1 (L := L) (cs := v.cells) h i rfl rfl h1
    have e3 : (Value.agg v.cells).cells.toList = v.cells.toList := rfl
    rw [e3] at e2
    simp only [Instr.fill, hplace]
    rw [if_neg (by simp; omega), e, e2, setSegs]
    refine fill_segs place ps _ ns ?_ hp fun p hp => hf p (by simp [hp])
    rw [List.map_set, h, hv]
    exact set_same h1
theorem zsegs_flat {P : Program} {t : TypeId} {Lz : List (List Value)} (hz : zsegs P t = some Lz) (ps : List (Nat × Value)) (hf : ∀ p ∈ ps, (Lz.map List.length)[p.1]? = some p.2.cells.size) : P.built t ps = some (catA (setSegs Lz ps)) := by
  unfold zsegs at hz
  unfold Program.built
  cases hit : P.info? t with
  | none => simp [hit] at hz
  | some it =>
    cases hu : P.underlying t with
    | none => simp [hit, hu] at hz
    | some d =>
      cases d <;> try (simp [hit, hu] at hz; done)
      case struct fields =>
        simp only [hit, hu] at hz ⊢
        cases hzz : it.zero with
        | none => simp [hzz] at hz
        | some z =>
          cases hm : fields.toList.mapM (fun f => (P.info? f.type).map fun i => (f.offset, i.size)) with
          | none => simp [hzz, hm] at hz
          | some pl =>
            simp only [hzz, hm] at hz ⊢
            split at hz
            · rename_i hc
              simp only [Bool.and_eq_true, beq_iff_eq] at hc
              obtain ⟨hfit, hsum⟩ := hc
              injection hz with hz
              have hzl : z.cells.toList.length = z.cells.size := Array.length_toList
              have hat := fits_at _ 0 pl hfit
              have hlens : Lz.map List.length = pl.map (·.2) := by
                rw [← hz, List.map_map]
                refine List.map_congr_left fun p hp => ?_
                obtain ⟨k, hk⟩ := List.getElem?_of_mem hp
                have h2 := hat k p.2 (by simp [hk])
                rw [hk] at h2
                injection h2 with h2
                have h3 : p.1 = ((pl.map (·.2)).take k).sum := by rw [h2]; simp
                have hlt : k < (pl.map (·.2)).length := by have := (List.getElem?_eq_some_iff.1 hk).1; simpa using this
                have e := congrArg List.sum (List.take_append_drop k (pl.map (·.2)))
                rw [List.sum_append, List.drop_eq_getElem_cons hlt, List.sum_cons] at e
                have h4 : (pl.map (·.2))[k] = p.2 := by have := (List.getElem?_eq_some_iff.1 hk).2; simp [this]
                simp only [Function.comp, List.length_take, List.length_drop]
                omega
              have hflat : ∀ (ss : List Nat) (o : Nat) (pl : List (Nat × Nat)) (l : List Value), fits o ss pl = true → (pl.map fun p => (l.drop p.1).take p.2).flatten = (l.drop o).take ss.sum := by
                intro ss
                induction ss with
                | nil => intro o pl l h
                         cases pl with
                         | nil => simp
                         | cons => simp [fits] at h
                | cons s ss ih =>
                  intro o pl l h
                  cases pl with
                  | nil => simp [fits] at h
                  | cons p pl =>
                    obtain ⟨o', s'⟩ := p
                    simp only [fits, Bool.and_eq_true, beq_iff_eq] at h
                    obtain ⟨⟨rfl, rfl⟩, h⟩ := h
                    simp only [List.map_cons, List.flatten_cons, List.sum_cons]
                    rw [ih _ _ _ h, List.take_add, List.drop_drop]
              have hcat : catA Lz = z.cells := by
                unfold catA
                rw [← hz, hflat _ 0 pl _ hfit, List.drop_zero, hsum, List.take_of_length_le (by omega)]
              rw [← hcat]
              refine fill_segs _ ps Lz _ rfl (fun i s hs => ?_) hf
              rw [hlens] at hs ⊢
              rw [List.getElem?_toArray, hat i s hs, Nat.zero_add]
            · cases hz
section
variable {P : Program} {o : Oper} {a : Act} {w : World} {R : Value → World → Prop}
theorem fit_nil {ns : List Nat} : ∀ p ∈ ([] : List (Nat × Value)), ns[p.1]? = some p.2.cells.size := fun p h => by cases h
theorem fit_cons {ns : List Nat} {i n : Nat} {v : Value} {ps : List (Nat × Value)} (h : ns[i]? = some n) (hv : v.cells.size = n) (t : ∀ p ∈ ps, ns[p.1]? = some p.2.cells.size) : ∀ p ∈ (i, v) :: ps, ns[p.1]? = some p.2.cells.size := fun p hp => by
  cases hp with
  | head => rw [h, hv]
  | tail _ hp => exact t p hp
theorem dd_bld {t : TypeId} {parts : Array (Nat × Operand)} {ps : List (Nat × Value)} {Lz : List (List Value)} {ns : List Nat} {cs : Array Value} (ho : o.op = .build t parts) (hp : (parts.map fun (i, x) => (i, a.eval x)).toList = ps) (hz : zsegs P t = some Lz) (hL : Lz.map List.length = ns) (hf : ∀ p ∈ ps, ns[p.1]? = some p.2.cells.size)
    (hc : catA (setSegs Lz ps) = cs) : (execOp a.eval o).run P w = .ok (.value (.agg cs)) w := by
  subst hL hc
  have hb := zsegs_flat hz ps hf
  rw [← hp] at hb ⊢
  unfold execOp
  simp only [ho, Sem.run_bind, run_build w t _ _ hb, Result.andThen_ok, Sem.run_pure]
end
/- slices of the call's own: the block that they lie in -/
structure OwnC (cb : Array Value) (c n sz : Nat) (L : List Value) : Prop where
  le : n ≤ c
  cap : c ≤ maxLen
  size : cb.size = c * sz
  len : L.length = n * sz
  take : cb.toList.take (n * sz) = L
theorem ownc_of {w : World} {b e n sz : Nat} {v : Value} {L : List Value} (h : w.ownsRow b e sz v n L) (h0 : v ≠ .slice none 0 0) : ∃ g c cb, v = .slice (some ⟨g, 0, none⟩) n c ∧ b ≤ g ∧ Row w g e cb ∧ OwnC cb c n sz L := by
  obtain ⟨hl, h | ⟨g, cap, cur, h1, h2, h3, h4, h5, h6, h7⟩⟩ := h
  · exact absurd h.1 h0
  · exact ⟨g, cap, cur, h1, h2, h3, h4, h5, h6, hl, h7⟩
theorem ownc_pos {w : World} {b e n sz : Nat} {v : Value} {L : List Value} (h : w.ownsRow b e sz v n L) (h0 : 0 < n) : ∃ g c cb, v = .slice (some ⟨g, 0, none⟩) n c ∧ b ≤ g ∧ Row w g e cb ∧ OwnC cb c n sz L := by
  refine ownc_of h fun e => ?_
  rcases h.2 with h | ⟨g, cap, cur, h1, _⟩
  · omega
  · rw [e] at h1; cases h1
/- memory as a list of blocks: one goes, one comes -/
theorem st_erase {w0 w : World} {F : Nat → Prop} {S : List Blk} (h : St w0 F S w) (k : Nat) : St w0 F (S.eraseIdx k) w := by
  have at_ : ∀ j r, (S.eraseIdx k)[j]? = some r → ∃ i, S[i]? = some r ∧ i = (if j < k then j else j + 1) := fun j r hj => by
    rw [List.getElem?_eraseIdx] at hj
    split at hj
    · exact ⟨j, hj, by rw [if_pos (by assumption)]⟩
    · exact ⟨j + 1, hj, by rw [if_neg (by assumption)]⟩
  refine ⟨h.chg, fun j r hj => ?_, fun i j r s hij hi hj => ?_, fun j r hj => ?_⟩
  · obtain ⟨i, hi, _⟩ := at_ j r hj; exact h.rows i r hi
  · obtain ⟨i', hi', ei⟩ := at_ i r hi
    obtain ⟨j', hj', ej⟩ := at_ j s hj
    refine h.apart i' j' r s (fun e => hij ?_) hi' hj'
    rw [ei, ej] at e
    split at e <;> split at e <;> omega
  · obtain ⟨i, hi, _⟩ := at_ j r hj; exact h.own i r hi
theorem St.joins {w0 W W' : World} {F : Nat → Prop} {S : List Blk} (h : St w0 F S W) (hb : Below W.heap.size W W') {g : Nat} {t : TypeId} {cs : Array Value} (hr : Row W' g t cs) (hg : W.heap.size ≤ g) : St w0 F (S ++ [⟨g, t, cs⟩]) W' :=
  (h.same hb).join hr (Nat.le_trans h.chg.size hg) fun b hm e => by have := h.lt hm; omega
section
variable {P : Program} {o : Oper} {a : Act} {w w0 : World} {R : Value → World → Prop} {F : Nat → Prop} {S : List Blk}
/- a literal slice -/
theorem dd_lits (HS : St w0 F S w) {t e : TypeId} {len : Nat} {parts : Array (Nat × Operand)} (cells : Array Value) (ho : o.op = .buildSlice t len parts) {ps : List (Nat × Value)} (hp : (parts.map fun (i, x) => (i, a.eval x)).toList = ps) {z : Value} {sz : Nat}
    (hu : P.underlying t = some (.slice e)) (hie : (P.info? e).map (fun i => (i.zero, i.size)) = some (some z, sz)) (hpos : Nat.blt 0 (len * sz) = true) (hsmall : Nat.ble (len * sz) 16777216 = true)
    (hf : Instr.fill (fun i => some (i * sz, sz)) ((Array.range (len * sz)).map (z.cells[· % z.cells.size]!)) ps = some cells)
    (h : ∀ g w', St w0 F (S ++ [⟨g, e, cells⟩]) w' → R (.slice (some ⟨g, 0, none⟩) len len) w') : Does P o a w R := fun _ _ hK => by
  obtain ⟨ie, hi, he⟩ := Option.map_eq_some_iff.1 hie
  injection he with hz hsz
  subst hsz
  have h1 := Nat.le_of_ble_eq_true hsmall
  have h2 : 0 < len * ie.size := Nat.le_of_ble_eq_true hpos
  exact wp_buildSlice t e len parts ho cells ie z hu hi hz (by omega) (by omega) (by rw [hp]; exact hf) (hK _ _ (h _ _ (HS.snoc e cells)))
theorem dd_setrow (HS : St w0 F S w) (k : Nat) {ty : TypeId} {x y : Operand} (ho : o.op = .store ty x y) {g n : Nat} {t : TypeId} {old cs : Array Value} (hk : S[k]? = some ⟨g, t, old⟩) (hx : a.eval x = .pointer (some ⟨g, 0, none⟩)) (hy : a.eval y = .agg cs) (hi : (P.info? ty).map (·.size) = some n) (hn : cs.size = n) (hn2 : old.size = n) (h1 : (Value.agg cs).cells.all (·.oneCell') = true)
    (h : ∀ w', St w0 F (S.set k ⟨g, t, cs⟩) w' → R undef w') : Does P o a w R :=
  dd_store HS k 0 ho hk hx hy (by rw [hi, show (Value.agg cs).cells.size = n from hn]) (by show 0 + cs.size ≤ old.size; omega) h1 (spl_agg _ _ _ rfl (by show old.size = cs.size; omega)) h
end
def Ones (L : List (List Value)) : Prop := ∀ l ∈ L, ∀ v ∈ l, Value.oneCell' v = true
theorem ones_nil : Ones [] := fun l h => by cases h
theorem ones_cons {l : List Value} {L : List (List Value)} (h : ∀ v ∈ l, Value.oneCell' v = true) (t : Ones L) : Ones (l :: L) := fun m hm => by
  cases hm with
  | head => exact h
  | tail _ hm => exact t m hm
theorem all_one {cs : Array Value} (h : (Value.agg cs).cells.all (·.oneCell') = true) : ∀ v ∈ cs.toList, Value.oneCell' v = true := fun v hv => (Array.all_eq_true_iff_forall_mem.1 h) v (by simpa [Value.cells] using hv)
theorem ao_nil : ∀ v ∈ ([] : List Value), Value.oneCell' v = true := fun v h => by cases h
theorem ao_cons {v : Value} {l : List Value} (h : Value.oneCell' v = true) (t : ∀ v ∈ l, Value.oneCell' v = true) : ∀ u ∈ v :: l, Value.oneCell' u = true := fun u hu => by
  cases hu with
  | head => exact h
  | tail _ hu => exact t u hu
theorem one_l {l : List Value} (h : ∀ v ∈ l, Value.oneCell' v = true) : (Value.agg l.toArray).cells.all (·.oneCell') = true := by
  show l.toArray.all _ = true
  simpa using h
theorem args0 {f : Operand → Value} : (#[] : Array Operand).map f = ([] : List Value).toArray := by simp
theorem args1 {f : Operand → Value} {x1 : Operand} {v1 : Value} (h1 : f x1 = v1) : (#[x1] : Array Operand).map f = [v1].toArray := by simp [h1]
theorem args2 {f : Operand → Value} {x1 x2 : Operand} {v1 v2 : Value} (h1 : f x1 = v1) (h2 : f x2 = v2) : (#[x1, x2] : Array Operand).map f = [v1, v2].toArray := by simp [h1, h2]
theorem args4 {f : Operand → Value} {x1 x2 x3 x4 : Operand} {v1 v2 v3 v4 : Value} (h1 : f x1 = v1) (h2 : f x2 = v2) (h3 : f x3 = v3) (h4 : f x4 = v4) : (#[x1, x2, x3, x4] : Array Operand).map f = [v1, v2, v3, v4].toArray := by simp [h1, h2, h3, h4]
theorem pr1 {i : Nat} {f : Operand → Value} {x : Operand} {v : Value} {l : List (Nat × Operand)} {ps : List (Nat × Value)} (h : f x = v) (t : (l.toArray.map fun (i, x) => (i, f x)).toList = ps) : (((i, x) :: l).toArray.map fun (i, x) => (i, f x)).toList = (i, v) :: ps := by
  simp only [List.map_toArray, List.map_cons, h] at *
  simpa using t
theorem pr0 {f : Operand → Value} : (([] : List (Nat × Operand)).toArray.map fun (i, x) => (i, f x)).toList = [] := by simp
theorem bytes_slab {cs : Array Value} {o : Nat} {q : List (BitVec 8)} (h : (cs.toList.drop o).take (bs q).size = (bs q).toList) : (cs.toList.drop o).take (bytesV q).length = bytesV q := by
  rw [bs_toList, size_bs] at h; rw [len_bytesV]; exact h
theorem slice_own {w : World} {g c n : Nat} {cb : Array Value} {t : TypeId} {q : List (BitVec 8)} (h : Row w g t cb) (O : OwnC cb c n 1 (bytesV q)) (hq : q.length = n) : Slice w (.slice (some ⟨g, 0, none⟩) n c) q := by
  subst hq
  refine ⟨_, c, rfl, O.le, fun _ => ⟨g, 0, rfl, h.lt, fun j x hx => ?_⟩⟩
  have hj : j < q.length := (List.getElem?_eq_some_iff.1 hx).1
  rw [Nat.zero_add]
  refine h.get ?_
  have h1 := O.take
  rw [Nat.mul_one] at h1
  rw [← Array.getElem?_toList, ← List.getElem?_take_of_lt hj, h1]
  simp [bytesV, hx]
theorem slice_part {w : World} {g : Nat} {t : TypeId} {cs : Array Value} {q : List (BitVec 8)} {n c : Nat} (h : Row w g t cs) (o : Nat) (hL : (cs.toList.drop o).take (bytesV q).length = bytesV q) (hq : q.length = n) (hc : n ≤ c) : Slice w (.slice (some ⟨g, o, none⟩) n c) q := by
  subst hq
  refine ⟨_, c, rfl, hc, fun _ => ⟨g, o, rfl, h.lt, fun j x hx => ?_⟩⟩
  have hj : j < (bytesV q).length := by rw [len_bytesV]; exact (List.getElem?_eq_some_iff.1 hx).1
  refine h.get ?_
  have h2 := congrArg (fun l : List Value => l[j]?) hL
  simp only [List.getElem?_take_of_lt hj, List.getElem?_drop] at h2
  rw [← Array.getElem?_toList, h2]
  simp [bytesV, hx]
section
variable {P : Program} {o : Oper} {a : Act} {w : World} {R : Value → World → Prop}
theorem dd_slA {t : TypeId} {x : Operand} {g i n sz : Nat} (ho : o.op = .slice t x none none none) (hx : a.eval x = .pointer (some ⟨g, i, none⟩)) (ht : arrOf P t = some (n, sz)) : (execOp a.eval o).run P w = .ok (.value (.slice (some ⟨g, i, none⟩) n n)) w := by
  unfold arrOf at ht
  cases hu : P.underlying t with
  | none => rw [hu] at ht; cases ht
  | some d =>
    rw [hu] at ht
    cases d with
    | array n' e =>
      simp only at ht
      cases hq : P.info? e with
      | none => rw [hq] at ht; cases ht
      | some inf =>
        rw [hq] at ht
        simp only [Option.map_some, Option.some.injEq, Prod.mk.injEq] at ht
        obtain ⟨rfl, rfl⟩ := ht
        simp [execOp, ho, hx, Instr.sliceAt, Instr.sureAddr, run_underlying hu, sizeOf, typeInfo, hq, Instr.sliceBounds, Addr.add_mid]
    | _ => simp only at ht; cases ht
end
end Go.Proofs.YtcheflcfoiclgaaDoor

/- Regions that draw, order by order, what only reads taken first; ways that meet again. No function of the program is named here. -/
set_option maxRecDepth 4000
namespace Go.Proofs.YtcheflcfoiclgaaDoor
open Go Go.RowKit
def PQ (Q : Exit → Act → World → Prop) : Prop := ∀ c (a : Act) (d : Option Tmp) (v : Value) (w : World), Q (.panic c) (a.put d v) w → Q (.panic c) a w
theorem pq_then {K : Act → World → Prop} {Q : Exit → Act → World → Prop} (h : PQ Q) : PQ (Exit.then K Q) := h
theorem pq_block {id : Nat} {Q : Exit → Act → World → Prop} (h : PQ Q) : PQ (Exit.inBlock id Q) := h
theorem pq_body {P : Program} {fn : Func} {R : Ending → World → Prop} : PQ (bodyPost P fn R) := fun c a d v w h => by
  cases d <;> exact h
section
variable {P : Program} {Q : Exit → Act → World → Prop} {ops : Array Oper} {o : Oper} {N i fuel : Nat} {L : List (Nat × Value)} {a : Act} {w : World} {listed : Array Bool} {S : World → Prop}
theorem wp_held {id : Nat} {l : List Oper} {M : Nat} (S : World → Prop) (hm : P.follows .mixedOrders = true) (hM : l.length = M) (h : wpAnyH P .any l.toArray Q S M (Array.replicate M false) a w.drew) : (Code.region id l.toArray true).wp P Q a w := by
  subst hM
  refine wp_region_held (S := S) hm ?_
  have e : l.toArray.size = l.length := by simp
  rw [e]; exact h
theorem hm_nil {K : Nat → Prop} : ∀ i ∈ ([] : List Nat), K i := fun i h => by cases h
theorem hm_cons {K : Nat → Prop} {j : Nat} {l : List Nat} (h : K j) (t : ∀ i ∈ l, K i) : ∀ i ∈ j :: l, K i := fun i hi => by
  cases hi with
  | head => exact h
  | tail _ hi => exact t i hi
end
theorem wp_cut {P : Program} {Q : Exit → Act → World → Prop} {c : Code} {a : Act} {w : World} (I : Act → World → Prop) (h : c.wp P (Exit.then I Q) a w) (k : ∀ a w, I a w → Q .normal a w) : c.wp P Q a w :=
  wp_mono h fun e a w q => by
    cases e with
    | normal => exact k a w q
    | _ => exact q
/- some of the blocks, in whatever order -/
def selB (S : List Blk) : List Nat → List Blk
  | [] => []
  | i :: is => match S[i]? with
    | some r => r :: selB S is
    | none => selB S is
theorem sel_at (S : List Blk) : ∀ (is : List Nat), is.Nodup → ∀ (i j : Nat) (r s : Blk), (selB S is)[i]? = some r → (selB S is)[j]? = some s → ∃ i' j', i' ∈ is ∧ j' ∈ is ∧ S[i']? = some r ∧ S[j']? = some s ∧ (i ≠ j → i' ≠ j')
  | [], _, i, j, r, s, h, _ => by simp [selB] at h
  | k :: is, hn, i, j, r, s, hi, hj => by
    obtain ⟨hk, hn⟩ := List.nodup_cons.1 hn
    unfold selB at hi hj
    cases hs : S[k]? with
    | none =>
      rw [hs] at hi hj
      obtain ⟨i', j', h1, h2, h3⟩ := sel_at S is hn i j r s hi hj
      exact ⟨i', j', by simp [h1], by simp [h2], h3⟩
    | some u =>
      rw [hs] at hi hj
      cases i with
      | zero =>
        obtain rfl : u = r := by simpa using hi
        cases j with
        | zero => obtain rfl : u = s := by simpa using hj
                  exact ⟨k, k, by simp, by simp, hs, hs, fun h => absurd rfl h⟩
        | succ j =>
          obtain ⟨j', _, h1, _, h3, _, _⟩ := sel_at S is hn j j s s (by simpa using hj) (by simpa using hj)
          exact ⟨k, j', by simp, by simp [h1], hs, h3, fun _ e => hk (e ▸ h1)⟩
      | succ i =>
        cases j with
        | zero =>
          obtain rfl : u = s := by simpa using hj
          obtain ⟨i', _, h1, _, h3, _, _⟩ := sel_at S is hn i i r r (by simpa using hi) (by simpa using hi)
          exact ⟨i', k, by simp [h1], by simp, h3, hs, fun _ e => hk (e ▸ h1)⟩
        | succ j =>
          obtain ⟨i', j', h1, h2, h3, h4, h5⟩ := sel_at S is hn i j r s (by simpa using hi) (by simpa using hj)
          exact ⟨i', j', by simp [h1], by simp [h2], h3, h4, fun h => h5 (by omega)⟩
theorem st_sel {w0 w : World} {F : Nat → Prop} {S : List Blk} (h : St w0 F S w) (is : List Nat) (hn : is.Nodup) : St w0 F (selB S is) w :=
  ⟨h.chg, fun j r hj => by obtain ⟨i', _, _, _, h1, _⟩ := sel_at S is hn j j r r hj hj; exact h.rows i' r h1,
    fun i j r s hij hi hj => by obtain ⟨i', j', _, _, h1, h2, h3⟩ := sel_at S is hn i j r s hi hj; exact h.apart i' j' r s (h3 hij) h1 h2,
    fun j r hj => by obtain ⟨i', _, _, _, h1, _⟩ := sel_at S is hn j j r r hj hj; exact h.own i' r h1⟩
end Go.Proofs.YtcheflcfoiclgaaDoor

/- Loops in a walk; rows of bytes, cell by cell; slices that are made. No function of the program is named here. -/
set_option maxRecDepth 4000
namespace Go.Proofs.YtcheflcfoiclgaaDoor
open Go Go.RowKit
theorem i64_of {z : Int} (h0 : -9223372036854775808 ≤ z) (h1 : z < 9223372036854775808) : IntKind.i64.wrap z = z := by rw [IntKind.wrap_i64]; omega
/- rows of bytes -/
theorem bs_get {q : List (BitVec 8)} {n : Nat} (hq : q.length = n) (i : Nat) (hi : i < n) : (bs q)[i]? = some (.int .u8 (bd (q.getD i 0#8))) := get_bs q i (by omega)
theorem len_set {q : List (BitVec 8)} {n i : Nat} {x : BitVec 8} (hq : q.length = n) : (q.set i x).length = n := by rw [List.length_set, hq]
section
variable {P : Program} {o : Oper} {a : Act} {w w0 : World} {R : Value → World → Prop} {F : Nat → Prop} {S : List Blk}
end
section
variable {o : Oper} {a : Act} {w w0 : World} {R : Value → World → Prop} {F : Nat → Prop} {S : List Blk}
end
end Go.Proofs.YtcheflcfoiclgaaDoor

/- More operations of a walk: rows that are far, appends to nothing. No function of the program is named here. -/
set_option maxRecDepth 4000
namespace Go.Proofs.YtcheflcfoiclgaaDoor
open Go Go.RowKit
theorem mod_nat (x : Int) (m : Nat) (h0 : 0 ≤ x) (hm : 0 < m) : ∃ r : Nat, x.tmod m = (r : Int) ∧ r < m := by
  refine ⟨(x.tmod m).toNat, ?_, ?_⟩
  · have := Int.emod_nonneg x (show (m : Int) ≠ 0 by omega)
    rw [Int.tmod_eq_emod_of_nonneg h0]; omega
  · have := Int.emod_lt_of_pos x (show (0 : Int) < m by omega)
    have := Int.emod_nonneg x (show (m : Int) ≠ 0 by omega)
    rw [Int.tmod_eq_emod_of_nonneg h0]; omega
section
variable {P : Program} {o : Oper} {a : Act} {w w0 : World} {R : Value → World → Prop} {F : Nat → Prop} {S : List Blk}
theorem dd_rem {ty ty2 : TypeId} {x y : Operand} {k : IntKind} {m n z : Int} (ho : o.op = .binOp .rem ty x y ty2) (hx : a.eval x = .int k m) (hy : a.eval y = .int k n) (hn : n ≠ 0) (hz : m.tmod n = z) : (execOp a.eval o).run P w = .ok (.value (.int k z)) w := by
  subst hz
  simp [execOp, ho, hx, hy, eqGuard, binOp, Op.intDiv, hn]
theorem dd_loadR {g : Nat} {t : TypeId} {cs : Array Value} (hr : Row w g t cs) {i : Nat} {ty : TypeId} {x : Operand} (ho : o.op = .load ty x) (hx : a.eval x = .pointer (some ⟨g, i, none⟩)) {ds : Array Value} (hv : (cs.toList.drop i).take ds.size = ds.toList) {d : TypeDesc} (hu : P.underlying ty = some d) (hd : d.isRow = true) (hi : (P.info? ty).map (·.size) = some ds.size) : (execOp a.eval o).run P w = .ok (.value (.agg ds)) w :=
  dd_atN ho hx (hr.slab i ds.toList (by simpa using hv)) hu hd (by simpa using hi)
end
end Go.Proofs.YtcheflcfoiclgaaDoor

/- Short steps of a walk: the frame by its slots' numbers, an operation apart from where it stands. No function of the program is named here. -/
set_option maxRecDepth 4000
namespace Go.Proofs.YtcheflcfoiclgaaDoor
open Go Go.RowKit
def look : List (Nat × Value) → Nat → Option Value
  | [], _ => none
  | p :: L, k => bif Nat.beq p.1 k then some p.2 else look L k
def sels (L : List (Nat × Value)) : List Nat → List (Nat × Value) → Option (List (Nat × Value))
  | [], acc => some acc
  | k :: ks, acc => match look L k with
    | some v => sels L ks ((k, v) :: acc)
    | none => none
structure En (N : Nat) (L : List (Nat × Value)) (a : Act) : Prop where
  size : a.tmps.size = N
  defers : a.defers = []
  at_ : ∀ (k : Nat) (v : Value), look L k = some v → a.tmps[k]? = some v
def dq (N : Nat) (o : Oper) : Option Nat := match o.dst with
  | some d => bif Nat.blt d N then some d else none
  | none => none
def dg (N : Nat) (o : Oper) : Option Nat := match o.guard with
  | none => dq N o
  | some _ => none
def dn (o : Oper) : Bool := match o.guard, o.dst with
  | none, none => true
  | _, _ => false
theorem dq_is {N : Nat} {o : Oper} {d : Nat} (h : dq N o = some d) : o.dst = some d ∧ d < N := by
  unfold dq at h
  split at h
  · rename_i e he
    cases hb : Nat.blt e N with
    | false => rw [hb] at h; cases h
    | true =>
      rw [hb] at h
      injection h with h
      subst h
      exact ⟨he, Nat.le_of_ble_eq_true hb⟩
  · cases h
theorem dg_is {N : Nat} {o : Oper} {d : Nat} (h : dg N o = some d) : o.guard = none ∧ dq N o = some d := by
  unfold dg at h
  split at h
  · exact ⟨by assumption, h⟩
  · cases h
theorem dn_is {o : Oper} (h : dn o = true) : o.guard = none ∧ o.dst = none := by
  unfold dn at h
  split at h
  · exact ⟨by assumption, by assumption⟩
  · cases h
section
variable {P : Program} {N : Nat} {L : List (Nat × Value)} {a : Act}
theorem En.ev (h : En N L a) (k : Nat) {v : Value} (hi : look L k = some v) : a.eval (.tmp k) = v := eval_of_get (h.at_ k v hi)
theorem En.get (h : En N L a) (k : Nat) {v : Value} (hi : look L k = some v) : a.tmps[k]? = some v := h.at_ k v hi
theorem En.sub (h : En N L a) {L2 : List (Nat × Value)} (hs : ∀ k v, look L2 k = some v → look L k = some v) : En N L2 a := ⟨h.size, h.defers, fun k v hi => h.at_ k v (hs k v hi)⟩
theorem sels_sub {L : List (Nat × Value)} : ∀ (ks : List Nat) (acc L2 : List (Nat × Value)), (∀ k v, look acc k = some v → look L k = some v) → sels L ks acc = some L2 → ∀ k v, look L2 k = some v → look L k = some v
  | [], acc, L2, h, e => by
    injection e with e
    subst e; exact h
  | j :: ks, acc, L2, h, e => by
    unfold sels at e
    cases hj : look L j with
    | none => rw [hj] at e; cases e
    | some u =>
      rw [hj] at e
      refine sels_sub ks _ L2 (fun k v hk => ?_) e
      unfold look at hk
      cases hb : Nat.beq j k with
      | false => simp only [hb] at hk; exact h k v hk
      | true =>
        simp only [hb] at hk
        have := Nat.eq_of_beq_eq_true hb
        subst this
        rw [hj]; exact hk
theorem En.sel (h : En N L a) (ks : List Nat) {L2 : List (Nat × Value)} (e : sels L ks [] = some L2) : En N L2 a := h.sub (sels_sub ks [] L2 (fun k v hk => by cases hk) e)
theorem En.env0 (h : En N L a) : Env N [] a := env_nil h.size h.defers
theorem En.put (h : En N L a) {d : Nat} (hd : d < N) (v : Value) : En N ((d, v) :: L) (a.put (some d) v) := by
  refine ⟨by simp [Act.put, h.size], h.defers, fun k u hi => ?_⟩
  unfold look at hi
  simp only [Act.put]
  cases hb : Nat.beq d k with
  | true =>
    simp only [hb] at hi
    have := Nat.eq_of_beq_eq_true hb
    subst this
    have hi : v = u := Option.some.inj hi
    subst hi
    simp [h.size, hd]
  | false =>
    simp only [hb] at hi
    have hne : d ≠ k := fun e => by subst e; simp at hb
    rw [Array.getElem?_setIfInBounds_ne hne]
    exact h.at_ k u hi
theorem look_arg : ∀ (vs : List Value) (i k : Nat) (v : Value), look (argL vs i) k = some v → i ≤ k ∧ vs[k - i]? = some v
  | [], i, k, v, h => by cases h
  | u :: vs, i, k, v, h => by
    unfold argL look at h
    cases hb : Nat.beq i k with
    | true =>
      simp only [hb] at h
      have := Nat.eq_of_beq_eq_true hb
      subst this
      simpa using h
    | false =>
      simp only [hb] at h
      have hne : i ≠ k := fun e => by subst e; simp at hb
      obtain ⟨h1, h2⟩ := look_arg vs (i + 1) k v h
      refine ⟨by omega, ?_⟩
      have e : k - i = (k - (i + 1)) + 1 := by omega
      rw [e]; simpa using h2
theorem enter_en {f : FuncId} {fn : Func} {c : Code} {l : List Value} {w : World} {R : Ending → World → Prop} (hf : P.funcs[f]? = some fn) (hb : fn.body = some c) (hN : fn.ntmps = N) (hl : l.length ≤ N)
    (h : ∀ a, En N (argL l 0) a → c.wp P (bodyPost P fn R) a w) : Calls P f l.toArray w R := by
  refine calls_of_wp hf hb (h _ ⟨by simp [hN]; omega, rfl, fun k v hi => ?_⟩)
  obtain ⟨_, h2⟩ := look_arg l 0 k v hi
  have hlt := (List.getElem?_eq_some_iff.1 h2).1
  simp only
  rw [Array.getElem?_append_left (by simpa using hlt)]
  simpa using h2
end
/- an operation, wherever it stands: K is what must hold behind it -/
def Og (P : Program) (ops : Array Oper) (Q : Exit → Act → World → Prop) (o : Oper) (K : Act → World → Prop) (a : Act) (w : World) : Prop :=
  ∀ K' : Act → World → Prop, (∀ a w, K a w → K' a w) → if Region.wanted o (yielded ops a.tmps) = true then Oper.wp P o a w K' Q else K' (a.put o.dst undef) w
section
variable {P : Program} {ops : Array Oper} {Q : Exit → Act → World → Prop} {rest : List Oper} {o : Oper} {K : Act → World → Prop} {N i fuel : Nat} {L : List (Nat × Value)} {a : Act} {w w0 : World} {listed : Array Bool} {S : World → Prop} {F : Nat → Prop} {B : List Blk} {d : Nat}
theorem wl_ (h : Og P ops Q o (wpList P ops Q rest) a w) : wpList P ops Q (o :: rest) a w := wpList_step h
theorem ho_ (ho : ops[i]? = some o) (h : Og P ops Q o K a w) : wpOp P ops Q i K a w := wpOp_step ho h
theorem h1_ (i : Nat) {o : Oper} (ho : ops[i]? = some o) (h : Og P ops Q o (fun a' w' => S w' ∧ wpAnyH P .any ops Q S fuel (listed.setIfInBounds i true) a' w') a w) (hr : Region.ready .any ops listed = [i] := by kernel_rfl) : wpAnyH P .any ops Q S (fuel + 1) listed a w :=
  wpAnyH_all hr (by simp) fun j hj => by
    obtain rfl : j = i := by simpa using hj
    exact wpOp_step ho h
theorem wg_ (H : En N L a) {j t : Nat} {b c e : Bool} (hg : o.guard = some (j, b)) (hd : dstAt ops j = some t) (ht : look L t = some (.bool c)) (h : (c == b) = e) : Region.wanted o (yielded ops a.tmps) = e := want_g hg hd (H.get t ht) h
theorem dr_ (H : En N L a) (hw : Region.wanted o (yielded ops a.tmps) = true) (hd : dq N o = some d) {R : Value → World → Prop} (hD : Does P o a w R) (h : ∀ v w', R v w' → ∀ a', En N ((d, v) :: L) a' → K a' w') : Og P ops Q o K a w := fun K' hK => by
  obtain ⟨h1, h2⟩ := dq_is hd
  rw [if_pos hw]
  exact hD K' Q fun v w' hR => by rw [h1]; exact hK _ _ (h v w' hR _ (H.put h2 v))
theorem d_ (H : En N L a) (hd : dg N o = some d) {R : Value → World → Prop} (hD : Does P o a w R) (h : ∀ v w', R v w' → ∀ a', En N ((d, v) :: L) a' → K a' w') : Og P ops Q o K a w := dr_ H (want_n (dg_is hd).1) (dg_is hd).2 hD h
theorem k_ (H : En N L a) (hw : Region.wanted o (yielded ops a.tmps) = false) (hd : dq N o = some d) (h : ∀ a', En N ((d, undef) :: L) a' → K a' w) : Og P ops Q o K a w := fun K' hK => by
  obtain ⟨h1, h2⟩ := dq_is hd
  rw [hw, if_neg (by decide), h1]
  exact hK _ _ (h _ (H.put h2 undef))
theorem i_ (H : En N L a) (hd : dg N o = some d) {v : Value} (hD : (execOp a.eval o).run P w = .ok (.value v) w) (h : ∀ a', En N ((d, v) :: L) a' → K a' w) : Og P ops Q o K a w :=
  d_ H hd (R := fun u w' => u = v ∧ w' = w) (dd_rn hD ⟨rfl, rfl⟩) fun v' w' hR a' HA' => by obtain ⟨rfl, rfl⟩ := hR; exact h a' HA'
theorem ig (H : En N L a) (hw : Region.wanted o (yielded ops a.tmps) = true) (hd : dq N o = some d) {v : Value} (hD : (execOp a.eval o).run P w = .ok (.value v) w) (h : ∀ a', En N ((d, v) :: L) a' → K a' w) : Og P ops Q o K a w :=
  dr_ H hw hd (R := fun u w' => u = v ∧ w' = w) (dd_rn hD ⟨rfl, rfl⟩) fun v' w' hR a' HA' => by obtain ⟨rfl, rfl⟩ := hR; exact h a' HA'
theorem icg (H : En N L a) (hw : Region.wanted o (yielded ops a.tmps) = true) (hd : dq N o = some d) {v : Value} (hD : Does P o a w fun u w' => u = v ∧ w' = w) (h : ∀ a', En N ((d, v) :: L) a' → K a' w) : Og P ops Q o K a w :=
  dr_ H hw hd hD fun v' w' hR a' HA' => by obtain ⟨rfl, rfl⟩ := hR; exact h a' HA'
theorem i0 (hd : dn o = true) {v : Value} (hD : (execOp a.eval o).run P w = .ok (.value v) w) (h : K a w) : Og P ops Q o K a w := fun K' hK => by
  rw [if_pos (want_n (dn_is hd).1)]
  exact dd_rn (R := fun u w' => u = v ∧ w' = w) hD ⟨rfl, rfl⟩ K' Q fun v' w' hR => by
    obtain ⟨rfl, rfl⟩ := hR
    rw [(dn_is hd).2]; exact hK _ _ h
/- a new block -/
theorem n_ (H : En N L a) (hd : dg N o = some d) {S : Nat → List Blk} {A : Nat → Value} (hD : ∀ R : Value → World → Prop, (∀ g w', St w0 F (S g) w' → R (A g) w') → Does P o a w R) (h : ∀ g w', St w0 F (S g) w' → ∀ a', En N ((d, A g) :: L) a' → K a' w') : Og P ops Q o K a w :=
  d_ H hd (hD (fun v w' => ∃ g, v = A g ∧ St w0 F (S g) w') fun g w' k => ⟨g, rfl, k⟩) fun v w' hR a' HA' => by
    obtain ⟨g, rfl, k⟩ := hR; exact h g w' k a' HA'
/- a store -/
theorem t_ (hd : dn o = true) {S : List Blk} (hD : ∀ R : Value → World → Prop, (∀ w', St w0 F S w' → R undef w') → Does P o a w R) (h : ∀ w', St w0 F S w' → K a w') : Og P ops Q o K a w := fun K' hK => by
  rw [if_pos (want_n (dn_is hd).1)]
  refine hD (fun _ w' => St w0 F S w') (fun _ k => k) K' Q fun v w' k => ?_
  rw [(dn_is hd).2]; exact hK _ _ (h w' k)
/- a call that leaves what was there -/
theorem c_ (H : En N L a) (hd : dg N o = some d) (HS : St w0 F B w) {v : Value} (hD : Does P o a w fun u w' => u = v ∧ Below w.heap.size w w') (h : ∀ w', St w0 F B w' → ∀ a', En N ((d, v) :: L) a' → K a' w') : Og P ops Q o K a w :=
  d_ H hd hD fun u w' hR a' HA' => by obtain ⟨rfl, k⟩ := hR; exact h w' (HS.same k) a' HA'
theorem cg (H : En N L a) (hw : Region.wanted o (yielded ops a.tmps) = true) (hd : dq N o = some d) (HS : St w0 F B w) {v : Value} (hD : Does P o a w fun u w' => u = v ∧ Below w.heap.size w w') (h : ∀ w', St w0 F B w' → ∀ a', En N ((d, v) :: L) a' → K a' w') : Og P ops Q o K a w :=
  dr_ H hw hd hD fun u w' hR a' HA' => by obtain ⟨rfl, k⟩ := hR; exact h w' (HS.same k) a' HA'
theorem dc_ {f : FuncId} {fn : Func} {xs : Array Operand} {ts : Array TypeId} {l : List Value} {R' : Ending → World → Prop} {R : Value → World → Prop} (hf : P.funcs[f]? = some fn) (ho : o.op = .call { callee := .value (.func f), args := xs, argTypes := ts }) (hx : (xs.map a.eval) = l.toArray) (C : Calls P f l.toArray w R')
    (h : ∀ e w', R' e w' → ∃ v, e = .returned v ∧ R v w') (hn : (fn.name == "runtime.NumGoroutine") = false := by kernel_rfl) (hb : fn.body.isNone = false := by kernel_rfl) : Does P o a w R := dd_call hf hn hb ho hx C h
theorem dcs {f : FuncId} {fn : Func} {xs : Array Operand} {ts : Array TypeId} {l : List Value} (hf : P.funcs[f]? = some fn) (ho : o.op = .call { callee := .value (.func f), args := xs, argTypes := ts }) (hx : (xs.map a.eval) = l.toArray) {v : Value} (C : Calls P f l.toArray w fun e w' => e = .returned v ∧ Below w.heap.size w w') (v' : Value)
    (hv : v = v' := by rfl) (hn : (fn.name == "runtime.NumGoroutine") = false := by kernel_rfl) (hb : fn.body.isNone = false := by kernel_rfl) : Does P o a w fun u w' => u = v' ∧ Below w.heap.size w w' := dd_call hf hn hb ho hx C fun _ _ h => ⟨v, h.1, hv, h.2⟩
/- several operations that only move values, in order -/
def opv (L : List (Nat × Value)) : Operand → Option Value
  | .tmp k => look L k
  | .const v => some v
  | _ => none
theorem opv_is (H : En N L a) {x : Operand} {v : Value} (h : opv L x = some v) : a.eval x = v := by
  cases x with
  | tmp k => exact H.ev k h
  | const u => exact Option.some.inj h
  | _ => cases h
def pur (L : List (Nat × Value)) (o : Oper) : Option Value := match o.op with
  | .move x => opv L x
  | .assign x => opv L x
  | .pick c x y => match opv L c with
    | some (.bool true) => opv L x
    | some (.bool false) => opv L y
    | _ => none
  | _ => none
theorem pur_is (H : En N L a) {v : Value} (h : pur L o = some v) : (execOp a.eval o).run P w = .ok (.value v) w := by
  unfold pur at h
  split at h
  · exact dd_mv (by assumption) (opv_is H h)
  · exact dd_as (by assumption) (opv_is H h)
  · split at h
    · exact dd_pickT (by assumption) (opv_is H (by assumption)) (opv_is H h)
    · exact dd_pickF (by assumption) (opv_is H (by assumption)) (opv_is H h)
    · cases h
  · cases h
def purs (N : Nat) : Nat → List (Nat × Value) → List Oper → Option (List (Nat × Value) × List Oper)
  | 0, L, l => some (L, l)
  | _ + 1, _, [] => none
  | n + 1, L, o :: l => match dg N o with
    | none => none
    | some d => match pur L o with
      | none => none
      | some v => purs N n ((d, v) :: L) l
theorem purs_is : ∀ (n : Nat) {L L' : List (Nat × Value)} {l l' : List Oper} {a : Act}, En N L a → purs N n L l = some (L', l') → (∀ a', En N L' a' → wpList P ops Q l' a' w) → wpList P ops Q l a w
  | 0, L, L', l, l', a, H, e, h => by
    injection e with e
    injection e with e1 e2
    subst e1 e2
    exact h a H
  | n + 1, L, L', [], l', a, H, e, h => by cases e
  | n + 1, L, L', o :: l, l', a, H, e, h => by
    unfold purs at e
    split at e
    · cases e
    · split at e
      · cases e
      · rename_i d hd _ v hv
        exact wl_ (i_ H hd (pur_is H hv) fun a' H' => purs_is n H' e h)
theorem q_ (H : En N L a) (n : Nat) {l l' : List Oper} {L' : List (Nat × Value)} (e : purs N n L l = some (L', l')) (h : ∀ a', En N L' a' → wpList P ops Q l' a' w) : wpList P ops Q l a w := purs_is n H e h
theorem p_ (H : En N L a) (hd : dg N o = some d) {v : Value} (hp : pur L o = some v) (h : ∀ a', En N ((d, v) :: L) a' → K a' w) : Og P ops Q o K a w := i_ H hd (pur_is H hp) h
/- regions that draw -/
class PQc (Q : Exit → Act → World → Prop) : Prop where
  pq : PQ Q
instance {K : Act → World → Prop} {Q : Exit → Act → World → Prop} [h : PQc Q] : PQc (Exit.then K Q) := ⟨pq_then h.pq⟩
instance {id : Nat} {Q : Exit → Act → World → Prop} [h : PQc Q] : PQc (Exit.inBlock id Q) := ⟨pq_block h.pq⟩
instance {fn : Func} {R : Ending → World → Prop} : PQc (bodyPost P fn R) := ⟨pq_body⟩
def Sx (w0 : World) (F : Nat → Prop) (B : List Blk) (w : World) : Prop := ∃ R9, St w0 F (B ++ R9) w
theorem sxi {S R9 : List Blk} (h : St w0 F S w) (is : List Nat) (e : selB S is = B ++ R9) (hn : is.Nodup := by decide) : Sx w0 F B w := ⟨R9, e ▸ st_sel h is hn⟩
theorem ss {S : List Blk} (h : St w0 F S w) (is : List Nat) (hn : is.Nodup := by decide) : St w0 F (selB S is) w := st_sel h is hn
def hck (ops : Array Oper) (listed : Array Bool) (i : Nat) : Bool := Region.noSelect ops && Region.free .any ops listed i && (Region.ready .any ops listed).contains i
theorem hck_is (h : hck ops listed i = true) : Region.noSelect ops = true ∧ Region.free .any ops listed i = true ∧ (Region.ready .any ops listed).contains i = true := by
  unfold hck at h
  simp only [Bool.and_eq_true] at h
  exact ⟨h.1.1, h.1.2, h.2⟩
theorem htg [hq : PQc Q] (H : En N L a) (i : Nat) {o : Oper} (hS : Sx w0 F B w) (hi : ops[i]? = some o) (hw : Region.wanted o (yielded ops a.tmps) = true) (hd : dq N o = some d) {v : Value} (hy : ∀ w R9, St w0 F (B ++ R9) w → (execOp a.eval o).run P w = .ok (.value v) w)
    (h : ∀ a', En N ((d, v) :: L) a' → wpAnyH P .any ops Q (Sx w0 F B) fuel (listed.setIfInBounds i true) a' w) (hc : hck ops listed i = true := by kernel_rfl) : wpAnyH P .any ops Q (Sx w0 F B) (fuel + 1) listed a w := by
  obtain ⟨h1, h2, h3⟩ := hck_is hc
  refine wpAnyH_take hi h1 h2 h3 (fun c a w => hq.pq c a o.dst v w) (.inl ⟨hw, fun w ⟨R9, k⟩ => hy w R9 k⟩) hS ?_
  rw [(dq_is hd).1]
  exact h _ (H.put (dq_is hd).2 v)
theorem ht_ [PQc Q] (H : En N L a) (i : Nat) {o : Oper} (hS : Sx w0 F B w) (hi : ops[i]? = some o) (hd : dg N o = some d) {v : Value} (hy : ∀ w R9, St w0 F (B ++ R9) w → (execOp a.eval o).run P w = .ok (.value v) w)
    (h : ∀ a', En N ((d, v) :: L) a' → wpAnyH P .any ops Q (Sx w0 F B) fuel (listed.setIfInBounds i true) a' w) (hc : hck ops listed i = true := by kernel_rfl) : wpAnyH P .any ops Q (Sx w0 F B) (fuel + 1) listed a w :=
  htg H i hS hi (want_n (dg_is hd).1) (dg_is hd).2 hy h hc
theorem hp_ [PQc Q] (H : En N L a) (i : Nat) {o : Oper} (hS : Sx w0 F B w) (hi : ops[i]? = some o) (hd : dg N o = some d) {v : Value} (hp : pur L o = some v)
    (h : ∀ a', En N ((d, v) :: L) a' → wpAnyH P .any ops Q (Sx w0 F B) fuel (listed.setIfInBounds i true) a' w) (hc : hck ops listed i = true := by kernel_rfl) : wpAnyH P .any ops Q (Sx w0 F B) (fuel + 1) listed a w :=
  ht_ H i hS hi hd (fun _ _ _ => pur_is H hp) h hc
theorem hk_ [hq : PQc Q] (H : En N L a) (i : Nat) {o : Oper} (hS : Sx w0 F B w) (hi : ops[i]? = some o) (hw : Region.wanted o (yielded ops a.tmps) = false) (hd : dq N o = some d)
    (h : ∀ a', En N ((d, undef) :: L) a' → wpAnyH P .any ops Q (Sx w0 F B) fuel (listed.setIfInBounds i true) a' w) (hc : hck ops listed i = true := by kernel_rfl) : wpAnyH P .any ops Q (Sx w0 F B) (fuel + 1) listed a w := by
  obtain ⟨h1, h2, h3⟩ := hck_is hc
  refine wpAnyH_take hi h1 h2 h3 (fun c a w => hq.pq c a o.dst undef w) (.inr ⟨hw, rfl⟩) hS ?_
  rw [(dq_is hd).1]
  exact h _ (H.put (dq_is hd).2 undef)
theorem sx_ {A B : Prop} (h : A) (k : A → B) : A ∧ B := ⟨h, k h⟩
theorem wh_ {S : List Blk} (HS : St w0 F S w) (B : List Blk) {id : Nat} {l : List Oper} {M : Nat} (hM : l.length = M) (hx : Sx w0 F B w) (h : St w0 F S w.drew → Sx w0 F B w.drew → wpAnyH P .any l.toArray Q (Sx w0 F B) M (Array.replicate M false) a w.drew) (hm : P.follows .mixedOrders = true := by kernel_rfl) : (Code.region id l.toArray true).wp P Q a w :=
  wp_held _ hm hM (h HS.drew (let ⟨R9, k⟩ := hx; ⟨R9, k.drew⟩))
theorem wi_ {S : List Blk} (HS : St w0 F S w) (is : List Nat) {id : Nat} {l : List Oper} {M : Nat} (hM : l.length = M) {R9 : List Blk} (js : List Nat) (e : selB S js = selB S is ++ R9) (h : St w0 F S w.drew → Sx w0 F (selB S is) w.drew → wpAnyH P .any l.toArray Q (Sx w0 F (selB S is)) M (Array.replicate M false) a w.drew) (hn : js.Nodup := by decide) (hm : P.follows .mixedOrders = true := by kernel_rfl) : (Code.region id l.toArray true).wp P Q a w :=
  wh_ HS (selB S is) hM (sxi HS js e hn) h hm
end
/- shorter names -/
section
variable {P : Program} {o : Oper} {a : Act} {w : World}
theorem xA (n sz j : Nat) {t : TypeId} {x y : Operand} {g i : Nat} {k : IntKind} {m : Int} (ho : o.op = .indexAddr t x y) (hx : a.eval x = .pointer (some ⟨g, i, none⟩)) (hy : a.eval y = .int k m) (ht : arrOf P t = some (n, sz) := by kernel_rfl) (h0 : 0 ≤ m := by decide) (hn : m < (n : Int) := by decide) (hj : i + m.toNat * sz = j := by rfl) : (execOp a.eval o).run P w = .ok (.value (.pointer (some ⟨g, j, none⟩))) w := dd_idxA ho hx hy ht h0 hn hj
theorem xf (off j : Nat) {s : TypeId} {x : Operand} {f g i : Nat} (ho : o.op = .fieldAddr s x f) (hx : a.eval x = .pointer (some ⟨g, i, none⟩)) (hf : fieldOff P s f = some off := by kernel_rfl) (hj : i + off = j := by rfl) : (execOp a.eval o).run P w = .ok (.value (.pointer (some ⟨g, j, none⟩))) w := dd_field ho hx hf hj
end
/- code -/
section
variable {P : Program} {Q : Exit → Act → World → Prop} {a : Act} {w : World} {N : Nat} {L : List (Nat × Value)} {x y : Code} {id : Nat}
theorem sq_ (h : x.wp P (Exit.then (y.wp P Q) Q) a w) : (Code.seq x y).wp P Q a w := wp_seq h
theorem rl_ {l : List Oper} (h : wpList P l.toArray Q l a w) : (Code.region id l.toArray false).wp P Q a w := wp_region_lit h
theorem ln_ {ops : Array Oper} (h : Q .normal a w) : wpList P ops Q [] a w := h
theorem ct_ (H : En N L a) {k : Nat} (hk : look L k = some (.bool true)) (h : x.wp P Q a w) : (Code.cond (.tmp k) x y).wp P Q a w := wp_cond_true (H.ev k hk) h
theorem cf_ (H : En N L a) {k : Nat} (hk : look L k = some (.bool false)) (h : y.wp P Q a w) : (Code.cond (.tmp k) x y).wp P Q a w := wp_cond_false (H.ev k hk) h
end
end Go.Proofs.YtcheflcfoiclgaaDoor

/- Strings and copies in a walk. No function of the program is named here. -/
set_option maxRecDepth 4000
namespace Go.Proofs.YtcheflcfoiclgaaDoor
open Go Go.RowKit
section
variable {o : Oper} {a : Act} {w w0 : World} {R : Value → World → Prop} {F : Nat → Prop} {S : List Blk}
end
theorem sbeq_t {p q : List (BitVec 8)} (h : p = q) : ((strB p).toList == (strB q).toList) = true := by rw [str_beq, decide_eq_true h]
theorem sbeq_f {p q : List (BitVec 8)} (h : ¬ p = q) : ((strB p).toList == (strB q).toList) = false := by rw [str_beq, decide_eq_false h]
section
variable {o : Oper} {a : Act} {w w0 : World} {R : Value → World → Prop} {F : Nat → Prop} {S : List Blk}
end
end Go.Proofs.YtcheflcfoiclgaaDoor

/- Who may do what, plainly. No function of the program is named here. -/
set_option maxRecDepth 4000
namespace Go.Proofs.YtcheflcfoiclgaaDoor
open Go Go.RowKit
def andI (x y : Int) : Int := IntKind.i64.wrap ((BitVec.ofInt 64 x &&& BitVec.ofInt 64 y).toNat : Int)
def mintK (key : List (BitVec 8)) (c : Clm) : Array Value := if mayC c = true then tokCells c (tagOf key (clmB c)) else tokCells clm0 (zer 32)
def mintE (c : Clm) : Int := if mayC c = true then 0 else 11
def minB (key : List (BitVec 8)) (pl : Int) (c : Clm) (t : List (BitVec 8)) : Bool := mayC c && decide (c.p = pl) && decide (tagOf key (clmB c) = t)
def chkT (key : List (BitVec 8)) (pl : Int) (gn tk : BitVec 32) (c : Clm) (t nm : List (BitVec 8)) (x : Int) : Int :=
  if minB key pl c t = false then 12 else if ¬ wd c.g = wd gn then 14 else if wd c.u < wd tk then 13 else if ¬ c.n = [] ∧ ¬ c.n = nm then 15 else if ¬ andI c.r x = x then 15 else 0
section
variable {key : List (BitVec 8)} {pl : Int} {gn tk : BitVec 32} {c : Clm} {t nm : List (BitVec 8)} {x : Int}
theorem mintK_y (h : mayC c = true) : mintK key c = tokCells c (tagOf key (clmB c)) := if_pos h
theorem mintK_n (h : mayC c = false) : mintK key c = tokCells clm0 (zer 32) := if_neg (by rw [h]; decide)
theorem mintE_y (h : mayC c = true) : mintE c = 0 := if_pos h
theorem mintE_n (h : mayC c = false) : mintE c = 11 := if_neg (by rw [h]; decide)
theorem minB_m (h : mayC c = false) : minB key pl c t = false := by unfold minB; rw [h]; rfl
theorem minB_p (h : ¬ c.p = pl) : minB key pl c t = false := by unfold minB; rw [decide_eq_false h]; simp
theorem minB_y (h : mayC c = true) (h2 : c.p = pl) : minB key pl c t = decide (tagOf key (clmB c) = t) := by unfold minB; rw [h, decide_eq_true h2]; rfl
theorem chk_12 (h : minB key pl c t = false) : chkT key pl gn tk c t nm x = 12 := if_pos h
theorem chk_14 (h : minB key pl c t = true) (h2 : ¬ wd c.g = wd gn) : chkT key pl gn tk c t nm x = 14 := by unfold chkT; rw [if_neg (by rw [h]; decide), if_pos h2]
theorem chk_13 (h : minB key pl c t = true) (h2 : wd c.g = wd gn) (h3 : wd c.u < wd tk) : chkT key pl gn tk c t nm x = 13 := by unfold chkT; rw [if_neg (by rw [h]; decide), if_neg (fun k => k h2), if_pos h3]
theorem chk_15 (h : minB key pl c t = true) (h2 : wd c.g = wd gn) (h3 : ¬ wd c.u < wd tk) (h4 : (¬ c.n = [] ∧ ¬ c.n = nm) ∨ ¬ andI c.r x = x) : chkT key pl gn tk c t nm x = 15 := by
  unfold chkT; rw [if_neg (by rw [h]; decide), if_neg (fun k => k h2), if_neg h3]
  split
  · rfl
  · rcases h4 with h4 | h4
    · exact absurd h4 (by assumption)
    · rw [if_pos h4]
theorem chk_0 (h : minB key pl c t = true) (h2 : wd c.g = wd gn) (h3 : ¬ wd c.u < wd tk) (h4 : c.n = [] ∨ c.n = nm) (h5 : andI c.r x = x) : chkT key pl gn tk c t nm x = 0 := by
  unfold chkT; rw [if_neg (by rw [h]; decide), if_neg (fun k => k h2), if_neg h3, if_neg (fun k => h4.elim k.1 k.2), if_neg (fun k => k h5)]
end
theorem tk_size (c : Clm) {t : List (BitVec 8)} (h : t.length = 32) : (tokCells c t).size = 37 := by unfold tokCells; rw [Array.size_append, size_bs, h]; rfl
theorem tk_one (c : Clm) (t : List (BitVec 8)) : (Value.agg (tokCells c t)).cells.all (·.oneCell') = true := by
  show (tokCells c t).all _ = true
  unfold tokCells
  rw [Array.all_append, Bool.and_eq_true]
  exact ⟨by simp [clmCells, Value.oneCell'], one_bs t⟩
theorem tk_get (c : Clm) (t : List (BitVec 8)) {k : Nat} {v : Value} (h : (clmCells c)[k]? = some v) : (tokCells c t)[k]? = some v := by
  unfold tokCells; rw [Array.getElem?_append_left (Array.getElem?_eq_some_iff.1 h).1]; exact h
theorem tk_clm (c : Clm) (t : List (BitVec 8)) : ((tokCells c t).toList.drop 0).take (clmCells c).size = (clmCells c).toList := by
  unfold tokCells; rw [Array.toList_append, List.drop_zero, ← Array.length_toList, List.take_left']; rfl
theorem tk_tag (c : Clm) (t : List (BitVec 8)) : ((tokCells c t).toList.drop 5).take (bs t).size = (bs t).toList := by
  unfold tokCells; rw [Array.toList_append, List.drop_left' (by rfl), ← Array.length_toList, List.take_length]
theorem tk_put (c : Clm) (t : List (BitVec 8)) (i : Nat) (x : BitVec 8) : (tokCells c t).setIfInBounds (5 + i) (.int .u8 (bd x)) = tokCells c (t.set i x) := by
  unfold tokCells
  rw [Array.setIfInBounds_append_right (show (clmCells c).size ≤ 5 + i from Nat.le_add_right 5 i), show 5 + i - (clmCells c).size = i from Nat.add_sub_cancel_left 5 i, set_bs]
theorem cat_tok (c : Clm) (t : List (BitVec 8)) : catA [(clmCells c).toList, bytesV t] = tokCells c t := by
  unfold catA tokCells; simp [bs, bytesV]
theorem len_tag (key M : List (BitVec 8)) : (tagOf key M).length = 32 := by unfold tagOf; exact length_sha _
theorem parts_row1 {w : World} {g : Nat} {t : TypeId} {u : Value} {b : List (BitVec 8)} (h : Row w g t #[u]) (hu : Slice w u b) : Parts w (.slice (some ⟨g, 0, none⟩) 1 1) [b] := by
  refine ⟨_, 1, rfl, fun _ => ⟨g, 0, rfl, h.lt, fun k p hp => ?_⟩⟩
  match k, hp with
  | 0, hp => obtain rfl : b = p := by simpa using hp
             exact ⟨u, h.get rfl, hu⟩
end Go.Proofs.YtcheflcfoiclgaaDoor

/- The program's Mint, minted, Check. -/
set_option maxRecDepth 4000
namespace Go.Proofs.YtcheflcfoiclgaaDoor
open Go Go.RowKit
theorem mac_row1 (key b : List (BitVec 8)) {kv u : Value} {g : Nat} {t : TypeId} (w : World) (hT : Tab w) (hk : Slice w kv key) (hkl : key.length ≤ 1000000) (hr : Row w g t #[u]) (hu : Slice w u b) (hb : b.length ≤ 1000000) :
    Calls Tryd.prog 15 #[kv, .slice (some ⟨g, 0, none⟩) 1 1] w fun e w' => e = .returned (.agg (bs (tagOf key b))) ∧ Below w.heap.size w w' :=
  mac_one key b kv _ w hT hk hkl (parts_row1 hr hu) hb _ rfl
theorem sbz_t {p : List (BitVec 8)} (h : p = []) : ((strB p).toList == (⟨#[]⟩ : ByteArray).toList) = true := by rw [str_beq0, decide_eq_true h]
theorem sbz_f {p : List (BitVec 8)} (h : ¬ p = []) : ((strB p).toList == (⟨#[]⟩ : ByteArray).toList) = false := by rw [str_beq0, decide_eq_false h]
set_option maxHeartbeats 800000 in
theorem mint_any (A : Option Addr) (n cc : Nat) (key : List (BitVec 8)) (c : Clm) (w : World) (hT : Tab w) (hk : Item w (.slice A n cc) key) (hn1 : n ≤ 100000) (hn : c.n.length ≤ maxLen) :
    Calls Tryd.prog 7 #[.slice A n cc, .agg (clmCells c)] w fun e w' => e = .returned (.tuple #[.agg (mintK key c), .int .i64 (mintE c)]) ∧ Below w.heap.size w w' := by
  have HS := St.nil w noF
  have HK : ∀ W, Below w.heap.size w W → Item W (.slice A n cc) key := fun W hb => hk.below hb (Nat.le_refl _)
  have hkl : key.length = n := by obtain ⟨_, _, e, _⟩ := hk; injection e with _ e _; exact e.symm
  have HT : ∀ W, Below w.heap.size w W → Tab W := fun W hb => hT.below hb hT.pos
  refine enter_en Tryd.func7 rfl Tryd.ntmps7 (Nat.le_of_ble_eq_true rfl) fun a0 (HA0 : En 23 [(0, .slice A n cc), (1, .agg (clmCells c))] a0) => ?_
  refine sq_ <| rl_ <| wl_ <| n_ HA0 rfl (fun _ h => dd_box HS rfl (HA0.ev 1 rfl) (cs := (clmCells c)) rfl h) fun g3 W1 HS1 a1 H1 => wl_ <| n_ H1 rfl (fun _ h => dd_new HS1 (catA [[.int .i64 0], [.string (⟨#[]⟩)], [.int .i64 0], [.int .u32 0], [.int .u32 0], bytesV (zer 32)]) rfl (z := .agg (catA [[.int .i64 0], [.string (⟨#[]⟩)], [.int .i64 0], [.int .u32 0], [.int .u32 0], bytesV (zer 32)])) (by kernel_rfl) rfl h) fun g4 W2 HS2 a2 H2 => wl_ <| p_ H2 rfl rfl fun a3 H3 => ln_ <| nx <| sq_ <| rl_ <| wl_ <| i_ H3 rfl (v := .agg (clmCells c)) (dd_load HS2 0 0 rfl rfl (H3.ev 3 rfl) (slab_whole _) Tryd.underlying27 rfl (by rw [show (clmCells c).size = 5 from rfl]; kernel_rfl)) fun a4 H4 => ?_
  clear HS HA0 a0 HS1 H1 a1 H2 a2 H3 a3
  cases hb6 : mayC c
  case false =>
   refine wl_ <| c_ H4 rfl HS2 (dcs Tryd.func14 rfl (args1 (H4.ev 9 rfl)) (claim_bad c W2 hn hb6) (.tuple #[.slice none 0 0, .int .i64 11])) fun W7 HS7 a7 H7 => wl_ <| p_ H7 rfl rfl fun a8 H8 => wl_ <| i_ H8 rfl (dd_ext rfl (H8.ev 8 rfl) rfl) fun a9 H9 => wl_ <| i_ H9 rfl (dd_ext rfl (H9.ev 8 rfl) rfl) fun a10 H10 => q_ H10 2 rfl fun a11 H11 => ln_ <| nx <| sq_ <| sq_ <| rl_ <| wl_ <| p_ H11 rfl rfl fun a12 H12 => wl_ <| i_ H12 rfl (dd_cmp rfl (H12.ev 13 rfl) rfl (ne_t (by decide))) fun a13 H13 => ln_ <| nx <| ct_ H13 rfl <| sq_ <| rl_ <| wl_ <| i_ H13 rfl (v := .agg (catA [(#[.int .i64 0, .string (⟨#[]⟩), .int .i64 0, .int .u32 0, .int .u32 0]).toList, bytesV (zer 32)])) (dd_bld rfl (ps := []) (pr0) (Lz := [#[.int .i64 0, .string (⟨#[]⟩), .int .i64 0, .int .u32 0, .int .u32 0].toList, bytesV (zer 32)]) (by kernel_rfl) (lens_cons ((Array.length_toList).trans rfl) (lens_cons (len_bv (length_zer 32)) (lens_nil))) (fit_nil) (cs := catA [(#[.int .i64 0, .string (⟨#[]⟩), .int .i64 0, .int .u32 0, .int .u32 0]).toList, bytesV (zer 32)]) rfl) fun a14 H14 => ?_
   clear H4 a4 HS2 H7 a7 H8 a8 H9 a9 H10 a10 H11 a11 H12 a12
   refine wl_ <| p_ H14 rfl rfl fun a15 H15 => wl_ <| t_ rfl (fun _ h => dd_setrow HS7 1 rfl rfl (H15.ev 4 rfl) (H15.ev 15 rfl) (by kernel_rfl) ((cat_size (lens_cons ((Array.length_toList).trans rfl) (lens_cons (len_bv (length_zer 32)) (lens_nil)))) : (catA [(#[.int .i64 0, .string (⟨#[]⟩), .int .i64 0, .int .u32 0, .int .u32 0]).toList, bytesV (zer 32)]).size = 37) ((cat_size (lens_cons rfl (lens_cons rfl (lens_cons rfl (lens_cons rfl (lens_cons rfl (lens_cons (len_bv (length_zer 32)) (lens_nil)))))))) : (catA [[.int .i64 0], [.string (⟨#[]⟩)], [.int .i64 0], [.int .u32 0], [.int .u32 0], bytesV (zer 32)]).size = 37) (cat_one (ones_cons (all_one (one_l (ao_cons rfl (ao_cons rfl (ao_cons rfl (ao_cons rfl (ao_cons rfl ao_nil))))))) (ones_cons (one_bytesV _) (ones_nil)))) h) fun W16 HS16 => wl_ <| p_ H15 rfl rfl fun a17 H17 => ln_ <| nx <| wp_ret <| tr <| ret_run H17.env0 (res_ct Tryd.results7 (H17.get 4 rfl) (HS16.row 1 rfl) Tryd.underlying31 rfl (by rw [show (catA [(#[.int .i64 0, .string (⟨#[]⟩), .int .i64 0, .int .u32 0, .int .u32 0]).toList, bytesV (zer 32)]).size = 37 from (cat_size (lens_cons ((Array.length_toList).trans rfl) (lens_cons (len_bv (length_zer 32)) (lens_nil))))]; kernel_rfl) (H17.get 5 rfl)) <| ?_
   clear H13 a13 H14 a14 HS7 H15 a15
   exact ⟨by rw [mintK_n hb6, mintE_n hb6]; rfl, HS16.below⟩
  case true =>
   refine wl_ <| d_ H4 rfl (R := fun v w9 => ∃ gt19 ct19 cbt19, v = .tuple #[.slice (some ⟨gt19, 0, none⟩) 14 ct19, .int .i64 0] ∧ (W2.heap.size ≤ gt19) ∧ (Row w9 gt19 5 cbt19) ∧ (OwnC cbt19 ct19 14 1 (bytesV (clmB c))) ∧ Below W2.heap.size W2 w9) (dc_ Tryd.func14 rfl (args1 (H4.ev 9 rfl)) (claim_good c W2 hn hb6) (fun _ w9 ⟨v9, he, ho, hb⟩ => by rw [length_clmB] at ho; obtain ⟨g9, c9, cb9, rfl, h1, h2, h3⟩ := ownc_pos ho (by decide); exact ⟨_, he, g9, c9, cb9, rfl, h1, h2, h3, hb⟩)) ?_
   rintro _ W18 ⟨gt19, ct19, cbt19, rfl, hg19, hr19, Ot19, hb18⟩ a18 H18
   have HS18 := HS2.same hb18
   clear H4 a4
   have HS18j : St w noF [⟨g3, 27, clmCells c⟩, ⟨g4, 31, catA [[.int .i64 0], [.string (⟨#[]⟩)], [.int .i64 0], [.int .u32 0], [.int .u32 0], bytesV (zer 32)]⟩, ⟨gt19, 5, cbt19⟩] W18 := HS2.joins hb18 hr19 hg19
   clear HS18 hr19 hg19
   clear HS2 hb18
   refine wl_ <| p_ H18 rfl rfl fun a20 H20 => wl_ <| i_ H20 rfl (dd_ext rfl (H20.ev 8 rfl) rfl) fun a21 H21 => wl_ <| i_ H21 rfl (dd_ext rfl (H21.ev 8 rfl) rfl) fun a22 H22 => q_ H22 2 rfl fun a23 H23 => ln_ <| nx <| sq_ <| sq_ <| rl_ <| wl_ <| p_ H23 rfl rfl fun a24 H24 => wl_ <| i_ H24 rfl (dd_cmp rfl (H24.ev 13 rfl) rfl (ne_f (by decide))) fun a25 H25 => ln_ <| nx <| cf_ H25 rfl <| wp_skip <| nx <| sq_ <| ?_
   clear H18 a18 H20 a20 H21 a21 H22 a22 H23 a23 H24 a24
   refine wi_ HS18j [0] rfl [0, 1, 2] rfl fun HSh26 hx26 => ht_ H25 0 hx26 rfl rfl (v := .agg (clmCells c)) (fun _ _ HS9 => dd_load HS9 0 0 rfl rfl (H25.ev 3 rfl) (slab_whole _) Tryd.underlying27 rfl (by rw [show (clmCells c).size = 5 from rfl]; kernel_rfl)) fun a27 H27 => hp_ H27 1 hx26 rfl rfl rfl fun a28 H28 => hp_ H28 2 hx26 rfl rfl rfl fun a29 H29 => h1_ 3 rfl <| n_ H29 rfl (fun _ h => dd_lits HSh26 #[.slice (some ⟨gt19, 0, none⟩) 14 ct19] rfl (ps := [(0, .slice (some ⟨gt19, 0, none⟩) 14 ct19)]) (pr1 (H29.ev 19 rfl) (pr0)) (z := .slice none 0 0) (sz := 1) Tryd.underlying56 (by kernel_rfl) rfl rfl (by kernel_rfl) h) fun g20 W30 HS30 a30 H30 => sx_ (sxi HS30 [0, 1, 2, 3] rfl) fun hx31 => h1_ 4 rfl <| c_ H30 rfl HS30 (dcs Tryd.func15 rfl (args2 (H30.ev 18 rfl) (H30.ev 20 rfl)) (mac_row1 key (clmB c) W30 (HT _ HS30.below) (HK _ HS30.below).slice (by rw [hkl]; omega) (HS30.row 3 rfl) (slice_own (HS30.row 2 rfl) Ot19 (length_clmB _)) (by rw [(length_clmB _)]; omega)) (.agg (bs (tagOf key (clmB c))))) fun W32 HS32 a32 H32 => sx_ (sxi HS32 [0, 1, 2, 3] rfl) fun hx33 => ?_
   clear HS18j H25 a25 H27 a27 H28 a28 HSh26 H29 a29 hx26 H30 a30 HS30
   refine ht_ H32 5 hx33 rfl rfl (v := .agg (catA [(clmCells c).toList, bytesV (tagOf key (clmB c))])) (fun _ _ _ => dd_bld rfl (ps := [(0, .agg (clmCells c)), (1, .agg (bs (tagOf key (clmB c))))]) (pr1 (H32.ev 17 rfl) (pr1 (H32.ev 21 rfl) (pr0))) (Lz := [#[.int .i64 0, .string (⟨#[]⟩), .int .i64 0, .int .u32 0, .int .u32 0].toList, bytesV (zer 32)]) (by kernel_rfl) (lens_cons ((Array.length_toList).trans rfl) (lens_cons (len_bv (length_zer 32)) (lens_nil))) (fit_cons (i := 0) rfl rfl (fit_cons (i := 1) rfl ((size_bs _).trans (len_tag _ _)) (fit_nil))) (cs := catA [(clmCells c).toList, bytesV (tagOf key (clmB c))]) rfl) fun a34 H34 => h1_ 6 rfl <| t_ rfl (fun _ h => dd_setrow HS32 1 rfl rfl (H34.ev 4 rfl) (H34.ev 22 rfl) (by kernel_rfl) ((cat_size (lens_cons ((Array.length_toList).trans rfl) (lens_cons (len_bv (len_tag _ _)) (lens_nil)))) : (catA [(clmCells c).toList, bytesV (tagOf key (clmB c))]).size = 37) ((cat_size (lens_cons rfl (lens_cons rfl (lens_cons rfl (lens_cons rfl (lens_cons rfl (lens_cons (len_bv (length_zer 32)) (lens_nil)))))))) : (catA [[.int .i64 0], [.string (⟨#[]⟩)], [.int .i64 0], [.int .u32 0], [.int .u32 0], bytesV (zer 32)]).size = 37) (cat_one (ones_cons (all_one (one_l (ao_cons rfl (ao_cons rfl (ao_cons rfl (ao_cons rfl (ao_cons rfl ao_nil))))))) (ones_cons (one_bytesV _) (ones_nil)))) h) fun W35 HS35 => sx_ (sxi HS35 [0, 1, 2, 3] rfl) fun hx36 => hp_ H34 7 hx36 rfl rfl rfl fun a37 H37 => ?_
   clear hx31 H32 a32 HS32 hx33 H34 a34
   refine wpAnyH_done (by kernel_rfl) ?_ _
   clear hx36
   refine nx <| wp_ret <| ret_run H37.env0 (res_ct Tryd.results7 (H37.get 4 rfl) (HS35.row 1 rfl) Tryd.underlying31 rfl (by rw [show (catA [(clmCells c).toList, bytesV (tagOf key (clmB c))]).size = 37 from (cat_size (lens_cons ((Array.length_toList).trans rfl) (lens_cons (len_bv (len_tag _ _)) (lens_nil))))]; kernel_rfl) (H37.get 5 rfl)) <| ?_
   exact ⟨by rw [mintK_y hb6, mintE_y hb6, ← cat_tok], HS35.below⟩
theorem minted_any (A : Option Addr) (n cc : Nat) (key : List (BitVec 8)) (pl : Int) (gn tk : BitVec 32) (c : Clm) (t : List (BitVec 8)) (w : World) (hT : Tab w) (hk : Item w (.slice A n cc) key) (hn1 : n ≤ 100000) (hn : c.n.length ≤ maxLen) (ht : t.length = 32) :
    Calls Tryd.prog 18 #[.agg #[.slice A n cc, .int .i64 pl, .int .u32 (wd gn), .int .u32 (wd tk)], .agg (tokCells c t)] w fun e w' => e = .returned (.bool (minB key pl c t)) ∧ Below w.heap.size w w' := by
  have HS := St.nil w noF
  have HK : ∀ W, Below w.heap.size w W → Item W (.slice A n cc) key := fun W hb => hk.below hb (Nat.le_refl _)
  have hkl : key.length = n := by obtain ⟨_, _, e, _⟩ := hk; injection e with _ e _; exact e.symm
  have HT : ∀ W, Below w.heap.size w W → Tab W := fun W hb => hT.below hb hT.pos
  refine enter_en Tryd.func18 rfl Tryd.ntmps18 (Nat.le_of_ble_eq_true rfl) fun a0 (HA0 : En 32 [(0, .agg #[.slice A n cc, .int .i64 pl, .int .u32 (wd gn), .int .u32 (wd tk)]), (1, .agg (tokCells c t))] a0) => ?_
  refine sq_ <| rl_ <| wl_ <| n_ HA0 rfl (fun _ h => dd_box HS rfl (HA0.ev 0 rfl) (cs := #[.slice A n cc, .int .i64 pl, .int .u32 (wd gn), .int .u32 (wd tk)]) rfl h) fun g2 W1 HS1 a1 H1 => wl_ <| n_ H1 rfl (fun _ h => dd_box HS1 rfl (H1.ev 1 rfl) (cs := (tokCells c t)) rfl h) fun g3 W2 HS2 a2 H2 => wl_ <| p_ H2 rfl rfl fun a3 H3 => ln_ <| nx <| sq_ <| rl_ <| wl_ <| i_ H3 rfl (xf 0 0 rfl (H3.ev 2 rfl)) fun a4 H4 => wl_ <| i_ H4 rfl (dd_get HS2 0 0 rfl rfl (H4.ev 8 rfl) rfl Tryd.underlying22 rfl) fun a5 H5 => wl_ <| i_ H5 rfl (xf 0 0 rfl (H5.ev 3 rfl)) fun a6 H6 => wl_ <| i_ H6 rfl (v := .agg (clmCells c)) (dd_load HS2 1 0 rfl rfl (H6.ev 10 rfl) (tk_clm _ _) Tryd.underlying27 rfl (by rw [show (clmCells c).size = 5 from rfl]; kernel_rfl)) fun a7 H7 => ?_
  clear HS HA0 a0 HS1 H1 a1 H2 a2 H3 a3 H4 a4 H5 a5 H6 a6
  cases hb9 : mayC c
  case false =>
   refine wl_ <| c_ H7 rfl HS2 (v := .tuple #[.agg (tokCells clm0 (zer 32)), .int .i64 11]) (dc_ Tryd.func7 rfl (args2 (H7.ev 9 rfl) (H7.ev 11 rfl)) (mint_any _ _ _ key c W2 (HT _ HS2.below) (HK _ HS2.below) hn1 hn) (fun _ w9 h9 => ⟨_, h9.1, by rw [mintK_n hb9, mintE_n hb9], h9.2⟩)) fun W10 HS10 a10 H10 => wl_ <| p_ H10 rfl rfl fun a11 H11 => wl_ <| i_ H11 rfl (dd_ext rfl (H11.ev 7 rfl) rfl) fun a12 H12 => wl_ <| i_ H12 rfl (dd_ext rfl (H12.ev 7 rfl) rfl) fun a13 H13 => wl_ <| n_ H13 rfl (fun _ h => dd_new HS10 (catA [[.int .i64 0], [.string (⟨#[]⟩)], [.int .i64 0], [.int .u32 0], [.int .u32 0], bytesV (zer 32)]) rfl (z := .agg (catA [[.int .i64 0], [.string (⟨#[]⟩)], [.int .i64 0], [.int .u32 0], [.int .u32 0], bytesV (zer 32)])) (by kernel_rfl) rfl h) fun g5 W14 HS14 a14 H14 => wl_ <| t_ rfl (fun _ h => dd_setrow HS14 2 rfl rfl (H14.ev 5 rfl) (H14.ev 13 rfl) (by kernel_rfl) ((tk_size _ (length_zer 32)) : (tokCells clm0 (zer 32)).size = 37) ((cat_size (lens_cons rfl (lens_cons rfl (lens_cons rfl (lens_cons rfl (lens_cons rfl (lens_cons (len_bv (length_zer 32)) (lens_nil)))))))) : (catA [[.int .i64 0], [.string (⟨#[]⟩)], [.int .i64 0], [.int .u32 0], [.int .u32 0], bytesV (zer 32)]).size = 37) (tk_one _ _) h) fun W15 HS15 => wl_ <| p_ H14 rfl rfl fun a16 H16 => ln_ <| nx <| sq_ <| ?_
   clear H7 a7 HS2 H10 a10 H11 a11 H12 a12 HS10 H13 a13 HS14 H14 a14
   refine wi_ HS15 [0, 1, 2] rfl [0, 1, 2] rfl fun HSh17 hx17 => hp_ H16 0 hx17 rfl rfl rfl fun a18 H18 => ht_ H18 1 hx17 rfl rfl (fun _ _ _ => dd_cmp rfl (H18.ev 15 rfl) rfl (eq_f (by decide))) fun a19 H19 => hp_ H19 2 hx17 rfl rfl rfl fun a20 H20 => hk_ H20 3 hx17 rfl (wg_ H20 rfl rfl rfl rfl) rfl fun a21 H21 => hk_ H21 4 hx17 rfl (wg_ H21 rfl rfl rfl rfl) rfl fun a22 H22 => hk_ H22 5 hx17 rfl (wg_ H22 rfl rfl rfl rfl) rfl fun a23 H23 => hk_ H23 6 hx17 rfl (wg_ H23 rfl rfl rfl rfl) rfl fun a24 H24 => ?_
   clear HS15 H16 a16 H18 a18 H19 a19 H20 a20 H21 a21 H22 a22
   refine hk_ H24 7 hx17 rfl (wg_ H24 rfl rfl rfl rfl) rfl fun a25 H25 => hk_ H25 8 hx17 rfl (wg_ H25 rfl rfl rfl rfl) rfl fun a26 H26 => hp_ H26 9 hx17 rfl rfl rfl fun a27 H27 => hp_ H27 10 hx17 rfl rfl rfl fun a28 H28 => hk_ H28 11 hx17 rfl (wg_ H28 rfl rfl rfl rfl) rfl fun a29 H29 => hk_ H29 12 hx17 rfl (wg_ H29 rfl rfl rfl rfl) rfl fun a30 H30 => hk_ H30 13 hx17 rfl (wg_ H30 rfl rfl rfl rfl) rfl fun a31 H31 => hk_ H31 14 hx17 rfl (wg_ H31 rfl rfl rfl rfl) rfl fun a32 H32 => ?_
   clear H23 a23 H24 a24 H25 a25 H26 a26 H27 a27 H28 a28 H29 a29 H30 a30
   refine hk_ H32 15 hx17 rfl (wg_ H32 rfl rfl rfl rfl) rfl fun a33 H33 => hp_ H33 16 hx17 rfl rfl rfl fun a34 H34 => hp_ H34 17 hx17 rfl rfl rfl fun a35 H35 => ?_
   clear H31 a31 H32 a32 H33 a33 H34 a34
   refine wpAnyH_done (by kernel_rfl) ?_ _
   clear hx17
   refine nx <| wp_ret <| ret_run H35.env0 (res_t Tryd.results18 (H35.get 4 rfl)) <| ?_
   exact ⟨by rw [minB_m hb9], HSh17.below⟩
  case true =>
   refine wl_ <| c_ H7 rfl HS2 (v := .tuple #[.agg (tokCells c (tagOf key (clmB c))), .int .i64 0]) (dc_ Tryd.func7 rfl (args2 (H7.ev 9 rfl) (H7.ev 11 rfl)) (mint_any _ _ _ key c W2 (HT _ HS2.below) (HK _ HS2.below) hn1 hn) (fun _ w9 h9 => ⟨_, h9.1, by rw [mintK_y hb9, mintE_y hb9], h9.2⟩)) fun W36 HS36 a36 H36 => wl_ <| p_ H36 rfl rfl fun a37 H37 => wl_ <| i_ H37 rfl (dd_ext rfl (H37.ev 7 rfl) rfl) fun a38 H38 => wl_ <| i_ H38 rfl (dd_ext rfl (H38.ev 7 rfl) rfl) fun a39 H39 => wl_ <| n_ H39 rfl (fun _ h => dd_new HS36 (catA [[.int .i64 0], [.string (⟨#[]⟩)], [.int .i64 0], [.int .u32 0], [.int .u32 0], bytesV (zer 32)]) rfl (z := .agg (catA [[.int .i64 0], [.string (⟨#[]⟩)], [.int .i64 0], [.int .u32 0], [.int .u32 0], bytesV (zer 32)])) (by kernel_rfl) rfl h) fun g5 W40 HS40 a40 H40 => wl_ <| t_ rfl (fun _ h => dd_setrow HS40 2 rfl rfl (H40.ev 5 rfl) (H40.ev 13 rfl) (by kernel_rfl) ((tk_size _ (len_tag _ _)) : (tokCells c (tagOf key (clmB c))).size = 37) ((cat_size (lens_cons rfl (lens_cons rfl (lens_cons rfl (lens_cons rfl (lens_cons rfl (lens_cons (len_bv (length_zer 32)) (lens_nil)))))))) : (catA [[.int .i64 0], [.string (⟨#[]⟩)], [.int .i64 0], [.int .u32 0], [.int .u32 0], bytesV (zer 32)]).size = 37) (tk_one _ _) h) fun W41 HS41 => wl_ <| p_ H40 rfl rfl fun a42 H42 => ln_ <| nx <| sq_ <| ?_
   clear H7 a7 HS2 H36 a36 H37 a37 H38 a38 HS36 H39 a39 HS40 H40 a40
   by_cases hc52 : (c.p : Int) = pl
   ·
    refine wi_ HS41 [0, 1, 2] rfl [0, 1, 2] rfl fun HSh53 hx53 => hp_ H42 0 hx53 rfl rfl rfl fun a54 H54 => ht_ H54 1 hx53 rfl rfl (fun _ _ _ => dd_cmp rfl (H54.ev 15 rfl) rfl (eq_t (by decide))) fun a55 H55 => hp_ H55 2 hx53 rfl rfl rfl fun a56 H56 => htg H56 3 hx53 rfl (wg_ H56 rfl rfl rfl rfl) rfl (fun _ _ _ => xf 0 0 rfl (H56.ev 3 rfl)) fun a57 H57 => htg H57 4 hx53 rfl (wg_ H57 rfl rfl rfl rfl) rfl (fun _ _ _ => xf 0 0 rfl (H57.ev 18 rfl)) fun a58 H58 => htg H58 5 hx53 rfl (wg_ H58 rfl rfl rfl rfl) rfl (fun _ _ HS9 => dd_get HS9 1 0 rfl rfl (H58.ev 19 rfl) (tk_get _ _ rfl) Tryd.underlying3 rfl) fun a59 H59 => htg H59 6 hx53 rfl (wg_ H59 rfl rfl rfl rfl) rfl (fun _ _ _ => xf 1 1 rfl (H59.ev 2 rfl)) fun a60 H60 => ?_
    clear HS41 H42 a42 H54 a54 H55 a55 H56 a56 H57 a57 H58 a58
    refine htg H60 7 hx53 rfl (wg_ H60 rfl rfl rfl rfl) rfl (fun _ _ HS9 => dd_get HS9 0 1 rfl rfl (H60.ev 21 rfl) rfl Tryd.underlying3 rfl) fun a61 H61 => htg H61 8 hx53 rfl (wg_ H61 rfl rfl rfl rfl) rfl (fun _ _ _ => dd_cmp rfl (H61.ev 20 rfl) (H61.ev 22 rfl) (eq_t hc52)) fun a62 H62 => hp_ H62 9 hx53 rfl rfl rfl fun a63 H63 => hp_ H63 10 hx53 rfl rfl rfl fun a64 H64 => htg H64 11 hx53 rfl (wg_ H64 rfl rfl rfl rfl) rfl (fun _ _ _ => xf 5 5 rfl (H64.ev 5 rfl)) fun a65 H65 => htg H65 12 hx53 rfl (wg_ H65 rfl rfl rfl rfl) rfl (v := .slice (some ⟨g5, 5, none⟩) 32 32) (fun _ _ _ => dd_slA (n := 32) (sz := 1) rfl (H65.ev 26 rfl) (by kernel_rfl)) fun a66 H66 => htg H66 13 hx53 rfl (wg_ H66 rfl rfl rfl rfl) rfl (fun _ _ _ => xf 5 5 rfl (H66.ev 3 rfl)) fun a67 H67 => htg H67 14 hx53 rfl (wg_ H67 rfl rfl rfl rfl) rfl (v := .slice (some ⟨g3, 5, none⟩) 32 32) (fun _ _ _ => dd_slA (n := 32) (sz := 1) rfl (H67.ev 28 rfl) (by kernel_rfl)) fun a68 H68 => ?_
    clear H59 a59 H60 a60 H61 a61 H62 a62 H63 a63 H64 a64 H65 a65 H66 a66
    refine h1_ 15 rfl <| icg H68 (wg_ H68 rfl rfl rfl rfl) rfl (v := .bool (decide (tagOf key (clmB c) = t))) (dc_ Tryd.func30 rfl (args2 (H68.ev 27 rfl) (H68.ev 29 rfl)) (same_any (tagOf key (clmB c)) t _ _ W41.drew (slice_part (HSh53.row 2 rfl) 5 (bytes_slab (tk_tag _ _)) (len_tag _ _) (by decide)) (slice_part (HSh53.row 1 rfl) 5 (bytes_slab (tk_tag _ _)) ht (by decide)) (by rw [(len_tag _ _)]; decide) (by rw [ht]; decide)) (fun _ w9 h9 => ⟨_, h9.1, rfl, h9.2.symm⟩)) fun a69 H69 => sx_ (sxi HSh53 [0, 1, 2] rfl) fun hx70 => hp_ H69 16 hx70 rfl rfl rfl fun a71 H71 => hp_ H71 17 hx70 rfl rfl rfl fun a72 H72 => ?_
    clear H67 a67 H68 a68 hx53 H69 a69 H71 a71
    refine wpAnyH_done (by kernel_rfl) ?_ _
    clear hx70
    refine nx <| wp_ret <| ret_run H72.env0 (res_t Tryd.results18 (H72.get 4 rfl)) <| ?_
    exact ⟨by rw [minB_y hb9 hc52], HSh53.below⟩
   ·
    refine wi_ HS41 [0, 1, 2] rfl [0, 1, 2] rfl fun HSh73 hx73 => hp_ H42 0 hx73 rfl rfl rfl fun a74 H74 => ht_ H74 1 hx73 rfl rfl (fun _ _ _ => dd_cmp rfl (H74.ev 15 rfl) rfl (eq_t (by decide))) fun a75 H75 => hp_ H75 2 hx73 rfl rfl rfl fun a76 H76 => htg H76 3 hx73 rfl (wg_ H76 rfl rfl rfl rfl) rfl (fun _ _ _ => xf 0 0 rfl (H76.ev 3 rfl)) fun a77 H77 => htg H77 4 hx73 rfl (wg_ H77 rfl rfl rfl rfl) rfl (fun _ _ _ => xf 0 0 rfl (H77.ev 18 rfl)) fun a78 H78 => htg H78 5 hx73 rfl (wg_ H78 rfl rfl rfl rfl) rfl (fun _ _ HS9 => dd_get HS9 1 0 rfl rfl (H78.ev 19 rfl) (tk_get _ _ rfl) Tryd.underlying3 rfl) fun a79 H79 => htg H79 6 hx73 rfl (wg_ H79 rfl rfl rfl rfl) rfl (fun _ _ _ => xf 1 1 rfl (H79.ev 2 rfl)) fun a80 H80 => ?_
    clear HS41 H42 a42 H74 a74 H75 a75 H76 a76 H77 a77 H78 a78
    refine htg H80 7 hx73 rfl (wg_ H80 rfl rfl rfl rfl) rfl (fun _ _ HS9 => dd_get HS9 0 1 rfl rfl (H80.ev 21 rfl) rfl Tryd.underlying3 rfl) fun a81 H81 => htg H81 8 hx73 rfl (wg_ H81 rfl rfl rfl rfl) rfl (fun _ _ _ => dd_cmp rfl (H81.ev 20 rfl) (H81.ev 22 rfl) (eq_f hc52)) fun a82 H82 => hp_ H82 9 hx73 rfl rfl rfl fun a83 H83 => hp_ H83 10 hx73 rfl rfl rfl fun a84 H84 => hk_ H84 11 hx73 rfl (wg_ H84 rfl rfl rfl rfl) rfl fun a85 H85 => hk_ H85 12 hx73 rfl (wg_ H85 rfl rfl rfl rfl) rfl fun a86 H86 => hk_ H86 13 hx73 rfl (wg_ H86 rfl rfl rfl rfl) rfl fun a87 H87 => hk_ H87 14 hx73 rfl (wg_ H87 rfl rfl rfl rfl) rfl fun a88 H88 => ?_
    clear H79 a79 H80 a80 H81 a81 H82 a82 H83 a83 H84 a84 H85 a85 H86 a86
    refine hk_ H88 15 hx73 rfl (wg_ H88 rfl rfl rfl rfl) rfl fun a89 H89 => hp_ H89 16 hx73 rfl rfl rfl fun a90 H90 => hp_ H90 17 hx73 rfl rfl rfl fun a91 H91 => ?_
    clear H87 a87 H88 a88 H89 a89 H90 a90
    refine wpAnyH_done (by kernel_rfl) ?_ _
    clear hx73
    refine nx <| wp_ret <| ret_run H91.env0 (res_t Tryd.results18 (H91.get 4 rfl)) <| ?_
    exact ⟨by rw [minB_p hc52], HSh73.below⟩
set_option maxHeartbeats 800000 in
theorem capcheck_any (A : Option Addr) (n cc : Nat) (key : List (BitVec 8)) (pl : Int) (gn tk : BitVec 32) (c : Clm) (t nm : List (BitVec 8)) (x : Int) (w : World) (hT : Tab w) (hk : Item w (.slice A n cc) key) (hn1 : n ≤ 100000) (hn : c.n.length ≤ maxLen) (ht : t.length = 32) :
    Calls Tryd.prog 9 #[.agg #[.slice A n cc, .int .i64 pl, .int .u32 (wd gn), .int .u32 (wd tk)], .agg (tokCells c t), .string (strB nm), .int .i64 x] w fun e w' => e = .returned (.int .i64 (chkT key pl gn tk c t nm x)) ∧ Below w.heap.size w w' := by
  have HS := St.nil w noF
  have HK : ∀ W, Below w.heap.size w W → Item W (.slice A n cc) key := fun W hb => hk.below hb (Nat.le_refl _)
  have hkl : key.length = n := by obtain ⟨_, _, e, _⟩ := hk; injection e with _ e _; exact e.symm
  have HT : ∀ W, Below w.heap.size w W → Tab W := fun W hb => hT.below hb hT.pos
  refine enter_en Tryd.func9 rfl Tryd.ntmps9 (Nat.le_of_ble_eq_true rfl) fun a0 (HA0 : En 47 [(0, .agg #[.slice A n cc, .int .i64 pl, .int .u32 (wd gn), .int .u32 (wd tk)]), (1, .agg (tokCells c t)), (2, .string (strB nm)), (3, .int .i64 x)] a0) => ?_
  refine sq_ <| rl_ <| wl_ <| n_ HA0 rfl (fun _ h => dd_box HS rfl (HA0.ev 0 rfl) (cs := #[.slice A n cc, .int .i64 pl, .int .u32 (wd gn), .int .u32 (wd tk)]) rfl h) fun g4 W1 HS1 a1 H1 => wl_ <| n_ H1 rfl (fun _ h => dd_box HS1 rfl (H1.ev 1 rfl) (cs := (tokCells c t)) rfl h) fun g5 W2 HS2 a2 H2 => wl_ <| p_ H2 rfl rfl fun a3 H3 => ln_ <| nx <| sq_ <| wp_block <| sq_ <| rl_ <| wl_ <| i_ H3 rfl (v := .agg #[.slice A n cc, .int .i64 pl, .int .u32 (wd gn), .int .u32 (wd tk)]) (dd_load HS2 0 0 rfl rfl (H3.ev 4 rfl) (slab_whole _) Tryd.underlying25 rfl (by kernel_rfl)) fun a4 H4 => wl_ <| i_ H4 rfl (v := .agg (tokCells c t)) (dd_load HS2 1 0 rfl rfl (H4.ev 5 rfl) (slab_whole _) Tryd.underlying31 rfl (by rw [show (tokCells c t).size = 37 from (tk_size _ ht)]; kernel_rfl)) fun a5 H5 => ?_
  clear HS HA0 a0 HS1 H1 a1 H2 a2 H3 a3 H4 a4
  cases hb7 : minB key pl c t
  case false =>
   refine wl_ <| c_ H5 rfl HS2 (v := .bool false) (dc_ Tryd.func18 rfl (args2 (H5.ev 10 rfl) (H5.ev 11 rfl)) (minted_any _ _ _ key _ _ _ c t W2 (HT _ HS2.below) (HK _ HS2.below) hn1 hn ht) (fun _ w9 h9 => ⟨_, h9.1, by rw [hb7], h9.2⟩)) fun W8 HS8 a8 H8 => wl_ <| i_ H8 rfl (v := .bool true) (dd_nt rfl (H8.ev 12 rfl) rfl) fun a9 H9 => wl_ <| p_ H9 rfl rfl fun a10 H10 => ln_ <| nx <| ct_ H10 rfl <| sq_ <| rl_ <| wl_ <| p_ H10 rfl rfl fun a11 H11 => ln_ <| nx <| wp_ret <| br_ <| tr <| ret_run H11.env0 (res_t Tryd.results9 (H11.get 8 rfl)) <| ?_
   clear H5 a5 HS2 H8 a8 H9 a9 H10 a10
   exact ⟨by rw [chk_12 hb7], HS8.below⟩
  case true =>
   refine wl_ <| c_ H5 rfl HS2 (v := .bool true) (dc_ Tryd.func18 rfl (args2 (H5.ev 10 rfl) (H5.ev 11 rfl)) (minted_any _ _ _ key _ _ _ c t W2 (HT _ HS2.below) (HK _ HS2.below) hn1 hn ht) (fun _ w9 h9 => ⟨_, h9.1, by rw [hb7], h9.2⟩)) fun W12 HS12 a12 H12 => wl_ <| i_ H12 rfl (v := .bool false) (dd_nt rfl (H12.ev 12 rfl) rfl) fun a13 H13 => wl_ <| p_ H13 rfl rfl fun a14 H14 => ln_ <| nx <| cf_ H14 rfl <| sq_ <| rl_ <| wl_ <| i_ H14 rfl (xf 0 0 rfl (H14.ev 5 rfl)) fun a15 H15 => wl_ <| i_ H15 rfl (xf 4 4 rfl (H15.ev 15 rfl)) fun a16 H16 => wl_ <| i_ H16 rfl (dd_get HS12 1 4 rfl rfl (H16.ev 16 rfl) (tk_get _ _ rfl) Tryd.underlying23 rfl) fun a17 H17 => wl_ <| i_ H17 rfl (xf 2 2 rfl (H17.ev 4 rfl)) fun a18 H18 => wl_ <| i_ H18 rfl (dd_get HS12 0 2 rfl rfl (H18.ev 18 rfl) rfl Tryd.underlying23 rfl) fun a19 H19 => ?_
   clear H5 a5 HS2 H12 a12 H13 a13 H14 a14 H15 a15 H16 a16 H17 a17
   clear H18 a18
   by_cases hc21 : (wd c.g : Int) = wd gn
   ·
    refine wl_ <| i_ H19 rfl (dd_cmp rfl (H19.ev 17 rfl) (H19.ev 19 rfl) (ne_f hc21)) fun a22 H22 => wl_ <| p_ H22 rfl rfl fun a23 H23 => ln_ <| nx <| cf_ H23 rfl <| sq_ <| rl_ <| wl_ <| i_ H23 rfl (xf 3 3 rfl (H23.ev 4 rfl)) fun a24 H24 => wl_ <| i_ H24 rfl (dd_get HS12 0 3 rfl rfl (H24.ev 22 rfl) rfl Tryd.underlying23 rfl) fun a25 H25 => wl_ <| i_ H25 rfl (xf 0 0 rfl (H25.ev 5 rfl)) fun a26 H26 => wl_ <| i_ H26 rfl (xf 3 3 rfl (H26.ev 24 rfl)) fun a27 H27 => wl_ <| i_ H27 rfl (dd_get HS12 1 3 rfl rfl (H27.ev 25 rfl) (tk_get _ _ rfl) Tryd.underlying23 rfl) fun a28 H28 => ?_
    clear H19 a19 H22 a22 H23 a23 H24 a24 H25 a25 H26 a26 H27 a27
    by_cases hc30 : (wd c.u : Int) < wd tk
    ·
     refine wl_ <| i_ H28 rfl (dd_cmp rfl (H28.ev 23 rfl) (H28.ev 26 rfl) (gt_t hc30)) fun a31 H31 => wl_ <| p_ H31 rfl rfl fun a32 H32 => ln_ <| ?_
     clear H28 a28 H31 a31
     have H33 := H32.sel [3, 2, 5, 21] rfl
     refine nx <| ct_ H33 rfl <| sq_ <| rl_ <| wl_ <| p_ H33 rfl rfl fun a34 H34 => ln_ <| nx <| wp_ret <| br_ <| tr <| ret_run H34.env0 (res_t Tryd.results9 (H34.get 8 rfl)) <| ?_
     clear H32 H33 a32
     exact ⟨by rw [chk_13 hb7 hc21 hc30], HS12.below⟩
    ·
     refine wl_ <| i_ H28 rfl (dd_cmp rfl (H28.ev 23 rfl) (H28.ev 26 rfl) (gt_f hc30)) fun a35 H35 => wl_ <| p_ H35 rfl rfl fun a36 H36 => ln_ <| ?_
     clear H28 a28 H35 a35
     have H37 := H36.sel [3, 2, 5, 21] rfl
     refine nx <| cf_ H37 rfl <| sq_ <| sq_ <| rl_ <| wl_ <| i_ H37 rfl (xf 0 0 rfl (H37.ev 5 rfl)) fun a38 H38 => wl_ <| i_ H38 rfl (xf 1 1 rfl (H38.ev 29 rfl)) fun a39 H39 => wl_ <| i_ H39 rfl (dd_get HS12 1 1 rfl rfl (H39.ev 30 rfl) (tk_get _ _ rfl) Tryd.underlying9 rfl) fun a40 H40 => ?_
     clear H36 H37 a36 H38 a38 H39 a39
     by_cases hc42 : c.n = []
     ·
      refine wl_ <| i_ H40 rfl (v := .bool false) (dd_nes rfl (H40.ev 31 rfl) rfl (by rw [bne, sbz_t hc42]; rfl)) fun a43 H43 => wl_ <| p_ H43 rfl rfl fun a44 H44 => wl_ <| k_ H44 (wg_ H44 rfl rfl rfl rfl) rfl fun a45 H45 => wl_ <| k_ H45 (wg_ H45 rfl rfl rfl rfl) rfl fun a46 H46 => wl_ <| k_ H46 (wg_ H46 rfl rfl rfl rfl) rfl fun a47 H47 => wl_ <| k_ H47 (wg_ H47 rfl rfl rfl rfl) rfl fun a48 H48 => wl_ <| k_ H48 (wg_ H48 rfl rfl rfl rfl) rfl fun a49 H49 => q_ H49 2 rfl fun a50 H50 => ?_
      clear H40 a40 H43 a43 H44 a44 H45 a45 H46 a46 H47 a47 H48 a48
      refine ln_ <| nx <| cf_ H50 rfl <| rl_ <| wl_ <| i_ H50 rfl (xf 0 0 rfl (H50.ev 5 rfl)) fun a51 H51 => wl_ <| i_ H51 rfl (xf 2 2 rfl (H51.ev 40 rfl)) fun a52 H52 => wl_ <| i_ H52 rfl (dd_get HS12 1 2 rfl rfl (H52.ev 41 rfl) (tk_get _ _ rfl) Tryd.underlying3 rfl) fun a53 H53 => wl_ <| p_ H53 rfl rfl fun a54 H54 => wl_ <| i_ H54 rfl (v := .int .i64 (andI c.r x)) (dd_bits rfl (.inl rfl) (H54.ev 42 rfl) (H54.ev 43 rfl) rfl) fun a55 H55 => wl_ <| p_ H55 rfl rfl fun a56 H56 => ?_
      clear H49 a49 H50 a50 H51 a51 H52 a52 H53 a53 H54 a54 H55 a55
      by_cases hc58 : (andI c.r x : Int) = x
      ·
       refine wl_ <| i_ H56 rfl (dd_cmp rfl (H56.ev 44 rfl) (H56.ev 45 rfl) (ne_f hc58)) fun a59 H59 => wl_ <| p_ H59 rfl rfl fun a60 H60 => ln_ <| ?_
       clear H56 a56 H59 a59
       have H61 := H60.sel [28] rfl
       refine nx <| cf_ H61 rfl <| wp_skip <| bn <| nx <| sq_ <| rl_ <| wl_ <| p_ H61 rfl rfl fun a62 H62 => ln_ <| nx <| wp_ret <| ret_run H62.env0 (res_t Tryd.results9 (H62.get 8 rfl)) <| ?_
       clear H60 H61 a60
       exact ⟨by rw [chk_0 hb7 hc21 hc30 (.inl hc42) hc58], HS12.below⟩
      ·
       refine wl_ <| i_ H56 rfl (dd_cmp rfl (H56.ev 44 rfl) (H56.ev 45 rfl) (ne_t hc58)) fun a63 H63 => wl_ <| p_ H63 rfl rfl fun a64 H64 => ln_ <| ?_
       clear H56 a56 H63 a63
       have H65 := H64.sel [28] rfl
       refine nx <| ct_ H65 rfl <| sq_ <| rl_ <| wl_ <| p_ H65 rfl rfl fun a66 H66 => ln_ <| nx <| wp_ret <| br_ <| tr <| ret_run H66.env0 (res_t Tryd.results9 (H66.get 8 rfl)) <| ?_
       clear H64 H65 a64
       exact ⟨by rw [chk_15 hb7 hc21 hc30 (.inr hc58)], HS12.below⟩
     ·
      refine wl_ <| i_ H40 rfl (v := .bool true) (dd_nes rfl (H40.ev 31 rfl) rfl (by rw [bne, sbz_f hc42]; rfl)) fun a67 H67 => wl_ <| p_ H67 rfl rfl fun a68 H68 => wl_ <| ig H68 (wg_ H68 rfl rfl rfl rfl) rfl (xf 0 0 rfl (H68.ev 5 rfl)) fun a69 H69 => wl_ <| ig H69 (wg_ H69 rfl rfl rfl rfl) rfl (xf 1 1 rfl (H69.ev 34 rfl)) fun a70 H70 => wl_ <| ig H70 (wg_ H70 rfl rfl rfl rfl) rfl (dd_get HS12 1 1 rfl rfl (H70.ev 35 rfl) (tk_get _ _ rfl) Tryd.underlying9 rfl) fun a71 H71 => wl_ <| ig H71 (wg_ H71 rfl rfl rfl rfl) rfl (dd_mv rfl (H71.ev 2 rfl)) fun a72 H72 => ?_
      clear H40 a40 H67 a67 H68 a68 H69 a69 H70 a70 H71 a71
      by_cases hc74 : c.n = nm
      ·
       refine wl_ <| ig H72 (wg_ H72 rfl rfl rfl rfl) rfl (v := .bool false) (dd_nes rfl (H72.ev 36 rfl) (H72.ev 37 rfl) (by rw [bne, (sbeq_t hc74)]; rfl)) fun a75 H75 => q_ H75 2 rfl fun a76 H76 => ln_ <| nx <| cf_ H76 rfl <| rl_ <| wl_ <| i_ H76 rfl (xf 0 0 rfl (H76.ev 5 rfl)) fun a77 H77 => wl_ <| i_ H77 rfl (xf 2 2 rfl (H77.ev 40 rfl)) fun a78 H78 => wl_ <| i_ H78 rfl (dd_get HS12 1 2 rfl rfl (H78.ev 41 rfl) (tk_get _ _ rfl) Tryd.underlying3 rfl) fun a79 H79 => wl_ <| p_ H79 rfl rfl fun a80 H80 => wl_ <| i_ H80 rfl (v := .int .i64 (andI c.r x)) (dd_bits rfl (.inl rfl) (H80.ev 42 rfl) (H80.ev 43 rfl) rfl) fun a81 H81 => wl_ <| p_ H81 rfl rfl fun a82 H82 => ?_
       clear H72 a72 H75 a75 H76 a76 H77 a77 H78 a78 H79 a79 H80 a80
       clear H81 a81
       by_cases hc84 : (andI c.r x : Int) = x
       ·
        refine wl_ <| i_ H82 rfl (dd_cmp rfl (H82.ev 44 rfl) (H82.ev 45 rfl) (ne_f hc84)) fun a85 H85 => wl_ <| p_ H85 rfl rfl fun a86 H86 => ln_ <| ?_
        clear H82 a82 H85 a85
        have H87 := H86.sel [28] rfl
        refine nx <| cf_ H87 rfl <| wp_skip <| bn <| nx <| sq_ <| rl_ <| wl_ <| p_ H87 rfl rfl fun a88 H88 => ln_ <| nx <| wp_ret <| ret_run H88.env0 (res_t Tryd.results9 (H88.get 8 rfl)) <| ?_
        clear H86 H87 a86
        exact ⟨by rw [chk_0 hb7 hc21 hc30 (.inr hc74) hc84], HS12.below⟩
       ·
        refine wl_ <| i_ H82 rfl (dd_cmp rfl (H82.ev 44 rfl) (H82.ev 45 rfl) (ne_t hc84)) fun a89 H89 => wl_ <| p_ H89 rfl rfl fun a90 H90 => ln_ <| ?_
        clear H82 a82 H89 a89
        have H91 := H90.sel [28] rfl
        refine nx <| ct_ H91 rfl <| sq_ <| rl_ <| wl_ <| p_ H91 rfl rfl fun a92 H92 => ln_ <| nx <| wp_ret <| br_ <| tr <| ret_run H92.env0 (res_t Tryd.results9 (H92.get 8 rfl)) <| ?_
        clear H90 H91 a90
        exact ⟨by rw [chk_15 hb7 hc21 hc30 (.inr hc84)], HS12.below⟩
      ·
       refine wl_ <| ig H72 (wg_ H72 rfl rfl rfl rfl) rfl (v := .bool true) (dd_nes rfl (H72.ev 36 rfl) (H72.ev 37 rfl) (by rw [bne, (sbeq_f hc74)]; rfl)) fun a93 H93 => q_ H93 2 rfl fun a94 H94 => ln_ <| nx <| ct_ H94 rfl <| wp_skip <| nx <| ct_ H94 rfl <| sq_ <| rl_ <| wl_ <| p_ H94 rfl rfl fun a95 H95 => ln_ <| ?_
       clear H72 a72 H93 a93 H94 a94
       have H96 := H95.sel [8] rfl
       refine nx <| wp_ret <| br_ <| tr <| ret_run H96.env0 (res_t Tryd.results9 (H96.get 8 rfl)) <| ?_
       clear H95
       exact ⟨by rw [chk_15 hb7 hc21 hc30 (.inl ⟨hc42, hc74⟩)], HS12.below⟩
   ·
    refine wl_ <| i_ H19 rfl (dd_cmp rfl (H19.ev 17 rfl) (H19.ev 19 rfl) (ne_t hc21)) fun a97 H97 => wl_ <| p_ H97 rfl rfl fun a98 H98 => ln_ <| nx <| ct_ H98 rfl <| sq_ <| rl_ <| wl_ <| p_ H98 rfl rfl fun a99 H99 => ln_ <| ?_
    clear H19 a19 H97 a97 H98 a98
    have H100 := H99.sel [8] rfl
    refine nx <| wp_ret <| br_ <| tr <| ret_run H100.env0 (res_t Tryd.results9 (H100.get 8 rfl)) <| ?_
    clear H99
    exact ⟨by rw [chk_14 hb7 hc21], HS12.below⟩
end Go.Proofs.YtcheflcfoiclgaaDoor

/- The document's Mint, Check. -/
set_option maxRecDepth 4000
namespace Go.Proofs.YtcheflcfoiclgaaDoor
open Go Go.RowKit
end Go.Proofs.YtcheflcfoiclgaaDoor

/- Bytes of a constant text, made a slice: their block bears a mark, so it is no row; what is told of it stays. No function of the program is named here. -/
set_option maxRecDepth 4000
namespace Go.Proofs.YtcheflcfoiclgaaDoor
open Go Go.RowKit
def MarkAt (w : World) (g : Nat) (q : List (BitVec 8)) : Prop := ∃ fr, w.heap[g]? = some (.cells (bs q) 5 fr)
theorem MarkAt.lt {w : World} {g : Nat} {q : List (BitVec 8)} (h : MarkAt w g q) : g < w.heap.size := by
  obtain ⟨fr, h⟩ := h
  exact (Array.getElem?_eq_some_iff.1 h).1
theorem MarkAt.of {w w' : World} {g : Nat} {q : List (BitVec 8)} (h : MarkAt w g q) (e : w'.heap[g]? = w.heap[g]?) : MarkAt w' g q := by
  obtain ⟨fr, h⟩ := h
  exact ⟨fr, e.trans h⟩
theorem MarkAt.call {w w' : World} {g : Nat} {q : List (BitVec 8)} (h : MarkAt w g q) (hb : Below w.heap.size w w') : MarkAt w' g q := h.of (hb.block g h.lt)
theorem MarkAt.slice {w : World} {g n : Nat} {q : List (BitVec 8)} (h : MarkAt w g q) (hn : q.length = n) : Slice w (.slice (some ⟨g, 0, none⟩) n n) q := by
  obtain ⟨fr, h⟩ := h
  subst hn
  refine ⟨_, _, rfl, Nat.le_refl _, fun _ => ⟨g, 0, rfl, (Array.getElem?_eq_some_iff.1 h).1, fun j x hx => ?_⟩⟩
  rw [Nat.zero_add, cell_of_row w g j (bs q) 5 fr h, ← Array.getElem?_toList, bs_toList]
  simp [bytesV, hx]
theorem MarkAt.item {w : World} {g n : Nat} {q : List (BitVec 8)} (h : MarkAt w g q) (hn : q.length = n) (hm : n ≤ maxLen) : Item w (.slice (some ⟨g, 0, none⟩) n n) q := by
  subst hn
  exact ⟨some ⟨g, 0, none⟩, q.length, rfl, h.slice rfl, (fun e => by cases e), hm⟩
def inS (S : List Blk) (k : Nat) : Prop := ∃ r ∈ S, r.g = k
theorem MarkAt.chg {w w' : World} {g : Nat} {q : List (BitVec 8)} {S S' : List Blk} (h : MarkAt w g q) (HS : St w (inS S) S' w') (hg : ∀ r ∈ S, r.g ≠ g) : MarkAt w' g q := h.of (HS.chg.block g h.lt fun ⟨r, h1, h2⟩ => hg r h1 h2)
/- the rows' own frame: what lies elsewhere stays, for a while -/
theorem St.frame {w0 w : World} {F : Nat → Prop} {S : List Blk} (h : St w0 F S w) : St w (inS S) S w :=
  ⟨Chg.refl _ _, h.rows, h.apart, fun _ r hk => .inl ⟨r, List.mem_of_getElem? hk, rfl⟩⟩
theorem St.unframe {w0 w w' : World} {S S' : List Blk} (h : St w0 noF S w) (k : St w (inS S) S' w') : St w0 noF S' w' := by
  have hw : ∀ j, inS S j → w0.heap.size ≤ j := fun j ⟨r, h1, h2⟩ => by
    obtain ⟨i, hi⟩ := List.getElem?_of_mem h1
    rcases h.own i r hi with hf | hf
    · exact hf.elim
    · omega
  refine ⟨⟨k.chg.os.trans h.chg.os, k.chg.tape.trans h.chg.tape, k.chg.output.trans h.chg.output, Nat.le_trans h.chg.size k.chg.size, fun j hj hn => ?_⟩, k.rows, k.apart, fun i r hi => .inr ?_⟩
  · exact (k.chg.block j (Nat.lt_of_lt_of_le hj h.chg.size) fun hf => by have := hw j hf; omega).trans (h.chg.block j hj hn)
  · rcases k.own i r hi with hf | hf
    · exact hw _ hf
    · exact Nat.le_trans h.chg.size hf
theorem run_conv_lit2 (w : World) (g n c : Nat) (C : Array Value) (fr : Nat × Nat) (hg : w.heap[g]? = some (.cells C 5 fr)) :
    ∃ w', (convert 22 22 (.slice (some ⟨g, 0, none⟩) n c)).run Tryd.prog w = .ok (.slice (some ⟨g, 0, none⟩) n c) w' ∧ (∃ fr', w'.heap[g]? = some (.cells C 5 fr')) ∧ Chg (fun k => k = g) w w' ∧ ∀ k, k ≠ g → w'.heap[k]? = w.heap[k]? := by
  have hsh : w.shape? g = some (5, C.size) := by unfold World.shape?; rw [hg]
  have hk : ∀ k, k ≠ g → (w.freeze ⟨g, C.size, none⟩ 1).heap[k]? = w.heap[k]? := fun k hk => by
    simp only [World.freeze, if_neg (show ¬ (1 = 0) by decide), Array.getElem?_modify]
    rw [if_neg (fun e => hk e.symm)]
  refine ⟨w.freeze ⟨g, C.size, none⟩ 1, by simp [convert, run_underlying Tryd.underlying22, run_underlying Tryd.underlying5, markStringish, hsh], ?_, ⟨rfl, rfl, rfl, by simp [World.freeze], fun k _ h => hk k h⟩, hk⟩
  simp only [World.freeze, if_neg (show ¬ (1 = 0) by decide), Array.getElem?_modify]
  rw [if_pos trivial, hg]
  exact ⟨_, rfl⟩
theorem dd_cvl {o : Oper} {a : Act} {w w0 : World} {R : Value → World → Prop} {F : Nat → Prop} {S : List Blk} (HS : St w0 F S w) (k : Nat) {x : Operand} {g n : Nat} {q : List (BitVec 8)} (ho : o.op = .convert 22 22 x) (hk : S[k]? = some ⟨g, 5, bs q⟩) (hx : a.eval x = .slice (some ⟨g, 0, none⟩) n n)
    (h : ∀ w', St w0 F (S.eraseIdx k) w' → MarkAt w' g q → (∀ r ∈ S.eraseIdx k, r.g ≠ g) → R (.slice (some ⟨g, 0, none⟩) n n) w') : Does Tryd.prog o a w R := by
  have hr : Row w g 5 (bs q) := HS.row k hk
  obtain ⟨w', h1, h2, h3, h4⟩ := run_conv_lit2 w g n n (bs q) (0, 0) hr
  have hne : ∀ r ∈ S.eraseIdx k, r.g ≠ g := fun r hr e => by
    obtain ⟨j, hj⟩ := List.getElem?_of_mem hr
    rw [List.getElem?_eraseIdx] at hj
    split at hj
    · exact HS.apart j k r _ (by omega) hj hk e
    · exact HS.apart (j + 1) k r _ (by omega) hj hk e
  have hE := st_erase HS k
  have hg := HS.own k _ hk
  refine does_run (w' := w') (v := .slice (some ⟨g, 0, none⟩) n n) (by simp only [execOp, ho, hx, Sem.run_bind, h1, Result.andThen_ok, Sem.run_pure]) (h w' ⟨⟨h3.os.trans hE.chg.os, h3.tape.trans hE.chg.tape, h3.output.trans hE.chg.output, Nat.le_trans hE.chg.size h3.size, fun j hj hf => ?_⟩, fun j r hj => ?_, hE.apart, hE.own⟩ h2 hne)
  · refine (h4 j fun e => ?_).trans (hE.chg.block j hj hf)
    subst e
    rcases hg with hg | hg
    · exact hf hg
    · exact absurd hj (Nat.not_lt.2 hg)
  · exact (h4 r.g (hne r (List.mem_of_getElem? hj))).trans (hE.rows j r hj)
end Go.Proofs.YtcheflcfoiclgaaDoor

/- A block of the call's own is new. No function of the program is named here. -/
set_option maxRecDepth 4000
namespace Go.Proofs.YtcheflcfoiclgaaDoor
open Go Go.RowKit
end Go.Proofs.YtcheflcfoiclgaaDoor

/- The statements' own: the document's ward, the ward of the examples. -/
set_option maxRecDepth 4000
namespace Go.Proofs.YtcheflcfoiclgaaDoor
open Go Go.RowKit
theorem capward_any (w : World) : Calls Tryd.prog 13 #[] w fun e w' => ∃ g, e = .returned (.agg #[.slice (some ⟨g, 0, none⟩) 1 1, .int .i64 1, .int .u32 2, .int .u32 9]) ∧ True ∧ MarkAt w' g [107#8] ∧ Below w.heap.size w w' := by
  have HS := St.nil w noF
  refine enter_en Tryd.func13 rfl Tryd.ntmps13 (Nat.le_of_ble_eq_true rfl) fun a0 (HA0 : En 4 [] a0) => ?_
  refine sq_ <| rl_ <| wl_ <| n_ HA0 rfl (fun _ h => dd_new HS #[.slice none 0 0, .int .i64 0, .int .u32 0, .int .u32 0] rfl (z := .agg #[.slice none 0 0, .int .i64 0, .int .u32 0, .int .u32 0]) (by kernel_rfl) rfl h) fun g0 W1 HS1 a1 H1 => ln_ <| nx <| sq_ <| rl_ <| wl_ <| n_ H1 rfl (fun _ h => dd_lits HS1 #[.int .u8 107] rfl (ps := [(0, .int .u8 107)]) (pr1 rfl (pr0)) (z := .int .u8 0) (sz := 1) Tryd.underlying22 (by kernel_rfl) rfl rfl (by kernel_rfl) h) fun g1 W2 HS2 a2 H2 => ?_
  clear HS HA0 a0 HS1 H1 a1
  refine wl_ <| d_ H2 rfl (R := fun v9 w9 => v9 = .slice (some ⟨g1, 0, none⟩) 1 1 ∧ (MarkAt w9 g1 [107#8]) ∧ (∀ r ∈ ([⟨g0, 25, #[.slice none 0 0, .int .i64 0, .int .u32 0, .int .u32 0]⟩] : List Blk), r.g ≠ g1) ∧ St w noF [⟨g0, 25, #[.slice none 0 0, .int .i64 0, .int .u32 0, .int .u32 0]⟩] w9) (dd_cvl HS2 1 (q := [107#8]) rfl rfl (H2.ev 1 rfl) (fun w9 h1 h2 h3 => ⟨rfl, h2, h3, h1⟩)) ?_
  rintro _ W3 ⟨rfl, hm4, hne4, HS3⟩ a3 H3
  clear H2 a2 HS2
  have HSf4 := HS3.frame
  refine wl_ <| i_ H3 rfl (v := .agg #[.slice (some ⟨g1, 0, none⟩) 1 1, .int .i64 1, .int .u32 2, .int .u32 9]) (dd_bld rfl (ps := [(0, .slice (some ⟨g1, 0, none⟩) 1 1), (1, .int .i64 1), (2, .int .u32 2), (3, .int .u32 9)]) (pr1 (H3.ev 2 rfl) (pr1 rfl (pr1 rfl (pr1 rfl (pr0))))) (Lz := [[.slice none 0 0], [.int .i64 0], [.int .u32 0], [.int .u32 0]]) (by kernel_rfl) (lens_cons rfl (lens_cons rfl (lens_cons rfl (lens_cons rfl (lens_nil))))) (fit_cons (i := 0) rfl rfl (fit_cons (i := 1) rfl rfl (fit_cons (i := 2) rfl rfl (fit_cons (i := 3) rfl rfl (fit_nil))))) (cs := #[.slice (some ⟨g1, 0, none⟩) 1 1, .int .i64 1, .int .u32 2, .int .u32 9]) rfl) fun a5 H5 => wl_ <| t_ rfl (fun _ h => dd_setrow HSf4 0 rfl rfl (H5.ev 0 rfl) (H5.ev 3 rfl) (by kernel_rfl) (rfl : #[.slice (some ⟨g1, 0, none⟩) 1 1, .int .i64 1, .int .u32 2, .int .u32 9].size = 4) (rfl : #[.slice none 0 0, .int .i64 0, .int .u32 0, .int .u32 0].size = 4) (one_l (ao_cons rfl (ao_cons rfl (ao_cons rfl (ao_cons rfl ao_nil))))) h) fun W6 HS6 => ln_ <| nx <| wp_ret <| ret_run H5.env0 (res_c Tryd.results13 (H5.get 0 rfl) (HS6.row 0 rfl) Tryd.underlying25 rfl (by kernel_rfl)) <| ?_
  clear H3 a3 HSf4
  have HSu := HS3.unframe HS6
  exact ⟨g1, rfl, trivial, hm4.chg HS6 hne4, HSu.below⟩
end Go.Proofs.YtcheflcfoiclgaaDoor

/- The examples of the chapter, asked by the statements. -/
set_option maxRecDepth 4000
namespace Go.Proofs.YtcheflcfoiclgaaDoor
open Go Go.RowKit
def exC15 : Clm := ⟨1, [97#8, 98#8], 1, 9#32, 2#32⟩
theorem may15 : mayC exC15 = true := by decide +kernel
set_option maxRecDepth 100000 in
theorem tag_kj : decide (tagOf [106#8] (clmB exC15) = tagOf [107#8] (clmB exC15)) = false := by kernel_rfl
theorem minO {key : List (BitVec 8)} {c : Clm} (hm : mayC c = true) : minB key c.p c (tagOf key (clmB c)) = true := by rw [minB_y hm rfl, decide_eq_true rfl]
theorem chk_own {key nm : List (BitVec 8)} {c : Clm} {x : Int} (hm : mayC c = true) (h1 : c.n = [] ∨ c.n = nm) (h2 : andI c.r x = x) : chkT key c.p c.g c.u c (tagOf key (clmB c)) nm x = 0 := chk_0 (minO hm) rfl (Int.lt_irrefl _) h1 h2
theorem chk_own15 {key nm : List (BitVec 8)} {c : Clm} {x : Int} (hm : mayC c = true) (h : (¬ c.n = [] ∧ ¬ c.n = nm) ∨ ¬ andI c.r x = x) : chkT key c.p c.g c.u c (tagOf key (clmB c)) nm x = 15 := chk_15 (minO hm) rfl (Int.lt_irrefl _) h
theorem cand11 : andI 1 1 = 1 := by kernel_rfl
theorem cand12 : ¬ andI 1 2 = 2 := by rw [show andI 1 2 = 0 by kernel_rfl]; decide
theorem cand_self3 {x : Int} (h0 : 1 ≤ x) (h1 : x ≤ 3) : andI x x = x := by
  rcases (by omega : x = 1 ∨ x = 2 ∨ x = 3) with rfl | rfl | rfl <;> kernel_rfl
set_option maxHeartbeats 1600000 in
theorem capwakes_any (w : World) (hT : Tab w) : Calls Tryd.prog 6 #[] w fun e w' => e = .returned (.bool true) ∧ Below w.heap.size w w' := by
  have HS := St.nil w noF
  have HT : ∀ W, Below w.heap.size w W → Tab W := fun W hb => hT.below hb hT.pos
  refine enter_en Tryd.func6 rfl Tryd.ntmps6 (Nat.le_of_ble_eq_true rfl) fun a0 (HA0 : En 61 [] a0) => ?_
  refine sq_ <| rl_ <| wl_ <| p_ HA0 rfl rfl fun a1 H1 => ln_ <| nx <| sq_ <| rl_ <| wl_ <| n_ H1 rfl (fun _ h => dd_lits HS #[.int .u8 107] rfl (ps := [(0, .int .u8 107)]) (pr1 rfl (pr0)) (z := .int .u8 0) (sz := 1) Tryd.underlying22 (by kernel_rfl) rfl rfl (by kernel_rfl) h) fun g8 W2 HS2 a2 H2 => ?_
  clear HA0 a0 HS H1 a1
  refine wl_ <| d_ H2 rfl (R := fun v9 w9 => v9 = .slice (some ⟨g8, 0, none⟩) 1 1 ∧ (MarkAt w9 g8 [107#8]) ∧ (∀ r ∈ ([] : List Blk), r.g ≠ g8) ∧ St w noF [] w9) (dd_cvl HS2 0 (q := [107#8]) rfl rfl (H2.ev 8 rfl) (fun w9 h1 h2 h3 => ⟨rfl, h2, h3, h1⟩)) ?_
  rintro _ W3 ⟨rfl, hm4, hne4, HS3⟩ a3 H3
  clear H2 a2 HS2
  have HBs5 : Below w.heap.size w W3 := HS3.below
  have HTr := fun (W9 : World) (hb9 : Below W3.heap.size W3 W9) => HT W9 (HBs5.trans (hb9.mono HBs5.size))
  clear HT
  have HT := HTr
  clear HTr
  have HSb5 := St.nil W3 noF
  clear HS3
  have HM4 := fun (W9 : World) (hb9 : Below W3.heap.size W3 W9) => hm4.call hb9
  refine wl_ <| i_ H3 rfl (v := .agg #[.int .i64 1, .string (⟨#[97, 98]⟩), .int .i64 1, .int .u32 9, .int .u32 2]) (dd_bld rfl (ps := [(0, .int .i64 1), (1, .string (⟨#[97, 98]⟩)), (2, .int .i64 1), (3, .int .u32 9), (4, .int .u32 2)]) (pr1 rfl (pr1 rfl (pr1 rfl (pr1 rfl (pr1 rfl (pr0)))))) (Lz := [[.int .i64 0], [.string (⟨#[]⟩)], [.int .i64 0], [.int .u32 0], [.int .u32 0]]) (by kernel_rfl) (lens_cons rfl (lens_cons rfl (lens_cons rfl (lens_cons rfl (lens_cons rfl (lens_nil)))))) (fit_cons (i := 0) rfl rfl (fit_cons (i := 1) rfl rfl (fit_cons (i := 2) rfl rfl (fit_cons (i := 3) rfl rfl (fit_cons (i := 4) rfl rfl (fit_nil)))))) (cs := #[.int .i64 1, .string (⟨#[97, 98]⟩), .int .i64 1, .int .u32 9, .int .u32 2]) rfl) fun a6 H6 => wl_ <| c_ H6 rfl HSb5 (v := .tuple #[.agg (tokCells exC15 (tagOf ([107#8]) (clmB exC15))), .int .i64 0]) (dc_ Tryd.func7 rfl (args2 (H6.ev 9 rfl) (H6.ev 10 rfl)) (mint_any _ _ _ ([107#8]) exC15 W3 (HT _ HSb5.below) ((HM4 _ HSb5.below).item rfl (by decide)) (by omega) (by decide)) (fun _ w9 h9 => ⟨_, h9.1, by rw [mintK_y may15, mintE_y may15], h9.2⟩)) fun W7 HS7 a7 H7 => wl_ <| p_ H7 rfl rfl fun a8 H8 => wl_ <| i_ H8 rfl (dd_ext rfl (H8.ev 7 rfl) rfl) fun a9 H9 => wl_ <| i_ H9 rfl (dd_ext rfl (H9.ev 7 rfl) rfl) fun a10 H10 => wl_ <| n_ H10 rfl (fun _ h => dd_new HS7 (catA [[.int .i64 0], [.string (⟨#[]⟩)], [.int .i64 0], [.int .u32 0], [.int .u32 0], bytesV (zer 32)]) rfl (z := .agg (catA [[.int .i64 0], [.string (⟨#[]⟩)], [.int .i64 0], [.int .u32 0], [.int .u32 0], bytesV (zer 32)])) (by kernel_rfl) rfl h) fun g1 W11 HS11 a11 H11 => wl_ <| t_ rfl (fun _ h => dd_setrow HS11 0 rfl rfl (H11.ev 1 rfl) (H11.ev 12 rfl) (by kernel_rfl) ((tk_size _ (len_tag _ _)) : (tokCells exC15 (tagOf ([107#8]) (clmB exC15))).size = 37) ((cat_size (lens_cons rfl (lens_cons rfl (lens_cons rfl (lens_cons rfl (lens_cons rfl (lens_cons (len_bv (length_zer 32)) (lens_nil)))))))) : (catA [[.int .i64 0], [.string (⟨#[]⟩)], [.int .i64 0], [.int .u32 0], [.int .u32 0], bytesV (zer 32)]).size = 37) (tk_one _ _) h) fun W12 HS12 => wl_ <| p_ H11 rfl rfl fun a13 H13 => ?_
  clear H3 a3 H6 a6 HSb5 H7 a7 H8 a8 H9 a9 HS7 H10 a10 HS11
  refine ln_ <| nx <| sq_ <| rl_ <| ?_
  clear H11 a11
  refine wl_ <| d_ H13 rfl (R := fun v w9 => ∃ gm15, v = .agg #[.slice (some ⟨gm15, 0, none⟩) 1 1, .int .i64 1, .int .u32 2, .int .u32 9] ∧ (MarkAt w9 gm15 [107#8]) ∧ Below W12.heap.size W12 w9) (dc_ Tryd.func13 rfl (args0 ) (capward_any W12) (fun _ w9 ⟨g9, he, _, h1, hb⟩ => ⟨_, he, g9, rfl, h1, hb⟩)) ?_
  rintro _ W14 ⟨gm15, rfl, hm15, hb14⟩ a14 H14
  have HS14 := HS12.same hb14
  clear H13 a13
  have HBs16 : Below W3.heap.size W3 W14 := HS14.below
  have HTr := fun (W9 : World) (hb9 : Below W14.heap.size W14 W9) => HT W9 (HBs16.trans (hb9.mono HBs16.size))
  clear HT
  have HT := HTr
  clear HTr
  have HM4r := fun (W9 : World) (hb9 : Below W14.heap.size W14 W9) => HM4 W9 (HBs16.trans (hb9.mono HBs16.size))
  clear HM4
  have HM4 := HM4r
  clear HM4r
  have HR16_0 := fun (W9 : World) (hb9 : Below W14.heap.size W14 W9) => (HS14.row 0 rfl).call hb9
  have HSb16 := St.nil W14 noF
  clear HS14
  have HM15 := fun (W9 : World) (hb9 : Below W14.heap.size W14 W9) => hm15.call hb9
  clear HS12 hb14
  refine wl_ <| n_ H14 rfl (fun _ h => dd_new HSb16 #[.slice none 0 0, .int .i64 0, .int .u32 0, .int .u32 0] rfl (z := .agg #[.slice none 0 0, .int .i64 0, .int .u32 0, .int .u32 0]) (by kernel_rfl) rfl h) fun g3 W17 HS17 a17 H17 => wl_ <| t_ rfl (fun _ h => dd_setrow HS17 0 rfl rfl (H17.ev 3 rfl) (H17.ev 14 rfl) (by kernel_rfl) (rfl : #[.slice (some ⟨gm15, 0, none⟩) 1 1, .int .i64 1, .int .u32 2, .int .u32 9].size = 4) (rfl : #[.slice none 0 0, .int .i64 0, .int .u32 0, .int .u32 0].size = 4) (one_l (ao_cons rfl (ao_cons rfl (ao_cons rfl (ao_cons rfl ao_nil))))) h) fun W18 HS18 => ln_ <| nx <| sq_ <| ?_
  clear HSb16 H14 a14 HS17
  refine wp_cut (fun a9 w9 => ∃ g6 : Nat, ∃ g5 : Nat, ∃ g4 : Nat, En 61 [(6, .pointer (some ⟨g6, 0, none⟩)), (5, .pointer (some ⟨g5, 0, none⟩)), (4, .pointer (some ⟨g4, 0, none⟩)), (3, .pointer (some ⟨g3, 0, none⟩)), (2, .int .i64 0), (1, .pointer (some ⟨g1, 0, none⟩))] a9 ∧ St W14 noF [⟨g3, 25, #[.slice (some ⟨gm15, 0, none⟩) 1 1, .int .i64 1, .int .u32 2, .int .u32 9]⟩, ⟨g4, 25, #[.slice (some ⟨gm15, 0, none⟩) 1 1, .int .i64 1, .int .u32 2, .int .u32 9]⟩, ⟨g5, 25, #[.slice (some ⟨gm15, 0, none⟩) 1 1, .int .i64 1, .int .u32 2, .int .u32 9]⟩, ⟨g6, 25, #[.slice (some ⟨gm15, 0, none⟩) 1 1, .int .i64 1, .int .u32 2, .int .u32 9]⟩] w9) ?_ ?_
  ·
   refine wi_ HS18 [0] rfl [0] rfl fun HSh20 hx20 => ht_ H17 0 hx20 rfl rfl (v := .agg #[.slice (some ⟨gm15, 0, none⟩) 1 1, .int .i64 1, .int .u32 2, .int .u32 9]) (fun _ _ HS9 => dd_load HS9 0 0 rfl rfl (H17.ev 3 rfl) (slab_whole _) Tryd.underlying25 rfl (by kernel_rfl)) fun a21 H21 => ht_ H21 1 hx20 rfl rfl (v := .agg #[.slice (some ⟨gm15, 0, none⟩) 1 1, .int .i64 1, .int .u32 2, .int .u32 9]) (fun _ _ HS9 => dd_load HS9 0 0 rfl rfl (H21.ev 3 rfl) (slab_whole _) Tryd.underlying25 rfl (by kernel_rfl)) fun a22 H22 => ht_ H22 2 hx20 rfl rfl (v := .agg #[.slice (some ⟨gm15, 0, none⟩) 1 1, .int .i64 1, .int .u32 2, .int .u32 9]) (fun _ _ HS9 => dd_load HS9 0 0 rfl rfl (H22.ev 3 rfl) (slab_whole _) Tryd.underlying25 rfl (by kernel_rfl)) fun a23 H23 => ?_
   clear HS18 H17 a17 H21 a21 H22 a22
   refine wpAnyH_all (rs := [3, 4, 5]) (by kernel_rfl) (by decide) (hm_cons ?_ (hm_cons ?_ (hm_cons ?_ hm_nil)))
   ·
    refine ho_ rfl <| n_ H23 rfl (fun _ h => dd_new HSh20 #[.slice none 0 0, .int .i64 0, .int .u32 0, .int .u32 0] rfl (z := .agg #[.slice none 0 0, .int .i64 0, .int .u32 0, .int .u32 0]) (by kernel_rfl) rfl h) fun g4 W24 HS24 a24 H24 => sx_ (sxi HS24 [0, 1] rfl) fun hx25 => ?_
    clear HSh20 H23 a23
    refine wpAnyH_all (rs := [4, 5]) (by kernel_rfl) (by decide) (hm_cons ?_ (hm_cons ?_ hm_nil))
    ·
     refine ho_ rfl <| n_ H24 rfl (fun _ h => dd_new HS24 #[.slice none 0 0, .int .i64 0, .int .u32 0, .int .u32 0] rfl (z := .agg #[.slice none 0 0, .int .i64 0, .int .u32 0, .int .u32 0]) (by kernel_rfl) rfl h) fun g5 W26 HS26 a26 H26 => sx_ (sxi HS26 [0, 1, 2] rfl) fun hx27 => h1_ 5 rfl <| n_ H26 rfl (fun _ h => dd_new HS26 #[.slice none 0 0, .int .i64 0, .int .u32 0, .int .u32 0] rfl (z := .agg #[.slice none 0 0, .int .i64 0, .int .u32 0, .int .u32 0]) (by kernel_rfl) rfl h) fun g6 W28 HS28 a28 H28 => sx_ (sxi HS28 [0, 1, 2, 3] rfl) fun hx29 => h1_ 6 rfl <| t_ rfl (fun _ h => dd_setrow HS28 1 rfl rfl (H28.ev 4 rfl) (H28.ev 15 rfl) (by kernel_rfl) (rfl : #[.slice (some ⟨gm15, 0, none⟩) 1 1, .int .i64 1, .int .u32 2, .int .u32 9].size = 4) (rfl : #[.slice none 0 0, .int .i64 0, .int .u32 0, .int .u32 0].size = 4) (one_l (ao_cons rfl (ao_cons rfl (ao_cons rfl (ao_cons rfl ao_nil))))) h) fun W30 HS30 => sx_ (sxi HS30 [0, 1, 2, 3] rfl) fun hx31 => h1_ 7 rfl <| t_ rfl (fun _ h => dd_setrow HS30 2 rfl rfl (H28.ev 5 rfl) (H28.ev 16 rfl) (by kernel_rfl) (rfl : #[.slice (some ⟨gm15, 0, none⟩) 1 1, .int .i64 1, .int .u32 2, .int .u32 9].size = 4) (rfl : #[.slice none 0 0, .int .i64 0, .int .u32 0, .int .u32 0].size = 4) (one_l (ao_cons rfl (ao_cons rfl (ao_cons rfl (ao_cons rfl ao_nil))))) h) fun W32 HS32 => sx_ (sxi HS32 [0, 1, 2, 3] rfl) fun hx33 => ?_
     clear HS24 H24 a24 HS26 H26 a26 hx27 HS28 hx29 HS30
     refine h1_ 8 rfl <| t_ rfl (fun _ h => dd_setrow HS32 3 rfl rfl (H28.ev 6 rfl) (H28.ev 17 rfl) (by kernel_rfl) (rfl : #[.slice (some ⟨gm15, 0, none⟩) 1 1, .int .i64 1, .int .u32 2, .int .u32 9].size = 4) (rfl : #[.slice none 0 0, .int .i64 0, .int .u32 0, .int .u32 0].size = 4) (one_l (ao_cons rfl (ao_cons rfl (ao_cons rfl (ao_cons rfl ao_nil))))) h) fun W34 HS34 => sx_ (sxi HS34 [0, 1, 2, 3] rfl) fun hx35 => ?_
     clear hx31 HS32 hx33
     refine wpAnyH_done (by kernel_rfl) ?_ _
     clear hx35
     exact nx ⟨g6, g5, g4, H28.sel [1, 2, 3, 4, 5, 6] rfl, ss HS34 [0, 1, 2, 3]⟩
    ·
     refine ho_ rfl <| n_ H24 rfl (fun _ h => dd_new HS24 #[.slice none 0 0, .int .i64 0, .int .u32 0, .int .u32 0] rfl (z := .agg #[.slice none 0 0, .int .i64 0, .int .u32 0, .int .u32 0]) (by kernel_rfl) rfl h) fun g6 W36 HS36 a36 H36 => sx_ (sxi HS36 [0, 1, 2] rfl) fun hx37 => h1_ 4 rfl <| n_ H36 rfl (fun _ h => dd_new HS36 #[.slice none 0 0, .int .i64 0, .int .u32 0, .int .u32 0] rfl (z := .agg #[.slice none 0 0, .int .i64 0, .int .u32 0, .int .u32 0]) (by kernel_rfl) rfl h) fun g5 W38 HS38 a38 H38 => sx_ (sxi HS38 [0, 1, 2, 3] rfl) fun hx39 => h1_ 6 rfl <| t_ rfl (fun _ h => dd_setrow HS38 1 rfl rfl (H38.ev 4 rfl) (H38.ev 15 rfl) (by kernel_rfl) (rfl : #[.slice (some ⟨gm15, 0, none⟩) 1 1, .int .i64 1, .int .u32 2, .int .u32 9].size = 4) (rfl : #[.slice none 0 0, .int .i64 0, .int .u32 0, .int .u32 0].size = 4) (one_l (ao_cons rfl (ao_cons rfl (ao_cons rfl (ao_cons rfl ao_nil))))) h) fun W40 HS40 => sx_ (sxi HS40 [0, 1, 2, 3] rfl) fun hx41 => h1_ 7 rfl <| t_ rfl (fun _ h => dd_setrow HS40 3 rfl rfl (H38.ev 5 rfl) (H38.ev 16 rfl) (by kernel_rfl) (rfl : #[.slice (some ⟨gm15, 0, none⟩) 1 1, .int .i64 1, .int .u32 2, .int .u32 9].size = 4) (rfl : #[.slice none 0 0, .int .i64 0, .int .u32 0, .int .u32 0].size = 4) (one_l (ao_cons rfl (ao_cons rfl (ao_cons rfl (ao_cons rfl ao_nil))))) h) fun W42 HS42 => sx_ (sxi HS42 [0, 1, 2, 3] rfl) fun hx43 => ?_
     clear HS24 H24 a24 HS36 H36 a36 hx37 HS38 hx39 HS40
     refine h1_ 8 rfl <| t_ rfl (fun _ h => dd_setrow HS42 2 rfl rfl (H38.ev 6 rfl) (H38.ev 17 rfl) (by kernel_rfl) (rfl : #[.slice (some ⟨gm15, 0, none⟩) 1 1, .int .i64 1, .int .u32 2, .int .u32 9].size = 4) (rfl : #[.slice none 0 0, .int .i64 0, .int .u32 0, .int .u32 0].size = 4) (one_l (ao_cons rfl (ao_cons rfl (ao_cons rfl (ao_cons rfl ao_nil))))) h) fun W44 HS44 => sx_ (sxi HS44 [0, 1, 2, 3] rfl) fun hx45 => ?_
     clear hx41 HS42 hx43
     refine wpAnyH_done (by kernel_rfl) ?_ _
     clear hx45
     exact nx ⟨g6, g5, g4, H38.sel [1, 2, 3, 4, 5, 6] rfl, ss HS44 [0, 1, 3, 2]⟩
   ·
    refine ho_ rfl <| n_ H23 rfl (fun _ h => dd_new HSh20 #[.slice none 0 0, .int .i64 0, .int .u32 0, .int .u32 0] rfl (z := .agg #[.slice none 0 0, .int .i64 0, .int .u32 0, .int .u32 0]) (by kernel_rfl) rfl h) fun g5 W46 HS46 a46 H46 => sx_ (sxi HS46 [0, 1] rfl) fun hx47 => ?_
    clear HSh20 H23 a23
    refine wpAnyH_all (rs := [3, 5]) (by kernel_rfl) (by decide) (hm_cons ?_ (hm_cons ?_ hm_nil))
    ·
     refine ho_ rfl <| n_ H46 rfl (fun _ h => dd_new HS46 #[.slice none 0 0, .int .i64 0, .int .u32 0, .int .u32 0] rfl (z := .agg #[.slice none 0 0, .int .i64 0, .int .u32 0, .int .u32 0]) (by kernel_rfl) rfl h) fun g4 W48 HS48 a48 H48 => sx_ (sxi HS48 [0, 1, 2] rfl) fun hx49 => h1_ 5 rfl <| n_ H48 rfl (fun _ h => dd_new HS48 #[.slice none 0 0, .int .i64 0, .int .u32 0, .int .u32 0] rfl (z := .agg #[.slice none 0 0, .int .i64 0, .int .u32 0, .int .u32 0]) (by kernel_rfl) rfl h) fun g6 W50 HS50 a50 H50 => sx_ (sxi HS50 [0, 1, 2, 3] rfl) fun hx51 => h1_ 6 rfl <| t_ rfl (fun _ h => dd_setrow HS50 2 rfl rfl (H50.ev 4 rfl) (H50.ev 15 rfl) (by kernel_rfl) (rfl : #[.slice (some ⟨gm15, 0, none⟩) 1 1, .int .i64 1, .int .u32 2, .int .u32 9].size = 4) (rfl : #[.slice none 0 0, .int .i64 0, .int .u32 0, .int .u32 0].size = 4) (one_l (ao_cons rfl (ao_cons rfl (ao_cons rfl (ao_cons rfl ao_nil))))) h) fun W52 HS52 => sx_ (sxi HS52 [0, 1, 2, 3] rfl) fun hx53 => h1_ 7 rfl <| t_ rfl (fun _ h => dd_setrow HS52 1 rfl rfl (H50.ev 5 rfl) (H50.ev 16 rfl) (by kernel_rfl) (rfl : #[.slice (some ⟨gm15, 0, none⟩) 1 1, .int .i64 1, .int .u32 2, .int .u32 9].size = 4) (rfl : #[.slice none 0 0, .int .i64 0, .int .u32 0, .int .u32 0].size = 4) (one_l (ao_cons rfl (ao_cons rfl (ao_cons rfl (ao_cons rfl ao_nil))))) h) fun W54 HS54 => sx_ (sxi HS54 [0, 1, 2, 3] rfl) fun hx55 => ?_
     clear HS46 H46 a46 HS48 H48 a48 hx49 HS50 hx51 HS52
     refine h1_ 8 rfl <| t_ rfl (fun _ h => dd_setrow HS54 3 rfl rfl (H50.ev 6 rfl) (H50.ev 17 rfl) (by kernel_rfl) (rfl : #[.slice (some ⟨gm15, 0, none⟩) 1 1, .int .i64 1, .int .u32 2, .int .u32 9].size = 4) (rfl : #[.slice none 0 0, .int .i64 0, .int .u32 0, .int .u32 0].size = 4) (one_l (ao_cons rfl (ao_cons rfl (ao_cons rfl (ao_cons rfl ao_nil))))) h) fun W56 HS56 => sx_ (sxi HS56 [0, 1, 2, 3] rfl) fun hx57 => ?_
     clear hx53 HS54 hx55
     refine wpAnyH_done (by kernel_rfl) ?_ _
     clear hx57
     exact nx ⟨g6, g5, g4, H50.sel [1, 2, 3, 4, 5, 6] rfl, ss HS56 [0, 2, 1, 3]⟩
    ·
     refine ho_ rfl <| n_ H46 rfl (fun _ h => dd_new HS46 #[.slice none 0 0, .int .i64 0, .int .u32 0, .int .u32 0] rfl (z := .agg #[.slice none 0 0, .int .i64 0, .int .u32 0, .int .u32 0]) (by kernel_rfl) rfl h) fun g6 W58 HS58 a58 H58 => sx_ (sxi HS58 [0, 1, 2] rfl) fun hx59 => h1_ 3 rfl <| n_ H58 rfl (fun _ h => dd_new HS58 #[.slice none 0 0, .int .i64 0, .int .u32 0, .int .u32 0] rfl (z := .agg #[.slice none 0 0, .int .i64 0, .int .u32 0, .int .u32 0]) (by kernel_rfl) rfl h) fun g4 W60 HS60 a60 H60 => sx_ (sxi HS60 [0, 1, 2, 3] rfl) fun hx61 => h1_ 6 rfl <| t_ rfl (fun _ h => dd_setrow HS60 3 rfl rfl (H60.ev 4 rfl) (H60.ev 15 rfl) (by kernel_rfl) (rfl : #[.slice (some ⟨gm15, 0, none⟩) 1 1, .int .i64 1, .int .u32 2, .int .u32 9].size = 4) (rfl : #[.slice none 0 0, .int .i64 0, .int .u32 0, .int .u32 0].size = 4) (one_l (ao_cons rfl (ao_cons rfl (ao_cons rfl (ao_cons rfl ao_nil))))) h) fun W62 HS62 => sx_ (sxi HS62 [0, 1, 2, 3] rfl) fun hx63 => h1_ 7 rfl <| t_ rfl (fun _ h => dd_setrow HS62 1 rfl rfl (H60.ev 5 rfl) (H60.ev 16 rfl) (by kernel_rfl) (rfl : #[.slice (some ⟨gm15, 0, none⟩) 1 1, .int .i64 1, .int .u32 2, .int .u32 9].size = 4) (rfl : #[.slice none 0 0, .int .i64 0, .int .u32 0, .int .u32 0].size = 4) (one_l (ao_cons rfl (ao_cons rfl (ao_cons rfl (ao_cons rfl ao_nil))))) h) fun W64 HS64 => sx_ (sxi HS64 [0, 1, 2, 3] rfl) fun hx65 => ?_
     clear HS46 H46 a46 HS58 H58 a58 hx59 HS60 hx61 HS62
     refine h1_ 8 rfl <| t_ rfl (fun _ h => dd_setrow HS64 2 rfl rfl (H60.ev 6 rfl) (H60.ev 17 rfl) (by kernel_rfl) (rfl : #[.slice (some ⟨gm15, 0, none⟩) 1 1, .int .i64 1, .int .u32 2, .int .u32 9].size = 4) (rfl : #[.slice none 0 0, .int .i64 0, .int .u32 0, .int .u32 0].size = 4) (one_l (ao_cons rfl (ao_cons rfl (ao_cons rfl (ao_cons rfl ao_nil))))) h) fun W66 HS66 => sx_ (sxi HS66 [0, 1, 2, 3] rfl) fun hx67 => ?_
     clear hx63 HS64 hx65
     refine wpAnyH_done (by kernel_rfl) ?_ _
     clear hx67
     exact nx ⟨g6, g5, g4, H60.sel [1, 2, 3, 4, 5, 6] rfl, ss HS66 [0, 3, 1, 2]⟩
   ·
    refine ho_ rfl <| n_ H23 rfl (fun _ h => dd_new HSh20 #[.slice none 0 0, .int .i64 0, .int .u32 0, .int .u32 0] rfl (z := .agg #[.slice none 0 0, .int .i64 0, .int .u32 0, .int .u32 0]) (by kernel_rfl) rfl h) fun g6 W68 HS68 a68 H68 => sx_ (sxi HS68 [0, 1] rfl) fun hx69 => ?_
    clear HSh20 H23 a23
    refine wpAnyH_all (rs := [3, 4]) (by kernel_rfl) (by decide) (hm_cons ?_ (hm_cons ?_ hm_nil))
    ·
     refine ho_ rfl <| n_ H68 rfl (fun _ h => dd_new HS68 #[.slice none 0 0, .int .i64 0, .int .u32 0, .int .u32 0] rfl (z := .agg #[.slice none 0 0, .int .i64 0, .int .u32 0, .int .u32 0]) (by kernel_rfl) rfl h) fun g4 W70 HS70 a70 H70 => sx_ (sxi HS70 [0, 1, 2] rfl) fun hx71 => h1_ 4 rfl <| n_ H70 rfl (fun _ h => dd_new HS70 #[.slice none 0 0, .int .i64 0, .int .u32 0, .int .u32 0] rfl (z := .agg #[.slice none 0 0, .int .i64 0, .int .u32 0, .int .u32 0]) (by kernel_rfl) rfl h) fun g5 W72 HS72 a72 H72 => sx_ (sxi HS72 [0, 1, 2, 3] rfl) fun hx73 => h1_ 6 rfl <| t_ rfl (fun _ h => dd_setrow HS72 2 rfl rfl (H72.ev 4 rfl) (H72.ev 15 rfl) (by kernel_rfl) (rfl : #[.slice (some ⟨gm15, 0, none⟩) 1 1, .int .i64 1, .int .u32 2, .int .u32 9].size = 4) (rfl : #[.slice none 0 0, .int .i64 0, .int .u32 0, .int .u32 0].size = 4) (one_l (ao_cons rfl (ao_cons rfl (ao_cons rfl (ao_cons rfl ao_nil))))) h) fun W74 HS74 => sx_ (sxi HS74 [0, 1, 2, 3] rfl) fun hx75 => h1_ 7 rfl <| t_ rfl (fun _ h => dd_setrow HS74 3 rfl rfl (H72.ev 5 rfl) (H72.ev 16 rfl) (by kernel_rfl) (rfl : #[.slice (some ⟨gm15, 0, none⟩) 1 1, .int .i64 1, .int .u32 2, .int .u32 9].size = 4) (rfl : #[.slice none 0 0, .int .i64 0, .int .u32 0, .int .u32 0].size = 4) (one_l (ao_cons rfl (ao_cons rfl (ao_cons rfl (ao_cons rfl ao_nil))))) h) fun W76 HS76 => sx_ (sxi HS76 [0, 1, 2, 3] rfl) fun hx77 => ?_
     clear HS68 H68 a68 HS70 H70 a70 hx71 HS72 hx73 HS74
     refine h1_ 8 rfl <| t_ rfl (fun _ h => dd_setrow HS76 1 rfl rfl (H72.ev 6 rfl) (H72.ev 17 rfl) (by kernel_rfl) (rfl : #[.slice (some ⟨gm15, 0, none⟩) 1 1, .int .i64 1, .int .u32 2, .int .u32 9].size = 4) (rfl : #[.slice none 0 0, .int .i64 0, .int .u32 0, .int .u32 0].size = 4) (one_l (ao_cons rfl (ao_cons rfl (ao_cons rfl (ao_cons rfl ao_nil))))) h) fun W78 HS78 => sx_ (sxi HS78 [0, 1, 2, 3] rfl) fun hx79 => ?_
     clear hx75 HS76 hx77
     refine wpAnyH_done (by kernel_rfl) ?_ _
     clear hx79
     exact nx ⟨g6, g5, g4, H72.sel [1, 2, 3, 4, 5, 6] rfl, ss HS78 [0, 2, 3, 1]⟩
    ·
     refine ho_ rfl <| n_ H68 rfl (fun _ h => dd_new HS68 #[.slice none 0 0, .int .i64 0, .int .u32 0, .int .u32 0] rfl (z := .agg #[.slice none 0 0, .int .i64 0, .int .u32 0, .int .u32 0]) (by kernel_rfl) rfl h) fun g5 W80 HS80 a80 H80 => sx_ (sxi HS80 [0, 1, 2] rfl) fun hx81 => h1_ 3 rfl <| n_ H80 rfl (fun _ h => dd_new HS80 #[.slice none 0 0, .int .i64 0, .int .u32 0, .int .u32 0] rfl (z := .agg #[.slice none 0 0, .int .i64 0, .int .u32 0, .int .u32 0]) (by kernel_rfl) rfl h) fun g4 W82 HS82 a82 H82 => sx_ (sxi HS82 [0, 1, 2, 3] rfl) fun hx83 => h1_ 6 rfl <| t_ rfl (fun _ h => dd_setrow HS82 3 rfl rfl (H82.ev 4 rfl) (H82.ev 15 rfl) (by kernel_rfl) (rfl : #[.slice (some ⟨gm15, 0, none⟩) 1 1, .int .i64 1, .int .u32 2, .int .u32 9].size = 4) (rfl : #[.slice none 0 0, .int .i64 0, .int .u32 0, .int .u32 0].size = 4) (one_l (ao_cons rfl (ao_cons rfl (ao_cons rfl (ao_cons rfl ao_nil))))) h) fun W84 HS84 => sx_ (sxi HS84 [0, 1, 2, 3] rfl) fun hx85 => h1_ 7 rfl <| t_ rfl (fun _ h => dd_setrow HS84 2 rfl rfl (H82.ev 5 rfl) (H82.ev 16 rfl) (by kernel_rfl) (rfl : #[.slice (some ⟨gm15, 0, none⟩) 1 1, .int .i64 1, .int .u32 2, .int .u32 9].size = 4) (rfl : #[.slice none 0 0, .int .i64 0, .int .u32 0, .int .u32 0].size = 4) (one_l (ao_cons rfl (ao_cons rfl (ao_cons rfl (ao_cons rfl ao_nil))))) h) fun W86 HS86 => sx_ (sxi HS86 [0, 1, 2, 3] rfl) fun hx87 => ?_
     clear HS68 H68 a68 HS80 H80 a80 hx81 HS82 hx83 HS84
     refine h1_ 8 rfl <| t_ rfl (fun _ h => dd_setrow HS86 1 rfl rfl (H82.ev 6 rfl) (H82.ev 17 rfl) (by kernel_rfl) (rfl : #[.slice (some ⟨gm15, 0, none⟩) 1 1, .int .i64 1, .int .u32 2, .int .u32 9].size = 4) (rfl : #[.slice none 0 0, .int .i64 0, .int .u32 0, .int .u32 0].size = 4) (one_l (ao_cons rfl (ao_cons rfl (ao_cons rfl (ao_cons rfl ao_nil))))) h) fun W88 HS88 => sx_ (sxi HS88 [0, 1, 2, 3] rfl) fun hx89 => ?_
     clear hx85 HS86 hx87
     refine wpAnyH_done (by kernel_rfl) ?_ _
     clear hx89
     exact nx ⟨g6, g5, g4, H82.sel [1, 2, 3, 4, 5, 6] rfl, ss HS88 [0, 3, 2, 1]⟩
  ·
   rintro aj20 wj20 ⟨g6, g5, g4, Hj20, HSj20⟩
   refine nx <| sq_ <| rl_ <| wl_ <| n_ Hj20 rfl (fun _ h => dd_lits HSj20 #[.int .u8 106] rfl (ps := [(0, .int .u8 106)]) (pr1 rfl (pr0)) (z := .int .u8 0) (sz := 1) Tryd.underlying22 (by kernel_rfl) rfl rfl (by kernel_rfl) h) fun g18 W91 HS91 a91 H91 => ?_
   clear HSj20 Hj20 aj20
   refine wl_ <| d_ H91 rfl (R := fun v9 w9 => v9 = .slice (some ⟨g18, 0, none⟩) 1 1 ∧ (MarkAt w9 g18 [106#8]) ∧ (∀ r ∈ ([⟨g3, 25, #[.slice (some ⟨gm15, 0, none⟩) 1 1, .int .i64 1, .int .u32 2, .int .u32 9]⟩, ⟨g4, 25, #[.slice (some ⟨gm15, 0, none⟩) 1 1, .int .i64 1, .int .u32 2, .int .u32 9]⟩, ⟨g5, 25, #[.slice (some ⟨gm15, 0, none⟩) 1 1, .int .i64 1, .int .u32 2, .int .u32 9]⟩, ⟨g6, 25, #[.slice (some ⟨gm15, 0, none⟩) 1 1, .int .i64 1, .int .u32 2, .int .u32 9]⟩] : List Blk), r.g ≠ g18) ∧ St W14 noF [⟨g3, 25, #[.slice (some ⟨gm15, 0, none⟩) 1 1, .int .i64 1, .int .u32 2, .int .u32 9]⟩, ⟨g4, 25, #[.slice (some ⟨gm15, 0, none⟩) 1 1, .int .i64 1, .int .u32 2, .int .u32 9]⟩, ⟨g5, 25, #[.slice (some ⟨gm15, 0, none⟩) 1 1, .int .i64 1, .int .u32 2, .int .u32 9]⟩, ⟨g6, 25, #[.slice (some ⟨gm15, 0, none⟩) 1 1, .int .i64 1, .int .u32 2, .int .u32 9]⟩] w9) (dd_cvl HS91 4 (q := [106#8]) rfl rfl (H91.ev 18 rfl) (fun w9 h1 h2 h3 => ⟨rfl, h2, h3, h1⟩)) ?_
   rintro _ W92 ⟨rfl, hm93, hne93, HS92⟩ a92 H92
   clear H91 a91 HS91
   have HSf93 := HS92.frame
   refine wl_ <| i_ H92 rfl (xf 3 3 rfl (H92.ev 4 rfl)) fun a94 H94 => wl_ <| t_ rfl (fun _ h => dd_put (cs := #[.slice (some ⟨gm15, 0, none⟩) 1 1, .int .i64 1, .int .u32 2, .int .u32 10]) HSf93 1 3 rfl rfl (H94.ev 20 rfl) rfl (by kernel_rfl) rfl rfl rfl rfl h) fun W95 HS95 => wl_ <| i_ H94 rfl (xf 0 0 rfl (H94.ev 5 rfl)) fun a96 H96 => wl_ <| t_ rfl (fun _ h => dd_put (cs := #[.slice (some ⟨g18, 0, none⟩) 1 1, .int .i64 1, .int .u32 2, .int .u32 9]) HS95 2 0 rfl rfl (H96.ev 21 rfl) (H96.ev 19 rfl) (by kernel_rfl) rfl rfl rfl rfl h) fun W97 HS97 => wl_ <| i_ H96 rfl (xf 2 2 rfl (H96.ev 6 rfl)) fun a98 H98 => wl_ <| t_ rfl (fun _ h => dd_put (cs := #[.slice (some ⟨gm15, 0, none⟩) 1 1, .int .i64 1, .int .u32 3, .int .u32 9]) HS97 3 2 rfl rfl (H98.ev 22 rfl) rfl (by kernel_rfl) rfl rfl rfl rfl h) fun W99 HS99 => ln_ <| nx <| sq_ <| rl_ <| ?_
   clear H92 a92 HSf93 H94 a94 HS95 H96 a96 HS97
   have HSu93 := HS92.unframe HS99
   have hmu93 := hm93.chg HS99 hne93
   clear hm93 hne93
   clear HS92 HS99
   have HBs101 : Below W14.heap.size W14 W99 := HSu93.below
   have HTr := fun (W9 : World) (hb9 : Below W99.heap.size W99 W9) => HT W9 (HBs101.trans (hb9.mono HBs101.size))
   clear HT
   have HT := HTr
   clear HTr
   have HM4r := fun (W9 : World) (hb9 : Below W99.heap.size W99 W9) => HM4 W9 (HBs101.trans (hb9.mono HBs101.size))
   clear HM4
   have HM4 := HM4r
   clear HM4r
   have HR16_0r := fun (W9 : World) (hb9 : Below W99.heap.size W99 W9) => HR16_0 W9 (HBs101.trans (hb9.mono HBs101.size))
   clear HR16_0
   have HR16_0 := HR16_0r
   clear HR16_0r
   have HM15r := fun (W9 : World) (hb9 : Below W99.heap.size W99 W9) => HM15 W9 (HBs101.trans (hb9.mono HBs101.size))
   clear HM15
   have HM15 := HM15r
   clear HM15r
   have HR101_0 := fun (W9 : World) (hb9 : Below W99.heap.size W99 W9) => (HSu93.row 0 rfl).call hb9
   have HR101_1 := fun (W9 : World) (hb9 : Below W99.heap.size W99 W9) => (HSu93.row 1 rfl).call hb9
   have HR101_2 := fun (W9 : World) (hb9 : Below W99.heap.size W99 W9) => (HSu93.row 2 rfl).call hb9
   have HR101_3 := fun (W9 : World) (hb9 : Below W99.heap.size W99 W9) => (HSu93.row 3 rfl).call hb9
   have HSb101 := St.nil W99 noF
   clear HSu93
   have HM93 := fun (W9 : World) (hb9 : Below W99.heap.size W99 W9) => hmu93.call hb9
   refine wl_ <| p_ H98 rfl rfl fun a100 H100 => wl_ <| i_ H100 rfl (dd_cmp rfl (H100.ev 23 rfl) rfl (eq_t (by decide))) fun a102 H102 => wl_ <| p_ H102 rfl rfl fun a103 H103 => wl_ <| ig H103 (wg_ H103 rfl rfl rfl rfl) rfl (v := .agg #[.slice (some ⟨gm15, 0, none⟩) 1 1, .int .i64 1, .int .u32 2, .int .u32 9]) (dd_loadR (HR101_0 _ HSb101.below) rfl (H103.ev 3 rfl) (slab_whole _) Tryd.underlying25 rfl (by kernel_rfl)) fun a104 H104 => wl_ <| ig H104 (wg_ H104 rfl rfl rfl rfl) rfl (v := .agg (tokCells exC15 (tagOf ([107#8]) (clmB exC15)))) (dd_loadR (HR16_0 _ HSb101.below) rfl (H104.ev 1 rfl) (slab_whole _) Tryd.underlying31 rfl (by rw [show (tokCells exC15 (tagOf ([107#8]) (clmB exC15))).size = 37 from (tk_size _ (len_tag _ _))]; kernel_rfl)) fun a105 H105 => wl_ <| cg H105 (wg_ H105 rfl rfl rfl rfl) rfl HSb101 (v := .int .i64 0) (dc_ Tryd.func9 rfl (args4 (H105.ev 26 rfl) (H105.ev 27 rfl) rfl rfl) (capcheck_any _ _ _ ([107#8]) 1 (2#32) (9#32) exC15 (tagOf ([107#8]) (clmB exC15)) ([97#8, 98#8]) 1 W99 (HT _ HSb101.below) ((HM15 _ HSb101.below).item rfl (by decide)) (by omega) (by decide) (len_tag _ _)) (fun _ w9 h9 => ⟨_, h9.1, by rw [(show chkT ([107#8]) 1 (2#32) (9#32) exC15 (tagOf ([107#8]) (clmB exC15)) ([97#8, 98#8]) 1 = 0 from chk_own may15 (.inr rfl) cand11)], h9.2⟩)) fun W106 HS106 a106 H106 => wl_ <| ig H106 (wg_ H106 rfl rfl rfl rfl) rfl (dd_cmp rfl (H106.ev 28 rfl) rfl (eq_t (by decide))) fun a107 H107 => q_ H107 2 rfl fun a108 H108 => ?_
   clear H98 a98 H100 a100 H102 a102 H103 a103 H104 a104 H105 a105 HSb101 H106 a106
   refine wl_ <| ig H108 (wg_ H108 rfl rfl rfl rfl) rfl (v := .agg #[.slice (some ⟨gm15, 0, none⟩) 1 1, .int .i64 1, .int .u32 2, .int .u32 9]) (dd_loadR (HR101_0 _ HS106.below) rfl (H108.ev 3 rfl) (slab_whole _) Tryd.underlying25 rfl (by kernel_rfl)) fun a109 H109 => wl_ <| ig H109 (wg_ H109 rfl rfl rfl rfl) rfl (v := .agg (tokCells exC15 (tagOf ([107#8]) (clmB exC15)))) (dd_loadR (HR16_0 _ HS106.below) rfl (H109.ev 1 rfl) (slab_whole _) Tryd.underlying31 rfl (by rw [show (tokCells exC15 (tagOf ([107#8]) (clmB exC15))).size = 37 from (tk_size _ (len_tag _ _))]; kernel_rfl)) fun a110 H110 => wl_ <| cg H110 (wg_ H110 rfl rfl rfl rfl) rfl HS106 (v := .int .i64 15) (dc_ Tryd.func9 rfl (args4 (H110.ev 32 rfl) (H110.ev 33 rfl) rfl rfl) (capcheck_any _ _ _ ([107#8]) 1 (2#32) (9#32) exC15 (tagOf ([107#8]) (clmB exC15)) ([97#8, 98#8]) 2 W106 (HT _ HS106.below) ((HM15 _ HS106.below).item rfl (by decide)) (by omega) (by decide) (len_tag _ _)) (fun _ w9 h9 => ⟨_, h9.1, by rw [(show chkT ([107#8]) 1 (2#32) (9#32) exC15 (tagOf ([107#8]) (clmB exC15)) ([97#8, 98#8]) 2 = 15 from chk_own15 may15 (.inr cand12))], h9.2⟩)) fun W111 HS111 a111 H111 => wl_ <| ig H111 (wg_ H111 rfl rfl rfl rfl) rfl (dd_cmp rfl (H111.ev 34 rfl) rfl (eq_t (by decide))) fun a112 H112 => q_ H112 2 rfl fun a113 H113 => wl_ <| ig H113 (wg_ H113 rfl rfl rfl rfl) rfl (v := .agg #[.slice (some ⟨gm15, 0, none⟩) 1 1, .int .i64 1, .int .u32 2, .int .u32 9]) (dd_loadR (HR101_0 _ HS111.below) rfl (H113.ev 3 rfl) (slab_whole _) Tryd.underlying25 rfl (by kernel_rfl)) fun a114 H114 => wl_ <| ig H114 (wg_ H114 rfl rfl rfl rfl) rfl (v := .agg (tokCells exC15 (tagOf ([107#8]) (clmB exC15)))) (dd_loadR (HR16_0 _ HS111.below) rfl (H114.ev 1 rfl) (slab_whole _) Tryd.underlying31 rfl (by rw [show (tokCells exC15 (tagOf ([107#8]) (clmB exC15))).size = 37 from (tk_size _ (len_tag _ _))]; kernel_rfl)) fun a115 H115 => wl_ <| cg H115 (wg_ H115 rfl rfl rfl rfl) rfl HS111 (v := .int .i64 15) (dc_ Tryd.func9 rfl (args4 (H115.ev 38 rfl) (H115.ev 39 rfl) rfl rfl) (capcheck_any _ _ _ ([107#8]) 1 (2#32) (9#32) exC15 (tagOf ([107#8]) (clmB exC15)) ([98#8]) 1 W111 (HT _ HS111.below) ((HM15 _ HS111.below).item rfl (by decide)) (by omega) (by decide) (len_tag _ _)) (fun _ w9 h9 => ⟨_, h9.1, by rw [(show chkT ([107#8]) 1 (2#32) (9#32) exC15 (tagOf ([107#8]) (clmB exC15)) ([98#8]) 1 = 15 from chk_own15 may15 (.inl ⟨by decide, by decide⟩))], h9.2⟩)) fun W116 HS116 a116 H116 => ?_
   clear H107 a107 H108 a108 H109 a109 H110 a110 HS106 H111 a111 H112 a112 H113 a113 H114 a114
   refine wl_ <| ig H116 (wg_ H116 rfl rfl rfl rfl) rfl (dd_cmp rfl (H116.ev 40 rfl) rfl (eq_t (by decide))) fun a117 H117 => q_ H117 2 rfl fun a118 H118 => wl_ <| ig H118 (wg_ H118 rfl rfl rfl rfl) rfl (v := .agg #[.slice (some ⟨gm15, 0, none⟩) 1 1, .int .i64 1, .int .u32 2, .int .u32 10]) (dd_loadR (HR101_1 _ HS116.below) rfl (H118.ev 4 rfl) (slab_whole _) Tryd.underlying25 rfl (by kernel_rfl)) fun a119 H119 => wl_ <| ig H119 (wg_ H119 rfl rfl rfl rfl) rfl (v := .agg (tokCells exC15 (tagOf ([107#8]) (clmB exC15)))) (dd_loadR (HR16_0 _ HS116.below) rfl (H119.ev 1 rfl) (slab_whole _) Tryd.underlying31 rfl (by rw [show (tokCells exC15 (tagOf ([107#8]) (clmB exC15))).size = 37 from (tk_size _ (len_tag _ _))]; kernel_rfl)) fun a120 H120 => wl_ <| cg H120 (wg_ H120 rfl rfl rfl rfl) rfl HS116 (v := .int .i64 13) (dc_ Tryd.func9 rfl (args4 (H120.ev 44 rfl) (H120.ev 45 rfl) rfl rfl) (capcheck_any _ _ _ ([107#8]) 1 (2#32) (10#32) exC15 (tagOf ([107#8]) (clmB exC15)) ([97#8, 98#8]) 1 W116 (HT _ HS116.below) ((HM15 _ HS116.below).item rfl (by decide)) (by omega) (by decide) (len_tag _ _)) (fun _ w9 h9 => ⟨_, h9.1, by rw [(show chkT ([107#8]) 1 (2#32) (10#32) exC15 (tagOf ([107#8]) (clmB exC15)) ([97#8, 98#8]) 1 = 13 from chk_13 (minO may15) rfl (by decide))], h9.2⟩)) fun W121 HS121 a121 H121 => wl_ <| ig H121 (wg_ H121 rfl rfl rfl rfl) rfl (dd_cmp rfl (H121.ev 46 rfl) rfl (eq_t (by decide))) fun a122 H122 => q_ H122 2 rfl fun a123 H123 => wl_ <| ig H123 (wg_ H123 rfl rfl rfl rfl) rfl (v := .agg #[.slice (some ⟨g18, 0, none⟩) 1 1, .int .i64 1, .int .u32 2, .int .u32 9]) (dd_loadR (HR101_2 _ HS121.below) rfl (H123.ev 5 rfl) (slab_whole _) Tryd.underlying25 rfl (by kernel_rfl)) fun a124 H124 => ?_
   clear H115 a115 HS111 H116 a116 H117 a117 H118 a118 H119 a119 H120 a120 HS116 H121 a121 H122 a122
   refine wl_ <| ig H124 (wg_ H124 rfl rfl rfl rfl) rfl (v := .agg (tokCells exC15 (tagOf ([107#8]) (clmB exC15)))) (dd_loadR (HR16_0 _ HS121.below) rfl (H124.ev 1 rfl) (slab_whole _) Tryd.underlying31 rfl (by rw [show (tokCells exC15 (tagOf ([107#8]) (clmB exC15))).size = 37 from (tk_size _ (len_tag _ _))]; kernel_rfl)) fun a125 H125 => wl_ <| cg H125 (wg_ H125 rfl rfl rfl rfl) rfl HS121 (v := .int .i64 12) (dc_ Tryd.func9 rfl (args4 (H125.ev 50 rfl) (H125.ev 51 rfl) rfl rfl) (capcheck_any _ _ _ ([106#8]) 1 (2#32) (9#32) exC15 (tagOf ([107#8]) (clmB exC15)) ([97#8, 98#8]) 1 W121 (HT _ HS121.below) ((HM93 _ HS121.below).item rfl (by decide)) (by omega) (by decide) (len_tag _ _)) (fun _ w9 h9 => ⟨_, h9.1, by rw [(show chkT ([106#8]) 1 (2#32) (9#32) exC15 (tagOf ([107#8]) (clmB exC15)) ([97#8, 98#8]) 1 = 12 from chk_12 ((minB_y may15 rfl).trans tag_kj))], h9.2⟩)) fun W126 HS126 a126 H126 => wl_ <| ig H126 (wg_ H126 rfl rfl rfl rfl) rfl (dd_cmp rfl (H126.ev 52 rfl) rfl (eq_t (by decide))) fun a127 H127 => q_ H127 2 rfl fun a128 H128 => wl_ <| ig H128 (wg_ H128 rfl rfl rfl rfl) rfl (v := .agg #[.slice (some ⟨gm15, 0, none⟩) 1 1, .int .i64 1, .int .u32 3, .int .u32 9]) (dd_loadR (HR101_3 _ HS126.below) rfl (H128.ev 6 rfl) (slab_whole _) Tryd.underlying25 rfl (by kernel_rfl)) fun a129 H129 => wl_ <| ig H129 (wg_ H129 rfl rfl rfl rfl) rfl (v := .agg (tokCells exC15 (tagOf ([107#8]) (clmB exC15)))) (dd_loadR (HR16_0 _ HS126.below) rfl (H129.ev 1 rfl) (slab_whole _) Tryd.underlying31 rfl (by rw [show (tokCells exC15 (tagOf ([107#8]) (clmB exC15))).size = 37 from (tk_size _ (len_tag _ _))]; kernel_rfl)) fun a130 H130 => wl_ <| cg H130 (wg_ H130 rfl rfl rfl rfl) rfl HS126 (v := .int .i64 14) (dc_ Tryd.func9 rfl (args4 (H130.ev 56 rfl) (H130.ev 57 rfl) rfl rfl) (capcheck_any _ _ _ ([107#8]) 1 (3#32) (9#32) exC15 (tagOf ([107#8]) (clmB exC15)) ([97#8, 98#8]) 1 W126 (HT _ HS126.below) ((HM15 _ HS126.below).item rfl (by decide)) (by omega) (by decide) (len_tag _ _)) (fun _ w9 h9 => ⟨_, h9.1, by rw [(show chkT ([107#8]) 1 (3#32) (9#32) exC15 (tagOf ([107#8]) (clmB exC15)) ([97#8, 98#8]) 1 = 14 from chk_14 (minO may15) (by decide))], h9.2⟩)) fun W131 HS131 a131 H131 => wl_ <| ig H131 (wg_ H131 rfl rfl rfl rfl) rfl (dd_cmp rfl (H131.ev 58 rfl) rfl (eq_t (by decide))) fun a132 H132 => ?_
   clear H123 a123 H124 a124 H125 a125 HS121 H126 a126 H127 a127 H128 a128 H129 a129 H130 a130 HS126
   refine q_ H132 2 rfl fun a133 H133 => ln_ <| ?_
   clear H131 a131 H132 a132
   have H134 := H133.sel [0] rfl
   refine nx <| wp_ret <| ret_run H134.env0 (res_t Tryd.results6 (H134.get 0 rfl)) <| ?_
   clear H133
   exact ⟨rfl, (HBs5.trans ((HBs16.trans ((HBs101.trans (HS131.below.mono HBs101.size)).mono HBs16.size)).mono HBs5.size))⟩
end Go.Proofs.YtcheflcfoiclgaaDoor
