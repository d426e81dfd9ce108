/- Merged: AwS AwD AwM AwH AwT NamesSpec NamesPrg NamesPrg2 ZerosB Blk EqI BlkE Lit Keep KeepB NamesRef EqualS NamesCut ReadW. -/
import Derived.OrdersHeld
import Derived.Deep.Cut
import Derived.Test.YtobklbfcnbmnmaaDoorProg
import Derived.Laws.StructEq
import Derived.Laws.BytesArg
import Derived.Laws.Strings3
import Derived.Deep.DeepCutAuto
import Derived.Deep.CutBlock
import Derived.Test.YtobklbfcnbmnmaaDoorMGen0
/- The steps of a walk: one operation in a region that goes in order, or that draws. No function of the program is named here. -/
set_option maxRecDepth 4000
namespace Go.Proofs.YtobklbfcnbmnmaaDoor
open Go Go.RowKit
section
variable {P : Program} {Q : Exit → Act → World → Prop} {ops : Array Oper} {rest : List Oper} {o : Oper} {N : Nat} {L : List (Nat × Value)} {a : Act} {w : World}
theorem want_n (hg : o.guard = none) : Region.wanted o (yielded ops a.tmps) = true := by simp [Region.wanted, hg]
theorem want_g {j t : Nat} {b c d : Bool} (hg : o.guard = some (j, b)) (hd : dstAt ops j = some t) (ht : a.tmps[t]? = some (.bool c)) (h : (c == b) = d) : Region.wanted o (yielded ops a.tmps) = d := by
  unfold dstAt at hd
  simp only [Region.wanted, hg, yielded, hd, Option.bind_some, ht]
  rw [← h]; cases c <;> cases b <;> rfl
theorem want_u {j t : Nat} {b : Bool} (hg : o.guard = some (j, b)) (hd : dstAt ops j = some t) (ht : a.tmps[t]? = some undef) : Region.wanted o (yielded ops a.tmps) = false := by
  unfold dstAt at hd
  simp only [Region.wanted, hg, yielded, hd, Option.bind_some, ht]
  rfl
theorem wl_does (HA : Env N L a) (is : List Nat) {R : Value → World → Prop} (hw : Region.wanted o (yielded ops a.tmps) = true) (hD : Does P o a w R) (hk : okd o.dst N (kp L is) = true)
    (h : ∀ v w', R v w' → ∀ a', Env N (setd o.dst v (kp L is)) a' → wpList P ops Q rest a' w') : wpList P ops Q (o :: rest) a w :=
  wpList_step fun K hK => by rw [if_pos hw]; exact hD K Q fun v w' hR => hK _ _ (h v w' hR _ (HA.put is o.dst v hk))
theorem wl_is (HA : Env N L a) (is : List Nat) {v : Value} (hw : Region.wanted o (yielded ops a.tmps) = true) (hD : Does P o a w fun u w' => u = v ∧ w' = w) (hk : okd o.dst N (kp L is) = true)
    (h : ∀ a', Env N (setd o.dst v (kp L is)) a' → wpList P ops Q rest a' w) : wpList P ops Q (o :: rest) a w :=
  wl_does HA is hw hD hk fun v' w' hR a' HA' => by obtain ⟨rfl, rfl⟩ := hR; exact h a' HA'
theorem wl_skip (HA : Env N L a) (is : List Nat) (hw : Region.wanted o (yielded ops a.tmps) = false) (hk : okd o.dst N (kp L is) = true)
    (h : ∀ a', Env N (setd o.dst undef (kp L is)) a' → wpList P ops Q rest a' w) : wpList P ops Q (o :: rest) a w :=
  wpList_step fun K hK => by rw [hw, if_neg (by decide)]; exact hK _ _ (h _ (HA.put is o.dst undef hk))
theorem wl_end {y : Code} (h : y.wp P Q a w) : wpList P ops (Exit.then (y.wp P Q) Q) [] a w := h
/- the tail of a region that draws -/
theorem wa_does {fuel i : Nat} {listed : Array Bool} (HA : Env N L a) (is : List Nat) {R : Value → World → Prop} (hr : Region.ready .any ops listed = [i]) (ho : ops[i]? = some o) (hw : Region.wanted o (yielded ops a.tmps) = true) (hD : Does P o a w R) (hk : okd o.dst N (kp L is) = true)
    (h : ∀ v w', R v w' → ∀ a', Env N (setd o.dst v (kp L is)) a' → wpAnyH P .any ops Q (fun _ => True) fuel (listed.setIfInBounds i true) a' w') : wpAnyH P .any ops Q (fun _ => True) (fuel + 1) listed a w :=
  anyH_one hr ho fun K hK => by rw [if_pos hw]; exact hD K Q fun v w' hR => hK _ _ trivial (h v w' hR _ (HA.put is o.dst v hk))
theorem wa_is {fuel i : Nat} {listed : Array Bool} (HA : Env N L a) (is : List Nat) {v : Value} (hr : Region.ready .any ops listed = [i]) (ho : ops[i]? = some o) (hw : Region.wanted o (yielded ops a.tmps) = true) (hD : Does P o a w fun u w' => u = v ∧ w' = w) (hk : okd o.dst N (kp L is) = true)
    (h : ∀ a', Env N (setd o.dst v (kp L is)) a' → wpAnyH P .any ops Q (fun _ => True) fuel (listed.setIfInBounds i true) a' w) : wpAnyH P .any ops Q (fun _ => True) (fuel + 1) listed a w :=
  wa_does HA is hr ho hw hD hk fun v' w' hR a' HA' => by obtain ⟨rfl, rfl⟩ := hR; exact h a' HA'
theorem wa_skip {fuel i : Nat} {listed : Array Bool} (HA : Env N L a) (is : List Nat) (hr : Region.ready .any ops listed = [i]) (ho : ops[i]? = some o) (hw : Region.wanted o (yielded ops a.tmps) = false) (hk : okd o.dst N (kp L is) = true)
    (h : ∀ a', Env N (setd o.dst undef (kp L is)) a' → wpAnyH P .any ops Q (fun _ => True) fuel (listed.setIfInBounds i true) a' w) : wpAnyH P .any ops Q (fun _ => True) (fuel + 1) listed a w :=
  anyH_one hr ho fun K hK => by rw [hw, if_neg (by decide)]; exact hK _ _ trivial (h _ (HA.put is o.dst undef hk))
end
/- the part of a region that draws in which nothing that was there is changed -/
theorem wp_core {P : Program} {Q : Exit → Act → World → Prop} {id : Nat} {l : List Oper} {a0 : Act} {w0 : World} {N : Nat} {L : List (Nat × Value)} (HA : Env N L a0) (Vl : List (Value → World → Prop)) (n NN : Nat) (G : Nat → Bool)
    (hN : l.length = NN) (hm : P.follows .mixedOrders = true) (hchk : chk l.toArray n N = true) (hst : ∀ i, ∀ v w w', Vs Vl i v w → Same w w' → Vs Vl i v w')
    (hguard : All (GuardAt Same (Vs Vl) G w0.drew) n l 0) (hstep : All (StepAt P l.toArray n Same (Vs Vl) G a0 w0.drew) n l 0)
    (hrest : ∀ (x : Nat → Value) (w : World) (a : Act), Same w0.drew w → (∀ i, i < n → Vs Vl i (x i) w) → a.tmps.size = N → a.defers = [] → (∀ i, i < n → ∀ d, dstAt l.toArray i = some d → a.tmps[d]? = some (x i)) → (∀ t, noDst l.toArray n t = true → a.tmps[t]? = a0.tmps[t]?) →
      wpAnyH P .any l.toArray Q (fun _ => True) (NN - n) (listedTo n NN) a w) :
    (Code.region id l.toArray true).wp P Q a0 w0 := by
  subst hN
  have hsz := HA.size
  subst hsz
  refine wp_region_inv n (Vs Vl) G Same hm hchk Same.refl (fun a b c h k => h.trans (k.mono h.size)) (fun i _ => hst i) hguard hstep fun x w h1 h2 => ?_
  have hc := hchk
  unfold chk at hc
  simp only [Bool.and_eq_true, List.all_eq_true, List.mem_range] at hc
  obtain ⟨⟨⟨⟨_, _⟩, c2⟩, _⟩, _⟩ := hc
  have dlt : ∀ i, i < n → ∀ d, dstAt l.toArray i = some d → d < a0.tmps.size := fun i hi d hd => by
    have h := c2 i hi
    rw [hd] at h
    simp only [Bool.and_eq_true, decide_eq_true_eq] at h
    exact h.1
  have dne : ∀ i, i < n → ∀ j, j < i → ∀ d, dstAt l.toArray i = some d → dstAt l.toArray j ≠ some d := fun i hi j hj d hd => by
    have h := c2 i hi
    rw [hd] at h
    simp only [Bool.and_eq_true, List.all_eq_true, List.mem_range] at h
    have := h.2 j hj
    simpa using this
  obtain ⟨p1, p2, p3, p4⟩ := puts_get (ops := l.toArray) x a0 n dne dlt
  refine hrest x w _ h1 h2 p2 (p1.trans HA.defers) p3 fun t ht => p4 t fun i hi hd => ?_
  unfold noDst at ht
  have := (List.all_eq_true.1 ht) i (List.mem_range.2 hi)
  rw [hd] at this
  simp at this
theorem vs_stay : ∀ {Vl : List (Value → World → Prop)}, (∀ V ∈ Vl, ∀ v w w', V v w → Same w w' → V v w') → ∀ i v w w', Vs Vl i v w → Same w w' → Vs Vl i v w'
  | [], _, i, v, w, w', _, _ => by unfold Vs; simp [anyV]
  | V :: Vl, h, 0, v, w, w', hv, k => h V (by simp) v w w' hv k
  | V :: Vl, h, i + 1, v, w, w', hv, k => by
    have := vs_stay (Vl := Vl) (fun V hV => h V (by simp [hV])) i v w w'
    unfold Vs at *
    simp only [List.getD_cons_succ] at *
    exact this hv k
theorem vst_nil : ∀ V ∈ ([] : List (Value → World → Prop)), ∀ v w w', V v w → Same w w' → V v w' := fun V h => by cases h
theorem vst_cons {V : Value → World → Prop} {Vl : List (Value → World → Prop)} (h : ∀ v w w', V v w → Same w w' → V v w') (t : ∀ V ∈ Vl, ∀ v w w', V v w → Same w w' → V v w') : ∀ U ∈ V :: Vl, ∀ v w w', U v w → Same w w' → U v w' := fun U hU => by
  cases hU with
  | head => exact h
  | tail _ hU => exact t U hU
theorem is_st (c : Value) : ∀ v w w', is c v w → Same w w' → is c v w' := fun _ _ _ h _ => h
theorem sl_st (q : List (BitVec 8)) : ∀ v w w', sl q v w → Same w w' → sl q v w' := fun _ _ _ h k => h.below k (Nat.le_refl _)
/- what a step knows of the slots -/
section
variable {ops : Array Oper} {n : Nat} {Vl : List (Value → World → Prop)} {a a0 : Act} {x : Nat → Value} {w : World} {o : Oper} {N : Nat} {L : List (Nat × Value)}
theorem kn_is (hk : Known ops n (Vs Vl) a x w o) (j : Nat) {d : Nat} {c : Value} (hw : waitsFor o j = true) (hj : Nat.blt j n = true) (hd : dstAt ops j = some d) (hV : Vl[j]? = some (is c)) : a.tmps[d]? = some c := by
  have hj : j < n := Nat.le_of_ble_eq_true hj
  refine hk.is j d hw hj hd c ?_
  unfold Vs
  simp [List.getD_eq_getElem?_getD, hV]
theorem kn_of (hk : Known ops n (Vs Vl) a x w o) (j : Nat) {d : Nat} {V : Value → World → Prop} (hw : waitsFor o j = true) (hj : Nat.blt j n = true) (hd : dstAt ops j = some d) (hV : Vl[j]? = some V) : ∃ v, a.tmps[d]? = some v ∧ V v w := by
  have hj : j < n := Nat.le_of_ble_eq_true hj
  obtain ⟨v, h1, h2⟩ := hk.get j d hw hj hd
  refine ⟨v, h1, ?_⟩
  unfold Vs at h2
  simpa [List.getD_eq_getElem?_getD, hV] using h2
theorem kn_out (hout : ∀ t, noDst ops n t = true → a.tmps[t]? = a0.tmps[t]?) (HA : Env N L a0) (i : Nat) {k : Nat} {v : Value} (hi : L[i]? = some (k, v)) (hn : noDst ops n k = true) : a.tmps[k]? = some v := (hout k hn).trans (HA.get i hi)
theorem rs_is (hV : ∀ i, i < n → Vs Vl i (x i) w) (hd : ∀ i, i < n → ∀ d, dstAt ops i = some d → a.tmps[d]? = some (x i)) (j : Nat) {d : Nat} {c : Value} (hj : Nat.blt j n = true) (hdj : dstAt ops j = some d) (hc : Vl[j]? = some (is c)) : a.tmps[d]? = some c := by
  have hj : j < n := Nat.le_of_ble_eq_true hj
  have h := hV j hj
  unfold Vs at h
  rw [List.getD_eq_getElem?_getD, hc] at h
  rw [hd j hj d hdj]
  exact congrArg some h
theorem rs_of (hV : ∀ i, i < n → Vs Vl i (x i) w) (hd : ∀ i, i < n → ∀ d, dstAt ops i = some d → a.tmps[d]? = some (x i)) (j : Nat) {d : Nat} {V : Value → World → Prop} (hj : Nat.blt j n = true) (hdj : dstAt ops j = some d) (hc : Vl[j]? = some V) : ∃ v, a.tmps[d]? = some v ∧ V v w := by
  have hj : j < n := Nat.le_of_ble_eq_true hj
  refine ⟨x j, hd j hj d hdj, ?_⟩
  have h := hV j hj
  unfold Vs at h
  simpa [List.getD_eq_getElem?_getD, hc] using h
end
theorem aguard_n {V : Nat → Value → World → Prop} {G : Nat → Bool} {R : World → World → Prop} {w1 : World} {i : Nat} {o : Oper} (hg : o.guard = none) (h : G i = true) : GuardAt R V G w1 i o := by
  unfold GuardAt; rw [hg]; exact h
theorem aguard_g {Vl : List (Value → World → Prop)} {G : Nat → Bool} {R : World → World → Prop} {w1 : World} {i : Nat} {o : Oper} {j : Nat} {b c : Bool} (hg : o.guard = some (j, b)) (hV : Vl[j]? = some (is (.bool c))) (h : (b == G i) = c) : GuardAt R (Vs Vl) G w1 i o := by
  unfold GuardAt
  rw [hg]
  intro v w _ hv
  unfold Vs at hv
  rw [List.getD_eq_getElem?_getD, hV] at hv
  rw [h]; exact hv
/- regions in which operations change what was there, with the frame as a list -/
theorem wp_phe {P : Program} {Q : Exit → Act → World → Prop} {id : Nat} {l : List Oper} {a0 : Act} {w0 : World} {N : Nat} {L : List (Nat × Value)} (HA : Env N L a0) (Vl : List (Value → World → Prop)) (rl : List Bool) (Fl : List (World → Prop)) (Ul : List Bool) (pl : List (Option Nat)) (n m : Nat) (G : Nat → Bool)
    (hN : l.length = n) (hm : P.follows .mixedOrders = true) (hchk : chk l.toArray n N = true) (hph : phChk l.toArray n (fun i => Ul.getD i false) (fun i => pl.getD i none) (fun i => rl.getD i false) = true) (hmm : wildCount (fun i => Ul.getD i false) n (fun _ => true) = m)
    (hF : WOk Fl) (hV : VOk Vl rl) (h0 : Wl Fl 0 w0.drew)
    (hguard : All (GuardP (Vs Vl) G (fun i => rl.getD i false)) n l 0) (hstep : All (StepP P l.toArray n Same (Wl Fl) (Vs Vl) G (fun i => Ul.getD i false) (fun i => rl.getD i false) (fun i => pl.getD i none) a0) n l 0)
    (hrest : ∀ (x : Nat → Value) (w : World) (a : Act), Wl Fl m w → (∀ i, i < n → rl.getD i false = true ∨ phAfter (fun i => Ul.getD i false) (fun i => pl.getD i none) i = some m → Vs Vl i (x i) w) → a.tmps.size = N → a.defers = [] → (∀ i, i < n → ∀ d, dstAt l.toArray i = some d → a.tmps[d]? = some (x i)) → (∀ t, noDst l.toArray n t = true → a.tmps[t]? = a0.tmps[t]?) → Q .normal a w) :
    (Code.region id l.toArray true).wp P Q a0 w0 := by
  have hsz := HA.size
  subst hsz hN
  refine wp_region_phs Vl rl Fl Ul pl _ _ m G rfl rfl hm hchk hph hmm hF hV h0 hguard hstep fun x w h1 h2 => ?_
  have hc := hchk
  unfold chk at hc
  simp only [Bool.and_eq_true, List.all_eq_true, List.mem_range] at hc
  obtain ⟨⟨⟨⟨_, _⟩, c2⟩, _⟩, _⟩ := hc
  have dlt : ∀ i, i < l.length → ∀ d, dstAt l.toArray i = some d → d < a0.tmps.size := fun i hi d hd => by
    have h := c2 i hi
    rw [hd] at h
    simp only [Bool.and_eq_true, decide_eq_true_eq] at h
    exact h.1
  have dne : ∀ i, i < l.length → ∀ j, j < i → ∀ d, dstAt l.toArray i = some d → dstAt l.toArray j ≠ some d := fun i hi j hj d hd => by
    have h := c2 i hi
    rw [hd] at h
    simp only [Bool.and_eq_true, List.all_eq_true, List.mem_range] at h
    have := h.2 j hj
    simpa using this
  obtain ⟨p1, p2, p3, p4⟩ := puts_get (ops := l.toArray) x a0 l.length dne dlt
  have e := puts_eq l x a0 l.length (Nat.le_refl _)
  rw [List.take_of_length_le (by simp)] at e
  rw [← e]
  refine wpAnyH_done ?_ (hrest x w _ h1 h2 p2 (p1.trans HA.defers) p3 fun t ht => p4 t fun i hi hd => ?_) _
  · unfold Region.ready
    rw [List.filter_eq_nil_iff]
    intro i hi
    have hlt : i < l.length := by simpa using hi
    simp [hlt]
  · unfold noDst at ht
    have := (List.all_eq_true.1 ht) i (List.mem_range.2 hi)
    rw [hd] at this
    simp at this
end Go.Proofs.YtobklbfcnbmnmaaDoor

/- What the operations yield, one by one. No function of the program is named here. -/
set_option maxRecDepth 4000
namespace Go.Proofs.YtobklbfcnbmnmaaDoor
open Go Go.RowKit
def fieldOff (P : Program) (s : TypeId) (f : Nat) : Option Nat :=
  match P.underlying s with
  | some (.struct fields) => match fields[f]? with
    | some fd => match (P.info? fd.type).map (·.size) with
      | some (_ + 1) => some fd.offset
      | _ => none
    | none => none
  | _ => none
def arrOf (P : Program) (t : TypeId) : Option (Nat × Nat) :=
  match P.underlying t with
  | some (.array n e) => (P.info? e).map fun i => (n, i.size)
  | _ => none
def slOf (P : Program) (t : TypeId) : Option Nat :=
  match P.underlying t with
  | some (.slice e) => (P.info? e).map fun i => i.size
  | _ => none
def intOfT (P : Program) (t : TypeId) : Option IntKind :=
  match P.underlying t with
  | some (.int k) => some k
  | _ => none
def cmpI : BinOp → Int → Int → Option Bool
  | .eql, x, y => some (x == y)
  | .neq, x, y => some (x != y)
  | .lss, x, y => some (decide (x < y))
  | .leq, x, y => some (decide (x ≤ y))
  | .gtr, x, y => some (decide (x > y))
  | .geq, x, y => some (decide (x ≥ y))
  | _, _, _ => none
def ariI : BinOp → Int → Int → Option Int
  | .add, x, y => some (x + y)
  | .sub, x, y => some (x - y)
  | .mul, x, y => some (x * y)
  | _, _, _ => none
section
variable {P : Program} {o : Oper} {a : Act} {w : World} {R : Value → World → Prop}
theorem dd_mv {x : Operand} {v : Value} (ho : o.op = .move x) (hx : a.eval x = v) : (execOp a.eval o).run P w = .ok (.value v) w :=
  by simp only [execOp, ho, hx, Sem.run_pure]
theorem dd_as {x : Operand} {v : Value} (ho : o.op = .assign x) (hx : a.eval x = v) : (execOp a.eval o).run P w = .ok (.value v) w :=
  by simp only [execOp, ho, hx, Sem.run_pure]
theorem dd_pickT {c x y : Operand} {v : Value} (ho : o.op = .pick c x y) (hc : a.eval c = .bool true) (hx : a.eval x = v) : (execOp a.eval o).run P w = .ok (.value v) w :=
  by simp [execOp, ho, hc, hx, asBool]
theorem dd_pickF {c x y : Operand} {v : Value} (ho : o.op = .pick c x y) (hc : a.eval c = .bool false) (hy : a.eval y = v) : (execOp a.eval o).run P w = .ok (.value v) w :=
  by simp [execOp, ho, hc, hy, asBool]
theorem dd_nt {ty : TypeId} {x : Operand} {b c : Bool} (ho : o.op = .unOp .not ty x) (hx : a.eval x = .bool b) (hc : (!b) = c) : (execOp a.eval o).run P w = .ok (.value (.bool c)) w :=
  by simp [execOp, ho, hx, Op.unary, ← hc]
theorem dd_ext {x : Operand} {i : Nat} {vs : Array Value} {v : Value} (ho : o.op = .extract x i) (hx : a.eval x = .tuple vs) (hv : vs[i]? = some v) : (execOp a.eval o).run P w = .ok (.value v) w :=
  by simp [execOp, ho, hx, Instr.extract, hv]
theorem dd_cmp {op : BinOp} {ty ty2 : TypeId} {x y : Operand} {k : IntKind} {m n : Int} {b : Bool} (ho : o.op = .binOp op ty x y ty2) (hx : a.eval x = .int k m) (hy : a.eval y = .int k n) (hb : cmpI op m n = some b) : (execOp a.eval o).run P w = .ok (.value (.bool b)) w := by
  cases op <;> simp [cmpI] at hb <;> simp [execOp, ho, hx, hy, eqGuard, binOp, Op.intCmp, ← hb]
theorem dd_ari {op : BinOp} {ty ty2 : TypeId} {x y : Operand} {k : IntKind} {m n z z' : Int} (ho : o.op = .binOp op ty x y ty2) (hx : a.eval x = .int k m) (hy : a.eval y = .int k n) (hz : ariI op m n = some z') (hk : k.wrap z' = z) : (execOp a.eval o).run P w = .ok (.value (.int k z)) w := by
  cases op <;> simp [ariI] at hz <;> simp [execOp, ho, hx, hy, eqGuard, binOp, Op.intArith, hz, hk]
theorem dd_bits {op : BinOp} {ty ty2 : TypeId} {x y : Operand} {k : IntKind} {m n z : Int} (ho : o.op = .binOp op ty x y ty2) (hop : op = .and ∨ op = .or ∨ op = .xor ∨ op = .andNot) (hx : a.eval x = .int k m) (hy : a.eval y = .int k n) (hz : Op.intBits op k m n = pure (.int k z)) : (execOp a.eval o).run P w = .ok (.value (.int k z)) w := by
  rcases hop with rfl | rfl | rfl | rfl <;> simp [execOp, ho, hx, hy, eqGuard, binOp, hz]
theorem dd_eqs {ty ty2 : TypeId} {x y : Operand} {s t : ByteArray} {b : Bool} (ho : o.op = .binOp .eql ty x y ty2) (hx : a.eval x = .string s) (hy : a.eval y = .string t) (hb : (s.toList == t.toList) = b) : (execOp a.eval o).run P w = .ok (.value (.bool b)) w := by
  simp [execOp, ho, hx, hy, eqGuard, binOp, Op.stringOp, hb]
theorem dd_nes {ty ty2 : TypeId} {x y : Operand} {s t : ByteArray} {b : Bool} (ho : o.op = .binOp .neq ty x y ty2) (hx : a.eval x = .string s) (hy : a.eval y = .string t) (hb : (s.toList != t.toList) = b) : (execOp a.eval o).run P w = .ok (.value (.bool b)) w := by
  simp [execOp, ho, hx, hy, eqGuard, binOp, Op.stringOp, ← hb, bne]
theorem dd_eqa {ty ty2 : TypeId} {x y : Operand} {cs ds : Array Value} {b : Bool} (ho : o.op = .binOp .eql ty x y ty2) (hx : a.eval x = .agg cs) (hy : a.eval y = .agg ds) (hg : P.eqGuardType P.depth ty = false) (hb : ∀ w, (Op.equalIn 10000 ty (.agg cs) (.agg ds)).run P w = .ok b w) : (execOp a.eval o).run P w = .ok (.value (.bool b)) w := by
  have e : (Op.equal ty (.agg cs) (.agg ds)).run P w = .ok b w := hb w
  simp [execOp, ho, hx, hy, eqGuard, binOp, e, hg]
theorem dd_nea {ty ty2 : TypeId} {x y : Operand} {cs ds : Array Value} {b c : Bool} (ho : o.op = .binOp .neq ty x y ty2) (hx : a.eval x = .agg cs) (hy : a.eval y = .agg ds) (hg : P.eqGuardType P.depth ty = false) (hb : ∀ w, (Op.equalIn 10000 ty (.agg cs) (.agg ds)).run P w = .ok b w) (hc : (!b) = c) : (execOp a.eval o).run P w = .ok (.value (.bool c)) w := by
  have e : (Op.equal ty (.agg cs) (.agg ds)).run P w = .ok b w := hb w
  simp [execOp, ho, hx, hy, eqGuard, binOp, e, hg, ← hc]
theorem dd_conv {src dst : TypeId} {x : Operand} {k k' : IntKind} {n z : Int} {d : TypeDesc} (ho : o.op = .convert src dst x) (hx : a.eval x = .int k' n) (hs : P.underlying src = some d) (hd : intOfT P dst = some k) (hz : k.wrap n = z) : (execOp a.eval o).run P w = .ok (.value (.int k z)) w := by
  have hu : P.underlying dst = some (.int k) := by
    unfold intOfT at hd
    cases hq : P.underlying dst with
    | none => rw [hq] at hd; cases hd
    | some q => rw [hq] at hd; cases q <;> simp_all
  simp [execOp, ho, hx, Go.convert, run_underlying hu, run_underlying hs, Conv.intToInt, hz]
theorem dd_field {s : TypeId} {x : Operand} {f g i off j : Nat} (ho : o.op = .fieldAddr s x f) (hx : a.eval x = .pointer (some ⟨g, i, none⟩)) (hf : fieldOff P s f = some off) (hj : i + off = j) : (execOp a.eval o).run P w = .ok (.value (.pointer (some ⟨g, j, none⟩))) w := by
  subst hj
  unfold fieldOff at hf
  cases hu : P.underlying s with
  | none => rw [hu] at hf; cases hf
  | some d =>
    rw [hu] at hf
    cases d with
    | struct fields =>
      simp only at hf
      cases hfd : fields[f]? with
      | none => rw [hfd] at hf; cases hf
      | some fd =>
        rw [hfd] at hf
        simp only at hf
        cases hi : P.info? fd.type with
        | none => rw [hi] at hf; cases hf
        | some inf =>
          rw [hi] at hf
          simp only [Option.map_some] at hf
          cases hs : inf.size with
          | zero => rw [hs] at hf; cases hf
          | succ m =>
            rw [hs] at hf
            simp only [Option.some.injEq] at hf
            simp [execOp, ho, hx, Instr.fieldAt, Instr.sureAddr, run_underlying hu, hfd, fieldPlace, sizeOf, typeInfo, hi, hs, Addr.add_mid, hf]
    | _ => simp only at hf; cases hf
theorem dd_idxA {t : TypeId} {x ix : Operand} {g i n sz j : Nat} {k : IntKind} {m : Int} (ho : o.op = .indexAddr t x ix) (hx : a.eval x = .pointer (some ⟨g, i, none⟩)) (hi : a.eval ix = .int k m) (ht : arrOf P t = some (n, sz)) (h0 : 0 ≤ m) (hn : m < (n : Int)) (hj : i + m.toNat * sz = j) : (execOp a.eval o).run P w = .ok (.value (.pointer (some ⟨g, j, none⟩))) w := by
  subst hj
  unfold arrOf at ht
  cases hu : P.underlying t with
  | none => rw [hu] at ht; cases ht
  | some d =>
    rw [hu] at ht
    cases d with
    | array n' e =>
      simp only at ht
      cases hq : P.info? e with
      | none => rw [hq] at ht; cases ht
      | some inf =>
        rw [hq] at ht
        simp only [Option.map_some, Option.some.injEq, Prod.mk.injEq] at ht
        obtain ⟨rfl, rfl⟩ := ht
        simp [execOp, ho, hx, hi, Instr.indexAt, Instr.sureAddr, asIntOf, run_underlying hu, sizeOf, typeInfo, hq, h0, hn, Addr.add_mid]
    | _ => simp only at ht; cases ht
theorem dd_idxS {t : TypeId} {x ix : Operand} {g i n c sz j : Nat} {k : IntKind} {m : Int} (ho : o.op = .indexAddr t x ix) (hx : a.eval x = .slice (some ⟨g, i, none⟩) n c) (hi : a.eval ix = .int k m) (ht : slOf P t = some sz) (h0 : 0 ≤ m) (hn : m < (n : Int)) (hj : i + m.toNat * sz = j) : (execOp a.eval o).run P w = .ok (.value (.pointer (some ⟨g, j, none⟩))) w := by
  subst hj
  unfold slOf at ht
  cases hu : P.underlying t with
  | none => rw [hu] at ht; cases ht
  | some d =>
    rw [hu] at ht
    cases d with
    | slice e =>
      simp only at ht
      cases hq : P.info? e with
      | none => rw [hq] at ht; cases ht
      | some inf =>
        rw [hq] at ht
        simp only [Option.map_some, Option.some.injEq] at ht
        subst ht
        simp [execOp, ho, hx, hi, Instr.indexAt, asIntOf, run_underlying hu, sizeOf, typeInfo, hq, h0, hn, Addr.add_mid]
    | _ => simp only at ht; cases ht
theorem dd_nilc {x : Operand} {p : Addr} (ho : o.op = .nilCheck x) (hx : a.eval x = .pointer (some p)) : (execOp a.eval o).run P w = .ok (.value (.pointer (some p))) w :=
  by simp [execOp, ho, hx]
theorem dd_len {x : Operand} {t : TypeId} {A : Option Addr} {n c : Nat} {e : TypeId} (ho : o.op = .call { callee := .builtin .len, args := #[x], argTypes := #[t] }) (hx : a.eval x = .slice A n c) (hu : P.underlying t = some (.slice e)) : (execOp a.eval o).run P w = .ok (.value (.int .i64 (n : Int))) w :=
  by simp [execOp, ho, resolve, invoke, builtin, Builtin.len_, hx, run_underlying hu, goInt]
theorem dd_lens {x : Operand} {t : TypeId} {s : ByteArray} {n : Int} (ho : o.op = .call { callee := .builtin .len, args := #[x], argTypes := #[t] }) (hx : a.eval x = .string s) (hu : P.underlying t = some .string) (hn : (s.size : Int) = n) : (execOp a.eval o).run P w = .ok (.value (.int .i64 n)) w :=
  by simp [execOp, ho, resolve, invoke, builtin, Builtin.len_, hx, run_underlying hu, goInt, hn]
theorem dd_rn {v : Value} (hr : (execOp a.eval o).run P w = .ok (.value v) w) (h : R v w) : Does P o a w R := does_run hr h
theorem dd_wp {v : Value} {w' : World} (hr : ∀ K Q, K (a.put o.dst v) w' → o.wp P a w K Q) (h : R v w') : Does P o a w R := fun K Q hK => hr K Q (hK v w' h)
theorem dd_at {ty : TypeId} {x : Operand} (ho : o.op = .load ty x) {p : Addr} (hx : a.eval x = .pointer (some p)) {v : Value} (hc : w.cell? p = some v) {d : TypeDesc} (hu : P.underlying ty = some d) (hd : d.isRow = false) : (execOp a.eval o).run P w = .ok (.value v) w := by
  have hagg : (isAgg ty).run P w = .ok false w := by
    unfold isAgg
    rw [Sem.run_bind, run_underlying hu w]
    cases d <;> simp_all
  simp [execOp, ho, hx, Instr.loadAt, Instr.sureAddr, loadVar, Sem.run_bind, hagg, hc]
/- memory that is known as a list of blocks -/
variable {w0 : World} {F : Nat → Prop} {S : List Blk}
theorem dd_get (HS : St w0 F S w) (k i : Nat) {ty : TypeId} {x : Operand} (ho : o.op = .load ty x) {r : Blk} (hk : S[k]? = some r) (hx : a.eval x = .pointer (some ⟨r.g, i, none⟩)) {v : Value} (hv : r.cs[i]? = some v) {d : TypeDesc} (hu : P.underlying ty = some d) (hd : d.isRow = false) : (execOp a.eval o).run P w = .ok (.value v) w :=
  dd_at ho hx ((HS.row k hk).get hv) hu hd
theorem dd_load (HS : St w0 F S w) (k i : Nat) {ty : TypeId} {x : Operand} (ho : o.op = .load ty x) {r : Blk} (hk : S[k]? = some r) (hx : a.eval x = .pointer (some ⟨r.g, i, none⟩)) {cs : Array Value} (hv : (r.cs.toList.drop i).take cs.size = cs.toList) {d : TypeDesc} (hu : P.underlying ty = some d) (hd : d.isRow = true) (hi : (P.info? ty).map (·.size) = some cs.size) : (execOp a.eval o).run P w = .ok (.value (.agg cs)) w := by
  have hc := (HS.row k hk).slab i cs.toList (by simpa using hv)
  unfold execOp
  simp only [ho, hx, Instr.loadAt, Instr.sureAddr, Sem.run_bind, Sem.run_pure, Result.andThen_ok, run_loadVar_mid w r.g i ty cs.toList d hc hu hd (by simpa using hi)]
theorem dd_atN {ty : TypeId} {x : Operand} (ho : o.op = .load ty x) {g i : Nat} (hx : a.eval x = .pointer (some ⟨g, i, none⟩)) {L : List Value} (hc : w.rangeAt g i L) {d : TypeDesc} (hu : P.underlying ty = some d) (hd : d.isRow = true) (hi : (P.info? ty).map (·.size) = some L.length) : (execOp a.eval o).run P w = .ok (.value (.agg L.toArray)) w := by
  unfold execOp
  simp only [ho, hx, Instr.loadAt, Instr.sureAddr, Sem.run_bind, Sem.run_pure, Result.andThen_ok, run_loadVar_mid w g i ty L d hc hu hd hi]
theorem dd_new (HS : St w0 F S w) {e : TypeId} (cs : Array Value) (ho : o.op = .alloc e) {z : Value} (hz : (P.info? e).bind (·.zero) = some z) (hc : z.cells = cs) (h : ∀ g w', St w0 F (S ++ [⟨g, e, cs⟩]) w' → R (.pointer (some ⟨g, 0, none⟩)) w') : Does P o a w R := fun _ _ hK =>
  wp_st_alloc HS e cs ho z hz hc fun g w' h1 => hK _ _ (h g w' h1)
theorem dd_box (HS : St w0 F S w) {e : TypeId} {x : Operand} (ho : o.op = .box e x) {v : Value} (hx : a.eval x = v) {cs : Array Value} (hc : v.cells = cs) (h : ∀ g w', St w0 F (S ++ [⟨g, e, cs⟩]) w' → R (.pointer (some ⟨g, 0, none⟩)) w') : Does P o a w R := fun _ _ hK =>
  wp_st_box HS e x ho v hx cs hc fun g w' h1 => hK _ _ (h g w' h1)
theorem dd_store (HS : St w0 F S w) (k i : Nat) {ty : TypeId} {x y : Operand} (ho : o.op = .store ty x y) {r : Blk} (hk : S[k]? = some r) (hx : a.eval x = .pointer (some ⟨r.g, i, none⟩)) {v : Value} (hy : a.eval y = v) (hi : (P.info? ty).map (·.size) = some v.cells.size) (hfit : i + v.cells.size ≤ r.cs.size) (h1 : v.cells.all (·.oneCell') = true)
    {cs : Array Value} (hcs : (spl r.cs.toList i v.cells.toList).toArray = cs) (h : ∀ w', St w0 F (S.set k ⟨r.g, r.t, cs⟩) w' → R undef w') : Does P o a w R := fun _ _ hK =>
  wp_st_store HS k i ty x y ho hk hx v hy hi hfit h1 cs hcs fun w' h1 => hK _ _ (h w' h1)
theorem dd_put (HS : St w0 F S w) (k i : Nat) {ty : TypeId} {x y : Operand} (ho : o.op = .store ty x y) {r : Blk} (hk : S[k]? = some r) (hx : a.eval x = .pointer (some ⟨r.g, i, none⟩)) {v : Value} (hy : a.eval y = v) (hi : (P.info? ty).map (·.size) = some 1) (hv : v.cells = #[v]) (h1 : v.oneCell' = true) (hfit : Nat.blt i r.cs.size = true)
    {cs : Array Value} (hcs : r.cs.setIfInBounds i v = cs) (h : ∀ w', St w0 F (S.set k ⟨r.g, r.t, cs⟩) w' → R undef w') : Does P o a w R := fun _ _ hK =>
  wp_st_put HS k i ty x y ho hk hx v hy hi hv h1 (Nat.le_of_ble_eq_true hfit) cs hcs fun w' h1 => hK _ _ (h w' h1)
/- calls -/
theorem dd_call {f : FuncId} {fn : Func} {xs : Array Operand} {ts : Array TypeId} {l : List Value} {R' : Ending → World → Prop} (hf : P.funcs[f]? = some fn) (hn : (fn.name == "runtime.NumGoroutine") = false) (hb : fn.body.isNone = false) (ho : o.op = .call { callee := .value (.func f), args := xs, argTypes := ts }) (hx : (xs.map a.eval) = l.toArray) (C : Calls P f l.toArray w R')
    (h : ∀ e w', R' e w' → ∃ v, e = .returned v ∧ R v w') : Does P o a w R := fun K Q hK => by
  have hcf : (callFunc f (#[] ++ l.toArray ++ #[])).run P w = .ok (.enter f l.toArray) w := by
    have hn' : ¬ fn.name = "runtime.NumGoroutine" := by simpa using hn
    have hb' : ¬ fn.body = none := fun e => by rw [e] at hb; cases hb
    simp [callFunc, hf, hn', hb']
  have he : execOp a.eval o = callFunc f (#[] ++ l.toArray ++ #[]) := by
    unfold execOp
    rw [ho]
    simp only [resolve, Act.eval, Deferred.ofValue]
    rw [← hx]
    rfl
  unfold Oper.wp
  rw [he, hcf]
  refine Calls.mono C fun e w' hr => ?_
  obtain ⟨v, rfl, hv⟩ := h e w' hr
  exact hK v w' hv
end
/- comparisons -/
theorem lt_t {m n : Int} (h : m < n) : cmpI .lss m n = some true := by simp [cmpI, h]
theorem lt_f {m n : Int} (h : ¬ m < n) : cmpI .lss m n = some false := by simp [cmpI]; omega
theorem le_t {m n : Int} (h : m ≤ n) : cmpI .leq m n = some true := by simp [cmpI, h]
theorem le_f {m n : Int} (h : ¬ m ≤ n) : cmpI .leq m n = some false := by simp [cmpI]; omega
theorem gt_t {m n : Int} (h : n < m) : cmpI .gtr m n = some true := by simp [cmpI, h]
theorem gt_f {m n : Int} (h : ¬ n < m) : cmpI .gtr m n = some false := by simp [cmpI]; omega
theorem ge_t {m n : Int} (h : n ≤ m) : cmpI .geq m n = some true := by simp [cmpI, h]
theorem ge_f {m n : Int} (h : ¬ n ≤ m) : cmpI .geq m n = some false := by simp [cmpI]; omega
theorem eq_t {m n : Int} (h : m = n) : cmpI .eql m n = some true := by simp [cmpI, h]
theorem eq_f {m n : Int} (h : ¬ m = n) : cmpI .eql m n = some false := by simp [cmpI, h]
theorem ne_t {m n : Int} (h : ¬ m = n) : cmpI .neq m n = some true := by simp [cmpI, h]
theorem ne_f {m n : Int} (h : m = n) : cmpI .neq m n = some false := by simp [cmpI, h]
end Go.Proofs.YtobklbfcnbmnmaaDoor

/- Memory in a walk: rows side by side, literals, slices of the call's own that grow. No function of the program is named here. -/
set_option maxRecDepth 4000
namespace Go.Proofs.YtobklbfcnbmnmaaDoor
open Go Go.RowKit
/- cells as pieces, one behind the other -/
def catA (L : List (List Value)) : Array Value := L.flatten.toArray
theorem lens_nil : ([] : List (List Value)).map List.length = [] := rfl
theorem lens_cons {l : List Value} {L : List (List Value)} {n : Nat} {ns : List Nat} (h : l.length = n) (t : L.map List.length = ns) : (l :: L).map List.length = n :: ns := by rw [List.map_cons, h, t]
theorem len_bv {q : List (BitVec 8)} {n : Nat} (h : q.length = n) : (bytesV q).length = n := by rw [len_bytesV, h]
section
variable {L M : List (List Value)} {ns : List Nat}
theorem cat_size (h : L.map List.length = ns) : (catA L).size = ns.sum := by unfold catA; rw [List.size_toArray, List.length_flatten, h]
theorem take_sum (h : L.map List.length = ns) (j : Nat) : (L.take j).flatten.length = (ns.take j).sum := by rw [List.length_flatten, List.map_take, h]
theorem cat_split (L : List (List Value)) (j : Nat) : L.flatten = (L.take j).flatten ++ (L.drop j).flatten := by rw [← List.flatten_append, List.take_append_drop]
theorem cat_slab (h : L.map List.length = ns) (j m : Nat) {off : Nat} (ho : (ns.take j).sum = off) : ((catA L).toList.drop off).take (catA ((L.drop j).take m)).size = (catA ((L.drop j).take m)).toList := by
  show (L.flatten.drop off).take _ = ((L.drop j).take m).flatten
  rw [cat_split L j, List.drop_left' (by rw [take_sum h j, ho]), cat_split (L.drop j) m]
  exact List.take_left' (by unfold catA; simp)
theorem cat_slab1 (h : L.map List.length = ns) (j : Nat) {off : Nat} {l : List Value} (ho : (ns.take j).sum = off) (hl : L[j]? = some l) : ((catA L).toList.drop off).take l.toArray.size = l.toArray.toList := by
  have e := cat_slab h j 1 ho
  have e1 : (L.drop j).take 1 = [l] := by
    have hj := (List.getElem?_eq_some_iff.1 hl)
    obtain ⟨hj, hjl⟩ := hj
    rw [List.drop_eq_getElem_cons hj, List.take_succ_cons, List.take_zero, hjl]
  rw [e1] at e
  have e2 : catA [l] = l.toArray := by unfold catA; simp
  rwa [e2] at e
theorem cat_get (h : L.map List.length = ns) (j : Nat) {off : Nat} {v : Value} (ho : (ns.take j).sum = off) (hl : L[j]? = some [v]) : (catA L)[off]? = some v := by
  have hj := (List.getElem?_eq_some_iff.1 hl)
  obtain ⟨hj, hjl⟩ := hj
  unfold catA
  rw [List.getElem?_toArray, cat_split L j, List.getElem?_append_right (by rw [take_sum h j, ho]; exact Nat.le_refl _), take_sum h j, ho, Nat.sub_self, List.drop_eq_getElem_cons hj, hjl]
  rfl
theorem cat_store (h : L.map List.length = ns) (j m : Nat) {off : Nat} (ho : (ns.take j).sum = off) (hm : M.flatten.length = ((ns.drop j).take m).sum) : (spl (catA L).toList off M.flatten).toArray = catA (L.take j ++ M ++ L.drop (j + m)) := by
  unfold catA spl
  have e1 : (L.take j).flatten.length = off := by rw [take_sum h j, ho]
  have e2 : ((L.drop j).take m).flatten.length = M.flatten.length := by rw [hm, List.length_flatten, List.map_take, List.map_drop, h]
  rw [List.flatten_append, List.flatten_append]
  congr 1
  rw [cat_split L j, List.take_left' e1, List.append_assoc, List.append_assoc]
  congr 2
  rw [← List.drop_drop, List.drop_left' e1, cat_split (L.drop j) m, List.drop_left' e2, List.drop_drop]
theorem cat_store1 (h : L.map List.length = ns) (j : Nat) {off n : Nat} {cs : Array Value} (ho : (ns.take j).sum = off) (hm : cs.size = n) (hn : ns[j]? = some n) : (spl (catA L).toList off (Value.agg cs).cells.toList).toArray = catA (L.set j cs.toList) := by
  have hj : j < ns.length := (List.getElem?_eq_some_iff.1 hn).1
  have hjL : j < L.length := by rw [← h] at hj; simpa using hj
  have e := cat_store (M := [cs.toList]) h j 1 ho (by
    rw [List.drop_eq_getElem_cons hj, List.take_succ_cons, List.take_zero]
    have := (List.getElem?_eq_some_iff.1 hn).2
    simp [this, hm])
  have e3 : (Value.agg cs).cells.toList = [cs.toList].flatten := by simp [Value.cells]
  rw [e3, e, List.set_eq_take_append_cons_drop, if_pos hjL]
  simp
theorem cat_put (h : L.map List.length = ns) (j : Nat) {off : Nat} {v : Value} (ho : (ns.take j).sum = off) (hn : ns[j]? = some 1) : (catA L).setIfInBounds off v = catA (L.set j [v]) := by
  have hj : j < ns.length := (List.getElem?_eq_some_iff.1 hn).1
  have hjL : j < L.length := by rw [← h] at hj; simpa using hj
  have hlt : off < (catA L).size := by
    rw [cat_size h, ← ho]
    have e := List.take_append_drop j ns
    rw [← e, List.sum_append]
    rw [List.take_left' (by simp; omega), List.drop_eq_getElem_cons hj]
    have := (List.getElem?_eq_some_iff.1 hn).2
    simp [this]; omega
  rw [← spl_at _ _ _ hlt]
  have e := cat_store (M := [[v]]) h j 1 ho (by
    rw [List.drop_eq_getElem_cons hj, List.take_succ_cons, List.take_zero]
    have := (List.getElem?_eq_some_iff.1 hn).2
    simp [this])
  simp only [List.flatten_cons, List.flatten_nil, List.append_nil] at e
  rw [e, List.set_eq_take_append_cons_drop, if_pos hjL]
  simp
theorem cat_one (h : ∀ l ∈ L, ∀ v ∈ l, Value.oneCell' v = true) : (Value.agg (catA L)).cells.all (·.oneCell') = true := by
  show (catA L).all _ = true
  unfold catA
  simp only [List.all_toArray, List.all_eq_true, List.mem_flatten]
  rintro v ⟨l, hl, hv⟩
  exact h l hl v hv
end
/- literals of structs and arrays, field by field; what is not given is zero -/
def setSegs : List (List Value) → List (Nat × Value) → List (List Value)
  | L, [] => L
  | L, (i, v) :: r => setSegs (L.set i v.cells.toList) r
def zsegs (P : Program) (t : TypeId) : Option (List (List Value)) :=
  match P.info? t, P.underlying t with
  | some it, some (.struct fields) => match it.zero, fields.toList.mapM (fun f => (P.info? f.type).map fun i => (f.offset, i.size)) with
    | some z, some places => if fits 0 (places.map (·.2)) places && ((places.map (·.2)).sum == z.cells.size) then some (places.map fun p => (z.cells.toList.drop p.1).take p.2) else none
    | _, _ => none
  | _, _ => none
theorem set_same {l : List Nat} {i : Nat} {x : Nat} (h : l[i]? = some x) : l.set i x = l := by
  apply List.ext_getElem?
  intro k
  by_cases hk : i = k
  · subst hk
    rw [List.getElem?_set_self (List.getElem?_eq_some_iff.1 h).1, h]
  · rw [List.getElem?_set_ne hk]
theorem fill_segs (place : Nat → Option (Nat × Nat)) : ∀ (ps : List (Nat × Value)) (L : List (List Value)) (ns : List Nat), L.map List.length = ns → (∀ i s, ns[i]? = some s → place i = some ((ns.take i).sum, s)) → (∀ p ∈ ps, ns[p.1]? = some p.2.cells.size) →
    Instr.fill place (catA L) ps = some (catA (setSegs L ps))
  | [], L, ns, _, _, _ => by simp [Instr.fill, setSegs]
  | (i, v) :: ps, L, ns, h, hp, hf => by
    have h1 := hf (i, v) (by simp)
    have hplace := hp i _ h1
    simp only at h1 hplace
    have hi : i < ns.length := (List.getElem?_eq_some_iff.1 h1).1
    have hv : v.cells.toList.length = v.cells.size := Array.length_toList
    have hle : (ns.take i).sum + v.cells.size ≤ (catA L).size := by
      rw [cat_size h]
      have e := congrArg List.sum (List.take_append_drop i ns)
      rw [List.sum_append, List.drop_eq_getElem_cons hi, List.sum_cons, (List.getElem?_eq_some_iff.1 h1).2] at e
      omega
    have e := fill_set (ns.take i).sum v.cells (catA L) hle
    have e2 := cat_store1 (L := L) (cs := v.cells) h i rfl rfl h1
    have e3 : (Value.agg v.cells).cells.toList = v.cells.toList := rfl
    rw [e3] at e2
    simp only [Instr.fill, hplace]
    rw [if_neg (by simp; omega), e, e2, setSegs]
    refine fill_segs place ps _ ns ?_ hp fun p hp => hf p (by simp [hp])
    rw [List.map_set, h, hv]
    exact set_same h1
theorem zsegs_flat {P : Program} {t : TypeId} {Lz : List (List Value)} (hz : zsegs P t = some Lz) (ps : List (Nat × Value)) (hf : ∀ p ∈ ps, (Lz.map List.length)[p.1]? = some p.2.cells.size) : P.built t ps = some (catA (setSegs Lz ps)) := by
  unfold zsegs at hz
  unfold Program.built
  cases hit : P.info? t with
  | none => simp [hit] at hz
  | some it =>
    cases hu : P.underlying t with
    | none => simp [hit, hu] at hz
    | some d =>
      cases d <;> try (simp [hit, hu] at hz; done)
      case struct fields =>
        simp only [hit, hu] at hz ⊢
        cases hzz : it.zero with
        | none => simp [hzz] at hz
        | some z =>
          cases hm : fields.toList.mapM (fun f => (P.info? f.type).map fun i => (f.offset, i.size)) with
          | none => simp [hzz, hm] at hz
          | some pl =>
            simp only [hzz, hm] at hz ⊢
            split at hz
            · rename_i hc
              simp only [Bool.and_eq_true, beq_iff_eq] at hc
              obtain ⟨hfit, hsum⟩ := hc
              injection hz with hz
              have hzl : z.cells.toList.length = z.cells.size := Array.length_toList
              have hat := fits_at _ 0 pl hfit
              have hlens : Lz.map List.length = pl.map (·.2) := by
                rw [← hz, List.map_map]
                refine List.map_congr_left fun p hp => ?_
                obtain ⟨k, hk⟩ := List.getElem?_of_mem hp
                have h2 := hat k p.2 (by simp [hk])
                rw [hk] at h2
                injection h2 with h2
                have h3 : p.1 = ((pl.map (·.2)).take k).sum := by rw [h2]; simp
                have hlt : k < (pl.map (·.2)).length := by have := (List.getElem?_eq_some_iff.1 hk).1; simpa using this
                have e := congrArg List.sum (List.take_append_drop k (pl.map (·.2)))
                rw [List.sum_append, List.drop_eq_getElem_cons hlt, List.sum_cons] at e
                have h4 : (pl.map (·.2))[k] = p.2 := by have := (List.getElem?_eq_some_iff.1 hk).2; simp [this]
                simp only [Function.comp, List.length_take, List.length_drop]
                omega
              have hflat : ∀ (ss : List Nat) (o : Nat) (pl : List (Nat × Nat)) (l : List Value), fits o ss pl = true → (pl.map fun p => (l.drop p.1).take p.2).flatten = (l.drop o).take ss.sum := by
                intro ss
                induction ss with
                | nil => intro o pl l h
                         cases pl with
                         | nil => simp
                         | cons => simp [fits] at h
                | cons s ss ih =>
                  intro o pl l h
                  cases pl with
                  | nil => simp [fits] at h
                  | cons p pl =>
                    obtain ⟨o', s'⟩ := p
                    simp only [fits, Bool.and_eq_true, beq_iff_eq] at h
                    obtain ⟨⟨rfl, rfl⟩, h⟩ := h
                    simp only [List.map_cons, List.flatten_cons, List.sum_cons]
                    rw [ih _ _ _ h, List.take_add, List.drop_drop]
              have hcat : catA Lz = z.cells := by
                unfold catA
                rw [← hz, hflat _ 0 pl _ hfit, List.drop_zero, hsum, List.take_of_length_le (by omega)]
              rw [← hcat]
              refine fill_segs _ ps Lz _ rfl (fun i s hs => ?_) hf
              rw [hlens] at hs ⊢
              rw [List.getElem?_toArray, hat i s hs, Nat.zero_add]
            · cases hz
section
variable {P : Program} {o : Oper} {a : Act} {w : World} {R : Value → World → Prop}
theorem fit_nil {ns : List Nat} : ∀ p ∈ ([] : List (Nat × Value)), ns[p.1]? = some p.2.cells.size := fun p h => by cases h
theorem fit_cons {ns : List Nat} {i n : Nat} {v : Value} {ps : List (Nat × Value)} (h : ns[i]? = some n) (hv : v.cells.size = n) (t : ∀ p ∈ ps, ns[p.1]? = some p.2.cells.size) : ∀ p ∈ (i, v) :: ps, ns[p.1]? = some p.2.cells.size := fun p hp => by
  cases hp with
  | head => rw [h, hv]
  | tail _ hp => exact t p hp
theorem dd_bld {t : TypeId} {parts : Array (Nat × Operand)} {ps : List (Nat × Value)} {Lz : List (List Value)} {ns : List Nat} {cs : Array Value} (ho : o.op = .build t parts) (hp : (parts.map fun (i, x) => (i, a.eval x)).toList = ps) (hz : zsegs P t = some Lz) (hL : Lz.map List.length = ns) (hf : ∀ p ∈ ps, ns[p.1]? = some p.2.cells.size)
    (hc : catA (setSegs Lz ps) = cs) : (execOp a.eval o).run P w = .ok (.value (.agg cs)) w := by
  subst hL hc
  have hb := zsegs_flat hz ps hf
  rw [← hp] at hb ⊢
  unfold execOp
  simp only [ho, Sem.run_bind, run_build w t _ _ hb, Result.andThen_ok, Sem.run_pure]
end
theorem dd_bldk {P : Program} {o : Oper} {a : Act} {w : World} {t : TypeId} {parts : Array (Nat × Operand)} {ps : List (Nat × Value)} {cs : Array Value} (ho : o.op = .build t parts) (hp : (parts.map fun (i, x) => (i, a.eval x)).toList = ps) (hb : P.built t ps = some cs) : (execOp a.eval o).run P w = .ok (.value (.agg cs)) w := by
  rw [← hp] at hb
  unfold execOp
  simp only [ho, Sem.run_bind, run_build w t _ cs hb, Result.andThen_ok, Sem.run_pure]
/- slices of the call's own: the block that they lie in -/
structure OwnC (cb : Array Value) (c n sz : Nat) (L : List Value) : Prop where
  le : n ≤ c
  cap : c ≤ maxLen
  size : cb.size = c * sz
  len : L.length = n * sz
  take : cb.toList.take (n * sz) = L
theorem ownc_to {w : World} {g e c n sz b : Nat} {cb : Array Value} {L : List Value} (h : Row w g e cb) (O : OwnC cb c n sz L) (hb : b ≤ g) : w.ownsRow b e sz (.slice (some ⟨g, 0, none⟩) n c) n L :=
  ⟨O.len, .inr ⟨g, c, cb, rfl, hb, h, O.le, O.cap, O.size, O.take⟩⟩
theorem ownc_of {w : World} {b e n sz : Nat} {v : Value} {L : List Value} (h : w.ownsRow b e sz v n L) (h0 : v ≠ .slice none 0 0) : ∃ g c cb, v = .slice (some ⟨g, 0, none⟩) n c ∧ b ≤ g ∧ Row w g e cb ∧ OwnC cb c n sz L := by
  obtain ⟨hl, h | ⟨g, cap, cur, h1, h2, h3, h4, h5, h6, h7⟩⟩ := h
  · exact absurd h.1 h0
  · exact ⟨g, cap, cur, h1, h2, h3, h4, h5, h6, hl, h7⟩
theorem ownc_pos {w : World} {b e n sz : Nat} {v : Value} {L : List Value} (h : w.ownsRow b e sz v n L) (h0 : 0 < n) : ∃ g c cb, v = .slice (some ⟨g, 0, none⟩) n c ∧ b ≤ g ∧ Row w g e cb ∧ OwnC cb c n sz L := by
  refine ownc_of h fun e => ?_
  rcases h.2 with h | ⟨g, cap, cur, h1, _⟩
  · omega
  · rw [e] at h1; cases h1
/- memory as a list of blocks: one goes, one comes -/
theorem st_erase {w0 w : World} {F : Nat → Prop} {S : List Blk} (h : St w0 F S w) (k : Nat) : St w0 F (S.eraseIdx k) w := by
  have at_ : ∀ j r, (S.eraseIdx k)[j]? = some r → ∃ i, S[i]? = some r ∧ i = (if j < k then j else j + 1) := fun j r hj => by
    rw [List.getElem?_eraseIdx] at hj
    split at hj
    · exact ⟨j, hj, by rw [if_pos (by assumption)]⟩
    · exact ⟨j + 1, hj, by rw [if_neg (by assumption)]⟩
  refine ⟨h.chg, fun j r hj => ?_, fun i j r s hij hi hj => ?_, fun j r hj => ?_⟩
  · obtain ⟨i, hi, _⟩ := at_ j r hj; exact h.rows i r hi
  · obtain ⟨i', hi', ei⟩ := at_ i r hi
    obtain ⟨j', hj', ej⟩ := at_ j s hj
    refine h.apart i' j' r s (fun e => hij ?_) hi' hj'
    rw [ei, ej] at e
    split at e <;> split at e <;> omega
  · obtain ⟨i, hi, _⟩ := at_ j r hj; exact h.own i r hi
theorem St.joins {w0 W W' : World} {F : Nat → Prop} {S : List Blk} (h : St w0 F S W) (hb : Below W.heap.size W W') {g : Nat} {t : TypeId} {cs : Array Value} (hr : Row W' g t cs) (hg : W.heap.size ≤ g) : St w0 F (S ++ [⟨g, t, cs⟩]) W' :=
  (h.same hb).join hr (Nat.le_trans h.chg.size hg) fun b hm e => by have := h.lt hm; omega
theorem st_snoc {w0 w : World} {F : Nat → Prop} {S : List Blk} (h : St w0 F S w) {g : Nat} {t : TypeId} {cs : Array Value} (hr : Row w g t cs) (hg : F g ∨ w0.heap.size ≤ g) (hne : ∀ b ∈ S, b.g ≠ g) : St w0 F (S ++ [⟨g, t, cs⟩]) w := by
  have at_ : ∀ (j : Nat) (s : Blk), (S ++ [(⟨g, t, cs⟩ : Blk)])[j]? = some s → (j < S.length ∧ S[j]? = some s) ∨ (j = S.length ∧ s = ⟨g, t, cs⟩) := fun j s hj => by
    by_cases e : j < S.length
    · rw [List.getElem?_append_left e] at hj; exact .inl ⟨e, hj⟩
    · rw [List.getElem?_append_right (by omega)] at hj
      have e2 : j - S.length = 0 := by
        rcases Nat.eq_zero_or_pos (j - S.length) with h0 | h0
        · exact h0
        · rw [List.getElem?_eq_none (by simp; omega)] at hj; cases hj
      rw [e2] at hj
      exact .inr ⟨by omega, (Option.some.inj hj).symm⟩
  refine ⟨h.chg, fun j s hj => ?_, fun i j s u hij hi hj => ?_, fun j s hj => ?_⟩
  · rcases at_ j s hj with ⟨_, hk⟩ | ⟨_, rfl⟩
    · exact h.rows j s hk
    · exact hr
  · rcases at_ i s hi with ⟨_, hk⟩ | ⟨e1, rfl⟩ <;> rcases at_ j u hj with ⟨_, hu⟩ | ⟨e2, rfl⟩
    · exact h.apart _ _ _ _ hij hk hu
    · exact hne s (List.mem_of_getElem? hk)
    · exact fun e => hne u (List.mem_of_getElem? hu) e.symm
    · omega
  · rcases at_ j s hj with ⟨_, hk⟩ | ⟨_, rfl⟩
    · exact h.own j s hk
    · exact hg
section
variable {P : Program} {o : Oper} {a : Act} {w w0 : World} {R : Value → World → Prop} {F : Nat → Prop} {S : List Blk}
/- a literal slice -/
theorem dd_lits (HS : St w0 F S w) {t e : TypeId} {len : Nat} {parts : Array (Nat × Operand)} (cells : Array Value) (ho : o.op = .buildSlice t len parts) {ps : List (Nat × Value)} (hp : (parts.map fun (i, x) => (i, a.eval x)).toList = ps) {z : Value} {sz : Nat}
    (hu : P.underlying t = some (.slice e)) (hie : (P.info? e).map (fun i => (i.zero, i.size)) = some (some z, sz)) (hpos : Nat.blt 0 (len * sz) = true) (hsmall : Nat.ble (len * sz) 16777216 = true)
    (hf : Instr.fill (fun i => some (i * sz, sz)) ((Array.range (len * sz)).map (z.cells[· % z.cells.size]!)) ps = some cells)
    (h : ∀ g w', St w0 F (S ++ [⟨g, e, cells⟩]) w' → R (.slice (some ⟨g, 0, none⟩) len len) w') : Does P o a w R := fun _ _ hK => by
  obtain ⟨ie, hi, he⟩ := Option.map_eq_some_iff.1 hie
  injection he with hz hsz
  subst hsz
  have h1 := Nat.le_of_ble_eq_true hsmall
  have h2 : 0 < len * ie.size := Nat.le_of_ble_eq_true hpos
  exact wp_buildSlice t e len parts ho cells ie z hu hi hz (by omega) (by omega) (by rw [hp]; exact hf) (hK _ _ (h _ _ (HS.snoc e cells)))
/- append to a slice whose block is known -/
theorem dd_app (HS : St w0 F S w) (k : Nat) {g c n sz : Nat} {cb : Array Value} {e t : TypeId} {L : List Value} (hk : S[k]? = some ⟨g, e, cb⟩) (O : OwnC cb c n sz L) {s x : Operand} (ho : o.op = .call { callee := .builtin .append, args := #[s, x], argTypes := #[t, t] })
    (hs : a.eval s = .slice (some ⟨g, 0, none⟩) n c) {z : Value} {bytes : Nat} (ht : P.underlying t = some (.slice e)) (hi : (P.info? e).map (fun i => (i.zero, i.size, i.bytes)) = some (some z, sz, bytes)) (hzs : z.cells.size = sz) (hsz : 0 < sz)
    {ad : Addr} {m c2 : Nat} (news : List Value) (hx : a.eval x = .slice (some ad) m c2) (hl : news.length = m * sz) (hnews : ∀ j u, news[j]? = some u → w.cell? (ad.add j) = some u) (h1 : ∀ u ∈ news, u.oneCell' = true)
    (h63 : n + m ≤ maxLen) (hbytes : (n + m) * bytes ≤ 140737488355328)
    (h : ∀ g' c' cb' w', OwnC cb' c' (n + m) sz (L ++ news) → St w0 F (S.eraseIdx k ++ [⟨g', e, cb'⟩]) w' → R (.slice (some ⟨g', 0, none⟩) (n + m) c') w') : Does P o a w R := fun _ _ hK => by
  have hrow := HS.row k hk
  have hown := ownc_to hrow O (Nat.zero_le g)
  obtain ⟨i, hi1, hz1, hz2, hz3⟩ := info_parts hi
  obtain ⟨v', w', hr, h2, h3, h4⟩ := run_append_where (P := P) w 0 t o.type e i z sz bytes ht hi1 hz1 hz2 hz3 hzs hsz _ n L hown ad m c2 news hl hnews h1 h63 hbytes (Nat.zero_le _)
  obtain ⟨v3, w3, hr3, _, _, h6⟩ := run_append_own (P := P) w 0 t o.type e i z sz bytes ht hi1 hz1 hz2 hz3 hzs hsz _ n L hown ad m c2 news hl hnews h1 h63 hbytes (Nat.zero_le _)
  rw [hr] at hr3
  injection hr3 with hr3 _
  subst hr3
  obtain ⟨g', c', cb', rfl, _, hrow', O'⟩ := ownc_of h2 (fun ev => by have := (h6.1 ev).1; cases this)
  have hne : ∀ j r, S[j]? = some r → j ≠ k → r.g ≠ g' := fun j r hj hjk e' => by
    have hjr := HS.rows j r hj
    rcases h4.cases (k := g') rfl with h5 | h5
    · injection h5 with h5
      have h5 : g = g' := h5
      exact HS.apart j k r _ hjk hj hk (by rw [e', ← h5])
    · have := hjr.lt; omega
  have hS1 : St w0 F (S.eraseIdx k) w' := by
    have hE := st_erase HS k
    have hg : F g ∨ w0.heap.size ≤ g := HS.own k _ hk
    have hrows : ∀ b ∈ S.eraseIdx k, b.g ≠ g := fun b hb e' => by
      obtain ⟨j, hj⟩ := List.getElem?_of_mem hb
      rw [List.getElem?_eraseIdx] at hj
      split at hj
      · exact HS.apart j k b _ (by omega) hj hk e'
      · exact HS.apart (j + 1) k b _ (by omega) hj hk e'
    exact ⟨hE.chg.grown h3 (fun j e' => by injection e' with e'; have e' : g = j := e'; subst e'; exact hg), fun j r hj => (hE.rows j r hj).only h3 (hrows r (List.mem_of_getElem? hj)), hE.apart, hE.own⟩
  have hg' : F g' ∨ w0.heap.size ≤ g' := by
    rcases h4.cases (k := g') rfl with h5 | h5
    · injection h5 with h5
      have h5 : g = g' := h5
      rw [← h5]; exact HS.own k _ hk
    · exact .inr (Nat.le_trans HS.chg.size h5)
  have hS2 := st_snoc hS1 hrow' hg' (fun b hb => by
    obtain ⟨j, hj⟩ := List.getElem?_of_mem hb
    rw [List.getElem?_eraseIdx] at hj
    split at hj
    · exact hne j b hj (by omega)
    · exact hne (j + 1) b hj (by omega))
  unfold Oper.wp execOp
  simp only [ho, resolve, invoke, builtin, Sem.run_bind, Sem.run_pure, Result.andThen_ok, List.map_toArray, List.map_cons, List.map_nil, hs, hx, hr]
  exact hK _ _ (h g' c' cb' w' O' hS2)
theorem dd_setrow (HS : St w0 F S w) (k : Nat) {ty : TypeId} {x y : Operand} (ho : o.op = .store ty x y) {g n : Nat} {t : TypeId} {old cs : Array Value} (hk : S[k]? = some ⟨g, t, old⟩) (hx : a.eval x = .pointer (some ⟨g, 0, none⟩)) (hy : a.eval y = .agg cs) (hi : (P.info? ty).map (·.size) = some n) (hn : cs.size = n) (hn2 : old.size = n) (h1 : (Value.agg cs).cells.all (·.oneCell') = true)
    (h : ∀ w', St w0 F (S.set k ⟨g, t, cs⟩) w' → R undef w') : Does P o a w R :=
  dd_store HS k 0 ho hk hx hy (by rw [hi, show (Value.agg cs).cells.size = n from hn]) (by show 0 + cs.size ≤ old.size; omega) h1 (spl_agg _ _ _ rfl (by show old.size = cs.size; omega)) h
theorem dd_setpart (HS : St w0 F S w) (k i j : Nat) {ty : TypeId} {x y : Operand} (ho : o.op = .store ty x y) {g n : Nat} {t : TypeId} {L : List (List Value)} {ns : List Nat} {cs : Array Value} (hL : L.map List.length = ns) (hk : S[k]? = some ⟨g, t, catA L⟩) (hx : a.eval x = .pointer (some ⟨g, i, none⟩)) (hy : a.eval y = .agg cs) (hi : (P.info? ty).map (·.size) = some n) (hn : cs.size = n) (ho2 : (ns.take j).sum = i) (hj : ns[j]? = some n) (h1 : (Value.agg cs).cells.all (·.oneCell') = true)
    (h : ∀ w', St w0 F (S.set k ⟨g, t, catA (L.set j cs.toList)⟩) w' → R undef w') : Does P o a w R :=
  dd_store HS k i ho hk hx hy (by rw [hi, show (Value.agg cs).cells.size = n from hn]) (by
    show i + cs.size ≤ (catA L).size
    have hjl := (List.getElem?_eq_some_iff.1 hj).1
    have e := congrArg List.sum (List.take_append_drop j ns)
    rw [List.sum_append, List.drop_eq_getElem_cons hjl, List.sum_cons, (List.getElem?_eq_some_iff.1 hj).2] at e
    rw [cat_size hL]; omega) h1 (cat_store1 hL j ho2 hn hj) h
end
def Ones (L : List (List Value)) : Prop := ∀ l ∈ L, ∀ v ∈ l, Value.oneCell' v = true
theorem ones_nil : Ones [] := fun l h => by cases h
theorem ones_cons {l : List Value} {L : List (List Value)} (h : ∀ v ∈ l, Value.oneCell' v = true) (t : Ones L) : Ones (l :: L) := fun m hm => by
  cases hm with
  | head => exact h
  | tail _ hm => exact t m hm
theorem ones_c {v : Value} (h : Value.oneCell' v = true) : ∀ u ∈ [v], Value.oneCell' u = true := fun u hu => by
  cases hu with
  | head => exact h
  | tail _ hu => cases hu
theorem all_one {cs : Array Value} (h : (Value.agg cs).cells.all (·.oneCell') = true) : ∀ v ∈ cs.toList, Value.oneCell' v = true := fun v hv => (Array.all_eq_true_iff_forall_mem.1 h) v (by simpa [Value.cells] using hv)
theorem ao_nil : ∀ v ∈ ([] : List Value), Value.oneCell' v = true := fun v h => by cases h
theorem ao_cons {v : Value} {l : List Value} (h : Value.oneCell' v = true) (t : ∀ v ∈ l, Value.oneCell' v = true) : ∀ u ∈ v :: l, Value.oneCell' u = true := fun u hu => by
  cases hu with
  | head => exact h
  | tail _ hu => exact t u hu
theorem one_l {l : List Value} (h : ∀ v ∈ l, Value.oneCell' v = true) : (Value.agg l.toArray).cells.all (·.oneCell') = true := by
  show l.toArray.all _ = true
  simpa using h
theorem args0 {f : Operand → Value} : (#[] : Array Operand).map f = ([] : List Value).toArray := by simp
theorem args1 {f : Operand → Value} {x1 : Operand} {v1 : Value} (h1 : f x1 = v1) : (#[x1] : Array Operand).map f = [v1].toArray := by simp [h1]
theorem args2 {f : Operand → Value} {x1 x2 : Operand} {v1 v2 : Value} (h1 : f x1 = v1) (h2 : f x2 = v2) : (#[x1, x2] : Array Operand).map f = [v1, v2].toArray := by simp [h1, h2]
theorem args3 {f : Operand → Value} {x1 x2 x3 : Operand} {v1 v2 v3 : Value} (h1 : f x1 = v1) (h2 : f x2 = v2) (h3 : f x3 = v3) : (#[x1, x2, x3] : Array Operand).map f = [v1, v2, v3].toArray := by simp [h1, h2, h3]
theorem args4 {f : Operand → Value} {x1 x2 x3 x4 : Operand} {v1 v2 v3 v4 : Value} (h1 : f x1 = v1) (h2 : f x2 = v2) (h3 : f x3 = v3) (h4 : f x4 = v4) : (#[x1, x2, x3, x4] : Array Operand).map f = [v1, v2, v3, v4].toArray := by simp [h1, h2, h3, h4]
theorem args5 {f : Operand → Value} {x1 x2 x3 x4 x5 : Operand} {v1 v2 v3 v4 v5 : Value} (h1 : f x1 = v1) (h2 : f x2 = v2) (h3 : f x3 = v3) (h4 : f x4 = v4) (h5 : f x5 = v5) : (#[x1, x2, x3, x4, x5] : Array Operand).map f = [v1, v2, v3, v4, v5].toArray := by simp [h1, h2, h3, h4, h5]
theorem pr1 {i : Nat} {f : Operand → Value} {x : Operand} {v : Value} {l : List (Nat × Operand)} {ps : List (Nat × Value)} (h : f x = v) (t : (l.toArray.map fun (i, x) => (i, f x)).toList = ps) : (((i, x) :: l).toArray.map fun (i, x) => (i, f x)).toList = (i, v) :: ps := by
  simp only [List.map_toArray, List.map_cons, h] at *
  simpa using t
theorem pr0 {f : Operand → Value} : (([] : List (Nat × Operand)).toArray.map fun (i, x) => (i, f x)).toList = [] := by simp
/- bytes that a slice reads, as what is appended -/
theorem slice_news {w : World} {ad : Addr} {m c : Nat} {q : List (BitVec 8)} (h : Slice w (.slice (some ad) m c) q) : ∀ (j : Nat) (u : Value), (bytesV q)[j]? = some u → w.cell? (ad.add j) = some u := fun j u hu => by
  have hj : j < (bytesV q).length := (List.getElem?_eq_some_iff.1 hu).1
  rw [len_bytesV] at hj
  obtain ⟨A, c', e, _, h3⟩ := h
  injection e with e1 _ _
  subst e1
  obtain ⟨b, o, e2, _, h4⟩ := h3 (fun e => by rw [e] at hj; simp at hj)
  injection e2 with e2
  subst e2
  have h5 := h4 j q[j] (List.getElem?_eq_getElem hj)
  rw [Addr.add_mid, h5]
  simp [bytesV, List.getElem?_eq_getElem hj] at hu
  rw [hu]
theorem ownc_take {cb : Array Value} {c n : Nat} {q : List (BitVec 8)} (h : OwnC cb c n 1 (bytesV q)) : (cb.toList.drop 0).take (bytesV q).length = bytesV q := by
  rw [List.drop_zero, h.len]; exact h.take
theorem bytes_slab {cs : Array Value} {o : Nat} {q : List (BitVec 8)} (h : (cs.toList.drop o).take (bs q).size = (bs q).toList) : (cs.toList.drop o).take (bytesV q).length = bytesV q := by
  rw [bs_toList, size_bs] at h; rw [len_bytesV]; exact h
theorem len_app {p q : List (BitVec 8)} {n m : Nat} (h : p.length = n) (k : q.length = m) : (p ++ q).length = n + m := by rw [List.length_append, h, k]
theorem slice_own {w : World} {g c n : Nat} {cb : Array Value} {t : TypeId} {q : List (BitVec 8)} (h : Row w g t cb) (O : OwnC cb c n 1 (bytesV q)) (hq : q.length = n) : Slice w (.slice (some ⟨g, 0, none⟩) n c) q := by
  subst hq
  refine ⟨_, c, rfl, O.le, fun _ => ⟨g, 0, rfl, h.lt, fun j x hx => ?_⟩⟩
  have hj : j < q.length := (List.getElem?_eq_some_iff.1 hx).1
  rw [Nat.zero_add]
  refine h.get ?_
  have h1 := O.take
  rw [Nat.mul_one] at h1
  rw [← Array.getElem?_toList, ← List.getElem?_take_of_lt hj, h1]
  simp [bytesV, hx]
theorem item_own {w : World} {g c n : Nat} {cb : Array Value} {t : TypeId} {q : List (BitVec 8)} (h : Row w g t cb) (O : OwnC cb c n 1 (bytesV q)) (hq : q.length = n) : Item w (.slice (some ⟨g, 0, none⟩) n c) q :=
  ⟨_, c, by rw [hq], by rw [hq]; exact slice_own h O hq, fun h => (by cases h), by rw [hq]; exact Nat.le_trans O.le O.cap⟩
theorem len_drop {q : List (BitVec 8)} {n k m : Nat} (h : q.length = n) (hm : n - k = m) : (q.drop k).length = m := by rw [List.length_drop, h, hm]
theorem len_take {q : List (BitVec 8)} {n k : Nat} (h : q.length = n) (hk : k ≤ n) : (q.take k).length = k := by rw [List.length_take, h]; omega
theorem slice_nil0 (w : World) : Slice w (.slice none 0 0) [] := ⟨none, 0, rfl, Nat.le_refl _, fun h => absurd rfl h⟩
theorem slice_part {w : World} {g : Nat} {t : TypeId} {cs : Array Value} {q : List (BitVec 8)} {n c : Nat} (h : Row w g t cs) (o : Nat) (hL : (cs.toList.drop o).take (bytesV q).length = bytesV q) (hq : q.length = n) (hc : n ≤ c) : Slice w (.slice (some ⟨g, o, none⟩) n c) q := by
  subst hq
  refine ⟨_, c, rfl, hc, fun _ => ⟨g, o, rfl, h.lt, fun j x hx => ?_⟩⟩
  have hj : j < (bytesV q).length := by rw [len_bytesV]; exact (List.getElem?_eq_some_iff.1 hx).1
  refine h.get ?_
  have h2 := congrArg (fun l : List Value => l[j]?) hL
  simp only [List.getElem?_take_of_lt hj, List.getElem?_drop] at h2
  rw [← Array.getElem?_toList, h2]
  simp [bytesV, hx]
theorem row_news {w : World} {g : Nat} {t : TypeId} {cs : Array Value} (h : Row w g t cs) (o : Nat) {L : List Value} (hL : (cs.toList.drop o).take L.length = L) : ∀ (j : Nat) (u : Value), L[j]? = some u → w.cell? ((⟨g, o, none⟩ : Addr).add j) = some u := fun j u hu => by
  rw [Addr.add_mid]; exact h.slab o L hL j u hu
theorem ownc_app {cb : Array Value} {c n : Nat} {p q : List (BitVec 8)} (h : OwnC cb c n 1 (bytesV p ++ bytesV q)) : OwnC cb c n 1 (bytesV (p ++ q)) := (show bytesV (p ++ q) = bytesV p ++ bytesV q by simp [bytesV]) ▸ h
section
variable {P : Program} {o : Oper} {a : Act} {w : World} {R : Value → World → Prop}
theorem dd_slA {t : TypeId} {x : Operand} {g i n sz : Nat} (ho : o.op = .slice t x none none none) (hx : a.eval x = .pointer (some ⟨g, i, none⟩)) (ht : arrOf P t = some (n, sz)) : (execOp a.eval o).run P w = .ok (.value (.slice (some ⟨g, i, none⟩) n n)) w := by
  unfold arrOf at ht
  cases hu : P.underlying t with
  | none => rw [hu] at ht; cases ht
  | some d =>
    rw [hu] at ht
    cases d with
    | array n' e =>
      simp only at ht
      cases hq : P.info? e with
      | none => rw [hq] at ht; cases ht
      | some inf =>
        rw [hq] at ht
        simp only [Option.map_some, Option.some.injEq, Prod.mk.injEq] at ht
        obtain ⟨rfl, rfl⟩ := ht
        simp [execOp, ho, hx, Instr.sliceAt, Instr.sureAddr, run_underlying hu, sizeOf, typeInfo, hq, Instr.sliceBounds, Addr.add_mid]
    | _ => simp only at ht; cases ht
theorem dd_sllh {t : TypeId} {x lo hi : Operand} {g i n c sz j : Nat} {k k' : IntKind} {l u : Nat} (ho : o.op = .slice t x (some lo) (some hi) none) (hx : a.eval x = .slice (some ⟨g, i, none⟩) n c) (hl : a.eval lo = .int k (l : Int)) (hh : a.eval hi = .int k' (u : Int)) (ht : slOf P t = some sz) (h1 : l ≤ u) (h2 : u ≤ c) (h3 : l < c) (hj : i + l * sz = j) {n' c' : Nat} (hn : u - l = n') (hc : c - l = c')
    : (execOp a.eval o).run P w = .ok (.value (.slice (some ⟨g, j, none⟩) n' c')) w := by
  subst hj hn hc
  unfold slOf at ht
  cases hu : P.underlying t with
  | none => rw [hu] at ht; cases ht
  | some d =>
    rw [hu] at ht
    cases d with
    | slice e =>
      simp only at ht
      cases hq : P.info? e with
      | none => rw [hq] at ht; cases ht
      | some inf =>
        rw [hq] at ht
        simp only [Option.map_some, Option.some.injEq] at ht
        subst ht
        have e3 : ¬ c = l := by omega
        simp [execOp, ho, hx, hl, hh, Instr.sliceAt, run_underlying hu, Instr.slice, Instr.sliceBounds, Instr.sliceBound, asIntOf, sizeOf, typeInfo, hq, h1, h2, e3, Addr.add_mid]
    | _ => simp only at ht; cases ht
theorem dd_sll {t : TypeId} {x lo : Operand} {g i n c sz j : Nat} {k : IntKind} {l : Nat} (ho : o.op = .slice t x (some lo) none none) (hx : a.eval x = .slice (some ⟨g, i, none⟩) n c) (hl : a.eval lo = .int k (l : Int)) (ht : slOf P t = some sz) (h1 : l ≤ n) (h3 : l < c) (hj : i + l * sz = j) {n' c' : Nat} (hn : n - l = n') (hc : c - l = c')
    : (execOp a.eval o).run P w = .ok (.value (.slice (some ⟨g, j, none⟩) n' c')) w := by
  subst hj hn hc
  unfold slOf at ht
  cases hu : P.underlying t with
  | none => rw [hu] at ht; cases ht
  | some d =>
    rw [hu] at ht
    cases d with
    | slice e =>
      simp only at ht
      cases hq : P.info? e with
      | none => rw [hq] at ht; cases ht
      | some inf =>
        rw [hq] at ht
        simp only [Option.map_some, Option.some.injEq] at ht
        subst ht
        have e3 : ¬ c = l := by omega
        have e1 : l ≤ n := h1
        simp [execOp, ho, hx, hl, Instr.sliceAt, run_underlying hu, Instr.slice, Instr.sliceBounds, Instr.sliceBound, asIntOf, sizeOf, typeInfo, hq, e1, e3, Addr.add_mid]
    | _ => simp only at ht; cases ht
theorem dd_slh {t : TypeId} {x hi : Operand} {A : Option Addr} {n c sz : Nat} {k' : IntKind} {u : Int} (ho : o.op = .slice t x none (some hi) none) (hx : a.eval x = .slice A n c) (hh : a.eval hi = .int k' u) (ht : slOf P t = some sz) (h1 : 0 ≤ u) (h2 : u ≤ (c : Int)) {n' : Nat} (hn : u.toNat = n')
    : (execOp a.eval o).run P w = .ok (.value (.slice A n' c)) w := by
  subst hn
  unfold slOf at ht
  cases hu : P.underlying t with
  | none => rw [hu] at ht; cases ht
  | some d =>
    rw [hu] at ht
    cases d with
    | slice e =>
      simp only at ht
      cases hq : P.info? e with
      | none => rw [hq] at ht; cases ht
      | some inf =>
        have e4 : (A.map fun x => x.add 0) = A := by cases A <;> simp [Addr.add]
        simp [execOp, ho, hx, hh, Instr.sliceAt, run_underlying hu, Instr.slice, Instr.sliceBounds, Instr.sliceBound, asIntOf, sizeOf, typeInfo, hq, h1, h2, e4]
    | _ => simp only at ht; cases ht
end
end Go.Proofs.YtobklbfcnbmnmaaDoor

/- Regions that draw, order by order, what only reads taken first; ways that meet again. No function of the program is named here. -/
set_option maxRecDepth 4000
namespace Go.Proofs.YtobklbfcnbmnmaaDoor
open Go Go.RowKit
def PQ (Q : Exit → Act → World → Prop) : Prop := ∀ c (a : Act) (d : Option Tmp) (v : Value) (w : World), Q (.panic c) (a.put d v) w → Q (.panic c) a w
theorem pq_then {K : Act → World → Prop} {Q : Exit → Act → World → Prop} (h : PQ Q) : PQ (Exit.then K Q) := h
theorem pq_block {id : Nat} {Q : Exit → Act → World → Prop} (h : PQ Q) : PQ (Exit.inBlock id Q) := h
theorem pq_body {P : Program} {fn : Func} {R : Ending → World → Prop} : PQ (bodyPost P fn R) := fun c a d v w h => by
  cases d <;> exact h
section
variable {P : Program} {Q : Exit → Act → World → Prop} {ops : Array Oper} {o : Oper} {N i fuel : Nat} {L : List (Nat × Value)} {a : Act} {w : World} {listed : Array Bool} {S : World → Prop}
theorem wp_held {id : Nat} {l : List Oper} {M : Nat} (S : World → Prop) (hm : P.follows .mixedOrders = true) (hM : l.length = M) (h : wpAnyH P .any l.toArray Q S M (Array.replicate M false) a w.drew) : (Code.region id l.toArray true).wp P Q a w := by
  subst hM
  refine wp_region_held (S := S) hm ?_
  have e : l.toArray.size = l.length := by simp
  rw [e]; exact h
theorem ha_take (HA : Env N L a) (is : List Nat) (v : Value) (hi : ops[i]? = some o) (hs : Region.noSelect ops = true) (hf : Region.free .any ops listed i = true) (hr : (Region.ready .any ops listed).contains i = true) (hQ : PQ Q) (hw : Region.wanted o (yielded ops a.tmps) = true)
    (hy : ∀ w, S w → (execOp a.eval o).run P w = .ok (.value v) w) (hS : S w) (hk : okd o.dst N (kp L is) = true) (h : ∀ a', Env N (setd o.dst v (kp L is)) a' → wpAnyH P .any ops Q S fuel (listed.setIfInBounds i true) a' w) : wpAnyH P .any ops Q S (fuel + 1) listed a w :=
  wpAnyH_take hi hs hf hr (fun c a w => hQ c a o.dst v w) (.inl ⟨hw, hy⟩) hS (h _ (HA.put is o.dst v hk))
theorem ha_skip (HA : Env N L a) (is : List Nat) (hi : ops[i]? = some o) (hs : Region.noSelect ops = true) (hf : Region.free .any ops listed i = true) (hr : (Region.ready .any ops listed).contains i = true) (hQ : PQ Q) (hw : Region.wanted o (yielded ops a.tmps) = false)
    (hS : S w) (hk : okd o.dst N (kp L is) = true) (h : ∀ a', Env N (setd o.dst undef (kp L is)) a' → wpAnyH P .any ops Q S fuel (listed.setIfInBounds i true) a' w) : wpAnyH P .any ops Q S (fuel + 1) listed a w :=
  wpAnyH_take hi hs hf hr (fun c a w => hQ c a o.dst undef w) (.inr ⟨hw, rfl⟩) hS (h _ (HA.put is o.dst undef hk))
theorem hm_nil {K : Nat → Prop} : ∀ i ∈ ([] : List Nat), K i := fun i h => by cases h
theorem hm_cons {K : Nat → Prop} {j : Nat} {l : List Nat} (h : K j) (t : ∀ i ∈ l, K i) : ∀ i ∈ j :: l, K i := fun i hi => by
  cases hi with
  | head => exact h
  | tail _ hi => exact t i hi
theorem ho_does {K : Act → World → Prop} (HA : Env N L a) (is : List Nat) {R : Value → World → Prop} (ho : ops[i]? = some o) (hw : Region.wanted o (yielded ops a.tmps) = true) (hD : Does P o a w R) (hk : okd o.dst N (kp L is) = true)
    (h : ∀ v w', R v w' → ∀ a', Env N (setd o.dst v (kp L is)) a' → K a' w') : wpOp P ops Q i K a w :=
  wpOp_step ho fun K' hK => by rw [if_pos hw]; exact hD K' Q fun v w' hR => hK _ _ (h v w' hR _ (HA.put is o.dst v hk))
theorem ho_is {K : Act → World → Prop} (HA : Env N L a) (is : List Nat) {v : Value} (ho : ops[i]? = some o) (hw : Region.wanted o (yielded ops a.tmps) = true) (hD : Does P o a w fun u w' => u = v ∧ w' = w) (hk : okd o.dst N (kp L is) = true)
    (h : ∀ a', Env N (setd o.dst v (kp L is)) a' → K a' w) : wpOp P ops Q i K a w :=
  ho_does HA is ho hw hD hk fun v' w' hR a' HA' => by obtain ⟨rfl, rfl⟩ := hR; exact h a' HA'
end
theorem wp_cut {P : Program} {Q : Exit → Act → World → Prop} {c : Code} {a : Act} {w : World} (I : Act → World → Prop) (h : c.wp P (Exit.then I Q) a w) (k : ∀ a w, I a w → Q .normal a w) : c.wp P Q a w :=
  wp_mono h fun e a w q => by
    cases e with
    | normal => exact k a w q
    | _ => exact q
/- some of the blocks, in whatever order -/
def selB (S : List Blk) : List Nat → List Blk
  | [] => []
  | i :: is => match S[i]? with
    | some r => r :: selB S is
    | none => selB S is
theorem sel_at (S : List Blk) : ∀ (is : List Nat), is.Nodup → ∀ (i j : Nat) (r s : Blk), (selB S is)[i]? = some r → (selB S is)[j]? = some s → ∃ i' j', i' ∈ is ∧ j' ∈ is ∧ S[i']? = some r ∧ S[j']? = some s ∧ (i ≠ j → i' ≠ j')
  | [], _, i, j, r, s, h, _ => by simp [selB] at h
  | k :: is, hn, i, j, r, s, hi, hj => by
    obtain ⟨hk, hn⟩ := List.nodup_cons.1 hn
    unfold selB at hi hj
    cases hs : S[k]? with
    | none =>
      rw [hs] at hi hj
      obtain ⟨i', j', h1, h2, h3⟩ := sel_at S is hn i j r s hi hj
      exact ⟨i', j', by simp [h1], by simp [h2], h3⟩
    | some u =>
      rw [hs] at hi hj
      cases i with
      | zero =>
        obtain rfl : u = r := by simpa using hi
        cases j with
        | zero => obtain rfl : u = s := by simpa using hj
                  exact ⟨k, k, by simp, by simp, hs, hs, fun h => absurd rfl h⟩
        | succ j =>
          obtain ⟨j', _, h1, _, h3, _, _⟩ := sel_at S is hn j j s s (by simpa using hj) (by simpa using hj)
          exact ⟨k, j', by simp, by simp [h1], hs, h3, fun _ e => hk (e ▸ h1)⟩
      | succ i =>
        cases j with
        | zero =>
          obtain rfl : u = s := by simpa using hj
          obtain ⟨i', _, h1, _, h3, _, _⟩ := sel_at S is hn i i r r (by simpa using hi) (by simpa using hi)
          exact ⟨i', k, by simp [h1], by simp, h3, hs, fun _ e => hk (e ▸ h1)⟩
        | succ j =>
          obtain ⟨i', j', h1, h2, h3, h4, h5⟩ := sel_at S is hn i j r s (by simpa using hi) (by simpa using hj)
          exact ⟨i', j', by simp [h1], by simp [h2], h3, h4, fun h => h5 (by omega)⟩
theorem st_sel {w0 w : World} {F : Nat → Prop} {S : List Blk} (h : St w0 F S w) (is : List Nat) (hn : is.Nodup) : St w0 F (selB S is) w :=
  ⟨h.chg, fun j r hj => by obtain ⟨i', _, _, _, h1, _⟩ := sel_at S is hn j j r r hj hj; exact h.rows i' r h1,
    fun i j r s hij hi hj => by obtain ⟨i', j', _, _, h1, h2, h3⟩ := sel_at S is hn i j r s hi hj; exact h.apart i' j' r s (h3 hij) h1 h2,
    fun j r hj => by obtain ⟨i', _, _, _, h1, _⟩ := sel_at S is hn j j r r hj hj; exact h.own i' r h1⟩
end Go.Proofs.YtobklbfcnbmnmaaDoor

/- Strings and copies in a walk. No function of the program is named here. -/
set_option maxRecDepth 4000
namespace Go.Proofs.YtobklbfcnbmnmaaDoor
open Go Go.RowKit
section
variable {o : Oper} {a : Act} {w w0 : World} {R : Value → World → Prop} {F : Nat → Prop} {S : List Blk}
theorem dd_bts {x : Operand} {dst : TypeId} {v : Value} {q : List (BitVec 8)} (ho : o.op = .convert 32 dst x) (hx : a.eval x = v) (hs : Slice w v q) (hd : Tryd.prog.underlying dst = some .string) : (execOp a.eval o).run Tryd.prog w = .ok (.value (.string (strB q))) w := by
  have h := conv_bytes hs dst hd
  simp [execOp, ho, hx, h]
theorem dd_copyB (HS : St w0 F S w) (k j : Nat) {d s : Operand} (ho : o.op = .call { callee := .builtin .copy, args := #[d, s], argTypes := #[32, 32] }) {g off n m : Nat} {t : TypeId} {L : List (List Value)} {ns : List Nat} {v : Value} {q : List (BitVec 8)} (hL : L.map List.length = ns) (hk : S[k]? = some ⟨g, t, catA L⟩) (ho2 : (ns.take j).sum = off) (hj : ns[j]? = some n) (hd : a.eval d = .slice (some ⟨g, off, none⟩) n m) (hs : a.eval s = v) (hq : Slice w v q) (hn : q.length = n)
    (h : ∀ w', St w0 F (S.set k ⟨g, t, catA (L.set j (bytesV q))⟩) w' → R (.int .i64 (n : Int)) w') : Does Tryd.prog o a w R := fun _ _ hK => by
  have hrow := HS.row k hk
  have hjl := (List.getElem?_eq_some_iff.1 hj).1
  have e := congrArg List.sum (List.take_append_drop j ns)
  rw [List.sum_append, List.drop_eq_getElem_cons hjl, List.sum_cons, (List.getElem?_eq_some_iff.1 hj).2] at e
  refine wp_copy_any d s ho g off n m hd v hs q hq t (catA L) hrow (by rw [cat_size hL]; omega) (by omega) fun w' h1 h2 => ?_
  have e2 : (spl (catA L).toList off (bytesV q)).toArray = catA (L.set j (bytesV q)) := cat_store1 (cs := bs q) hL j ho2 (by rw [size_bs, hn]) hj
  rw [e2] at h1
  have := hK _ _ (h w' (HS.upd k hk h1 h2))
  rw [← hn] at this
  exact this
end
theorem strs_row {w : World} {g : Nat} {t : TypeId} {q : List (BitVec 8)} (h : Row w g t #[.string (strB q)]) (hm : q.length ≤ maxLen) : Strs w (.slice (some ⟨g, 0, none⟩) 1 1) [q] :=
  ⟨_, 1, rfl, by simp, (fun h => by cases h), by simpa using hm, fun _ => ⟨g, 0, rfl, h.lt, fun k p hp => by
    cases k with
    | zero => obtain rfl : q = p := by simpa using hp
              exact h.get rfl
    | succ k => simp at hp⟩⟩
theorem sbeq_t {p q : List (BitVec 8)} (h : p = q) : ((strB p).toList == (strB q).toList) = true := by rw [str_beq, decide_eq_true h]
theorem sbeq_f {p q : List (BitVec 8)} (h : ¬ p = q) : ((strB p).toList == (strB q).toList) = false := by rw [str_beq, decide_eq_false h]
theorem ownc_nil : OwnC #[] 0 0 1 (bytesV []) := ⟨Nat.le_refl _, by decide, rfl, rfl, rfl⟩
section
variable {o : Oper} {a : Act} {w w0 : World} {R : Value → World → Prop} {F : Nat → Prop} {S : List Blk}
theorem dd_lit0 {P : Program} (HS : St w0 F S w) {t e : TypeId} {parts : Array (Nat × Operand)} (ho : o.op = .buildSlice t 0 parts) (hp : parts = #[]) (hu : P.underlying t = some (.slice e)) {sz : Nat} (hie : (P.info? e).map (fun i => i.size) = some sz)
    (h : ∀ g w', St w0 F (S ++ [⟨g, e, #[]⟩]) w' → R (.slice (some ⟨g, 0, none⟩) 0 0) w') : Does P o a w R := fun _ _ hK => by
  obtain ⟨ie, hi, _⟩ := Option.map_eq_some_iff.1 hie
  have hrun : (execOp a.eval o).run P w = .ok (.value (.slice (some ⟨w.heap.size, 0, none⟩) 0 0)) (w.alloc (.cells #[] e)) := by
    unfold execOp
    have e0 : (Array.range 0).map (fun _ : Nat => (default : Value)) = #[] := by simp [Array.range]
    simp [ho, hp, Instr.buildSlice, run_underlying hu, sizeOf, typeInfo, hi, Instr.fill, newRow, e0]
  unfold Oper.wp
  rw [hrun]
  exact hK _ _ (h _ _ (HS.snoc e #[]))
/- bytes behind bytes of the call's own, whatever slice they stand in -/
theorem dd_appB (HS : St w0 F S w) (k : Nat) {g c n n2 : Nat} {cb : Array Value} {q r q2 : List (BitVec 8)} (hk : S[k]? = some ⟨g, 5, cb⟩) (O : OwnC cb c n 1 (bytesV q)) {s x : Operand} (ho : o.op = .call { callee := .builtin .append, args := #[s, x], argTypes := #[32, 32] })
    (hs : a.eval s = .slice (some ⟨g, 0, none⟩) n c) {A : Option Addr} {m c2 : Nat} (hx : a.eval x = .slice A m c2) (hr : Slice w (.slice A m c2) r) (hA : A = none → c2 = 0) (hn : n + m = n2) (hq : q ++ r = q2) (h63 : n2 ≤ maxLen) (hbytes : n2 ≤ 140737488355328)
    (h : ∀ g' c' cb' w', OwnC cb' c' n2 1 (bytesV q2) → St w0 F (S.eraseIdx k ++ [⟨g', 5, cb'⟩]) w' → R (.slice (some ⟨g', 0, none⟩) n2 c') w') : Does Tryd.prog o a w R := by
  subst hn hq
  have hm : r.length = m := by obtain ⟨A', c', e, _⟩ := hr; injection e with _ e _; exact e.symm
  cases A with
  | none =>
    have hr0 : r = [] := by
      apply Decidable.byContradiction
      intro hne
      obtain ⟨A', c', e, _, h3⟩ := hr
      obtain ⟨_, _, h4, _⟩ := h3 hne
      injection e with e _ _
      rw [h4] at e; cases e
    obtain rfl := hA rfl
    subst hr0
    have hm0 : m = 0 := by simpa using hm.symm
    subst hm0
    intro K Q hK
    obtain ⟨i0, hi, hz0, hz1, hz2⟩ := info_parts info_u8
    have hrow := HS.row k hk
    have hown := ownc_to hrow O (Nat.zero_le g)
    have hrun := run_append_owned_none (P := Tryd.prog) (w := w) 0 32 o.type 5 i0 1 Tryd.underlying32 hi _ n _ hown
    unfold Oper.wp
    simp [execOp, ho, resolve, invoke, builtin, hs, hx, hrun, Result.andThen]
    have hS2 := st_snoc (st_erase HS k) hrow (HS.own k _ hk) (fun b hb e => by
      obtain ⟨j, hj⟩ := List.getElem?_of_mem hb
      rw [List.getElem?_eraseIdx] at hj
      split at hj
      · exact HS.apart j k b _ (by omega) hj hk e
      · exact HS.apart (j + 1) k b _ (by omega) hj hk e)
    exact hK _ _ (h g c cb w (by simpa using O) hS2)
  | some ad =>
    refine dd_app HS k hk O ho hs (z := .int .u8 0) (bytes := 1) Tryd.underlying32 (by kernel_rfl) rfl (by decide) (bytesV r) hx (by rw [len_bytesV, hm, Nat.mul_one]) (slice_news hr) (one_bytesV _) h63 (by omega) fun g' c' cb' w' O' h' => ?_
    exact h g' c' cb' w' (ownc_app O') h'
end
end Go.Proofs.YtobklbfcnbmnmaaDoor

/- What names may be, as plain functions of bytes; the document's way and the program's way to a name of four bytes. No function of the program is named here. -/
set_option maxRecDepth 4000
namespace Go.Proofs.YtobklbfcnbmnmaaDoor
open Go
def letter (x : BitVec 8) : Bool := decide (97 ≤ bd x) && decide (bd x ≤ 122)
def goodN (q : List (BitVec 8)) : Bool := decide (1 ≤ q.length) && decide (q.length ≤ 4) && q.all letter
def goodNs (l : List (List (BitVec 8))) : Bool := l.all goodN
def padN (q : List (BitVec 8)) : List (BitVec 8) := (q ++ zer 4).take 4
theorem length_padN (q : List (BitVec 8)) : (padN q).length = 4 := by unfold padN; rw [List.length_take, List.length_append, length_zer]; omega
def trimN (q : List (BitVec 8)) : List (BitVec 8) := (q.reverse.dropWhile (fun x => decide (x = 0#8))).reverse
def firstZ (q : List (BitVec 8)) : List (BitVec 8) := q.takeWhile (fun x => decide (x ≠ 0#8))
def okTrim (b : List (BitVec 8)) : Bool := decide (trimN b = []) || goodN (trimN b)
def cutN (b : List (BitVec 8)) : List (BitVec 8) × Bool := if okTrim b then (trimN b, true) else ([], false)
def okFirst (b : List (BitVec 8)) : Bool := decide (padN (firstZ b) = b) && (decide (firstZ b = []) || goodN (firstZ b))
def cutR (b : List (BitVec 8)) : List (BitVec 8) × Bool := if okFirst b then (firstZ b, true) else ([], false)
theorem trim_nil : trimN [] = [] := rfl
theorem trim_zero (q : List (BitVec 8)) : trimN (q ++ [0#8]) = trimN q := by simp [trimN]
theorem trim_more (q : List (BitVec 8)) (x : BitVec 8) (h : ¬ x = 0#8) : trimN (q ++ [x]) = q ++ [x] := by simp [trimN, h]
theorem letter_nz {x : BitVec 8} (h : letter x = true) : ¬ x = 0#8 := by rintro rfl; exact absurd h (by decide)
theorem list4 {b : List (BitVec 8)} (h : b.length = 4) : ∃ x y z t, b = [x, y, z, t] := by
  match b, h with
  | [x, y, z, t], _ => exact ⟨x, y, z, t, rfl⟩
theorem cut_eq {b : List (BitVec 8)} (h : b.length = 4) : cutR b = cutN b := by
  obtain ⟨x, y, z, t, rfl⟩ := list4 h
  unfold cutR cutN okFirst okTrim
  have hz : letter 0#8 = false := by decide
  by_cases hx : x = 0#8 <;> by_cases hy : y = 0#8 <;> by_cases hw : z = 0#8 <;> by_cases ht : t = 0#8 <;> simp [firstZ, trimN, padN, goodN, zer, hx, hy, hw, ht, hz, List.takeWhile, List.dropWhile, List.replicate] <;> grind
/- what of names the statements say -/
theorem good_nil : goodN [] = false := by decide
theorem good_len {q : List (BitVec 8)} (h : goodN q = true) : 1 ≤ q.length ∧ q.length ≤ 4 ∧ ∀ x ∈ q, letter x = true := by
  unfold goodN at h
  simp only [Bool.and_eq_true, decide_eq_true_eq, List.all_eq_true] at h
  exact ⟨h.1.1, h.1.2, h.2⟩
theorem trim_nz {q : List (BitVec 8)} (h : ∀ x ∈ q, ¬ x = 0#8) (n : Nat) : trimN (q ++ zer n) = q := by
  unfold trimN zer
  rw [List.reverse_append, List.reverse_replicate]
  rw [List.dropWhile_append_of_pos (by intro a ha; obtain rfl := List.eq_of_mem_replicate ha; rfl)]
  cases hq : q.reverse with
  | nil => have := congrArg List.reverse hq; simpa using this.symm
  | cons a r =>
    have hm : a ∈ q.reverse := by rw [hq]; exact List.mem_cons_self
    have ha : ¬ a = 0#8 := h a (List.mem_reverse.1 hm)
    rw [List.dropWhile_cons_of_neg (by simpa using ha), ← hq, List.reverse_reverse]
theorem cut_pad {q : List (BitVec 8)} (h : goodN q = true) : cutN (padN q) = (q, true) := by
  obtain ⟨h1, h4, hl⟩ := good_len h
  have e : padN q = q ++ zer (4 - q.length) := by
    unfold padN zer
    rw [List.take_append, List.take_of_length_le h4, List.take_replicate, Nat.min_eq_left (by omega)]
  have ht : trimN (padN q) = q := by rw [e]; exact trim_nz (fun x hx => letter_nz (hl x hx)) _
  unfold cutN okTrim
  rw [ht, h, Bool.or_true]; rfl
theorem cut_ok {b : List (BitVec 8)} (hb : b.length = 4) (h : (cutN b).2 = true) : padN (cutN b).1 = b ∧ ((cutN b).1 = [] ∨ goodN (cutN b).1 = true) := by
  rw [← cut_eq hb] at h ⊢
  unfold cutR at h ⊢
  cases ho : okFirst b with
  | false => rw [ho] at h; cases h
  | true =>
    unfold okFirst at ho
    simp only [Bool.and_eq_true, Bool.or_eq_true, decide_eq_true_eq] at ho
    exact ho
theorem cut_no {b : List (BitVec 8)} (h : (cutN b).2 = false) : (cutN b).1 = [] := by
  unfold cutN at h ⊢
  split
  · rename_i h'; rw [if_pos h'] at h; cases h
  · rfl
theorem cut_len {b : List (BitVec 8)} (hb : b.length = 4) : (cutN b).1.length ≤ 4 := by
  cases h : (cutN b).2 with
  | false => rw [cut_no h]; simp
  | true =>
    rcases (cut_ok hb h).2 with h' | h'
    · rw [h']; simp
    · exact (good_len h').2.1
end Go.Proofs.YtobklbfcnbmnmaaDoor

/- The program's names: allLetters, Good, Pad. -/
set_option maxRecDepth 4000
namespace Go.Proofs.YtobklbfcnbmnmaaDoor
open Go Go.RowKit
theorem all_of {q : List (BitVec 8)} (h : ∀ j < q.length, letter (q.getD j 0#8) = true) : q.all letter = true := by
  rw [List.all_eq_true]
  intro x hx
  obtain ⟨j, hj, rfl⟩ := List.getElem_of_mem hx
  have := h j hj
  rwa [List.getD_eq_getElem?_getD, List.getElem?_eq_getElem hj] at this
theorem all_no {q : List (BitVec 8)} {j : Nat} (hj : j < q.length) (h : letter (q.getD j 0#8) = false) : q.all letter = false := by
  rw [List.all_eq_false]
  rw [List.getD_eq_getElem?_getD, List.getElem?_eq_getElem hj] at h
  exact ⟨q[j], List.getElem_mem hj, by rw [show letter q[j] = false from h]; decide⟩
set_option maxHeartbeats 800000 in
theorem letters_any (q : List (BitVec 8)) (w : World) (hm : q.length ≤ maxLen) :
    Calls Tryd.prog 38 #[.string (strB q)] w fun e w' => e = .returned (.bool (q.all letter)) ∧ Below w.heap.size w w' := by
  obtain ⟨cap, W, hcv, hb, hlt, hcell⟩ := conv_str w q 9 Tryd.underlying9
  obtain ⟨n, hn⟩ : ∃ n, q.length = n := ⟨_, rfl⟩
  have HN := Lib.hid hn
  rw [hn] at hcv hcell hm
  unfold maxLen at hm
  have HB := Lib.hid hb
  have HC := Lib.hid hcell
  obtain ⟨G, hG⟩ : ∃ G, q.all letter = G := ⟨_, rfl⟩
  have HY : Hid ((∀ j < n, letter (q.getD j 0#8) = true) → G = true) := Lib.hid fun h => by rw [← hG]; exact all_of (by rw [hn]; exact h)
  have HNO : Hid (∀ j < n, letter (q.getD j 0#8) = false → G = false) := Lib.hid fun j hj h => by rw [← hG]; exact all_no (by rw [hn]; exact hj) h
  rw [hG]
  clear hb hcell hn hG hlt
  go_enter Tryd.func38, Tryd.ntmps38
  go_wp2_with fail
  clear hcv
  go_loopw [8] (fun i wr => ∃ k : Nat, k ≤ n ∧ i = .int .i64 k ∧ (∀ j < k, letter (q.getD j 0#8) = true) ∧ wr = W) (fun i _ => n - (intOf i).toNat)
  case atStart => exact ⟨0, by omega, rfl, fun j hj => by omega, rfl⟩
  case round =>
    obtain ⟨k, hk, rfl, hok, rfl⟩ := hrel
    have HOK := Lib.hid hok
    clear hok
    by_cases hlt : k < n
    · have hc := HC.out k hlt
      have hk1 : decide ((k : Int) < (n : Int)) = true := decide_eq_true (by omega)
      have hk2 : (k : Int) < (n : Int) := by omega
      have hk3 : (0 : Int) ≤ (k : Int) := by omega
      obtain ⟨x, hx⟩ : ∃ x, q.getD k 0#8 = x := ⟨_, rfl⟩
      have HX := Lib.hid hx
      rw [hx] at hc
      clear hx
      by_cases h97 : bd x < 97
      · have hd1 : decide (bd x < 97) = true := decide_eq_true h97
        have hG : G = false := HNO.out k hlt (by rw [HX.out]; unfold letter; rw [decide_eq_false (by omega)]; rfl)
        go_wp2_with fail
        go_ret
        first | exact ⟨rfl, HB.out⟩ | (rw [hG]; exact ⟨rfl, HB.out⟩)
      have hd1 : decide (bd x < 97) = false := decide_eq_false h97
      by_cases h122 : 122 < bd x
      · have hd2 : decide (122 < bd x) = true := decide_eq_true h122
        have hG : G = false := HNO.out k hlt (by rw [HX.out]; unfold letter; rw [decide_eq_false (show ¬ bd x ≤ 122 by omega), Bool.and_false])
        go_wp2_with fail
        go_ret
        first | exact ⟨rfl, HB.out⟩ | (rw [hG]; exact ⟨rfl, HB.out⟩)
      have hd2 : decide (122 < bd x) = false := decide_eq_false h122
      have hw : IntKind.i64.wrap ((k : Int) + 1) = ((k + 1 : Nat) : Int) := by rw [i64_id _ (by omega) (by omega)]; omega
      go_wp2_with fail
      refine ⟨⟨k + 1, by omega, by go_num, fun j hj => ?_, trivial⟩, by simp [intOf]; omega⟩
      rcases Nat.lt_succ_iff_lt_or_eq.1 hj with h | h
      · exact HOK.out j h
      · subst h; rw [HX.out]; unfold letter; rw [decide_eq_true (by omega), decide_eq_true (by omega)]; rfl
    · have hk1 : decide ((k : Int) < (n : Int)) = false := decide_eq_false (by omega)
      have hG : G = true := HY.out fun j hj => HOK.out j (by omega)
      go_wp2_with fail
      go_ret
      first | exact ⟨rfl, HB.out⟩ | (rw [hG]; exact ⟨rfl, HB.out⟩)
end Go.Proofs.YtobklbfcnbmnmaaDoor

/- The program's names: Good, Pad, Cut; strings.TrimRight of one sign. -/
set_option maxRecDepth 4000
namespace Go.Proofs.YtobklbfcnbmnmaaDoor
open Go Go.RowKit
attribute [local go_sem] strB_size
theorem good_all {l : List (List (BitVec 8))} (h : ∀ j < l.length, goodN (l.getD j []) = true) : goodNs l = true := by
  unfold goodNs
  rw [List.all_eq_true]
  intro x hx
  obtain ⟨j, hj, rfl⟩ := List.getElem_of_mem hx
  have := h j hj
  rwa [List.getD_eq_getElem?_getD, List.getElem?_eq_getElem hj] at this
theorem good_no {l : List (List (BitVec 8))} {j : Nat} (hj : j < l.length) (h : goodN (l.getD j []) = false) : goodNs l = false := by
  unfold goodNs
  rw [List.all_eq_false]
  rw [List.getD_eq_getElem?_getD, List.getElem?_eq_getElem hj] at h
  exact ⟨l[j], List.getElem_mem hj, by rw [show goodN l[j] = false from h]; decide⟩
set_option maxHeartbeats 800000 in
theorem good_any (l : List (List (BitVec 8))) (v : Value) (w : World) (hv : Strs w v l) (hl : l.length ≤ maxLen) :
    Calls Tryd.prog 29 #[v] w fun e w' => e = .returned (.bool (goodNs l)) ∧ Below w.heap.size w w' := by
  obtain ⟨A, c, rfl⟩ : ∃ A c, v = .slice A l.length c := by obtain ⟨A, c, h, _⟩ := hv; exact ⟨A, c, h⟩
  obtain ⟨n, hn⟩ : ∃ n, l.length = n := ⟨_, rfl⟩
  have HN := Lib.hid hn
  have HM : Hid (∀ q ∈ l, q.length ≤ maxLen) := Lib.hid (by obtain ⟨_, _, _, _, _, hm, _⟩ := hv; exact hm)
  rw [hn] at hv hl ⊢
  have HV := Lib.hid hv
  unfold maxLen at hl
  obtain ⟨G, hG⟩ : ∃ G, goodNs l = G := ⟨_, rfl⟩
  have HY : Hid ((∀ j < n, goodN (l.getD j []) = true) → G = true) := Lib.hid fun h => by rw [← hG]; exact good_all (by rw [hn]; exact h)
  have HNO : Hid (∀ j < n, goodN (l.getD j []) = false → G = false) := Lib.hid fun j hj h => by rw [← hG]; exact good_no (by rw [hn]; exact hj) h
  rw [hG]
  clear hn hG hv
  have HB := Lib.hid (Below.refl w.heap.size w)
  go_enter Tryd.func29, Tryd.ntmps29
  go_wp2_with fail
  go_loopw [7] (fun i wr => ∃ k : Nat, k ≤ n ∧ i = .int .i64 k ∧ (∀ j < k, goodN (l.getD j []) = true) ∧ Below w.heap.size w wr) (fun i _ => n - (intOf i).toNat)
  case atStart => exact ⟨0, by omega, rfl, fun j hj => by omega, HB.out⟩
  case round =>
    clear HB
    obtain ⟨k, hk, rfl, hok, hb⟩ := hrel
    have HB := Lib.hid hb
    have HOK := Lib.hid hok
    clear hok hb
    by_cases hlt : k < n
    · obtain ⟨q, hx⟩ : ∃ x, l[k]? = some x := ⟨_, List.getElem?_eq_getElem (by rw [HN.out]; exact hlt)⟩
      have HQD : Hid (l.getD k [] = q) := Lib.hid (by rw [List.getD_eq_getElem?_getD, hx]; rfl)
      have HQM : Hid (q.length ≤ maxLen) := Lib.hid (HM.out q (List.mem_of_getElem? hx))
      obtain ⟨b, o, rfl, hbw, hcell⟩ := strs_at (HV.out.below HB.out (Nat.le_refl _)) hx
      obtain ⟨m, hm⟩ : ∃ m, q.length = m := ⟨_, rfl⟩
      have hk0 : (0 : Int) ≤ (k : Int) := by omega
      have hk1 : (k : Int) < (n : Int) := by omega
      have hkd : decide ((k : Int) < (n : Int)) = true := decide_eq_true hk1
      have HQ4 : Hid (goodN q = (decide (1 ≤ m) && decide (m ≤ 4) && q.all letter)) := Lib.hid (by rw [← hm]; rfl)
      have C := Lib.hid (letters_any q wr HQM.out)
      clear hx hbw
      by_cases h1 : m < 1
      · have hd1 : decide ((m : Int) < 1) = true := decide_eq_true (by omega)
        have hG : G = false := HNO.out k hlt (by rw [HQD.out, HQ4.out, decide_eq_false (by omega)]; rfl)
        go_wp2_with fail
        go_ret
        first | exact ⟨rfl, HB.out⟩ | (rw [hG]; exact ⟨rfl, HB.out⟩)
      have hd1 : decide ((m : Int) < 1) = false := decide_eq_false (by omega)
      by_cases h4 : 4 < m
      · have hd2 : decide ((4 : Int) < (m : Int)) = true := decide_eq_true (by omega)
        have hG : G = false := HNO.out k hlt (by rw [HQD.out, HQ4.out, decide_eq_false (show ¬ m ≤ 4 by omega), Bool.and_false]; rfl)
        go_wp2_with fail
        go_ret
        first | exact ⟨rfl, HB.out⟩ | (rw [hG]; exact ⟨rfl, HB.out⟩)
      have hd2 : decide ((4 : Int) < (m : Int)) = false := decide_eq_false (by omega)
      have HQ5 : Hid (goodN q = q.all letter) := Lib.hid (by rw [HQ4.out, decide_eq_true (by omega), decide_eq_true (by omega)]; rfl)
      go_wp2_with fail
      refine C.out.mono ?_
      rintro e w1 ⟨rfl, hb1⟩
      have HB1 := Lib.hid (HB.out.trans (hb1.mono HB.out.size))
      clear hb1 HB
      cases hal : q.all letter with
      | false =>
        have hG : G = false := HNO.out k hlt (by rw [HQD.out, HQ5.out, hal])
        clear hal
        go_wp2_with fail
        go_ret
        first | exact ⟨rfl, HB1.out⟩ | (rw [hG]; exact ⟨rfl, HB1.out⟩)
      | true =>
        have HAL := Lib.hid hal
        clear hal
        have hw : IntKind.i64.wrap ((k : Int) + 1) = ((k + 1 : Nat) : Int) := by rw [i64_id _ (by omega) (by omega)]; omega
        go_wp2_with fail
        refine ⟨⟨k + 1, by omega, by go_num, fun j hj => ?_, HB1.out⟩, by simp [intOf]; omega⟩
        rcases Nat.lt_succ_iff_lt_or_eq.1 hj with h | h
        · exact HOK.out j h
        · subst h; rw [HQD.out, HQ5.out]; exact HAL.out
    · have hkd : decide ((k : Int) < (n : Int)) = false := decide_eq_false (by omega)
      have hG : G = true := HY.out fun j hj => HOK.out j (by omega)
      go_wp2_with fail
      go_ret
      first | exact ⟨rfl, HB.out⟩ | (rw [hG]; exact ⟨rfl, HB.out⟩)
theorem size_b4 : (Tryd.prog.info? 50).map (·.size) = some 4 := by kernel_rfl
theorem pad_spl (q : List (BitVec 8)) : (spl (bs (zer 4)).toList 0 (bytesV (q.take 4))).toArray = bs (padN q) := by
  rw [spl_bs]
  congr 1
  unfold spl padN
  rw [List.take_zero, List.nil_append, Nat.zero_add, List.take_append]
  unfold zer
  rw [List.drop_replicate, List.take_replicate, List.length_take]
  congr 2
  omega
set_option maxHeartbeats 800000 in
theorem pad_any (q : List (BitVec 8)) (w : World) :
    Calls Tryd.prog 15 #[.string (strB q)] w fun e w' => e = .returned (.agg (bs (padN q))) ∧ Below w.heap.size w w' := by
  have HPE := Lib.hid (pad_spl q)
  have HS := St.nil w noF
  go_enter Tryd.func15, Tryd.ntmps15
  go_upto_region 2 with (first | ((with_reducible refine wpList_plain ?_ ?_); exact rfl; intro KK hKK; refine wp_st_alloc HS 50 (bs (zer 4)) rfl (.agg (bs (zer 4))) (by kernel_rfl) (rfl) (fun g2 W1 HSx => hKK _ _ ?_); clear hKK KK HS; have HS : St w noF [⟨g2, 50, bs (zer 4)⟩] W1 := HSx; clear HSx) | ((with_reducible refine wpList_plain ?_ ?_); exact rfl; intro KK hKK; refine wp_st_alloc HS 50 (bs (zer 4)) rfl (.agg (bs (zer 4))) (by kernel_rfl) (rfl) (fun g3 W2 HSx => hKK _ _ ?_); clear hKK KK HS; have HS : St w noF [⟨g2, 50, bs (zer 4)⟩, ⟨g3, 50, bs (zer 4)⟩] W2 := HSx; clear HSx))
  go_wp2_with (first | ((with_reducible refine wpList_plain ?_ ?_); exact rfl; intro KK hKK; refine wp_copy_str (.tmp 4) (.tmp 5) 9 rfl g3 0 4 4 rfl q rfl 50 _ (HS.row 1 rfl) (by rw [size_bs, length_zer]; omega) (fun W3 hr hg => hKK _ _ ?_); clear hKK KK; have HSx : St w noF [⟨g2, 50, bs (zer 4)⟩, ⟨g3, 50, bs (padN q)⟩] W3 := HS.upd 1 rfl (HPE.out ▸ hr) hg; clear hr hg HS; have HS := HSx; clear HSx) | ((with_reducible refine wpList_plain ?_ ?_); exact rfl; intro KK hKK; refine wp_st_load HS 1 0 50 (.tmp 3) rfl rfl rfl (bs (padN q)) (slab_whole _) _ Tryd.underlying50 rfl (by rw [size_bs, length_padN]; exact size_b4) (hKK _ _ ?_); clear hKK KK) | ((with_reducible refine wpList_plain ?_ ?_); exact rfl; intro KK hKK; refine wp_st_store HS 0 0 50 (.tmp 2) (.tmp 7) rfl rfl rfl (.agg (bs (padN q))) rfl (by rw [show Value.cells (.agg (bs (padN q))) = bs (padN q) from rfl, size_bs, length_padN]; exact size_b4) (by rw [show Value.cells (.agg (bs (padN q))) = bs (padN q) from rfl, size_bs, length_padN, size_bs, length_zer]; decide) (by exact one_bs _) (bs (padN q)) (spl_agg _ _ _ rfl (by rw [size_bs, size_bs, length_padN, length_zer])) (fun W4 HSx => hKK _ _ ?_); clear hKK KK HS; have HS : St w noF [⟨g2, 50, bs (padN q)⟩, ⟨g3, 50, bs (padN q)⟩] W4 := HSx; clear HSx))
  exact bodyPost_ret (v := .agg (bs (padN q))) (results_cell_row Tryd.results15 _ _ g2 50 (bs (padN q)) (0, 0) _ rfl (HS.row 0 rfl) Tryd.underlying50 rfl (by rw [size_bs, length_padN]; exact size_b4)) rfl ⟨rfl, HS.below⟩
def strLen : Value → Nat | .string s => s.size | _ => 0
set_option maxHeartbeats 800000 in
theorem trimb_any (q : List (BitVec 8)) (w : World) (hm : q.length ≤ maxLen) :
    Calls Tryd.prog 44 #[.string (strB q), .int .u8 0] w fun e w' => e = .returned (.string (strB (trimN q))) ∧ w = w' := by
  have HM := Lib.hid hm
  clear hm
  obtain ⟨t, ht⟩ : ∃ t, trimN q = t := ⟨_, rfl⟩
  have HT := Lib.hid ht
  rw [ht]
  clear ht
  go_enter Tryd.func44, Tryd.ntmps44
  go_wp2_with fail
  go_loopw [0] (fun s wr => ∃ p : List (BitVec 8), s = .string (strB p) ∧ trimN p = t ∧ p.length ≤ maxLen ∧ wr = w) (fun s _ => strLen s)
  case atStart => exact ⟨q, rfl, HT.out, HM.out, rfl⟩
  case round =>
    clear HM HT
    obtain ⟨p, rfl, ht, hl, rfl⟩ := hrel
    have HT := Lib.hid ht
    have HL := Lib.hid hl
    clear ht hl
    rcases List.eq_nil_or_concat p with rfl | ⟨r, x, rfl⟩
    · have ht : t = [] := HT.out.symm.trans trim_nil
      subst ht
      clear HT
      have h0 : (strB []).size = 0 := by rw [strB_size]; rfl
      have hd0 : decide ((0 : Int) < 0) = false := rfl
      go_wp2_with fail
      go_ret
      exact ⟨rfl, rfl⟩
    · rw [List.concat_eq_append] at HT HL ⊢
      obtain ⟨p, hp⟩ : ∃ p, r ++ [x] = p := ⟨_, rfl⟩
      obtain ⟨m, hm⟩ : ∃ m, r.length = m := ⟨_, rfl⟩
      have hpl : p.length = m + 1 := by rw [← hp, ← hm, List.length_append]; rfl
      obtain ⟨N, hN⟩ : ∃ N, m + 1 = N := ⟨_, rfl⟩
      rw [hN] at hpl
      have hix : ∀ w, (Instr.index 9 (.string (strB p)) (.int .i64 (m : Int))).run Tryd.prog w = .ok (.int .u8 (bd x)) w := fun w => by
        have := run_ix w 9 p .i64 m Tryd.underlying9 (by omega)
        rw [this, ← hp, List.getD_eq_getElem?_getD, List.getElem?_append_right (by omega), hm, Nat.sub_self]; rfl
      have hex : (strB p).extract 0 m = strB r := by
        rw [str_extract, List.drop_zero, Nat.sub_zero, ← hp, ← hm, List.take_left]
      have HMX : Hid (N ≤ 9223372036854775807) := Lib.hid (by have := HL.out; rw [hp, hpl] at this; unfold maxLen at this; omega)
      have hw : IntKind.i64.wrap ((N : Int) - 1) = (m : Int) := by have := HMX.out; rw [i64_id _ (by omega) (by omega)]; omega
      have hd0 : decide ((0 : Int) < (N : Int)) = true := decide_eq_true (by omega)
      have hN0 : 0 < N := by omega
      have h0m : (0 : Int) ≤ (m : Int) := by omega
      have hmN : (m : Int) ≤ (N : Int) := by omega
      have HNM : Hid (m + 1 = N) := Lib.hid hN
      have HRL : Hid (r.length = m) := Lib.hid hm
      have HTX : Hid (trimN (r ++ [x]) = t) := HT
      have HLX : Hid (r.length ≤ maxLen) := Lib.hid (by have := HL.out; rw [List.length_append] at this; omega)
      rw [hp]
      have HP := Lib.hid hp
      clear hN hm hp HL HT
      by_cases hx : x = 0#8
      · have hb1 : (bd x == 0) = true := by rw [hx]; rfl
        have hb2 : decide (bd x = 0) = true := by rw [hx]; rfl
        have HTR : Hid (trimN r = t) := Lib.hid (by rw [← HTX.out, hx, trim_zero])
        clear hx
        go_wp2_with fail
        refine ⟨⟨r, by first | rfl | simp [hex], HTR.out, HLX.out, trivial⟩, ?_⟩
        simp [strLen, strB_size, HRL.out, hpl]; have := HNM.out; omega
      · have hb1 : (bd x == 0) = false := by
          refine beq_eq_false_iff_ne.2 fun e => hx (bd_inj (by rw [e]; rfl))
        have hb2 : decide (bd x = 0) = false := decide_eq_false fun e => hx (bd_inj (by rw [e]; rfl))
        have ht : t = p := by rw [← HTX.out, trim_more r x hx]; exact HP.out
        clear hx
        go_wp2_with fail
        go_ret
        first | exact ⟨rfl, rfl⟩ | (rw [ht]; exact ⟨rfl, rfl⟩)
theorem lit_beq : ((⟨#[0]⟩ : ByteArray).toList == (⟨#[]⟩ : ByteArray).toList) = false := by rw [ByteArray.toList_eq, ByteArray.toList_eq]; rfl
set_option maxHeartbeats 800000 in
theorem trim_any (q : List (BitVec 8)) (w : World) (hm : q.length ≤ maxLen) :
    Calls Tryd.prog 42 #[.string (strB q), .string ⟨#[0]⟩] w fun e w' => e = .returned (.string (strB (trimN q))) ∧ w = w' := by
  have C := Lib.hid (trimb_any q w hm)
  clear hm
  have h0 := str_emp q
  have hn0 := str_nil q
  have hl := lit_beq
  have hix : ∀ w, (Instr.index 9 (.string ⟨#[0]⟩) (.int .i64 0)).run Tryd.prog w = .ok (.int .u8 0) w := fun w => by
    rw [run_index_string w 9 ⟨#[0]⟩ .i64 0 Tryd.underlying9]; rfl
  have h128 : decide ((0 : Int) < 128) = true := rfl
  have h11 : ((1 : Int) == 1) = true := rfl
  have hs1 : (⟨#[0]⟩ : ByteArray).size = 1 := rfl
  by_cases hq : q = []
  · have hn1 : (strB q).toList = [] := hn0.2 hq
    rw [decide_eq_true hq] at h0
    have ht : trimN q = q := by rw [hq]; rfl
    rw [ht]
    clear C hn0 hq ht
    go_enter Tryd.func42, Tryd.ntmps42
    go_wp2_with fail
    go_ret
    exact ⟨rfl, rfl⟩
  · have hn1 : ¬ (strB q).toList = [] := fun h => hq (hn0.1 h)
    rw [decide_eq_false hq] at h0
    clear hq hn0
    go_enter Tryd.func42, Tryd.ntmps42
    go_wp2_with fail
    refine C.out.mono ?_
    rintro e w1 ⟨rfl, rfl⟩
    go_wp2_with fail
    go_ret
    exact ⟨rfl, rfl⟩
set_option maxHeartbeats 800000 in
theorem cut_any (b : List (BitVec 8)) (w : World) (hl : b.length = 4) :
    Calls Tryd.prog 33 #[.agg (bs b)] w fun e w' => e = .returned (.tuple #[.string (strB (cutN b).1), .bool (cutN b).2]) ∧ Below w.heap.size w w' := by
  have HL := Lib.hid hl
  have H4 : Hid ((bs b).size = 4) := Lib.hid (by rw [size_bs, hl])
  obtain ⟨t, ht⟩ : ∃ t, trimN b = t := ⟨_, rfl⟩
  have HC : Hid (cutN b = if (decide (t = []) || goodN t) then (t, true) else ([], false)) := Lib.hid (by unfold cutN okTrim; rw [ht])
  have HTM : Hid (t.length ≤ maxLen) := Lib.hid (by
    have h : t.length ≤ b.length := by rw [← ht]; unfold trimN; rw [List.length_reverse]; exact Nat.le_trans (List.dropWhile_sublist _).length_le (by rw [List.length_reverse]; exact Nat.le_refl _)
    unfold maxLen; omega)
  have HT := Lib.hid ht
  clear hl ht
  have HS := St.nil w noF
  go_enter Tryd.func33, Tryd.ntmps33
  go_upto_region 1 with (first | ((with_reducible refine wpList_plain ?_ ?_); exact rfl; intro KK hKK; refine wp_st_box HS 50 (.tmp 0) rfl _ rfl (bs b) (rfl) (fun g1 W1 HSx => hKK _ _ ?_); clear hKK KK HS; have HS : St w noF [⟨g1, 50, bs b⟩] W1 := HSx; clear HSx))
  have hsl : Slice W1 (.slice (some ⟨g1, 0, none⟩) 4 4) b := by have := row_slice (c := 4) (HS.row 0 rfl) (by rw [HL.out]; exact Nat.le_refl _); rwa [HL.out] at this
  have hcv := conv_bytes hsl 9 Tryd.underlying9
  have C := Lib.hid (trim_any b W1 (by rw [HL.out]; unfold maxLen; omega))
  clear hsl
  go_wp2_with fail
  refine C.out.mono ?_
  rintro e w1 ⟨rfl, rfl⟩
  rw [HT.out]
  clear hcv C HT
  have h0 := str_emp t
  have hn0 := str_nil t
  have HB := Lib.hid HS.below
  clear HS
  by_cases hq : t = []
  · have hn1 : (strB t).toList = [] := hn0.2 hq
    rw [decide_eq_true hq] at h0
    have HC1 : Hid (cutN b = (t, true)) := Lib.hid (by rw [HC.out, decide_eq_true hq]; rfl)
    clear hq hn0
    go_wp2_with fail
    go_ret2
    exact ⟨by rw [HC1.out] <;> rfl, HB.out⟩
  · have hn1 : ¬ (strB t).toList = [] := fun h => hq (hn0.1 h)
    rw [decide_eq_false hq] at h0
    clear hn0
    have HQ := Lib.hid (decide_eq_false hq)
    clear hq
    have C := Lib.hid (good_any [t] _ _ (strs1 W1 t HTM.out 9) (by unfold maxLen; simp))
    have HG1 : Hid (goodNs [t] = goodN t) := Lib.hid (by unfold goodNs; simp)
    rw [HG1.out] at C
    have HB1 := Lib.hid (HB.out.alloc HB.out.size (.cells #[.string (strB t)] 9))
    go_wp2_with fail
    refine C.out.mono ?_
    rintro e w1 ⟨rfl, hb1⟩
    have HB2 := Lib.hid (HB1.out.trans (hb1.mono HB1.out.size))
    clear hb1 C HG1
    cases hg : goodN t with
    | true =>
      have HC1 : Hid (cutN b = (t, true)) := Lib.hid (by rw [HC.out, HQ.out, hg]; rfl)
      clear hg
      go_wp2_with fail
      go_ret2
      exact ⟨by rw [HC1.out] <;> rfl, HB2.out⟩
    | false =>
      have HC1 : Hid (cutN b = ([], false)) := Lib.hid (by rw [HC.out, HQ.out, hg]; rfl)
      clear hg
      go_wp2_with fail
      go_ret2
      exact ⟨by rw [HC1.out, ← str_lit0] <;> rfl, HB2.out⟩
end Go.Proofs.YtobklbfcnbmnmaaDoor

/- An append of so many zeros onto a slice of bytes of the call's own. -/
set_option maxRecDepth 4000
namespace Go.Proofs.YtobklbfcnbmnmaaDoor
open Go Go.RowKit
theorem zeroCells_zer (m : Nat) : Builtin.zeroCells (Value.int .u8 0).cells m = bs (zer m) := by
  have e : bs (zer m) = (List.replicate m (Value.int .u8 0)).toArray := by simp [bs, zer, bd]
  rw [e]
  apply Array.ext_getElem?
  intro j
  by_cases hj : j < m
  · simp [Builtin.zeroCells, Value.cells, hj, Nat.mod_one]
  · simp [Builtin.zeroCells, Value.cells, hj]
section
variable (w : World)
theorem run_zeros_room (ty : TypeId) (g n cap m : Nat) (cur : Array Value) (hg : w.heap[g]? = some (.cells cur 5 (0, 0))) (hroom : n + m ≤ cap) (hfit : n + m ≤ cur.size) (hm : m ≤ 1000000) :
    (Builtin.append_ #[32, 3] ty #[.slice (some ⟨g, 0, none⟩) n cap, .int .i64 (m : Int)]).run Tryd.prog w =
      .ok (.slice (some ⟨g, 0, none⟩) (n + m) cap) (w.setRow g (cur.toList.take n ++ bytesV (zer m) ++ cur.toList.drop (n + (bytesV (zer m)).length)).toArray) := by
  obtain ⟨i, hi, hz, hs, hby⟩ := info_parts info_u8
  have hw : IntKind.i64.wrap (m : Int) = (m : Int) := i64_id _ (by omega) (by omega)
  have hst := run_storeCells_at Tryd.prog g n 5 (bytesV (zer m)) 0 cur w hg (by simp [bytesV, zer]; omega) (one_bytesV _)
  simp only [Nat.add_zero] at hst
  have h48 : ¬ (281474976710656 < (m : Int)) := by omega
  by_cases h0 : m = 0
  · subst h0
    rw [show bytesV (zer 0) = [] from rfl] at hst ⊢
    simp only [Int.natCast_zero] at hw
    simp [Builtin.append_, run_underlying Tryd.underlying32, run_underlying Tryd.underlying3, sizeOf, typeInfo, hi, hs, hby, hw, asInt, asIntOf, Addr.add_lit, hst]
    omega
  · simp [Builtin.append_, run_underlying Tryd.underlying32, run_underlying Tryd.underlying3, sizeOf, typeInfo, zeroValue, hi, hz, hs, hby, hw, asInt, asIntOf, hroom, h48, h0, zeroCells_zer, bs_toList, Addr.add_lit, hst]
    intro h; omega
theorem run_zeros_nil (ty : TypeId) (m : Nat) (h0 : 0 < m) (hm : m ≤ 1000000) :
    (Builtin.append_ #[32, 3] ty #[.slice none 0 0, .int .i64 (m : Int)]).run Tryd.prog w =
      .ok (.slice (some ⟨w.heap.size, 0, none⟩) m (grownCap w m 0 5)) (w.drew.alloc (.cells (bs (zer m) ++ Builtin.zeroCells (Value.int .u8 0).cells (grownCap w m 0 5 - m)) 5)) := by
  obtain ⟨i, hi, hz, hs, hby⟩ := info_parts info_u8
  have hw : IntKind.i64.wrap (m : Int) = (m : Int) := i64_id _ (by omega) (by omega)
  have h48 : ¬ (281474976710656 < (m : Int)) := by omega
  have hn : m ≠ 0 := by omega
  have h63' : ¬ (9223372036854775807 < (m : Int)) := by omega
  have h48' : ¬ (281474976710656 < Builtin.nextslicecap m 0) := by rw [nextslicecap_zero h0]; omega
  simp [Builtin.append_, run_underlying Tryd.underlying32, run_underlying Tryd.underlying3, sizeOf, typeInfo, zeroValue, hi, hz, hs, hby, hw, asInt, asIntOf, h48, hn, h63', h48', Question.forced, run_firstCells_none, newRow, grownCap, zeroCells_zer]
  intro h; omega
theorem run_zeros_grow (ty : TypeId) (b : Addr) (n cap m : Nat) (olds : List Value) (hlo : olds.length = n) (holds : ∀ j v, olds[j]? = some v → w.cell? (b.add j) = some v) (hg : cap < n + m) (hm : n + m ≤ 1000000) :
    (Builtin.append_ #[32, 3] ty #[.slice (some b) n cap, .int .i64 (m : Int)]).run Tryd.prog w =
      .ok (.slice (some ⟨w.heap.size, 0, none⟩) (n + m) (grownCap w (n + m) cap 5)) (w.drew.alloc (.cells (olds.toArray ++ (bs (zer m) ++ Builtin.zeroCells (Value.int .u8 0).cells (grownCap w (n + m) cap 5 - (n + m)))) 5)) := by
  obtain ⟨i, hi, hz, hs, hby⟩ := info_parts info_u8
  have hw : IntKind.i64.wrap (m : Int) = (m : Int) := i64_id _ (by omega) (by omega)
  have h48 : ¬ (281474976710656 < (m : Int)) := by omega
  have hn : ¬ (n + m ≤ cap) := by omega
  have h63' : ¬ (9223372036854775807 < ((n : Int) + (m : Int))) := by omega
  have h48' : ¬ (281474976710656 < Builtin.nextslicecap (n + m) cap) := by have := nextslicecap_le hg; omega
  have hfo := run_firstCells_some (P := Tryd.prog) w.drew 1 n b n cap olds (by omega) (by simpa using holds)
  by_cases h0 : m = 0
  · subst h0
    rw [show bs (zer 0) = #[] from rfl]
    simp only [Int.natCast_zero] at hw
    simp only [Nat.add_zero] at hn h48'
    have h63n : ¬ (9223372036854775807 < (n : Int)) := by omega
    simp [Builtin.append_, run_underlying Tryd.underlying32, run_underlying Tryd.underlying3, sizeOf, typeInfo, zeroValue, hi, hz, hs, hby, hw, asInt, asIntOf, hn, h63n, h48', Question.forced, hfo, newRow, grownCap]
  · simp [Builtin.append_, run_underlying Tryd.underlying32, run_underlying Tryd.underlying3, sizeOf, typeInfo, zeroValue, hi, hz, hs, hby, hw, asInt, asIntOf, h48, h0, hn, h63', h48', Question.forced, hfo, newRow, grownCap, zeroCells_zer]
    intro h; omega
theorem run_append_zeros (ty : TypeId) (base : Nat) (v : Value) (n : Nat) (xs : List Value) (hown : w.ownsRow base 5 1 v n xs) (m : Nat) (hm : n + m ≤ 1000000) (hbase : base ≤ w.heap.size) :
    ∃ v' w', (Builtin.append_ #[32, 3] ty #[v, .int .i64 (m : Int)]).run Tryd.prog w = .ok v' w' ∧ w'.ownsRow base 5 1 v' (n + m) (xs ++ bytesV (zer m)) ∧ w.grownBy w' v.ownBlock := by
  have hlz : (bytesV (zer m)).length = m := by simp [bytesV, zer]
  have hxl : xs.length = n := by simpa using hown.1
  have hlen : (xs ++ bytesV (zer m)).length = (n + m) * 1 := by rw [List.length_append, hxl, hlz, Nat.mul_one]
  have grown : ∀ (old : Nat), ∀ (row : Option Nat),
      (w.drew.alloc (.cells (xs.toArray ++ (bs (zer m) ++ Builtin.zeroCells (Value.int .u8 0).cells (grownCap w (n + m) old 5 - (n + m)))) 5)).ownsRow base 5 1
        (.slice (some ⟨w.heap.size, 0, none⟩) (n + m) (grownCap w (n + m) old 5)) (n + m) (xs ++ bytesV (zer m)) ∧
      w.grownBy (w.drew.alloc (.cells (xs.toArray ++ (bs (zer m) ++ Builtin.zeroCells (Value.int .u8 0).cells (grownCap w (n + m) old 5 - (n + m)))) 5)) row := by
    intro old row
    have hge := grownCap_ge w (n + m) old 5
    have hcm : grownCap w (n + m) old 5 ≤ maxLen := grownCap_le_maxLen w (n + m) old 5 (by unfold maxLen; omega)
    refine ⟨⟨hlen, .inr ⟨w.heap.size, _, _, rfl, hbase, heap_alloc_new w.drew _, hge, hcm, ?_, ?_⟩⟩, ⟨rfl, rfl, rfl, by simp, fun k hk _ => Below.heap_alloc w.drew _ k hk⟩⟩
    · simp only [Array.size_append, List.size_toArray, size_zeroCells, size_bs, length_zer, Value.cells, hxl]
      simp
      omega
    · simp only [Array.toList_append, bs_toList]
      rw [← List.append_assoc, ← hlen]
      exact List.take_left
  rcases hown.2 with ⟨rfl, rfl⟩ | ⟨g, cap, cur, rfl, hbg, hg, hnc, hcm, hcs, htake⟩
  · obtain rfl : xs = [] := List.length_eq_zero_iff.1 hxl
    by_cases h0 : m = 0
    · subst h0
      refine ⟨.slice none 0 0, w, ?_, World.ownsRow_nil w base _ _, ⟨rfl, rfl, rfl, Nat.le_refl _, fun _ _ _ => rfl⟩⟩
      obtain ⟨i, hi, _, _, hby⟩ := info_parts info_u8
      have hw : IntKind.i64.wrap 0 = 0 := i64_id _ (by omega) (by omega)
      simp [Builtin.append_, run_underlying Tryd.underlying32, run_underlying Tryd.underlying3, sizeOf, typeInfo, hi, hby, hw, asInt, asIntOf]
    · have hgr := grown 0 (Value.ownBlock (.slice none 0 0))
      have hr := run_zeros_nil w ty m (by omega) (by omega)
      simp only [Nat.zero_add, List.nil_append] at hgr ⊢
      rw [show (([] : List Value).toArray ++ (bs (zer m) ++ Builtin.zeroCells (Value.int .u8 0).cells (grownCap w m 0 5 - m))) = bs (zer m) ++ Builtin.zeroCells (Value.int .u8 0).cells (grownCap w m 0 5 - m) by simp] at hgr
      exact ⟨_, _, hr, hgr.1, hgr.2⟩
  · by_cases hroom : n + m ≤ cap
    · have hr := run_zeros_room w ty g n cap m cur hg hroom (by omega) (by omega)
      refine ⟨_, _, hr, ⟨hlen, .inr ⟨g, cap, _, rfl, hbg, setRow_heap w g cur _ _ _ hg, hroom, hcm, ?_, ?_⟩⟩, ⟨rfl, rfl, rfl, by simp, fun k _ hk => setRow_other w g k _ (fun e => hk (by simp [Value.ownBlock, e]))⟩⟩
      · simp only [List.size_toArray, List.length_append, List.length_take, List.length_drop, Array.length_toList, hlz]
        omega
      · rw [Nat.mul_one] at htake
        rw [htake, ← hlen]
        exact List.take_left
    · have hr := run_zeros_grow w ty ⟨g, 0, none⟩ n cap m xs hxl (hown.cells (g := g) rfl) (by omega) hm
      have hgr := grown cap (Value.ownBlock (.slice (some ⟨g, 0, none⟩) n cap))
      exact ⟨_, _, hr, hgr.1, hgr.2⟩
end
theorem wp_append_zeros {w : World} {o : Oper} {a : Act} {K : Act → World → Prop} {Q : Exit → Act → World → Prop} (s x : Operand)
    (ho : o.op = .call { callee := .builtin .append, args := #[s, x], argTypes := #[32, 3] }) (base : Nat)
    (v : Value) (n : Nat) (xs : List Value) (hs : a.eval s = v) (hown : w.ownsRow base 5 1 v n xs) (M : Int) (m : Nat) (hx : a.eval x = .int .i64 M) (hM : M = (m : Int))
    (hnm : n + m ≤ 1000000) (hbase : base ≤ w.heap.size)
    (h : ∀ v' w', w'.ownsRow base 5 1 v' (n + m) (xs ++ bytesV (zer m)) → Below base w w' → K (a.put o.dst v') w') : o.wp Tryd.prog a w K Q := by
  subst hM
  obtain ⟨v', w', hr, h2, h3⟩ := run_append_zeros w o.type base v n xs hown m hnm hbase
  unfold Oper.wp execOp
  simp only [ho, resolve, invoke, builtin, Sem.run_bind, Sem.run_pure, Result.andThen_ok, List.map_toArray, List.map_cons, List.map_nil, hs, hx, hr]
  exact h v' w' h2 (below_of_grown h3 (fun g hg => (hown.lt g hg).1) hbase)
theorem wpList_append_zeros {w : World} {ops : Array Oper} {rest : List Oper} {o : Oper} {a : Act} {Q : Exit → Act → World → Prop} (hgd : o.guard = none) (s x : Operand)
    (ho : o.op = .call { callee := .builtin .append, args := #[s, x], argTypes := #[32, 3] }) (base : Nat)
    (v : Value) (n : Nat) (xs : List Value) (hs : a.eval s = v) (hown : w.ownsRow base 5 1 v n xs) (M : Int) (m : Nat) (hx : a.eval x = .int .i64 M) (hM : M = (m : Int))
    (hnm : n + m ≤ 1000000) (hbase : base ≤ w.heap.size)
    (h : ∀ v' w', w'.ownsRow base 5 1 v' (n + m) (xs ++ bytesV (zer m)) → Below base w w' → wpList Tryd.prog ops Q rest (a.put o.dst v') w') : wpList Tryd.prog ops Q (o :: rest) a w := by
  subst hM
  refine wpList_plain hgd fun K hK => ?_
  obtain ⟨v', w', hr, h2, h3⟩ := run_append_zeros w o.type base v n xs hown m hnm hbase
  unfold Oper.wp execOp
  simp only [ho, resolve, invoke, builtin, Sem.run_bind, Sem.run_pure, Result.andThen_ok, List.map_toArray, List.map_cons, List.map_nil, hs, hx, hr]
  exact hK _ _ (h v' w' h2 (below_of_grown h3 (fun g hg => (hown.lt g hg).1) hbase))
end Go.Proofs.YtobklbfcnbmnmaaDoor

/- A sector of one byte, as the program has it. -/
set_option maxRecDepth 4000
namespace Go.Proofs.YtobklbfcnbmnmaaDoor
open Go Go.RowKit
def blk (x : BitVec 8) : List (BitVec 8) := List.replicate 32 x
theorem length_blk (x : BitVec 8) : (blk x).length = 32 := by simp [blk]
theorem size_blk : (Tryd.prog.info? 29).map (·.size) = some 32 := by kernel_rfl
theorem zeros_blk : (#[.int .u8 0, .int .u8 0, .int .u8 0, .int .u8 0, .int .u8 0, .int .u8 0, .int .u8 0, .int .u8 0, .int .u8 0, .int .u8 0, .int .u8 0, .int .u8 0, .int .u8 0, .int .u8 0, .int .u8 0, .int .u8 0, .int .u8 0, .int .u8 0, .int .u8 0, .int .u8 0, .int .u8 0, .int .u8 0, .int .u8 0, .int .u8 0, .int .u8 0, .int .u8 0, .int .u8 0, .int .u8 0, .int .u8 0, .int .u8 0, .int .u8 0, .int .u8 0] : Array Value) = bs (blk 0#8) := by rfl
end Go.Proofs.YtobklbfcnbmnmaaDoor

/- Two arrays of integers: what their comparison tells. -/
set_option maxRecDepth 4000
namespace Go.Proofs.YtobklbfcnbmnmaaDoor
open Go
theorem forIn_until {P : Program} {w : World} {β : Type} (b r : β) (f : Nat → β → Sem (ForInStep β)) (p : Nat → Bool) : ∀ l : List Nat, (∀ i ∈ l, (f i b).run P w = .ok (if p i then .yield b else .done r) w) → (forIn l b f).run P w = .ok (if l.all p then b else r) w
  | [], _ => by simp [Sem.run_pure]
  | i :: l, h => by
    simp only [List.forIn_cons, Sem.run_bind, h i (by simp), Result.andThen]
    cases hp : p i with
    | true =>
      simp only [List.all_cons, hp, Bool.true_and, if_true]
      exact forIn_until b r f p l fun j hj => h j (by simp [hj])
    | false => simp [List.all_cons, hp, Sem.run_pure]
theorem equal_ints {P : Program} (w : World) (d : Nat) (t e : TypeId) (k : IntKind) (n : Nat) (xs ys : Array Value) (f g : Nat → Int) (ht : P.underlying t = some (.array n e)) (he : P.underlying e = some (.int k)) (hs : (P.info? e).map (·.size) = some 1)
    (hx : ∀ i, i < n → xs[i]? = some (.int k (f i))) (hy : ∀ i, i < n → ys[i]? = some (.int k (g i))) : (Op.equalIn (d + 2) t (.agg xs) (.agg ys)).run P w = .ok ((List.range n).all fun i => f i == g i) w := by
  obtain ⟨i0, hi, hs⟩ := Option.map_eq_some_iff.1 hs
  have hsz : (sizeOf e).run P w = .ok 1 w := by simp [sizeOf, typeInfo, hi, hs]
  rw [show Op.equalIn (d + 2) t (.agg xs) (.agg ys) = Op.equalIn ((d + 1) + 1) t (.agg xs) (.agg ys) from rfl]
  unfold Op.equalIn
  simp only [Sem.run_bind, run_underlying ht, Result.andThen_ok, hsz]
  rw [Std.Legacy.Range.forIn_eq_forIn_range', forIn_until (p := fun i => f i == g i) (r := ⟨some false, ()⟩)]
  · have e1 : (List.range' 0 (Std.Legacy.Range.size [:n]) 1).all (fun i => f i == g i) = (List.range n).all fun i => f i == g i := by
      rw [List.range_eq_range']; simp [Std.Legacy.Range.size]
    simp only [e1]
    cases (List.range n).all fun i => f i == g i <;> simp [Sem.run_pure]
  · intro i hi
    have hin : i < n := by simp [Std.Legacy.Range.size] at hi; omega
    have hp : (Go.part e xs (i * 1)).run P w = .ok (.int k (f i)) w := by simp [Go.part, isAgg, run_underlying he, hx i hin]
    have hq : (Go.part e ys (i * 1)).run P w = .ok (.int k (g i)) w := by simp [Go.part, isAgg, run_underlying he, hy i hin]
    simp only [Sem.run_bind, hp, hq, Result.andThen_ok, run_equalIn_int w d e k k (f i) (g i) he]
    cases f i == g i <;> simp
theorem equal_bytesD (d : Nat) (t : TypeId) (n : Nat) (p q : List (BitVec 8)) (hp : p.length = n) (hq : q.length = n) (ht : Tryd.prog.underlying t = some (.array n 5)) (w : World) : (Op.equalIn (d + 2) t (.agg (bs p)) (.agg (bs q))).run Tryd.prog w = .ok (decide (p = q)) w := by
  rw [equal_ints w d t 5 .u8 n (bs p) (bs q) (fun i => bd (p.getD i 0)) (fun i => bd (q.getD i 0)) ht Tryd.underlying5 size_u8 (fun i hi => get_bs p i (by omega)) (fun i hi => get_bs q i (by omega))]
  congr 1
  by_cases h : p = q
  · subst h; simp
  · rw [decide_eq_false h, ← Bool.not_eq_true, List.all_eq_true]
    intro hall
    refine h (List.ext_getElem (by omega) fun i h1 h2 => ?_)
    have := hall i (List.mem_range.2 (by omega))
    simp [h1, h2] at this
    exact bd_inj this
theorem equal_bytes (t : TypeId) (n : Nat) (p q : List (BitVec 8)) (hp : p.length = n) (hq : q.length = n) (ht : Tryd.prog.underlying t = some (.array n 5)) (w : World) : (Op.equalIn 10000 t (.agg (bs p)) (.agg (bs q))).run Tryd.prog w = .ok (decide (p = q)) w := by
  rw [equal_ints w 9998 t 5 .u8 n (bs p) (bs q) (fun i => bd (p.getD i 0)) (fun i => bd (q.getD i 0)) ht Tryd.underlying5 size_u8 (fun i hi => get_bs p i (by omega)) (fun i hi => get_bs q i (by omega))]
  congr 1
  by_cases h : p = q
  · subst h; simp
  · rw [decide_eq_false h, ← Bool.not_eq_true, List.all_eq_true]
    intro hall
    refine h (List.ext_getElem (by omega) fun i h1 h2 => ?_)
    have := hall i (List.mem_range.2 (by omega))
    simp [h1, h2] at this
    exact bd_inj this
end Go.Proofs.YtobklbfcnbmnmaaDoor

/- Two sectors compared. -/
set_option maxRecDepth 4000
namespace Go.Proofs.YtobklbfcnbmnmaaDoor
open Go Go.RowKit
theorem eql_blk (p q : List (BitVec 8)) (hp : p.length = 32) (hq : q.length = 32) (w : World) : (Op.equalIn 10000 29 (.agg (bs p)) (.agg (bs q))).run Tryd.prog w = .ok (decide (p = q)) w := equal_bytes _ 32 p q hp hq Tryd.underlying29 w
end Go.Proofs.YtobklbfcnbmnmaaDoor

/- Literals of bytes in a region that is walked by what each operation yields. -/
set_option maxRecDepth 4000
namespace Go.Proofs.YtobklbfcnbmnmaaDoor
open Go Go.RowKit
theorem run_conv_lit (w : World) (g n c : Nat) (C : Array Value) (fr : Nat × Nat) (hg : w.heap[g]? = some (.cells C 5 fr)) :
    ∃ w', (convert 32 32 (.slice (some ⟨g, 0, none⟩) n c)).run Tryd.prog w = .ok (.slice (some ⟨g, 0, none⟩) n c) w' ∧ ∀ B, B ≤ g → Keeps B w w' := by
  have hsh : w.shape? g = some (5, C.size) := by unfold World.shape?; rw [hg]
  refine ⟨w.freeze ⟨g, C.size, none⟩ 1, by simp [convert, run_underlying Tryd.underlying32, run_underlying Tryd.underlying5, markStringish, hsh], fun B hB => ⟨⟨rfl, rfl, rfl, by simp [World.freeze], fun k hk => ?_⟩, fun k cs t fr' hk => ?_⟩⟩
  · simp only [World.freeze, if_neg (show ¬ (1 = 0) by decide), Array.getElem?_modify]
    rw [if_neg (by omega)]
  · simp only [World.freeze, if_neg (show ¬ (1 = 0) by decide), Array.getElem?_modify]
    by_cases hkg : g = k
    · subst hkg
      rw [if_pos rfl, hk]
      exact ⟨_, rfl⟩
    · rw [if_neg hkg]; exact ⟨fr', hk⟩
section
variable {o : Oper} {a : Act} {w : World} {R : Value → World → Prop}
theorem does_conv {B t : Nat} {v : Value} {q : List (BitVec 8)} (ho : o.op = .convert 32 32 (.tmp t)) (ht : a.tmps[t]? = some v) (hv : lit B q v w) (h : ∀ w', Keeps B w w' → lit B q v w' → R v w') : Does Tryd.prog o a w R := by
  obtain ⟨g, fr, rfl, hB, hg⟩ := hv
  obtain ⟨w', hr, hk⟩ := run_conv_lit w g q.length q.length _ fr hg
  obtain ⟨fr', h'⟩ := (hk B hB).rows _ _ _ _ hg
  refine does_run (w' := w') (v := .slice (some ⟨g, 0, none⟩) q.length q.length) ?_ (h w' (hk B hB) ⟨g, fr', rfl, hB, h'⟩)
  simp only [execOp, ho, eval_of_get ht, Sem.run_bind, hr, Result.andThen_ok, Sem.run_pure]
end
theorem lit_new {B : Nat} (w : World) (q : List (BitVec 8)) (hB : B ≤ w.heap.size) : lit B q (.slice (some ⟨w.heap.size, 0, none⟩) q.length q.length) (w.alloc (.cells (bs q) 5)) := ⟨_, _, rfl, hB, heap_alloc_new w _⟩
end Go.Proofs.YtobklbfcnbmnmaaDoor

set_option maxRecDepth 4000
namespace Go.Proofs.YtobklbfcnbmnmaaDoor
open Go Go.RowKit
def str (q : List (BitVec 8)) : ByteArray := strOfNums (q.map bd)
theorem keep_conv {w : World} {v : Value} {q : List (BitVec 8)} (h : Slice w v q) : (convert 32 9 v).run Tryd.prog w = .ok (.string (str q)) w := by
  obtain ⟨A, c, rfl, _, h3⟩ := h
  by_cases hq : q = []
  · subst hq
    cases A with
    | none => exact run_convert_bytes_nil w 32 5 Tryd.underlying32 Tryd.underlying5 0 c 9 Tryd.underlying9
    | some a =>
      have hl : (loadCells a 0).run Tryd.prog w = .ok ((([] : List Int).map (Value.int .u8)).toArray) w := run_loadCells_list (P := Tryd.prog) w a [] (fun j v hv => by simp at hv)
      exact (run_convert_bytes_string w 32 9 5 (some a) 0 c Tryd.underlying32 Tryd.underlying5 Tryd.underlying9).trans (run_bytesToString w a 0 c [] hl)
  · obtain ⟨b, o, rfl, _, hc⟩ := h3 hq
    refine run_convert_bytes_arg w 32 5 Tryd.underlying32 Tryd.underlying5 b o q.length c (q.map bd) (by simp) (fun i hi => ?_) 9 Tryd.underlying9
    rw [hc i q[i] (List.getElem?_eq_getElem hi)]
    simp [hi]
theorem keep_true (a b : Value) (q : List (BitVec 8)) (w : World) (ha : Slice w a q) (hb : Slice w b q) :
    Calls Tryd.prog 12 #[a, b] w fun e w' => e = .returned (.bool true) ∧ w = w' := by
  have e1 := keep_conv ha
  have e2 := keep_conv hb
  clear ha hb
  generalize str q = s at *
  go_enter Tryd.func12, Tryd.ntmps12
  go_wp2
  go_ret
  simp
end Go.Proofs.YtobklbfcnbmnmaaDoor

/- Strings of bytes compared. -/
set_option maxRecDepth 4000
namespace Go.Proofs.YtobklbfcnbmnmaaDoor
open Go Go.RowKit
theorem str_inj {p q : List (BitVec 8)} (h1 : (str p).data.toList = (str q).data.toList) : p = q := by
  unfold str at h1
  rw [strOfNums_data, strOfNums_data, List.map_map, List.map_map] at h1
  refine (List.map_inj_right ?_).1 h1
  intro x y hxy
  simp only [Function.comp] at hxy
  have hx := bd_lo x; have hx' := bd_hi x; have hy := bd_lo y; have hy' := bd_hi y
  apply bd_inj
  have h2 := congrArg UInt8.toNat hxy
  simp only [UInt8.toNat_ofNat'] at h2
  omega
theorem keepb_any (a b : Value) (p q : List (BitVec 8)) (w : World) (ha : Slice w a p) (hb : Slice w b q) :
    Calls Tryd.prog 12 #[a, b] w fun e w' => e = .returned (.bool (decide (p = q))) ∧ w = w' := by
  have e1 := keep_conv ha
  have e2 := keep_conv hb
  have HE : Hid (((str p).toList == (str q).toList) = decide (p = q)) := Lib.hid (by
    rw [ByteArray.toList_eq, ByteArray.toList_eq]
    by_cases h : p = q
    · subst h; rw [decide_eq_true rfl]; exact beq_self_eq_true _
    · rw [decide_eq_false h]
      exact beq_eq_false_iff_ne.2 fun e => h (str_inj e))
  clear ha hb
  generalize str p = s at *
  generalize str q = t at *
  go_enter Tryd.func12, Tryd.ntmps12
  go_wp2
  go_ret
  exact ⟨congrArg (fun b => Ending.returned (.bool b)) HE.out, rfl⟩
end Go.Proofs.YtobklbfcnbmnmaaDoor

/- The document's names: Good, Pad, Cut. -/
set_option maxRecDepth 4000
namespace Go.Proofs.YtobklbfcnbmnmaaDoor
open Go Go.RowKit
attribute [local go_sem] strB_size
set_option maxHeartbeats 1600000 in
theorem refgoodn_any (l : List (List (BitVec 8))) (v : Value) (w : World) (hv : Strs w v l) (hl : l.length ≤ maxLen) :
    Calls Tryd.prog 20 #[v] w fun e w' => e = .returned (.bool (goodNs l)) ∧ w = w' := by
  obtain ⟨A, c, rfl⟩ : ∃ A c, v = .slice A l.length c := by obtain ⟨A, c, h, _⟩ := hv; exact ⟨A, c, h⟩
  obtain ⟨n, hn⟩ : ∃ n, l.length = n := ⟨_, rfl⟩
  have HN := Lib.hid hn
  have HM : Hid (∀ q ∈ l, q.length ≤ maxLen) := Lib.hid (by obtain ⟨_, _, _, _, _, hm, _⟩ := hv; exact hm)
  rw [hn] at hv hl ⊢
  have HV := Lib.hid hv
  unfold maxLen at hl
  obtain ⟨G, hG⟩ : ∃ G, goodNs l = G := ⟨_, rfl⟩
  have HY : Hid ((∀ j < n, goodN (l.getD j []) = true) → G = true) := Lib.hid fun h => by rw [← hG]; exact good_all (by rw [hn]; exact h)
  have HNO : Hid (∀ j < n, goodN (l.getD j []) = false → G = false) := Lib.hid fun j hj h => by rw [← hG]; exact good_no (by rw [hn]; exact hj) h
  rw [hG]
  clear hn hG hv
  go_enter Tryd.func20, Tryd.ntmps20
  go_wp2_with fail
  go_loopw [3] (fun i wr => ∃ k : Nat, k ≤ n ∧ i = .int .i64 k ∧ (∀ j < k, goodN (l.getD j []) = true) ∧ wr = w) (fun i _ => n - (intOf i).toNat)
  case atStart => exact ⟨0, by omega, rfl, fun j hj => by omega, rfl⟩
  case round =>
    obtain ⟨k, hk, rfl, hok, rfl⟩ := hrel
    have HOK := Lib.hid hok
    clear hok
    by_cases hlt : k < n
    · obtain ⟨q, hx⟩ : ∃ x, l[k]? = some x := ⟨_, List.getElem?_eq_getElem (by rw [HN.out]; exact hlt)⟩
      have HQD : Hid (l.getD k [] = q) := Lib.hid (by rw [List.getD_eq_getElem?_getD, hx]; rfl)
      have HQM : Hid (q.length ≤ maxLen) := Lib.hid (HM.out q (List.mem_of_getElem? hx))
      obtain ⟨b, o, rfl, hbw, hcell⟩ := strs_at HV.out hx
      obtain ⟨m, hm⟩ : ∃ m, q.length = m := ⟨_, rfl⟩
      have hk0 : (0 : Int) ≤ (k : Int) := by omega
      have hk1 : (k : Int) < (n : Int) := by omega
      have hkd : decide ((k : Int) < (n : Int)) = true := decide_eq_true hk1
      have HQ4 : Hid (goodN q = (decide (1 ≤ m) && decide (m ≤ 4) && q.all letter)) := Lib.hid (by rw [← hm]; rfl)
      clear hx hbw
      by_cases h1 : m < 1
      · have hd1 : decide ((m : Int) < 1) = true := decide_eq_true (by omega)
        have hG : G = false := HNO.out k hlt (by rw [HQD.out, HQ4.out, decide_eq_false (by omega)]; rfl)
        go_wp2_with fail
        go_ret
        first | exact ⟨rfl, rfl⟩ | (rw [hG]; exact ⟨rfl, rfl⟩)
      have hd1 : decide ((m : Int) < 1) = false := decide_eq_false (by omega)
      by_cases h4 : 4 < m
      · have hd2 : decide ((4 : Int) < (m : Int)) = true := decide_eq_true (by omega)
        have hG : G = false := HNO.out k hlt (by rw [HQD.out, HQ4.out, decide_eq_false (show ¬ m ≤ 4 by omega), Bool.and_false]; rfl)
        go_wp2_with fail
        go_ret
        first | exact ⟨rfl, rfl⟩ | (rw [hG]; exact ⟨rfl, rfl⟩)
      have hd2 : decide ((4 : Int) < (m : Int)) = false := decide_eq_false (by omega)
      have HQ5 : Hid (goodN q = q.all letter) := Lib.hid (by rw [HQ4.out, decide_eq_true (by omega), decide_eq_true (by omega)]; rfl)
      have HML : Hid (q.length = m) := Lib.hid hm
      have HG0 : Hid (goodN q = false → G = false) := Lib.hid fun h => HNO.out k hlt (by rw [HQD.out, h])
      have HIX : Hid (∀ w (j : Nat), j < m → (Instr.index 9 (.string (strB q)) (.int .i64 (j : Int))).run Tryd.prog w = .ok (.int .u8 (bd (q.getD j 0#8))) w) := Lib.hid fun w j hj => run_ix w 9 q .i64 j Tryd.underlying9 (by rw [hm]; exact hj)
      have hw : IntKind.i64.wrap ((k : Int) + 1) = ((k + 1 : Nat) : Int) := by rw [i64_id _ (by omega) (by omega)]; omega
      go_wp2_with fail
      clear hd1 hd2
      go_loopw [4] (fun i ws => ∃ j : Nat, j ≤ m ∧ i = .int .i64 j ∧ (∀ s < j, letter (q.getD s 0#8) = true) ∧ ws = wr) (fun i _ => m - (intOf i).toNat)
      case atStart => exact ⟨0, by omega, rfl, fun j hj => by omega, rfl⟩
      case round =>
        obtain ⟨j, hj, rfl, hok, rfl⟩ := hrel
        have HOJ := Lib.hid hok
        clear hok
        by_cases hjm : j < m
        · have hix := fun w => HIX.out w j hjm
          have hj0 : decide ((j : Int) < (m : Int)) = true := decide_eq_true (by omega)
          have hj1 : (j : Int) < (m : Int) := by omega
          have hj2 : (0 : Int) ≤ (j : Int) := by omega
          obtain ⟨x, hx⟩ : ∃ x, q.getD j 0#8 = x := ⟨_, rfl⟩
          have HX := Lib.hid hx
          rw [hx] at hix
          clear hx
          by_cases h97 : bd x < 97
          · have hd1 : decide (bd x < 97) = true := decide_eq_true h97
            have hG : G = false := HG0.out (by rw [HQ5.out]; exact all_no (by rw [HML.out]; exact hjm) (by rw [HX.out]; unfold letter; rw [decide_eq_false (by omega)]; rfl))
            go_wp2_with fail
            go_ret
            first | exact ⟨rfl, rfl⟩ | (rw [hG]; exact ⟨rfl, rfl⟩)
          have hd1 : decide (bd x < 97) = false := decide_eq_false h97
          by_cases h122 : 122 < bd x
          · have hd2 : decide (122 < bd x) = true := decide_eq_true h122
            have hG : G = false := HG0.out (by rw [HQ5.out]; exact all_no (by rw [HML.out]; exact hjm) (by rw [HX.out]; unfold letter; rw [decide_eq_false (show ¬ bd x ≤ 122 by omega), Bool.and_false]))
            go_wp2_with fail
            go_ret
            first | exact ⟨rfl, rfl⟩ | (rw [hG]; exact ⟨rfl, rfl⟩)
          have hd2 : decide (122 < bd x) = false := decide_eq_false h122
          have hwj : IntKind.i64.wrap ((j : Int) + 1) = ((j + 1 : Nat) : Int) := by rw [i64_id _ (by omega) (by omega)]; omega
          go_wp2_with fail
          refine ⟨⟨j + 1, by omega, by go_num, fun s hs => ?_, trivial⟩, by simp [intOf]; omega⟩
          rcases Nat.lt_succ_iff_lt_or_eq.1 hs with h | h
          · exact HOJ.out s h
          · subst h; rw [HX.out]; unfold letter; rw [decide_eq_true (by omega), decide_eq_true (by omega)]; rfl
        · have hj0 : decide ((j : Int) < (m : Int)) = false := decide_eq_false (by omega)
          have HAL : Hid (q.all letter = true) := Lib.hid (all_of fun s hs => HOJ.out s (by rw [HML.out] at hs; omega))
          go_wp2_with fail
          refine ⟨⟨k + 1, by omega, by go_num, fun j hj => ?_, trivial⟩, by simp [intOf]; omega⟩
          rcases Nat.lt_succ_iff_lt_or_eq.1 hj with h | h
          · exact HOK.out j h
          · subst h; rw [HQD.out, HQ5.out]; exact HAL.out
    · have hkd : decide ((k : Int) < (n : Int)) = false := decide_eq_false (by omega)
      have hG : G = true := HY.out fun j hj => HOK.out j (by omega)
      go_wp2_with fail
      go_ret
      first | exact ⟨rfl, rfl⟩ | (rw [hG]; exact ⟨rfl, rfl⟩)
/- the first k bytes of a name laid -/
def padK (q : List (BitVec 8)) (k : Nat) : List (BitVec 8) := padN (q.take k)
theorem padK_zero (q : List (BitVec 8)) : padK q 0 = zer 4 := by unfold padK padN; rw [List.take_zero, List.nil_append, zer, List.take_replicate]; rfl
theorem padK_end (q : List (BitVec 8)) (k : Nat) (h : k = 4 ∨ q.length ≤ k) : padK q k = padN q := by
  rcases h with rfl | h
  · unfold padK padN
    rw [List.take_append, List.take_append, List.take_take, Nat.min_self, List.length_take]
    unfold zer
    rw [List.take_replicate, List.take_replicate]
    congr 2
    omega
  · unfold padK; rw [List.take_of_length_le h]
theorem padK_set (q : List (BitVec 8)) (k : Nat) (h : k < q.length) : (padK q k).set k (q.getD k 0#8) = padK q (k + 1) := by
  apply List.ext_getElem (by rw [List.length_set]; unfold padK; rw [length_padN, length_padN])
  intro i h1 h2
  have hi : i < 4 := by rw [List.length_set] at h1; unfold padK at h1; rw [length_padN] at h1; exact h1
  have g : ∀ k (hh : i < (padK q k).length), (padK q k)[i] = if i < k ∧ i < q.length then q.getD i 0#8 else 0#8 := fun k hh => by
    have e : padK q k = (q.take k ++ zer 4).take 4 := rfl
    rw [List.getElem_of_eq e, List.getElem_take]
    by_cases hc : i < k ∧ i < q.length
    · rw [if_pos hc, List.getElem_append_left (by rw [List.length_take]; omega), List.getElem_take, List.getD_eq_getElem?_getD, List.getElem?_eq_getElem hc.2]; rfl
    · rw [if_neg hc, List.getElem_append_right (by rw [List.length_take]; omega)]
      exact List.getElem_replicate ..
  rw [List.getElem_set, g _ (by simpa using h1), g]
  by_cases e : k = i
  · subst e; rw [if_pos rfl, if_pos ⟨by omega, h⟩]
  · rw [if_neg e]
    by_cases hc : i < k ∧ i < q.length
    · rw [if_pos hc, if_pos ⟨by omega, hc.2⟩]
    · rw [if_neg hc, if_neg (by omega)]
set_option maxHeartbeats 800000 in
theorem refpad_any (q : List (BitVec 8)) (w : World) (hm : q.length ≤ maxLen) :
    Calls Tryd.prog 21 #[.string (strB q)] w fun e w' => e = .returned (.agg (bs (padN q))) ∧ Below w.heap.size w w' := by
  obtain ⟨n, hn⟩ : ∃ n, q.length = n := ⟨_, rfl⟩
  have HN := Lib.hid hn
  have HMM := Lib.hid hm
  have HIX : Hid (∀ w (j : Nat), j < n → (Instr.index 9 (.string (strB q)) (.int .i64 (j : Int))).run Tryd.prog w = .ok (.int .u8 (bd (q.getD j 0#8))) w) := Lib.hid fun w j hj => run_ix w 9 q .i64 j Tryd.underlying9 (by rw [hn]; exact hj)
  have HS := St.nil w noF
  clear hm
  go_enter Tryd.func21, Tryd.ntmps21
  go_upto_region 3 with (first | ((with_reducible refine wpList_plain ?_ ?_); exact rfl; intro KK hKK; refine wp_st_alloc HS 50 (bs (zer 4)) rfl (.agg (bs (zer 4))) (by kernel_rfl) (rfl) (fun g2 W1 HSx => hKK _ _ ?_); clear hKK KK HS; have HS : St w noF [⟨g2, 50, bs (zer 4)⟩] W1 := HSx; clear HSx) | ((with_reducible refine wpList_plain ?_ ?_); exact rfl; intro KK hKK; refine wp_st_alloc HS 50 (bs (zer 4)) rfl (.agg (bs (zer 4))) (by kernel_rfl) (rfl) (fun g3 W2 HSx => hKK _ _ ?_); clear hKK KK HS; have HS : St w noF [⟨g2, 50, bs (zer 4)⟩, ⟨g3, 50, bs (zer 4)⟩] W2 := HSx; clear HSx))
  go_loopw [4] (fun i wr => ∃ k : Nat, k ≤ 4 ∧ k ≤ n ∧ i = .int .i64 k ∧ St w noF [⟨g2, 50, bs (zer 4)⟩, ⟨g3, 50, bs (padK q k)⟩] wr) (fun i _ => 4 - (intOf i).toNat)
  case atStart => exact ⟨0, by omega, by omega, rfl, by rw [padK_zero]; exact HS⟩
  case round =>
    clear HS
    obtain ⟨k, hk4, hkn, rfl, HS⟩ := hrel
    by_cases h4 : k < 4
    · have hd4 : decide ((k : Int) < 4) = true := decide_eq_true (by omega)
      by_cases hlt : k < n
      · have hdn : decide ((k : Int) < (n : Int)) = true := decide_eq_true (by omega)
        have hix := fun w => HIX.out w k hlt
        have hk0 : (0 : Int) ≤ (k : Int) := by omega
        have hk1 : (k : Int) < 4 := by omega
        have hw : IntKind.i64.wrap ((k : Int) + 1) = ((k + 1 : Nat) : Int) := by rw [i64_id _ (by omega) (by omega)]; omega
        have HPS := Lib.hid (padK_set q k (by rw [HN.out]; exact hlt))
        obtain ⟨x, hx⟩ : ∃ x, q.getD k 0#8 = x := ⟨_, rfl⟩
        rw [hx] at hix HPS
        clear hx
        have HFIT : Hid (k < (bs (padK q k)).size) := Lib.hid (by rw [size_bs]; unfold padK; rw [length_padN]; exact h4)
        go_wp2_with (first | ((with_reducible refine wpList_plain ?_ ?_); exact rfl; intro KK hKK; refine wp_st_put HS 1 k 5 (.tmp 19) (.tmp 18) rfl rfl rfl (.int .u8 (bd x)) rfl (by kernel_rfl) rfl rfl (HFIT.out) (bs (padK q (k + 1))) ((set_bs _ _ _).trans (congrArg bs HPS.out)) (fun W3 HSx => hKK _ _ ?_); clear hKK KK HS; have HS : St w noF [⟨g2, 50, bs (zer 4)⟩, ⟨g3, 50, bs (padK q (k + 1))⟩] W3 := HSx; clear HSx))
        exact ⟨⟨k + 1, by omega, by omega, by go_num, HS⟩, by simp [intOf]; omega⟩
      · have hdn : decide ((k : Int) < (n : Int)) = false := decide_eq_false (by omega)
        have HE := Lib.hid (padK_end q k (.inr (by rw [HN.out]; omega)))
        rw [HE.out] at HS
        go_wp2_with (first | ((with_reducible refine wpList_plain ?_ ?_); exact rfl; intro KK hKK; refine wp_st_load HS 1 0 50 (.tmp 3) rfl rfl rfl (bs (padN q)) (slab_whole _) _ Tryd.underlying50 rfl (by rw [size_bs, length_padN]; exact size_b4) (hKK _ _ ?_); clear hKK KK) | ((with_reducible refine wpList_plain ?_ ?_); exact rfl; intro KK hKK; refine wp_st_store HS 0 0 50 (.tmp 2) (.tmp 20) rfl rfl rfl (.agg (bs (padN q))) rfl (by rw [show Value.cells (.agg (bs (padN q))) = bs (padN q) from rfl, size_bs, length_padN]; exact size_b4) (by rw [show Value.cells (.agg (bs (padN q))) = bs (padN q) from rfl, size_bs, length_padN, size_bs, length_zer]; decide) (by exact one_bs _) (bs (padN q)) (spl_agg _ _ _ rfl (by rw [size_bs, size_bs, length_padN, length_zer])) (fun W4 HSx => hKK _ _ ?_); clear hKK KK HS; have HS : St w noF [⟨g2, 50, bs (padN q)⟩, ⟨g3, 50, bs (padN q)⟩] W4 := HSx; clear HSx))
        exact bodyPost_ret (v := .agg (bs (padN q))) (results_cell_row Tryd.results21 _ _ g2 50 (bs (padN q)) (0, 0) _ rfl (HS.row 0 rfl) Tryd.underlying50 rfl (by rw [size_bs, length_padN]; exact size_b4)) rfl ⟨rfl, HS.below⟩
    · have hd4 : decide ((k : Int) < 4) = false := decide_eq_false (by omega)
      have HE := Lib.hid (padK_end q k (.inl (by omega)))
      rw [HE.out] at HS
      go_wp2_with (first | ((with_reducible refine wpList_plain ?_ ?_); exact rfl; intro KK hKK; refine wp_st_load HS 1 0 50 (.tmp 3) rfl rfl rfl (bs (padN q)) (slab_whole _) _ Tryd.underlying50 rfl (by rw [size_bs, length_padN]; exact size_b4) (hKK _ _ ?_); clear hKK KK) | ((with_reducible refine wpList_plain ?_ ?_); exact rfl; intro KK hKK; refine wp_st_store HS 0 0 50 (.tmp 2) (.tmp 20) rfl rfl rfl (.agg (bs (padN q))) rfl (by rw [show Value.cells (.agg (bs (padN q))) = bs (padN q) from rfl, size_bs, length_padN]; exact size_b4) (by rw [show Value.cells (.agg (bs (padN q))) = bs (padN q) from rfl, size_bs, length_padN, size_bs, length_zer]; decide) (by exact one_bs _) (bs (padN q)) (spl_agg _ _ _ rfl (by rw [size_bs, size_bs, length_padN, length_zer])) (fun W4 HSx => hKK _ _ ?_); clear hKK KK HS; have HS : St w noF [⟨g2, 50, bs (padN q)⟩, ⟨g3, 50, bs (padN q)⟩] W4 := HSx; clear HSx))
      exact bodyPost_ret (v := .agg (bs (padN q))) (results_cell_row Tryd.results21 _ _ g2 50 (bs (padN q)) (0, 0) _ rfl (HS.row 0 rfl) Tryd.underlying50 rfl (by rw [size_bs, length_padN]; exact size_b4)) rfl ⟨rfl, HS.below⟩
end Go.Proofs.YtobklbfcnbmnmaaDoor

/- bytes.Equal, over texts (XStr). -/
set_option maxRecDepth 4000
namespace Go.Proofs.YtobklbfcnbmnmaaDoor
open Go Go.RowKit
set_option maxHeartbeats 400000 in
theorem equal_any (p q : List (BitVec 8)) (v u : Value) (w : World) (hp : Slice w v p) (hq : Slice w u q) :
    Calls Tryd.prog 24 #[v, u] w fun e w' => e = .returned (.bool (decide (p = q))) ∧ w = w' := by
  have h1 := conv_bytes hp 9 Tryd.underlying9
  have h2 := conv_bytes hq 9 Tryd.underlying9
  have hd : ((strB p).toList == (strB q).toList) = decide (p = q) := by
    rw [ByteArray.toList_eq, ByteArray.toList_eq]
    by_cases h : p = q
    · subst h; rw [decide_eq_true rfl]; exact beq_self_eq_true _
    · rw [decide_eq_false h]
      refine beq_eq_false_iff_ne.2 fun e => h (strB_inj ?_)
      have e2 : (strB p).data = (strB q).data := Array.toList_inj.1 e
      generalize strB p = a at *
      generalize strB q = b at *
      cases a; cases b; simp only at e2; rw [e2]
  generalize strB p = a at *
  generalize strB q = b at *
  clear hp hq
  go_enter Tryd.func24, Tryd.ntmps24
  go_wp2_with fail
  go_ret
  exact ⟨rfl, rfl⟩
end Go.Proofs.YtobklbfcnbmnmaaDoor

/- The document's name of four bytes. -/
set_option maxRecDepth 4000
namespace Go.Proofs.YtobklbfcnbmnmaaDoor
open Go Go.RowKit
attribute [local go_sem] strB_size
def nmC (s : List (BitVec 8)) (b : Bool) : Array Value := #[.string (strB s), .bool b]
theorem nm_zero : (#[.string ⟨#[]⟩, .bool false] : Array Value) = nmC [] false := by unfold nmC; rw [str_lit0]
theorem one_nm (s : List (BitVec 8)) (b : Bool) : (Value.agg (nmC s b)).cells.all (·.oneCell') = true := by
  rw [Array.all_eq_true_iff_forall_mem]; intro v hv
  have : v ∈ #[Value.string (strB s), Value.bool b] := hv
  simp only [List.mem_toArray, List.mem_cons, List.mem_nil_iff, or_false] at this
  rcases this with rfl | rfl <;> rfl
theorem size_nm : (Tryd.prog.info? 64).map (·.size) = some 2 := by kernel_rfl
theorem neq_b4 (p q : List (BitVec 8)) (hp : p.length = 4) (hq : q.length = 4) (w : World) : (Op.equalIn 10000 50 (.agg (bs p)) (.agg (bs q))).run Tryd.prog w = .ok (decide (p = q)) w := equal_bytes _ 4 p q hp hq Tryd.underlying50 w
theorem first_take {b : List (BitVec 8)} {k : Nat} (hk : k ≤ b.length) (h : ∀ j < k, ¬ b.getD j 0#8 = 0#8) (h0 : k = b.length ∨ b.getD k 0#8 = 0#8) : firstZ b = b.take k := by
  have e : b = b.take k ++ b.drop k := (List.take_append_drop k b).symm
  unfold firstZ
  conv => lhs; rw [e]
  rw [List.takeWhile_append_of_pos]
  · have : (b.drop k).takeWhile (fun x => decide (x ≠ 0#8)) = [] := by
      rcases h0 with rfl | h0
      · rw [List.drop_length]; rfl
      · by_cases hl : k < b.length
        · rw [List.drop_eq_getElem_cons hl, List.takeWhile_cons_of_neg]
          rw [List.getD_eq_getElem?_getD, List.getElem?_eq_getElem hl] at h0
          simpa using h0
        · rw [List.drop_of_length_le (by omega)]; rfl
    rw [this, List.append_nil]
  · intro x hx
    obtain ⟨j, hj, rfl⟩ := List.getElem_of_mem hx
    rw [List.length_take] at hj
    have := h j (by omega)
    rw [List.getD_eq_getElem?_getD, List.getElem?_eq_getElem (by omega)] at this
    rw [List.getElem_take]
    simpa using this
set_option maxRecDepth 20000 in
set_option maxHeartbeats 3200000 in
theorem refcutn_any (b : List (BitVec 8)) (w : World) (hl : b.length = 4) :
    Calls Tryd.prog 26 #[.agg (bs b)] w fun e w' => e = .returned (.agg (nmC (cutN b).1 (cutN b).2)) ∧ Below w.heap.size w w' := by
  rw [← cut_eq hl]
  have HL := Lib.hid hl
  have hnz := nm_zero
  have HS := St.nil w noF
  go_enter Tryd.func26, Tryd.ntmps26
  go_upto_region 2 with (first | ((with_reducible refine wpList_plain ?_ ?_); exact rfl; intro KK hKK; refine wp_st_box HS 50 (.tmp 0) rfl _ rfl (bs b) (rfl) (fun g1 W1 HSx => hKK _ _ ?_); clear hKK KK HS; have HS : St w noF [⟨g1, 50, bs b⟩] W1 := HSx; clear HSx) | ((with_reducible refine wpList_plain ?_ ?_); exact rfl; intro KK hKK; refine wp_st_alloc HS 64 (nmC [] false) rfl (.agg (nmC [] false)) (by kernel_rfl) (nm_zero) (fun g2 W2 HSx => hKK _ _ ?_); clear hKK KK HS; have HS : St w noF [⟨g1, 50, bs b⟩, ⟨g2, 64, nmC [] false⟩] W2 := HSx; clear HSx))
  go_loopw [3] (fun i wr => ∃ k : Nat, k ≤ 4 ∧ i = .int .i64 k ∧ (∀ j < k, ¬ b.getD j 0#8 = 0#8) ∧ wr = W2) (fun i _ => 4 - (intOf i).toNat)
  case atStart => exact ⟨0, by omega, rfl, fun j hj => by omega, rfl⟩
  case round =>
    obtain ⟨k, hk4, rfl, hnz', rfl⟩ := hrel
    have HNZ := Lib.hid hnz'
    clear hnz'
    by_cases h4 : k < 4
    · have hd4 : decide ((k : Int) < 4) = true := decide_eq_true (by omega)
      have hk0 : (0 : Int) ≤ (k : Int) := by omega
      have hk1 : (k : Int) < 4 := by omega
      obtain ⟨x, hx⟩ : ∃ x, b.getD k 0#8 = x := ⟨_, rfl⟩
      have hc : wr.cell? ⟨g1, k, none⟩ = some (.int .u8 (bd x)) := (HS.row 0 rfl).get ((get_bs b k (by rw [HL.out]; exact h4)).trans (congrArg (fun y => some (Value.int .u8 (bd y))) hx))
      have HX := Lib.hid hx
      clear hx
      have hw : IntKind.i64.wrap ((k : Int) + 1) = ((k + 1 : Nat) : Int) := by rw [i64_id _ (by omega) (by omega)]; omega
      by_cases h0 : x = 0#8
      · have hb1 : (bd x == 0) = true := by rw [h0]; rfl
        have HF : Hid (firstZ b = b.take k) := Lib.hid (first_take (by rw [HL.out]; omega) HNZ.out (.inr (by rw [HX.out, h0])))
        clear h0
        obtain ⟨t, ht⟩ : ∃ t, b.take k = t := ⟨_, rfl⟩
        have HTL : Hid (t.length = k) := Lib.hid (by rw [← ht, List.length_take, HL.out]; omega)
        have hsl : Slice wr (.slice (some ⟨g1, 0, none⟩) k 4) t := by
          have := row_piece (HS.row 0 rfl) (off := 0) (n := k) (c := 4) (by rw [HL.out]; omega) hk4
          rwa [List.drop_zero, ht] at this
        have hcv := conv_bytes hsl 9 Tryd.underlying9
        have HR : Hid (cutR b = if (decide (padN t = b) && (decide (t = []) || goodN t)) then (t, true) else ([], false)) := Lib.hid (by unfold cutR okFirst; rw [HF.out, ht])
        have HM : Hid (t.length ≤ maxLen) := Lib.hid (by rw [HTL.out]; unfold maxLen; omega)
        have hk0 : (0 : Int) ≤ (k : Int) := by omega
        have hk4' : (k : Int) ≤ 4 := by omega
        clear ht hsl
        have HQ := Lib.hid (fun W => neq_b4 (padN t) b (length_padN t) HL.out W)
        go_upto_region 5 with fail
        clear HF
        clear hcv
        have hF0 : Wl [fun W => St w noF [⟨g1, 50, bs b⟩, ⟨g2, 64, nmC [] false⟩] W] 0 wr.drew := HS.drew
        by_cases hp : padN t = b
        case neg =>
          have HPD := Lib.hid (decide_eq_false hp)
          have HE : Hid (cutR b = ([], false)) := Lib.hid (by rw [HR.out, HPD.out]; rfl)
          clear hp HS
          refine wp_region_phs [is (.string (strB t)), is ((.agg (bs (padN t)))), is (.agg (bs b)), is (.bool true), is (.bool true), is undef, is undef, is undef, is undef, is undef, is undef, is undef, is undef, is (.bool true)] [true, true, true, true, true, true, true, true, true, true, true, true, true, true] [(fun W => St w noF [⟨g1, 50, bs b⟩, ⟨g2, 64, nmC [] false⟩] W)] [false, false, false, false, false, false, false, false, false, false, false, false, false, false] [some 0, some 0, some 0, some 0, some 0, some 0, some 0, some 0, some 0, some 0, some 0, some 0, some 0, some 0] [some 18, some 19, some 20, some 21, some 22, some 23, some 24, some 25, some 26, some 27, some 28, some 29, some 30, some 31] 14 0 (fun i => !([5, 6, 7, 8, 9, 10, 11, 12] : List Nat).contains i) rfl rfl (by kernel_rfl) (by kernel_rfl) (by kernel_rfl) (by kernel_rfl) ?_ ?_ ?_ ?_ ?_ ?_
          · repeat first | exact wok_nil | refine wok_cons (by first | exact fun _ _ h k => h.same k) ?_
          · repeat first | exact vok_nil | refine vok_rig (by first | exact fun _ _ _ h => h) ?_ | refine vok_soft (by first | exact fun _ _ _ h _ => h) ?_
          · exact hF0
          · repeat first | exact all_end (by decide) | refine all_cons (by first | exact rfl | exact ⟨rfl, fun _ _ h => Or.inl h⟩ | exact ⟨rfl, fun _ _ h => Or.inr ⟨h, rfl⟩⟩) ?_
          · refine allp_mild 0 rfl rfl rfl (fun a x W hout hin hP => ?_) ?_
            · have e4 : a.tmps[4]? = some (.string (strB t)) := (hout 4 (by kernel_rfl)).trans rfl
              exact does_move rfl e4 ⟨Same.refl _, rfl⟩
            refine allp_mild 0 rfl rfl rfl (fun a x W hout hin hP => ?_) ?_
            · have e18 := hin.is 0 18 (by kernel_rfl) (by decide) (by kernel_rfl) (by kernel_rfl) _ rfl
              have C := refpad_any t W HM.out
              clear hP
              clear hin hout
              intro K0 Q hK
              go_simp
              refine C.mono ?_
              rintro e W' ⟨rfl, hb⟩
              exact hK _ _ ⟨hb, rfl⟩
            refine allp_mild 0 rfl rfl rfl (fun a x W hout hin hP => ?_) ?_
            · have e1 : a.tmps[1]? = some (.pointer (some ⟨g1, 0, none⟩)) := (hout 1 (by kernel_rfl)).trans rfl
              clear hin hout
              intro K0 Q hK
              exact wp_st_load hP 0 0 50 (.tmp 1) rfl rfl (eval_of_get e1) (bs b) (slab_whole _) _ Tryd.underlying50 rfl (by rw [size_bs, HL.out]; exact size_b4) (hK _ _ ⟨Same.refl _, rfl⟩)
            refine allp_mild 0 rfl rfl rfl (fun a x W hout hin hP => ?_) ?_
            · have e19 := hin.is 1 19 (by kernel_rfl) (by decide) (by kernel_rfl) (by kernel_rfl) _ rfl
              have e20 := hin.is 2 20 (by kernel_rfl) (by decide) (by kernel_rfl) (by kernel_rfl) _ rfl
              have q := HQ.out W
              rw [HPD.out] at q
              clear hP
              clear hin hout
              intro K0 Q hK
              go_simp
              exact hK _ _ ⟨Same.refl _, rfl⟩
            refine allp_mild 0 rfl rfl rfl (fun a x W hout hin hP => ?_) ?_
            · have e21 := hin.is 3 21 (by kernel_rfl) (by decide) (by kernel_rfl) (by kernel_rfl) _ rfl
              exact does_move rfl e21 ⟨Same.refl _, rfl⟩
            refine allp_skip rfl rfl (fun _ => rfl) ?_
            refine allp_skip rfl rfl (fun _ => rfl) ?_
            refine allp_skip rfl rfl (fun _ => rfl) ?_
            refine allp_skip rfl rfl (fun _ => rfl) ?_
            refine allp_skip rfl rfl (fun _ => rfl) ?_
            refine allp_skip rfl rfl (fun _ => rfl) ?_
            refine allp_skip rfl rfl (fun _ => rfl) ?_
            refine allp_skip rfl rfl (fun _ => rfl) ?_
            refine allp_mild 0 rfl rfl rfl (fun a x W hout hin hP => ?_) ?_
            · have e22 := hin.is 4 22 (by kernel_rfl) (by decide) (by kernel_rfl) (by kernel_rfl) _ rfl
              have e30 := hin.is 12 30 (by kernel_rfl) (by decide) (by kernel_rfl) (by kernel_rfl) _ rfl
              exact does_pick rfl e22 ⟨Same.refl _, rfl⟩
            exact all_end (by decide)
          · intro x W hP hV
            have h31 : x 13 = .bool true := hV 13 (by decide) (.inl (by kernel_rfl))
            have HS : St w noF [⟨g1, 50, bs b⟩, ⟨g2, 64, nmC [] false⟩] W := hP
            clear hV hP
            simp only [putL, Act.put, List.setIfInBounds_toArray, List.set_cons_succ, List.set_cons_zero, h31]
            refine wpAnyH_done (by kernel_rfl) ?_ _
            clear h31
            go_wp2_with (first | ((with_reducible refine wpList_plain ?_ ?_); exact rfl; intro KK hKK; refine wp_st_store HS 1 0 64 (.tmp 2) (.tmp 32) rfl rfl rfl (.agg (nmC [] false)) rfl (size_nm) (Nat.le_of_eq rfl) (one_nm _ _) (nmC [] false) (spl_agg _ _ _ rfl rfl) (fun W11 HSx => hKK _ _ ?_); clear hKK KK HS; have HS : St w noF [⟨g1, 50, bs b⟩, ⟨g2, 64, nmC [] false⟩] W11 := HSx; clear HSx))
            exact bodyPost_ret (v := .agg (nmC [] false)) (results_cell_row Tryd.results26 _ _ g2 64 (nmC [] false) (0, 0) _ rfl (HS.row 1 rfl) Tryd.underlying64 rfl size_nm) rfl ⟨by rw [HE.out], HS.below⟩
        case pos =>
        have HPD := Lib.hid (decide_eq_true hp)
        clear hp
        by_cases h0 : k = 0
        · have hdk : decide ((0 : Int) < (k : Int)) = false := decide_eq_false (by omega)
          have ht0 : t = [] := List.length_eq_zero_iff.1 (by rw [HTL.out, h0])
          have HE : Hid (cutR b = (t, true)) := Lib.hid (by rw [HR.out, HPD.out, decide_eq_true ht0]; rfl)
          clear HS ht0
          refine wp_region_phs [is (.string (strB t)), is ((.agg (bs (padN t)))), is (.agg (bs b)), is (.bool false), is (.bool false), is (.int .i64 k), is (.bool false), is (.bool false), is undef, is undef, is undef, is undef, is (.bool false), is (.bool false)] [true, true, true, true, true, true, true, true, true, true, true, true, true, true] [(fun W => St w noF [⟨g1, 50, bs b⟩, ⟨g2, 64, nmC [] false⟩] W)] [false, false, false, false, false, false, false, false, false, false, false, false, false, false] [some 0, some 0, some 0, some 0, some 0, some 0, some 0, some 0, some 0, some 0, some 0, some 0, some 0, some 0] [some 18, some 19, some 20, some 21, some 22, some 23, some 24, some 25, some 26, some 27, some 28, some 29, some 30, some 31] 14 0 (fun i => !([8, 9, 10, 11] : List Nat).contains i) rfl rfl (by kernel_rfl) (by kernel_rfl) (by kernel_rfl) (by kernel_rfl) ?_ ?_ ?_ ?_ ?_ ?_
          · repeat first | exact wok_nil | refine wok_cons (by first | exact fun _ _ h k => h.same k) ?_
          · repeat first | exact vok_nil | refine vok_rig (by first | exact fun _ _ _ h => h) ?_ | refine vok_soft (by first | exact fun _ _ _ h _ => h) ?_
          · exact hF0
          · repeat first | exact all_end (by decide) | refine all_cons (by first | exact rfl | exact ⟨rfl, fun _ _ h => Or.inl h⟩ | exact ⟨rfl, fun _ _ h => Or.inr ⟨h, rfl⟩⟩) ?_
          · refine allp_mild 0 rfl rfl rfl (fun a x W hout hin hP => ?_) ?_
            · have e4 : a.tmps[4]? = some (.string (strB t)) := (hout 4 (by kernel_rfl)).trans rfl
              exact does_move rfl e4 ⟨Same.refl _, rfl⟩
            refine allp_mild 0 rfl rfl rfl (fun a x W hout hin hP => ?_) ?_
            · have e18 := hin.is 0 18 (by kernel_rfl) (by decide) (by kernel_rfl) (by kernel_rfl) _ rfl
              have C := refpad_any t W HM.out
              clear hP
              clear hin hout
              intro K0 Q hK
              go_simp
              refine C.mono ?_
              rintro e W' ⟨rfl, hb⟩
              exact hK _ _ ⟨hb, rfl⟩
            refine allp_mild 0 rfl rfl rfl (fun a x W hout hin hP => ?_) ?_
            · have e1 : a.tmps[1]? = some (.pointer (some ⟨g1, 0, none⟩)) := (hout 1 (by kernel_rfl)).trans rfl
              clear hin hout
              intro K0 Q hK
              exact wp_st_load hP 0 0 50 (.tmp 1) rfl rfl (eval_of_get e1) (bs b) (slab_whole _) _ Tryd.underlying50 rfl (by rw [size_bs, HL.out]; exact size_b4) (hK _ _ ⟨Same.refl _, rfl⟩)
            refine allp_mild 0 rfl rfl rfl (fun a x W hout hin hP => ?_) ?_
            · have e19 := hin.is 1 19 (by kernel_rfl) (by decide) (by kernel_rfl) (by kernel_rfl) _ rfl
              have e20 := hin.is 2 20 (by kernel_rfl) (by decide) (by kernel_rfl) (by kernel_rfl) _ rfl
              have q := HQ.out W
              rw [HPD.out] at q
              clear hP
              clear hin hout
              intro K0 Q hK
              go_simp
              exact hK _ _ ⟨Same.refl _, rfl⟩
            refine allp_mild 0 rfl rfl rfl (fun a x W hout hin hP => ?_) ?_
            · have e21 := hin.is 3 21 (by kernel_rfl) (by decide) (by kernel_rfl) (by kernel_rfl) _ rfl
              exact does_move rfl e21 ⟨Same.refl _, rfl⟩
            refine allp_mild 0 rfl rfl rfl (fun a x W hout hin hP => ?_) ?_
            · have e3 : a.tmps[3]? = some (.int .i64 k) := (hout 3 (by kernel_rfl)).trans rfl
              exact does_move rfl e3 ⟨Same.refl _, rfl⟩
            refine allp_mild 0 rfl rfl rfl (fun a x W hout hin hP => ?_) ?_
            · have e23 := hin.is 5 23 (by kernel_rfl) (by decide) (by kernel_rfl) (by kernel_rfl) _ rfl
              clear hin hout
              intro K Q hK
              go_simp
              exact hK _ _ ⟨Same.refl _, rfl⟩
            refine allp_mild 0 rfl rfl rfl (fun a x W hout hin hP => ?_) ?_
            · have e24 := hin.is 6 24 (by kernel_rfl) (by decide) (by kernel_rfl) (by kernel_rfl) _ rfl
              exact does_move rfl e24 ⟨Same.refl _, rfl⟩
            refine allp_skip rfl rfl (fun _ => rfl) ?_
            refine allp_skip rfl rfl (fun _ => rfl) ?_
            refine allp_skip rfl rfl (fun _ => rfl) ?_
            refine allp_skip rfl rfl (fun _ => rfl) ?_
            refine allp_mild 0 rfl rfl rfl (fun a x W hout hin hP => ?_) ?_
            · have e25 := hin.is 7 25 (by kernel_rfl) (by decide) (by kernel_rfl) (by kernel_rfl) _ rfl
              have e29 := hin.is 11 29 (by kernel_rfl) (by decide) (by kernel_rfl) (by kernel_rfl) _ rfl
              exact does_pick rfl e25 ⟨Same.refl _, rfl⟩
            refine allp_mild 0 rfl rfl rfl (fun a x W hout hin hP => ?_) ?_
            · have e22 := hin.is 4 22 (by kernel_rfl) (by decide) (by kernel_rfl) (by kernel_rfl) _ rfl
              have e30 := hin.is 12 30 (by kernel_rfl) (by decide) (by kernel_rfl) (by kernel_rfl) _ rfl
              exact does_pick rfl e22 ⟨Same.refl _, eval_of_get e30⟩
            exact all_end (by decide)
          · intro x W hP hV
            have h31 : x 13 = .bool false := hV 13 (by decide) (.inl (by kernel_rfl))
            have HS : St w noF [⟨g1, 50, bs b⟩, ⟨g2, 64, nmC [] false⟩] W := hP
            clear hV hP
            simp only [putL, Act.put, List.setIfInBounds_toArray, List.set_cons_succ, List.set_cons_zero, h31]
            refine wpAnyH_done (by kernel_rfl) ?_ _
            clear h31
            go_wp2_with (first | ((with_reducible refine wpList_plain ?_ ?_); exact rfl; intro KK hKK; refine wp_st_store HS 1 0 64 (.tmp 2) (.tmp 34) rfl rfl rfl (.agg (nmC t true)) rfl (size_nm) (Nat.le_of_eq rfl) (one_nm _ _) (nmC t true) (spl_agg _ _ _ rfl rfl) (fun W11 HSx => hKK _ _ ?_); clear hKK KK HS; have HS : St w noF [⟨g1, 50, bs b⟩, ⟨g2, 64, nmC t true⟩] W11 := HSx; clear HSx))
            exact bodyPost_ret (v := .agg (nmC t true)) (results_cell_row Tryd.results26 _ _ g2 64 (nmC t true) (0, 0) _ rfl (HS.row 1 rfl) Tryd.underlying64 rfl size_nm) rfl ⟨by rw [HE.out], HS.below⟩
        · have hdk : decide ((0 : Int) < (k : Int)) = true := decide_eq_true (by omega)
          have hkk : 0 < k := by omega
          have ht0 : ¬ t = [] := fun h => h0 (by rw [← HTL.out, h]; rfl)
          cases hg : goodN t with
          | true =>
            have HG := Lib.hid hg
            have HE : Hid (cutR b = (t, true)) := Lib.hid (by rw [HR.out, HPD.out, hg, Bool.or_true]; rfl)
            clear HS ht0 hg
            refine wp_region_phs [is (.string (strB t)), is ((.agg (bs (padN t)))), is (.agg (bs b)), is (.bool false), is (.bool false), is (.int .i64 k), is (.bool true), is (.bool true), is (.string (strB t)), (fun v W => Strs W v [t]), is (.bool true), is (.bool false), is (.bool false), is (.bool false)] [true, true, true, true, true, true, true, true, true, false, true, true, true, true] [(fun W => St w noF [⟨g1, 50, bs b⟩, ⟨g2, 64, nmC [] false⟩] W)] [false, false, false, false, false, false, false, false, false, false, false, false, false, false] [some 0, some 0, some 0, some 0, some 0, some 0, some 0, some 0, some 0, some 0, some 0, some 0, some 0, some 0] [some 18, some 19, some 20, some 21, some 22, some 23, some 24, some 25, some 26, some 27, some 28, some 29, some 30, some 31] 14 0 (fun _ => true) rfl rfl (by kernel_rfl) (by kernel_rfl) (by kernel_rfl) (by kernel_rfl) ?_ ?_ ?_ ?_ ?_ ?_
            · repeat first | exact wok_nil | refine wok_cons (by first | exact fun _ _ h k => h.same k) ?_
            · repeat first | exact vok_nil | refine vok_rig (by first | exact fun _ _ _ h => h) ?_ | refine vok_soft (by first | exact fun _ _ _ h _ => h | exact fun _ _ _ h k => Strs.below h k (Nat.le_refl _)) ?_
            · exact hF0
            · repeat first | exact all_end (by decide) | refine all_cons (by first | exact rfl | exact ⟨rfl, fun _ _ h => Or.inl h⟩ | exact ⟨rfl, fun _ _ h => Or.inr ⟨h, rfl⟩⟩) ?_
            · refine allp_mild 0 rfl rfl rfl (fun a x W hout hin hP => ?_) ?_
              · have e4 : a.tmps[4]? = some (.string (strB t)) := (hout 4 (by kernel_rfl)).trans rfl
                exact does_move rfl e4 ⟨Same.refl _, rfl⟩
              refine allp_mild 0 rfl rfl rfl (fun a x W hout hin hP => ?_) ?_
              · have e18 := hin.is 0 18 (by kernel_rfl) (by decide) (by kernel_rfl) (by kernel_rfl) _ rfl
                have C := refpad_any t W HM.out
                clear hP
                clear hin hout
                intro K0 Q hK
                go_simp
                refine C.mono ?_
                rintro e W' ⟨rfl, hb⟩
                exact hK _ _ ⟨hb, rfl⟩
              refine allp_mild 0 rfl rfl rfl (fun a x W hout hin hP => ?_) ?_
              · have e1 : a.tmps[1]? = some (.pointer (some ⟨g1, 0, none⟩)) := (hout 1 (by kernel_rfl)).trans rfl
                clear hin hout
                intro K0 Q hK
                exact wp_st_load hP 0 0 50 (.tmp 1) rfl rfl (eval_of_get e1) (bs b) (slab_whole _) _ Tryd.underlying50 rfl (by rw [size_bs, HL.out]; exact size_b4) (hK _ _ ⟨Same.refl _, rfl⟩)
              refine allp_mild 0 rfl rfl rfl (fun a x W hout hin hP => ?_) ?_
              · have e19 := hin.is 1 19 (by kernel_rfl) (by decide) (by kernel_rfl) (by kernel_rfl) _ rfl
                have e20 := hin.is 2 20 (by kernel_rfl) (by decide) (by kernel_rfl) (by kernel_rfl) _ rfl
                have q := HQ.out W
                rw [HPD.out] at q
                clear hP
                clear hin hout
                intro K0 Q hK
                go_simp
                exact hK _ _ ⟨Same.refl _, rfl⟩
              refine allp_mild 0 rfl rfl rfl (fun a x W hout hin hP => ?_) ?_
              · have e21 := hin.is 3 21 (by kernel_rfl) (by decide) (by kernel_rfl) (by kernel_rfl) _ rfl
                exact does_move rfl e21 ⟨Same.refl _, rfl⟩
              refine allp_mild 0 rfl rfl rfl (fun a x W hout hin hP => ?_) ?_
              · have e3 : a.tmps[3]? = some (.int .i64 k) := (hout 3 (by kernel_rfl)).trans rfl
                exact does_move rfl e3 ⟨Same.refl _, rfl⟩
              refine allp_mild 0 rfl rfl rfl (fun a x W hout hin hP => ?_) ?_
              · have e23 := hin.is 5 23 (by kernel_rfl) (by decide) (by kernel_rfl) (by kernel_rfl) _ rfl
                clear hin hout
                intro K Q hK
                go_simp
                exact hK _ _ ⟨Same.refl _, rfl⟩
              refine allp_mild 0 rfl rfl rfl (fun a x W hout hin hP => ?_) ?_
              · have e24 := hin.is 6 24 (by kernel_rfl) (by decide) (by kernel_rfl) (by kernel_rfl) _ rfl
                exact does_move rfl e24 ⟨Same.refl _, rfl⟩
              refine allp_mild 0 rfl rfl rfl (fun a x W hout hin hP => ?_) ?_
              · have e4 : a.tmps[4]? = some (.string (strB t)) := (hout 4 (by kernel_rfl)).trans rfl
                exact does_move rfl e4 ⟨Same.refl _, rfl⟩
              refine allp_mild 0 rfl rfl rfl (fun a x W hout hin hP => ?_) ?_
              · have e26 := hin.is 8 26 (by kernel_rfl) (by decide) (by kernel_rfl) (by kernel_rfl) _ rfl
                clear hP
                clear hin hout
                intro K0 Q hK
                go_simp
                exact hK _ _ ⟨Same.alloc _ _, strs1 W t HM.out 9⟩
              refine allp_mild 0 rfl rfl rfl (fun a x W hout hin hP => ?_) ?_
              · obtain ⟨v27, e27, hv27⟩ := hin.get 9 27 (by kernel_rfl) (by decide) (by kernel_rfl) (.inr ⟨rfl, by kernel_rfl⟩)
                have C := (show goodNs [t] = true by unfold goodNs; simp [HG.out]) ▸ refgoodn_any [t] _ W hv27 (by unfold maxLen; simp)
                clear hP
                clear hin hout
                intro K0 Q hK
                go_simp
                refine C.mono ?_
                rintro e W' ⟨rfl, rfl⟩
                exact hK _ _ ⟨Same.refl _, rfl⟩
              refine allp_mild 0 rfl rfl rfl (fun a x W hout hin hP => ?_) ?_
              · have e28 := hin.is 10 28 (by kernel_rfl) (by decide) (by kernel_rfl) (by kernel_rfl) _ rfl
                exact does_not rfl e28 ⟨Same.refl _, rfl⟩
              refine allp_mild 0 rfl rfl rfl (fun a x W hout hin hP => ?_) ?_
              · have e25 := hin.is 7 25 (by kernel_rfl) (by decide) (by kernel_rfl) (by kernel_rfl) _ rfl
                have e29 := hin.is 11 29 (by kernel_rfl) (by decide) (by kernel_rfl) (by kernel_rfl) _ rfl
                exact does_pick rfl e25 ⟨Same.refl _, eval_of_get e29⟩
              refine allp_mild 0 rfl rfl rfl (fun a x W hout hin hP => ?_) ?_
              · have e22 := hin.is 4 22 (by kernel_rfl) (by decide) (by kernel_rfl) (by kernel_rfl) _ rfl
                have e30 := hin.is 12 30 (by kernel_rfl) (by decide) (by kernel_rfl) (by kernel_rfl) _ rfl
                exact does_pick rfl e22 ⟨Same.refl _, eval_of_get e30⟩
              exact all_end (by decide)
            · intro x W hP hV
              have h31 : x 13 = .bool false := hV 13 (by decide) (.inl (by kernel_rfl))
              have HS : St w noF [⟨g1, 50, bs b⟩, ⟨g2, 64, nmC [] false⟩] W := hP
              clear hV hP
              simp only [putL, Act.put, List.setIfInBounds_toArray, List.set_cons_succ, List.set_cons_zero, h31]
              refine wpAnyH_done (by kernel_rfl) ?_ _
              clear h31
              go_wp2_with (first | ((with_reducible refine wpList_plain ?_ ?_); exact rfl; intro KK hKK; refine wp_st_store HS 1 0 64 (.tmp 2) (.tmp 34) rfl rfl rfl (.agg (nmC t true)) rfl (size_nm) (Nat.le_of_eq rfl) (one_nm _ _) (nmC t true) (spl_agg _ _ _ rfl rfl) (fun W11 HSx => hKK _ _ ?_); clear hKK KK HS; have HS : St w noF [⟨g1, 50, bs b⟩, ⟨g2, 64, nmC t true⟩] W11 := HSx; clear HSx))
              exact bodyPost_ret (v := .agg (nmC t true)) (results_cell_row Tryd.results26 _ _ g2 64 (nmC t true) (0, 0) _ rfl (HS.row 1 rfl) Tryd.underlying64 rfl size_nm) rfl ⟨by rw [HE.out], HS.below⟩
          | false =>
            have HG := Lib.hid hg
            have HE : Hid (cutR b = ([], false)) := Lib.hid (by rw [HR.out, HPD.out, hg, decide_eq_false ht0]; rfl)
            clear HS ht0 hg
            refine wp_region_phs [is (.string (strB t)), is ((.agg (bs (padN t)))), is (.agg (bs b)), is (.bool false), is (.bool false), is (.int .i64 k), is (.bool true), is (.bool true), is (.string (strB t)), (fun v W => Strs W v [t]), is (.bool false), is (.bool true), is (.bool true), is (.bool true)] [true, true, true, true, true, true, true, true, true, false, true, true, true, true] [(fun W => St w noF [⟨g1, 50, bs b⟩, ⟨g2, 64, nmC [] false⟩] W)] [false, false, false, false, false, false, false, false, false, false, false, false, false, false] [some 0, some 0, some 0, some 0, some 0, some 0, some 0, some 0, some 0, some 0, some 0, some 0, some 0, some 0] [some 18, some 19, some 20, some 21, some 22, some 23, some 24, some 25, some 26, some 27, some 28, some 29, some 30, some 31] 14 0 (fun _ => true) rfl rfl (by kernel_rfl) (by kernel_rfl) (by kernel_rfl) (by kernel_rfl) ?_ ?_ ?_ ?_ ?_ ?_
            · repeat first | exact wok_nil | refine wok_cons (by first | exact fun _ _ h k => h.same k) ?_
            · repeat first | exact vok_nil | refine vok_rig (by first | exact fun _ _ _ h => h) ?_ | refine vok_soft (by first | exact fun _ _ _ h _ => h | exact fun _ _ _ h k => Strs.below h k (Nat.le_refl _)) ?_
            · exact hF0
            · repeat first | exact all_end (by decide) | refine all_cons (by first | exact rfl | exact ⟨rfl, fun _ _ h => Or.inl h⟩ | exact ⟨rfl, fun _ _ h => Or.inr ⟨h, rfl⟩⟩) ?_
            · refine allp_mild 0 rfl rfl rfl (fun a x W hout hin hP => ?_) ?_
              · have e4 : a.tmps[4]? = some (.string (strB t)) := (hout 4 (by kernel_rfl)).trans rfl
                exact does_move rfl e4 ⟨Same.refl _, rfl⟩
              refine allp_mild 0 rfl rfl rfl (fun a x W hout hin hP => ?_) ?_
              · have e18 := hin.is 0 18 (by kernel_rfl) (by decide) (by kernel_rfl) (by kernel_rfl) _ rfl
                have C := refpad_any t W HM.out
                clear hP
                clear hin hout
                intro K0 Q hK
                go_simp
                refine C.mono ?_
                rintro e W' ⟨rfl, hb⟩
                exact hK _ _ ⟨hb, rfl⟩
              refine allp_mild 0 rfl rfl rfl (fun a x W hout hin hP => ?_) ?_
              · have e1 : a.tmps[1]? = some (.pointer (some ⟨g1, 0, none⟩)) := (hout 1 (by kernel_rfl)).trans rfl
                clear hin hout
                intro K0 Q hK
                exact wp_st_load hP 0 0 50 (.tmp 1) rfl rfl (eval_of_get e1) (bs b) (slab_whole _) _ Tryd.underlying50 rfl (by rw [size_bs, HL.out]; exact size_b4) (hK _ _ ⟨Same.refl _, rfl⟩)
              refine allp_mild 0 rfl rfl rfl (fun a x W hout hin hP => ?_) ?_
              · have e19 := hin.is 1 19 (by kernel_rfl) (by decide) (by kernel_rfl) (by kernel_rfl) _ rfl
                have e20 := hin.is 2 20 (by kernel_rfl) (by decide) (by kernel_rfl) (by kernel_rfl) _ rfl
                have q := HQ.out W
                rw [HPD.out] at q
                clear hP
                clear hin hout
                intro K0 Q hK
                go_simp
                exact hK _ _ ⟨Same.refl _, rfl⟩
              refine allp_mild 0 rfl rfl rfl (fun a x W hout hin hP => ?_) ?_
              · have e21 := hin.is 3 21 (by kernel_rfl) (by decide) (by kernel_rfl) (by kernel_rfl) _ rfl
                exact does_move rfl e21 ⟨Same.refl _, rfl⟩
              refine allp_mild 0 rfl rfl rfl (fun a x W hout hin hP => ?_) ?_
              · have e3 : a.tmps[3]? = some (.int .i64 k) := (hout 3 (by kernel_rfl)).trans rfl
                exact does_move rfl e3 ⟨Same.refl _, rfl⟩
              refine allp_mild 0 rfl rfl rfl (fun a x W hout hin hP => ?_) ?_
              · have e23 := hin.is 5 23 (by kernel_rfl) (by decide) (by kernel_rfl) (by kernel_rfl) _ rfl
                clear hin hout
                intro K Q hK
                go_simp
                exact hK _ _ ⟨Same.refl _, rfl⟩
              refine allp_mild 0 rfl rfl rfl (fun a x W hout hin hP => ?_) ?_
              · have e24 := hin.is 6 24 (by kernel_rfl) (by decide) (by kernel_rfl) (by kernel_rfl) _ rfl
                exact does_move rfl e24 ⟨Same.refl _, rfl⟩
              refine allp_mild 0 rfl rfl rfl (fun a x W hout hin hP => ?_) ?_
              · have e4 : a.tmps[4]? = some (.string (strB t)) := (hout 4 (by kernel_rfl)).trans rfl
                exact does_move rfl e4 ⟨Same.refl _, rfl⟩
              refine allp_mild 0 rfl rfl rfl (fun a x W hout hin hP => ?_) ?_
              · have e26 := hin.is 8 26 (by kernel_rfl) (by decide) (by kernel_rfl) (by kernel_rfl) _ rfl
                clear hP
                clear hin hout
                intro K0 Q hK
                go_simp
                exact hK _ _ ⟨Same.alloc _ _, strs1 W t HM.out 9⟩
              refine allp_mild 0 rfl rfl rfl (fun a x W hout hin hP => ?_) ?_
              · obtain ⟨v27, e27, hv27⟩ := hin.get 9 27 (by kernel_rfl) (by decide) (by kernel_rfl) (.inr ⟨rfl, by kernel_rfl⟩)
                have C := (show goodNs [t] = false by unfold goodNs; simp [HG.out]) ▸ refgoodn_any [t] _ W hv27 (by unfold maxLen; simp)
                clear hP
                clear hin hout
                intro K0 Q hK
                go_simp
                refine C.mono ?_
                rintro e W' ⟨rfl, rfl⟩
                exact hK _ _ ⟨Same.refl _, rfl⟩
              refine allp_mild 0 rfl rfl rfl (fun a x W hout hin hP => ?_) ?_
              · have e28 := hin.is 10 28 (by kernel_rfl) (by decide) (by kernel_rfl) (by kernel_rfl) _ rfl
                exact does_not rfl e28 ⟨Same.refl _, rfl⟩
              refine allp_mild 0 rfl rfl rfl (fun a x W hout hin hP => ?_) ?_
              · have e25 := hin.is 7 25 (by kernel_rfl) (by decide) (by kernel_rfl) (by kernel_rfl) _ rfl
                have e29 := hin.is 11 29 (by kernel_rfl) (by decide) (by kernel_rfl) (by kernel_rfl) _ rfl
                exact does_pick rfl e25 ⟨Same.refl _, eval_of_get e29⟩
              refine allp_mild 0 rfl rfl rfl (fun a x W hout hin hP => ?_) ?_
              · have e22 := hin.is 4 22 (by kernel_rfl) (by decide) (by kernel_rfl) (by kernel_rfl) _ rfl
                have e30 := hin.is 12 30 (by kernel_rfl) (by decide) (by kernel_rfl) (by kernel_rfl) _ rfl
                exact does_pick rfl e22 ⟨Same.refl _, eval_of_get e30⟩
              exact all_end (by decide)
            · intro x W hP hV
              have h31 : x 13 = .bool true := hV 13 (by decide) (.inl (by kernel_rfl))
              have HS : St w noF [⟨g1, 50, bs b⟩, ⟨g2, 64, nmC [] false⟩] W := hP
              clear hV hP
              simp only [putL, Act.put, List.setIfInBounds_toArray, List.set_cons_succ, List.set_cons_zero, h31]
              refine wpAnyH_done (by kernel_rfl) ?_ _
              clear h31
              go_wp2_with (first | ((with_reducible refine wpList_plain ?_ ?_); exact rfl; intro KK hKK; refine wp_st_store HS 1 0 64 (.tmp 2) (.tmp 32) rfl rfl rfl (.agg (nmC [] false)) rfl (size_nm) (Nat.le_of_eq rfl) (one_nm _ _) (nmC [] false) (spl_agg _ _ _ rfl rfl) (fun W11 HSx => hKK _ _ ?_); clear hKK KK HS; have HS : St w noF [⟨g1, 50, bs b⟩, ⟨g2, 64, nmC [] false⟩] W11 := HSx; clear HSx))
              exact bodyPost_ret (v := .agg (nmC [] false)) (results_cell_row Tryd.results26 _ _ g2 64 (nmC [] false) (0, 0) _ rfl (HS.row 1 rfl) Tryd.underlying64 rfl size_nm) rfl ⟨by rw [HE.out], HS.below⟩
      · have hb1 : (bd x == 0) = false := beq_eq_false_iff_ne.2 fun e => h0 (bd_inj (by rw [e]; rfl))
        have HX0 : Hid (¬ b.getD k 0#8 = 0#8) := Lib.hid (by rw [HX.out]; exact h0)
        clear h0
        go_wp2_with fail
        refine ⟨⟨k + 1, by omega, by go_num, fun j hj => ?_, trivial⟩, by simp [intOf]; omega⟩
        rcases Nat.lt_succ_iff_lt_or_eq.1 hj with h | h
        · exact HNZ.out j h
        · subst h; exact HX0.out
    · have hd4 : decide ((k : Int) < 4) = false := decide_eq_false (by omega)
      have HF : Hid (firstZ b = b.take k) := Lib.hid (first_take (by rw [HL.out]; omega) HNZ.out (.inl (by rw [HL.out]; omega)))
      obtain ⟨t, ht⟩ : ∃ t, b.take k = t := ⟨_, rfl⟩
      have HTL : Hid (t.length = k) := Lib.hid (by rw [← ht, List.length_take, HL.out]; omega)
      have hsl : Slice wr (.slice (some ⟨g1, 0, none⟩) k 4) t := by
        have := row_piece (HS.row 0 rfl) (off := 0) (n := k) (c := 4) (by rw [HL.out]; omega) hk4
        rwa [List.drop_zero, ht] at this
      have hcv := conv_bytes hsl 9 Tryd.underlying9
      have HR : Hid (cutR b = if (decide (padN t = b) && (decide (t = []) || goodN t)) then (t, true) else ([], false)) := Lib.hid (by unfold cutR okFirst; rw [HF.out, ht])
      have HM : Hid (t.length ≤ maxLen) := Lib.hid (by rw [HTL.out]; unfold maxLen; omega)
      have hk0 : (0 : Int) ≤ (k : Int) := by omega
      have hk4' : (k : Int) ≤ 4 := by omega
      clear ht hsl
      have HQ := Lib.hid (fun W => neq_b4 (padN t) b (length_padN t) HL.out W)
      go_upto_region 5 with fail
      clear HF
      clear hcv
      have hF0 : Wl [fun W => St w noF [⟨g1, 50, bs b⟩, ⟨g2, 64, nmC [] false⟩] W] 0 wr.drew := HS.drew
      by_cases hp : padN t = b
      case neg =>
        have HPD := Lib.hid (decide_eq_false hp)
        have HE : Hid (cutR b = ([], false)) := Lib.hid (by rw [HR.out, HPD.out]; rfl)
        clear hp HS
        refine wp_region_phs [is (.string (strB t)), is ((.agg (bs (padN t)))), is (.agg (bs b)), is (.bool true), is (.bool true), is undef, is undef, is undef, is undef, is undef, is undef, is undef, is undef, is (.bool true)] [true, true, true, true, true, true, true, true, true, true, true, true, true, true] [(fun W => St w noF [⟨g1, 50, bs b⟩, ⟨g2, 64, nmC [] false⟩] W)] [false, false, false, false, false, false, false, false, false, false, false, false, false, false] [some 0, some 0, some 0, some 0, some 0, some 0, some 0, some 0, some 0, some 0, some 0, some 0, some 0, some 0] [some 18, some 19, some 20, some 21, some 22, some 23, some 24, some 25, some 26, some 27, some 28, some 29, some 30, some 31] 14 0 (fun i => !([5, 6, 7, 8, 9, 10, 11, 12] : List Nat).contains i) rfl rfl (by kernel_rfl) (by kernel_rfl) (by kernel_rfl) (by kernel_rfl) ?_ ?_ ?_ ?_ ?_ ?_
        · repeat first | exact wok_nil | refine wok_cons (by first | exact fun _ _ h k => h.same k) ?_
        · repeat first | exact vok_nil | refine vok_rig (by first | exact fun _ _ _ h => h) ?_ | refine vok_soft (by first | exact fun _ _ _ h _ => h) ?_
        · exact hF0
        · repeat first | exact all_end (by decide) | refine all_cons (by first | exact rfl | exact ⟨rfl, fun _ _ h => Or.inl h⟩ | exact ⟨rfl, fun _ _ h => Or.inr ⟨h, rfl⟩⟩) ?_
        · refine allp_mild 0 rfl rfl rfl (fun a x W hout hin hP => ?_) ?_
          · have e4 : a.tmps[4]? = some (.string (strB t)) := (hout 4 (by kernel_rfl)).trans rfl
            exact does_move rfl e4 ⟨Same.refl _, rfl⟩
          refine allp_mild 0 rfl rfl rfl (fun a x W hout hin hP => ?_) ?_
          · have e18 := hin.is 0 18 (by kernel_rfl) (by decide) (by kernel_rfl) (by kernel_rfl) _ rfl
            have C := refpad_any t W HM.out
            clear hP
            clear hin hout
            intro K0 Q hK
            go_simp
            refine C.mono ?_
            rintro e W' ⟨rfl, hb⟩
            exact hK _ _ ⟨hb, rfl⟩
          refine allp_mild 0 rfl rfl rfl (fun a x W hout hin hP => ?_) ?_
          · have e1 : a.tmps[1]? = some (.pointer (some ⟨g1, 0, none⟩)) := (hout 1 (by kernel_rfl)).trans rfl
            clear hin hout
            intro K0 Q hK
            exact wp_st_load hP 0 0 50 (.tmp 1) rfl rfl (eval_of_get e1) (bs b) (slab_whole _) _ Tryd.underlying50 rfl (by rw [size_bs, HL.out]; exact size_b4) (hK _ _ ⟨Same.refl _, rfl⟩)
          refine allp_mild 0 rfl rfl rfl (fun a x W hout hin hP => ?_) ?_
          · have e19 := hin.is 1 19 (by kernel_rfl) (by decide) (by kernel_rfl) (by kernel_rfl) _ rfl
            have e20 := hin.is 2 20 (by kernel_rfl) (by decide) (by kernel_rfl) (by kernel_rfl) _ rfl
            have q := HQ.out W
            rw [HPD.out] at q
            clear hP
            clear hin hout
            intro K0 Q hK
            go_simp
            exact hK _ _ ⟨Same.refl _, rfl⟩
          refine allp_mild 0 rfl rfl rfl (fun a x W hout hin hP => ?_) ?_
          · have e21 := hin.is 3 21 (by kernel_rfl) (by decide) (by kernel_rfl) (by kernel_rfl) _ rfl
            exact does_move rfl e21 ⟨Same.refl _, rfl⟩
          refine allp_skip rfl rfl (fun _ => rfl) ?_
          refine allp_skip rfl rfl (fun _ => rfl) ?_
          refine allp_skip rfl rfl (fun _ => rfl) ?_
          refine allp_skip rfl rfl (fun _ => rfl) ?_
          refine allp_skip rfl rfl (fun _ => rfl) ?_
          refine allp_skip rfl rfl (fun _ => rfl) ?_
          refine allp_skip rfl rfl (fun _ => rfl) ?_
          refine allp_skip rfl rfl (fun _ => rfl) ?_
          refine allp_mild 0 rfl rfl rfl (fun a x W hout hin hP => ?_) ?_
          · have e22 := hin.is 4 22 (by kernel_rfl) (by decide) (by kernel_rfl) (by kernel_rfl) _ rfl
            have e30 := hin.is 12 30 (by kernel_rfl) (by decide) (by kernel_rfl) (by kernel_rfl) _ rfl
            exact does_pick rfl e22 ⟨Same.refl _, rfl⟩
          exact all_end (by decide)
        · intro x W hP hV
          have h31 : x 13 = .bool true := hV 13 (by decide) (.inl (by kernel_rfl))
          have HS : St w noF [⟨g1, 50, bs b⟩, ⟨g2, 64, nmC [] false⟩] W := hP
          clear hV hP
          simp only [putL, Act.put, List.setIfInBounds_toArray, List.set_cons_succ, List.set_cons_zero, h31]
          refine wpAnyH_done (by kernel_rfl) ?_ _
          clear h31
          go_wp2_with (first | ((with_reducible refine wpList_plain ?_ ?_); exact rfl; intro KK hKK; refine wp_st_store HS 1 0 64 (.tmp 2) (.tmp 32) rfl rfl rfl (.agg (nmC [] false)) rfl (size_nm) (Nat.le_of_eq rfl) (one_nm _ _) (nmC [] false) (spl_agg _ _ _ rfl rfl) (fun W11 HSx => hKK _ _ ?_); clear hKK KK HS; have HS : St w noF [⟨g1, 50, bs b⟩, ⟨g2, 64, nmC [] false⟩] W11 := HSx; clear HSx))
          exact bodyPost_ret (v := .agg (nmC [] false)) (results_cell_row Tryd.results26 _ _ g2 64 (nmC [] false) (0, 0) _ rfl (HS.row 1 rfl) Tryd.underlying64 rfl size_nm) rfl ⟨by rw [HE.out], HS.below⟩
      case pos =>
      have HPD := Lib.hid (decide_eq_true hp)
      clear hp
      by_cases h0 : k = 0
      · exact absurd h0 (by omega)
      · have hdk : decide ((0 : Int) < (k : Int)) = true := decide_eq_true (by omega)
        have hkk : 0 < k := by omega
        have ht0 : ¬ t = [] := fun h => h0 (by rw [← HTL.out, h]; rfl)
        cases hg : goodN t with
        | true =>
          have HG := Lib.hid hg
          have HE : Hid (cutR b = (t, true)) := Lib.hid (by rw [HR.out, HPD.out, hg, Bool.or_true]; rfl)
          clear HS ht0 hg
          refine wp_region_phs [is (.string (strB t)), is ((.agg (bs (padN t)))), is (.agg (bs b)), is (.bool false), is (.bool false), is (.int .i64 k), is (.bool true), is (.bool true), is (.string (strB t)), (fun v W => Strs W v [t]), is (.bool true), is (.bool false), is (.bool false), is (.bool false)] [true, true, true, true, true, true, true, true, true, false, true, true, true, true] [(fun W => St w noF [⟨g1, 50, bs b⟩, ⟨g2, 64, nmC [] false⟩] W)] [false, false, false, false, false, false, false, false, false, false, false, false, false, false] [some 0, some 0, some 0, some 0, some 0, some 0, some 0, some 0, some 0, some 0, some 0, some 0, some 0, some 0] [some 18, some 19, some 20, some 21, some 22, some 23, some 24, some 25, some 26, some 27, some 28, some 29, some 30, some 31] 14 0 (fun _ => true) rfl rfl (by kernel_rfl) (by kernel_rfl) (by kernel_rfl) (by kernel_rfl) ?_ ?_ ?_ ?_ ?_ ?_
          · repeat first | exact wok_nil | refine wok_cons (by first | exact fun _ _ h k => h.same k) ?_
          · repeat first | exact vok_nil | refine vok_rig (by first | exact fun _ _ _ h => h) ?_ | refine vok_soft (by first | exact fun _ _ _ h _ => h | exact fun _ _ _ h k => Strs.below h k (Nat.le_refl _)) ?_
          · exact hF0
          · repeat first | exact all_end (by decide) | refine all_cons (by first | exact rfl | exact ⟨rfl, fun _ _ h => Or.inl h⟩ | exact ⟨rfl, fun _ _ h => Or.inr ⟨h, rfl⟩⟩) ?_
          · refine allp_mild 0 rfl rfl rfl (fun a x W hout hin hP => ?_) ?_
            · have e4 : a.tmps[4]? = some (.string (strB t)) := (hout 4 (by kernel_rfl)).trans rfl
              exact does_move rfl e4 ⟨Same.refl _, rfl⟩
            refine allp_mild 0 rfl rfl rfl (fun a x W hout hin hP => ?_) ?_
            · have e18 := hin.is 0 18 (by kernel_rfl) (by decide) (by kernel_rfl) (by kernel_rfl) _ rfl
              have C := refpad_any t W HM.out
              clear hP
              clear hin hout
              intro K0 Q hK
              go_simp
              refine C.mono ?_
              rintro e W' ⟨rfl, hb⟩
              exact hK _ _ ⟨hb, rfl⟩
            refine allp_mild 0 rfl rfl rfl (fun a x W hout hin hP => ?_) ?_
            · have e1 : a.tmps[1]? = some (.pointer (some ⟨g1, 0, none⟩)) := (hout 1 (by kernel_rfl)).trans rfl
              clear hin hout
              intro K0 Q hK
              exact wp_st_load hP 0 0 50 (.tmp 1) rfl rfl (eval_of_get e1) (bs b) (slab_whole _) _ Tryd.underlying50 rfl (by rw [size_bs, HL.out]; exact size_b4) (hK _ _ ⟨Same.refl _, rfl⟩)
            refine allp_mild 0 rfl rfl rfl (fun a x W hout hin hP => ?_) ?_
            · have e19 := hin.is 1 19 (by kernel_rfl) (by decide) (by kernel_rfl) (by kernel_rfl) _ rfl
              have e20 := hin.is 2 20 (by kernel_rfl) (by decide) (by kernel_rfl) (by kernel_rfl) _ rfl
              have q := HQ.out W
              rw [HPD.out] at q
              clear hP
              clear hin hout
              intro K0 Q hK
              go_simp
              exact hK _ _ ⟨Same.refl _, rfl⟩
            refine allp_mild 0 rfl rfl rfl (fun a x W hout hin hP => ?_) ?_
            · have e21 := hin.is 3 21 (by kernel_rfl) (by decide) (by kernel_rfl) (by kernel_rfl) _ rfl
              exact does_move rfl e21 ⟨Same.refl _, rfl⟩
            refine allp_mild 0 rfl rfl rfl (fun a x W hout hin hP => ?_) ?_
            · have e3 : a.tmps[3]? = some (.int .i64 k) := (hout 3 (by kernel_rfl)).trans rfl
              exact does_move rfl e3 ⟨Same.refl _, rfl⟩
            refine allp_mild 0 rfl rfl rfl (fun a x W hout hin hP => ?_) ?_
            · have e23 := hin.is 5 23 (by kernel_rfl) (by decide) (by kernel_rfl) (by kernel_rfl) _ rfl
              clear hin hout
              intro K Q hK
              go_simp
              exact hK _ _ ⟨Same.refl _, rfl⟩
            refine allp_mild 0 rfl rfl rfl (fun a x W hout hin hP => ?_) ?_
            · have e24 := hin.is 6 24 (by kernel_rfl) (by decide) (by kernel_rfl) (by kernel_rfl) _ rfl
              exact does_move rfl e24 ⟨Same.refl _, rfl⟩
            refine allp_mild 0 rfl rfl rfl (fun a x W hout hin hP => ?_) ?_
            · have e4 : a.tmps[4]? = some (.string (strB t)) := (hout 4 (by kernel_rfl)).trans rfl
              exact does_move rfl e4 ⟨Same.refl _, rfl⟩
            refine allp_mild 0 rfl rfl rfl (fun a x W hout hin hP => ?_) ?_
            · have e26 := hin.is 8 26 (by kernel_rfl) (by decide) (by kernel_rfl) (by kernel_rfl) _ rfl
              clear hP
              clear hin hout
              intro K0 Q hK
              go_simp
              exact hK _ _ ⟨Same.alloc _ _, strs1 W t HM.out 9⟩
            refine allp_mild 0 rfl rfl rfl (fun a x W hout hin hP => ?_) ?_
            · obtain ⟨v27, e27, hv27⟩ := hin.get 9 27 (by kernel_rfl) (by decide) (by kernel_rfl) (.inr ⟨rfl, by kernel_rfl⟩)
              have C := (show goodNs [t] = true by unfold goodNs; simp [HG.out]) ▸ refgoodn_any [t] _ W hv27 (by unfold maxLen; simp)
              clear hP
              clear hin hout
              intro K0 Q hK
              go_simp
              refine C.mono ?_
              rintro e W' ⟨rfl, rfl⟩
              exact hK _ _ ⟨Same.refl _, rfl⟩
            refine allp_mild 0 rfl rfl rfl (fun a x W hout hin hP => ?_) ?_
            · have e28 := hin.is 10 28 (by kernel_rfl) (by decide) (by kernel_rfl) (by kernel_rfl) _ rfl
              exact does_not rfl e28 ⟨Same.refl _, rfl⟩
            refine allp_mild 0 rfl rfl rfl (fun a x W hout hin hP => ?_) ?_
            · have e25 := hin.is 7 25 (by kernel_rfl) (by decide) (by kernel_rfl) (by kernel_rfl) _ rfl
              have e29 := hin.is 11 29 (by kernel_rfl) (by decide) (by kernel_rfl) (by kernel_rfl) _ rfl
              exact does_pick rfl e25 ⟨Same.refl _, eval_of_get e29⟩
            refine allp_mild 0 rfl rfl rfl (fun a x W hout hin hP => ?_) ?_
            · have e22 := hin.is 4 22 (by kernel_rfl) (by decide) (by kernel_rfl) (by kernel_rfl) _ rfl
              have e30 := hin.is 12 30 (by kernel_rfl) (by decide) (by kernel_rfl) (by kernel_rfl) _ rfl
              exact does_pick rfl e22 ⟨Same.refl _, eval_of_get e30⟩
            exact all_end (by decide)
          · intro x W hP hV
            have h31 : x 13 = .bool false := hV 13 (by decide) (.inl (by kernel_rfl))
            have HS : St w noF [⟨g1, 50, bs b⟩, ⟨g2, 64, nmC [] false⟩] W := hP
            clear hV hP
            simp only [putL, Act.put, List.setIfInBounds_toArray, List.set_cons_succ, List.set_cons_zero, h31]
            refine wpAnyH_done (by kernel_rfl) ?_ _
            clear h31
            go_wp2_with (first | ((with_reducible refine wpList_plain ?_ ?_); exact rfl; intro KK hKK; refine wp_st_store HS 1 0 64 (.tmp 2) (.tmp 34) rfl rfl rfl (.agg (nmC t true)) rfl (size_nm) (Nat.le_of_eq rfl) (one_nm _ _) (nmC t true) (spl_agg _ _ _ rfl rfl) (fun W11 HSx => hKK _ _ ?_); clear hKK KK HS; have HS : St w noF [⟨g1, 50, bs b⟩, ⟨g2, 64, nmC t true⟩] W11 := HSx; clear HSx))
            exact bodyPost_ret (v := .agg (nmC t true)) (results_cell_row Tryd.results26 _ _ g2 64 (nmC t true) (0, 0) _ rfl (HS.row 1 rfl) Tryd.underlying64 rfl size_nm) rfl ⟨by rw [HE.out], HS.below⟩
        | false =>
          have HG := Lib.hid hg
          have HE : Hid (cutR b = ([], false)) := Lib.hid (by rw [HR.out, HPD.out, hg, decide_eq_false ht0]; rfl)
          clear HS ht0 hg
          refine wp_region_phs [is (.string (strB t)), is ((.agg (bs (padN t)))), is (.agg (bs b)), is (.bool false), is (.bool false), is (.int .i64 k), is (.bool true), is (.bool true), is (.string (strB t)), (fun v W => Strs W v [t]), is (.bool false), is (.bool true), is (.bool true), is (.bool true)] [true, true, true, true, true, true, true, true, true, false, true, true, true, true] [(fun W => St w noF [⟨g1, 50, bs b⟩, ⟨g2, 64, nmC [] false⟩] W)] [false, false, false, false, false, false, false, false, false, false, false, false, false, false] [some 0, some 0, some 0, some 0, some 0, some 0, some 0, some 0, some 0, some 0, some 0, some 0, some 0, some 0] [some 18, some 19, some 20, some 21, some 22, some 23, some 24, some 25, some 26, some 27, some 28, some 29, some 30, some 31] 14 0 (fun _ => true) rfl rfl (by kernel_rfl) (by kernel_rfl) (by kernel_rfl) (by kernel_rfl) ?_ ?_ ?_ ?_ ?_ ?_
          · repeat first | exact wok_nil | refine wok_cons (by first | exact fun _ _ h k => h.same k) ?_
          · repeat first | exact vok_nil | refine vok_rig (by first | exact fun _ _ _ h => h) ?_ | refine vok_soft (by first | exact fun _ _ _ h _ => h | exact fun _ _ _ h k => Strs.below h k (Nat.le_refl _)) ?_
          · exact hF0
          · repeat first | exact all_end (by decide) | refine all_cons (by first | exact rfl | exact ⟨rfl, fun _ _ h => Or.inl h⟩ | exact ⟨rfl, fun _ _ h => Or.inr ⟨h, rfl⟩⟩) ?_
          · refine allp_mild 0 rfl rfl rfl (fun a x W hout hin hP => ?_) ?_
            · have e4 : a.tmps[4]? = some (.string (strB t)) := (hout 4 (by kernel_rfl)).trans rfl
              exact does_move rfl e4 ⟨Same.refl _, rfl⟩
            refine allp_mild 0 rfl rfl rfl (fun a x W hout hin hP => ?_) ?_
            · have e18 := hin.is 0 18 (by kernel_rfl) (by decide) (by kernel_rfl) (by kernel_rfl) _ rfl
              have C := refpad_any t W HM.out
              clear hP
              clear hin hout
              intro K0 Q hK
              go_simp
              refine C.mono ?_
              rintro e W' ⟨rfl, hb⟩
              exact hK _ _ ⟨hb, rfl⟩
            refine allp_mild 0 rfl rfl rfl (fun a x W hout hin hP => ?_) ?_
            · have e1 : a.tmps[1]? = some (.pointer (some ⟨g1, 0, none⟩)) := (hout 1 (by kernel_rfl)).trans rfl
              clear hin hout
              intro K0 Q hK
              exact wp_st_load hP 0 0 50 (.tmp 1) rfl rfl (eval_of_get e1) (bs b) (slab_whole _) _ Tryd.underlying50 rfl (by rw [size_bs, HL.out]; exact size_b4) (hK _ _ ⟨Same.refl _, rfl⟩)
            refine allp_mild 0 rfl rfl rfl (fun a x W hout hin hP => ?_) ?_
            · have e19 := hin.is 1 19 (by kernel_rfl) (by decide) (by kernel_rfl) (by kernel_rfl) _ rfl
              have e20 := hin.is 2 20 (by kernel_rfl) (by decide) (by kernel_rfl) (by kernel_rfl) _ rfl
              have q := HQ.out W
              rw [HPD.out] at q
              clear hP
              clear hin hout
              intro K0 Q hK
              go_simp
              exact hK _ _ ⟨Same.refl _, rfl⟩
            refine allp_mild 0 rfl rfl rfl (fun a x W hout hin hP => ?_) ?_
            · have e21 := hin.is 3 21 (by kernel_rfl) (by decide) (by kernel_rfl) (by kernel_rfl) _ rfl
              exact does_move rfl e21 ⟨Same.refl _, rfl⟩
            refine allp_mild 0 rfl rfl rfl (fun a x W hout hin hP => ?_) ?_
            · have e3 : a.tmps[3]? = some (.int .i64 k) := (hout 3 (by kernel_rfl)).trans rfl
              exact does_move rfl e3 ⟨Same.refl _, rfl⟩
            refine allp_mild 0 rfl rfl rfl (fun a x W hout hin hP => ?_) ?_
            · have e23 := hin.is 5 23 (by kernel_rfl) (by decide) (by kernel_rfl) (by kernel_rfl) _ rfl
              clear hin hout
              intro K Q hK
              go_simp
              exact hK _ _ ⟨Same.refl _, rfl⟩
            refine allp_mild 0 rfl rfl rfl (fun a x W hout hin hP => ?_) ?_
            · have e24 := hin.is 6 24 (by kernel_rfl) (by decide) (by kernel_rfl) (by kernel_rfl) _ rfl
              exact does_move rfl e24 ⟨Same.refl _, rfl⟩
            refine allp_mild 0 rfl rfl rfl (fun a x W hout hin hP => ?_) ?_
            · have e4 : a.tmps[4]? = some (.string (strB t)) := (hout 4 (by kernel_rfl)).trans rfl
              exact does_move rfl e4 ⟨Same.refl _, rfl⟩
            refine allp_mild 0 rfl rfl rfl (fun a x W hout hin hP => ?_) ?_
            · have e26 := hin.is 8 26 (by kernel_rfl) (by decide) (by kernel_rfl) (by kernel_rfl) _ rfl
              clear hP
              clear hin hout
              intro K0 Q hK
              go_simp
              exact hK _ _ ⟨Same.alloc _ _, strs1 W t HM.out 9⟩
            refine allp_mild 0 rfl rfl rfl (fun a x W hout hin hP => ?_) ?_
            · obtain ⟨v27, e27, hv27⟩ := hin.get 9 27 (by kernel_rfl) (by decide) (by kernel_rfl) (.inr ⟨rfl, by kernel_rfl⟩)
              have C := (show goodNs [t] = false by unfold goodNs; simp [HG.out]) ▸ refgoodn_any [t] _ W hv27 (by unfold maxLen; simp)
              clear hP
              clear hin hout
              intro K0 Q hK
              go_simp
              refine C.mono ?_
              rintro e W' ⟨rfl, rfl⟩
              exact hK _ _ ⟨Same.refl _, rfl⟩
            refine allp_mild 0 rfl rfl rfl (fun a x W hout hin hP => ?_) ?_
            · have e28 := hin.is 10 28 (by kernel_rfl) (by decide) (by kernel_rfl) (by kernel_rfl) _ rfl
              exact does_not rfl e28 ⟨Same.refl _, rfl⟩
            refine allp_mild 0 rfl rfl rfl (fun a x W hout hin hP => ?_) ?_
            · have e25 := hin.is 7 25 (by kernel_rfl) (by decide) (by kernel_rfl) (by kernel_rfl) _ rfl
              have e29 := hin.is 11 29 (by kernel_rfl) (by decide) (by kernel_rfl) (by kernel_rfl) _ rfl
              exact does_pick rfl e25 ⟨Same.refl _, eval_of_get e29⟩
            refine allp_mild 0 rfl rfl rfl (fun a x W hout hin hP => ?_) ?_
            · have e22 := hin.is 4 22 (by kernel_rfl) (by decide) (by kernel_rfl) (by kernel_rfl) _ rfl
              have e30 := hin.is 12 30 (by kernel_rfl) (by decide) (by kernel_rfl) (by kernel_rfl) _ rfl
              exact does_pick rfl e22 ⟨Same.refl _, eval_of_get e30⟩
            exact all_end (by decide)
          · intro x W hP hV
            have h31 : x 13 = .bool true := hV 13 (by decide) (.inl (by kernel_rfl))
            have HS : St w noF [⟨g1, 50, bs b⟩, ⟨g2, 64, nmC [] false⟩] W := hP
            clear hV hP
            simp only [putL, Act.put, List.setIfInBounds_toArray, List.set_cons_succ, List.set_cons_zero, h31]
            refine wpAnyH_done (by kernel_rfl) ?_ _
            clear h31
            go_wp2_with (first | ((with_reducible refine wpList_plain ?_ ?_); exact rfl; intro KK hKK; refine wp_st_store HS 1 0 64 (.tmp 2) (.tmp 32) rfl rfl rfl (.agg (nmC [] false)) rfl (size_nm) (Nat.le_of_eq rfl) (one_nm _ _) (nmC [] false) (spl_agg _ _ _ rfl rfl) (fun W11 HSx => hKK _ _ ?_); clear hKK KK HS; have HS : St w noF [⟨g1, 50, bs b⟩, ⟨g2, 64, nmC [] false⟩] W11 := HSx; clear HSx))
            exact bodyPost_ret (v := .agg (nmC [] false)) (results_cell_row Tryd.results26 _ _ g2 64 (nmC [] false) (0, 0) _ rfl (HS.row 1 rfl) Tryd.underlying64 rfl size_nm) rfl ⟨by rw [HE.out], HS.below⟩
end Go.Proofs.YtobklbfcnbmnmaaDoor

/- Arguments of words (uint32, uint16, arrays of them) opened. No function of the program is named here. -/
set_option maxRecDepth 4000
namespace Go.Proofs.YtobklbfcnbmnmaaDoor
open Go Go.ChangeShapes Go.WideShapes Go.ChangeAt Go.RowKit
def rdU32 : Rd (BitVec 32) := fun _ cs x => cs = [.int .u32 (wd x)]
def rdU16 : Rd (BitVec 16) := fun _ cs x => cs = [.int .u16 (hd x)]
def rdWords (n : Nat) : Rd (List (BitVec 32)) := fun _ cs b => cs = b.map (fun x => Value.int .u32 (wd x)) ∧ b.length = n
theorem bounds_u32L {n : Int} (h : (Lit.int .u32 n).wf = true) : 0 ≤ n ∧ n < 4294967296 := by
  simp only [Lit.wf, Bool.and_eq_true, decide_eq_true_eq] at h
  have h1 : IntKind.u32.min = 0 := by decide
  have h2 : IntKind.u32.max = 4294967295 := by decide
  omega
theorem bounds_u16L {n : Int} (h : (Lit.int .u16 n).wf = true) : 0 ≤ n ∧ n < 65536 := by
  simp only [Lit.wf, Bool.and_eq_true, decide_eq_true_eq] at h
  have h1 : IntKind.u16.min = 0 := by decide
  have h2 : IntKind.u16.max = 65535 := by decide
  omega
theorem opens_u32 {P : Program} {t : TypeId} (ht : P.underlying t = some (.int .u32)) : Opens P t rdU32 := fun _ _ _ _ _ h _ => by
  obtain ⟨n, h1, _, h2⟩ := DataW.trod_int ht h
  have hb := bounds_u32L h2
  exact ⟨BitVec.ofInt 32 n, by unfold rdU32; rw [h1, ← wd_of n hb.1 hb.2]⟩
theorem opens_u16 {P : Program} {t : TypeId} (ht : P.underlying t = some (.int .u16)) : Opens P t rdU16 := fun _ _ _ _ _ h _ => by
  obtain ⟨n, h1, _, h2⟩ := DataW.trod_int ht h
  have hb := bounds_u16L h2
  exact ⟨BitVec.ofInt 16 n, by unfold rdU16; rw [h1, ← hd_of n hb.1 hb.2]⟩
theorem opens_words {P : Program} {t e : TypeId} {n : Nat} (ht : P.underlying t = some (.array n e)) (he : P.underlying e = some (.int .u32)) (hce : P.cellsOf e = 1) (hct : P.cellsOf t = n) : Opens P t (rdWords n) := fun enc W fuel cs x h _ => by
  obtain ⟨xs, m, _, _, hl, hx, hi⟩ := DataW.trod_array ht h
  have hs : cs.length = n := by rw [hl, hct]
  have hint : ∀ i, i < n → ∃ z, cs[i]? = some (.int .u32 z) ∧ (Lit.int .u32 z).wf = true := fun i hin => by
    have h1 := hi i hin
    rw [List.getElem?_eq_getElem (by omega)] at h1
    obtain ⟨z, hz, _, hw⟩ := DataW.trod_int he h1
    refine ⟨z, ?_, hw⟩
    simp only [hce, Nat.mul_one] at hz
    rw [List.take_one, List.head?_drop] at hz
    cases hc : cs[i]? with
    | none => rw [hc] at hz; cases hz
    | some v => rw [hc] at hz; simpa using hz
  refine ⟨cs.map fun v => BitVec.ofInt 32 (intIn v), ?_, by simp [hs]⟩
  apply List.ext_getElem?
  intro i
  by_cases hin : i < n
  · obtain ⟨z, hz, hw⟩ := hint i hin
    have hb := bounds_u32L hw
    simp [hz, intIn, ← wd_of z hb.1 hb.2]
  · rw [List.getElem?_eq_none (by omega), List.getElem?_eq_none (by simp; omega)]
theorem open_words {P : Program} {t e : TypeId} {n : Nat} (ht : P.underlying t = some (.array n e)) (he : P.underlying e = some (.int .u32)) (hce : P.cellsOf e = 1) (hct : P.cellsOf t = n) {H : Type} {enc : TypeId × Value → H} {W : World} {r : Reach} {base : Nat} {v : Value} {d : DataW H} {ps : List MemPlace} (hval : Value.okWide P W r base t v) (hT : DataW.Trod enc P W 0 (fun _ => true) true t v d ps) (hlt : ∀ y ∈ ps, y.block < W.heap.size) : ∃ q : List (BitVec 32), q.length = n ∧ v = .agg (ws q) := by
  obtain ⟨cs, rfl⟩ := okWide_arr ht hval
  obtain ⟨q, h1, h2⟩ := open_arg (opens_words ht he hce hct) hT hlt
  exact ⟨q, h2, congrArg Value.agg (by apply Array.toList_inj.1; simpa [Value.cells, ws] using h1)⟩
end Go.Proofs.YtobklbfcnbmnmaaDoor
