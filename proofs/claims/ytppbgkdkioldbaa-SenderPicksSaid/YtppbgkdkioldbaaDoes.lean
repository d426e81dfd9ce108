/- The steps of a region that is walked by what each operation yields: the plain operations; what stays of a world while blocks are made and calls come and go. -/
import Derived.Test.YtppbgkdkioldbaaInv
import Derived.Test.YtppbgkdkioldbaaSl
set_option maxRecDepth 4000
namespace Go.Proofs.Ytppbgkdkioldbaa
open Go Go.RowKit
/- below B all is as it was; every block keeps its cells -/
structure Keeps (B : Nat) (w w' : World) : Prop where
  below : Below B w w'
  rows : ∀ (g : Nat) (cs : Array Value) (t : TypeId) (fr : Nat × Nat), w.heap[g]? = some (.cells cs t fr) → ∃ fr' : Nat × Nat, w'.heap[g]? = some (.cells cs t fr')
theorem Keeps.refl (B : Nat) (w : World) : Keeps B w w := ⟨Below.refl _ _, fun _ _ _ fr h => ⟨fr, h⟩⟩
theorem Keeps.trans {B : Nat} {a b c : World} (h : Keeps B a b) (k : Keeps B b c) : Keeps B a c :=
  ⟨h.below.trans k.below, fun g cs t fr hg => by obtain ⟨fr', h'⟩ := h.rows g cs t fr hg; exact k.rows g cs t fr' h'⟩
theorem lt_of_heap {w : World} {g : Nat} {o : Obj} (h : w.heap[g]? = some o) : g < w.heap.size := (Array.getElem?_eq_some_iff.1 h).1
theorem Keeps.call {B : Nat} {w w' : World} (h : Below w.heap.size w w') (hB : B ≤ w.heap.size) : Keeps B w w' :=
  ⟨h.mono hB, fun g _ _ fr hg => ⟨fr, (h.block g (lt_of_heap hg)).trans hg⟩⟩
theorem Keeps.alloc {B : Nat} (w : World) (o : Obj) (hB : B ≤ w.heap.size) : Keeps B w (w.alloc o) := Keeps.call ((Below.refl _ _).alloc (Nat.le_refl _) o) hB
theorem Keeps.cell {B : Nat} {w w' : World} (h : Keeps B w w') {a : Addr} {v : Value} (hc : w.cell? a = some v) : w'.cell? a = some v := by
  unfold World.cell? at *
  cases hg : w.heap[a.block]? with
  | none => rw [hg] at hc; cases hc
  | some o =>
    rw [hg] at hc
    cases o with
    | cells cs t fr => obtain ⟨fr', h'⟩ := h.rows _ _ _ _ hg
                       rw [h']; exact hc
    | _ => cases hc
theorem Keeps.slice {B : Nat} {w w' : World} {v : Value} {q : List (BitVec 8)} (h : Keeps B w w') (hs : Slice w v q) : Slice w' v q := by
  obtain ⟨A, c, h1, h2, h3⟩ := hs
  refine ⟨A, c, h1, h2, fun hne => ?_⟩
  obtain ⟨b, o, h4, h5, h6⟩ := h3 hne
  exact ⟨b, o, h4, Nat.lt_of_lt_of_le h5 h.below.size, fun j x hx => h.cell (h6 j x hx)⟩
theorem Keeps.parts {B : Nat} {w w' : World} {v : Value} {ps : List (List (BitVec 8))} (h : Keeps B w w') (hs : Parts w v ps) : Parts w' v ps := by
  obtain ⟨A, c, h1, h3⟩ := hs
  refine ⟨A, c, h1, fun hne => ?_⟩
  obtain ⟨b, o, h4, h5, h6⟩ := h3 hne
  refine ⟨b, o, h4, Nat.lt_of_lt_of_le h5 h.below.size, fun k q hq => ?_⟩
  obtain ⟨u, h7, h8⟩ := h6 k q hq
  exact ⟨u, h.cell h7, h.slice h8⟩
theorem Keeps.item {B : Nat} {w w' : World} {v : Value} {q : List (BitVec 8)} (h : Keeps B w w') (hs : Item w v q) : Item w' v q := by
  obtain ⟨A, c, h1, h2, h3⟩ := hs
  exact ⟨A, c, h1, h.slice h2, h3⟩
theorem Keeps.hand {B : Nat} {w w' : World} {v : Value} {ps : List (List (BitVec 8))} (h : Keeps B w w') (hs : Hand w v ps) : Hand w' v ps := by
  obtain ⟨A, c, h1, h3⟩ := hs
  refine ⟨A, c, h1, fun hne => ?_⟩
  obtain ⟨b, o, h4, h5, h6⟩ := h3 hne
  refine ⟨b, o, h4, Nat.lt_of_lt_of_le h5 h.below.size, fun k q hq => ?_⟩
  obtain ⟨u, h7, h8⟩ := h6 k q hq
  exact ⟨u, h.cell h7, h.item h8⟩
/- what a value is known by -/
def is (c : Value) : Value → World → Prop := fun v _ => v = c
def anyV : Value → World → Prop := fun _ _ => True
def sl (q : List (BitVec 8)) : Value → World → Prop := fun v w => Slice w v q
def pts (ps : List (List (BitVec 8))) : Value → World → Prop := fun v w => Parts w v ps
def hnd (ps : List (List (BitVec 8))) : Value → World → Prop := fun v w => Hand w v ps
/- a literal's row, frozen or not -/
def lit (B : Nat) (q : List (BitVec 8)) : Value → World → Prop := fun v w => ∃ (g : Nat) (fr : Nat × Nat), v = .slice (some ⟨g, 0, none⟩) q.length q.length ∧ B ≤ g ∧ w.heap[g]? = some (.cells (bs q) 5 fr)
theorem lit_sl {B : Nat} {q : List (BitVec 8)} {v : Value} {w : World} (h : lit B q v w) : Slice w v q := by
  obtain ⟨g, fr, rfl, _, hg⟩ := h
  refine ⟨_, q.length, rfl, Nat.le_refl _, fun _ => ⟨g, 0, rfl, lt_of_heap hg, fun j x hx => ?_⟩⟩
  have hj := (List.getElem?_eq_some_iff.1 hx).1
  rw [Nat.zero_add, cell_of_row w g j _ _ _ hg, get_bs q j hj, List.getD_eq_getElem?_getD, hx]; rfl
def Stays (B : Nat) (V : Value → World → Prop) : Prop := ∀ v w w', V v w → Keeps B w w' → V v w'
theorem is_stays (B : Nat) (c : Value) : Stays B (is c) := fun _ _ _ h _ => h
theorem any_stays (B : Nat) : Stays B anyV := fun _ _ _ _ _ => trivial
theorem sl_stays (B : Nat) (q : List (BitVec 8)) : Stays B (sl q) := fun _ _ _ h k => k.slice h
theorem pts_stays (B : Nat) (q : List (List (BitVec 8))) : Stays B (pts q) := fun _ _ _ h k => k.parts h
theorem hnd_stays (B : Nat) (q : List (List (BitVec 8))) : Stays B (hnd q) := fun _ _ _ h k => k.hand h
theorem lit_stays (B : Nat) (q : List (BitVec 8)) : Stays B (lit B q) := fun v w w' h k => by
  obtain ⟨g, fr, rfl, hB, hg⟩ := h
  obtain ⟨fr', h'⟩ := k.rows _ _ _ _ hg
  exact ⟨g, fr', rfl, hB, h'⟩
def Vs (l : List (Value → World → Prop)) (i : Nat) : Value → World → Prop := l.getD i anyV
def StaysAll (B : Nat) : List (Value → World → Prop) → Prop
  | [] => True
  | V :: l => Stays B V ∧ StaysAll B l
theorem stays_all {B : Nat} : ∀ {l : List (Value → World → Prop)}, StaysAll B l → ∀ i v w w', Vs l i v w → Keeps B w w' → Vs l i v w'
  | [], _, i, v, w, w', _, _ => by unfold Vs; simp [anyV]
  | V :: l, h, 0, v, w, w', hv, k => h.1 v w w' hv k
  | V :: l, h, i + 1, v, w, w', hv, k => by
    have := stays_all h.2 i v w w'
    unfold Vs at *
    simp only [List.getD_cons_succ] at *
    exact this hv k
theorem stays_nil (B : Nat) : StaysAll B [] := trivial
theorem stays_cons {B : Nat} {V : Value → World → Prop} {l : List (Value → World → Prop)} (h : Stays B V) (t : StaysAll B l) : StaysAll B (V :: l) := ⟨h, t⟩
section
variable {P : Program} {ops : Array Oper} {n : Nat} {R : World → World → Prop} {V : Nat → Value → World → Prop} {G : Nat → Bool} {a0 a : Act} {w1 w : World} {x : Nat → Value} {o : Oper} {l : List Oper} {i : Nat}
theorem Known.get (hk : Known ops n V a x w o) (j d : Nat) (hw : waitsFor o j = true) (hj : j < n) (hd : dstAt ops j = some d) : ∃ v, a.tmps[d]? = some v ∧ V j v w := ⟨x j, (hk j hw hj).2 d hd, (hk j hw hj).1⟩
theorem Known.is (hk : Known ops n V a x w o) (j d : Nat) (hw : waitsFor o j = true) (hj : j < n) (hd : dstAt ops j = some d) (c : Value) (hV : V j = is c) : a.tmps[d]? = some c := by
  obtain ⟨h1, h2⟩ := hk j hw hj
  rw [hV] at h1
  rw [h2 d hd]; exact congrArg some h1
theorem all_step (hG : G i = true) (h : ∀ (a : Act) (x : Nat → Value) (w : World), R w1 w → (∀ t, noDst ops n t = true → a.tmps[t]? = a0.tmps[t]?) → Known ops n V a x w o → Does P o a w (fun v w' => R w w' ∧ V i v w'))
    (t : All (StepAt P ops n R V G a0 w1) n l (i + 1)) : All (StepAt P ops n R V G a0 w1) n (o :: l) i :=
  all_cons (fun a x w h1 h2 h3 => by rw [if_pos hG]; exact h a x w h1 h2 h3) t
theorem all_skip (hG : G i = false) (h : ∀ w, R w1 w → V i undef w)
    (t : All (StepAt P ops n R V G a0 w1) n l (i + 1)) : All (StepAt P ops n R V G a0 w1) n (o :: l) i :=
  all_cons (fun a x w h1 _ _ => by rw [if_neg (by rw [hG]; decide)]; exact h w h1) t
end
def putL : List (Option Tmp) → (Nat → Value) → Nat → Act → Act
  | [], _, _, a => a
  | d :: ds, x, i, a => putL ds x (i + 1) (a.put d (x i))
theorem putL_snoc (x : Nat → Value) (d : Option Tmp) : ∀ (ds : List (Option Tmp)) (i : Nat) (a : Act), putL (ds ++ [d]) x i a = (putL ds x i a).put d (x (i + ds.length))
  | [], i, a => rfl
  | e :: ds, i, a => by
    rw [List.cons_append, putL, putL, putL_snoc x d ds (i + 1) _, List.length_cons, show i + 1 + ds.length = i + (ds.length + 1) by omega]
theorem puts_eq (l : List Oper) (x : Nat → Value) (a : Act) : ∀ n, n ≤ l.length → puts l.toArray x n a = putL ((l.map (·.dst)).take n) x 0 a
  | 0, _ => rfl
  | n + 1, h => by
    have hl : n < (l.map (·.dst)).length := by rw [List.length_map]; exact h
    have e : dstAt l.toArray n = (l.map (·.dst))[n] := by
      have : l.toArray[n]? = some l[n] := (List.getElem?_toArray (xs := l)).trans (List.getElem?_eq_getElem h)
      simp [dstAt, this]
    rw [puts, puts_eq l x a n (by omega), List.take_succ_eq_append_getElem hl, putL_snoc, e, List.length_take, Nat.min_eq_left (by omega), Nat.zero_add]
theorem wp_region_vs {P : Program} {Q : Exit → Act → World → Prop} {id : Nat} {l : List Oper} {a0 : Act} {w0 : World} (B : Nat) (Vl : List (Value → World → Prop)) (ds : List (Option Tmp)) (n N : Nat) (G : Nat → Bool) (hn : Vl.length = n) (hN : l.length = N) (hds : (l.map (·.dst)).take n = ds) (hm : P.follows .mixedOrders = true) (hchk : chk l.toArray n a0.tmps.size = true) (hst : StaysAll B Vl)
    (hguard : All (GuardAt (Keeps B) (Vs Vl) G w0.drew) n l 0) (hstep : All (StepAt P l.toArray n (Keeps B) (Vs Vl) G a0 w0.drew) n l 0)
    (hrest : ∀ (x : Nat → Value) (w : World), Keeps B w0.drew w → (∀ i, i < n → Vs Vl i (x i) w) → wpAnyH P .any l.toArray Q (fun _ => True) (N - n) (listedTo n N) (putL ds x 0 a0) w) :
    (Code.region id l.toArray true).wp P Q a0 w0 := by
  subst hn hN hds
  have hle : Vl.length ≤ l.length := by
    unfold chk at hchk
    simp only [Bool.and_eq_true] at hchk
    have := of_decide_eq_true hchk.1.1.1.1
    simpa using this
  exact wp_region_inv Vl.length (Vs Vl) G (Keeps B) hm hchk (Keeps.refl _) (fun _ _ _ => Keeps.trans) (fun i _ v w w' => stays_all hst i v w w') hguard hstep fun x w h1 h2 => by rw [puts_eq l x a0 _ hle]; exact hrest x w h1 h2
section
variable {P : Program} {o : Oper} {a : Act} {w : World} {R : Value → World → Prop}
theorem does_run {v : Value} {w' : World} (h : (execOp a.eval o).run P w = .ok (.value v) w') (hR : R v w') : Does P o a w R := fun K Q hK => by
  unfold Oper.wp; rw [h]; exact hK v w' hR
theorem does_move {t : Nat} {v : Value} (ho : o.op = .move (.tmp t)) (ht : a.tmps[t]? = some v) (h : R v w) : Does P o a w R :=
  does_run (by simp only [execOp, ho, eval_of_get ht, Sem.run_pure]) h
theorem does_assign {t : Nat} {v : Value} (ho : o.op = .assign (.tmp t)) (ht : a.tmps[t]? = some v) (h : R v w) : Does P o a w R :=
  does_run (by simp only [execOp, ho, eval_of_get ht, Sem.run_pure]) h
theorem does_pick {t : Nat} {x y : Operand} {b : Bool} (ho : o.op = .pick (.tmp t) x y) (ht : a.tmps[t]? = some (.bool b)) (h : R (a.eval (if b then x else y)) w) : Does P o a w R :=
  does_run (v := a.eval (if b then x else y)) (by cases b <;> simp [execOp, ho, eval_of_get ht, asBool]) h
theorem does_not {t : Nat} {ty : TypeId} {b : Bool} (ho : o.op = .unOp .not ty (.tmp t)) (ht : a.tmps[t]? = some (.bool b)) (h : R (.bool !b) w) : Does P o a w R :=
  does_run (v := .bool !b) (by simp [execOp, ho, eval_of_get ht, Op.unary]) h
end
end Go.Proofs.Ytppbgkdkioldbaa
