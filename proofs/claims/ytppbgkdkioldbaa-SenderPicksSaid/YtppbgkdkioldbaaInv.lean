/- A region that draws its order, walked once: what each operation yields holds by what those that it waits for yielded, whichever comes up. The conditions: the theorems' own. -/
import Derived.OrdersHeld
import Derived.Below
import Derived.WalkKit
set_option maxRecDepth 4000
namespace Go.Proofs.Ytppbgkdkioldbaa
open Go Go.RowKit
/- what an operation yields -/
def Does (P : Program) (o : Oper) (a : Act) (w : World) (R : Value → World → Prop) : Prop :=
  ∀ (K : Act → World → Prop) (Q : Exit → Act → World → Prop), (∀ v w', R v w' → K (a.put o.dst v) w') → o.wp P a w K Q
def dstAt (ops : Array Oper) (i : Nat) : Option Tmp := (ops[i]?).bind (·.dst)
def waitsFor (o : Oper) (j : Nat) : Bool := o.after.any fun e => Region.binds .any e && e.on == j
def anc (ops : Array Oper) : List Nat → Array Bool → Array Bool
  | [], m => m
  | k :: ks, m => anc ops ks (if m.getD k false then ((ops[k]?).map fun o => o.after.foldl (fun m e => if Region.binds .any e then m.setIfInBounds e.on true else m) m).getD m else m)
def chk (ops : Array Oper) (n size : Nat) : Bool :=
  decide (n ≤ ops.size) &&
  (List.range ops.size).all (fun i => ((ops[i]?).map fun o => o.after.all fun e => !Region.binds .any e || decide (e.on < i)).getD false) &&
  (List.range n).all (fun i => match dstAt ops i with | some d => decide (d < size) && (List.range i).all (fun j => dstAt ops j != some d) | none => true) &&
  (List.range n).all (fun i => ((ops[i]?).map fun o => (match o.guard with | some (j, _) => decide (j < n) && waitsFor o j && (dstAt ops j).isSome | none => true)).getD false) &&
  (List.range ops.size).all (fun j => decide (j < n) || (List.range n).all fun i => (anc ops (List.range (j + 1)).reverse ((Array.replicate ops.size false).setIfInBounds j true)).getD i false)
def noDst (ops : Array Oper) (n k : Nat) : Bool := (List.range n).all fun i => dstAt ops i != some k
def puts (ops : Array Oper) (x : Nat → Value) : Nat → Act → Act
  | 0, a => a
  | n + 1, a => (puts ops x n a).put (dstAt ops n) (x n)
def listedTo (n size : Nat) : Array Bool := Array.replicate n true ++ Array.replicate (size - n) false
section
variable {P : Program} {Q : Exit → Act → World → Prop} {ops : Array Oper} {n : Nat} {R : World → World → Prop} {V : Nat → Value → World → Prop} {G : Nat → Bool} {a0 : Act} {w1 : World}
def Known (ops : Array Oper) (n : Nat) (V : Nat → Value → World → Prop) (a : Act) (x : Nat → Value) (w : World) (o : Oper) : Prop :=
  ∀ j, waitsFor o j = true → j < n → V j (x j) w ∧ ∀ d, dstAt ops j = some d → a.tmps[d]? = some (x j)
def StepAt (P : Program) (ops : Array Oper) (n : Nat) (R : World → World → Prop) (V : Nat → Value → World → Prop) (G : Nat → Bool) (a0 : Act) (w1 : World) (i : Nat) (o : Oper) : Prop :=
  ∀ (a : Act) (x : Nat → Value) (w : World), R w1 w → (∀ t, noDst ops n t = true → a.tmps[t]? = a0.tmps[t]?) → Known ops n V a x w o →
    if G i then Does P o a w (fun v w' => R w w' ∧ V i v w') else V i undef w
def GuardAt (R : World → World → Prop) (V : Nat → Value → World → Prop) (G : Nat → Bool) (w1 : World) (i : Nat) (o : Oper) : Prop :=
  match o.guard with
  | none => G i = true
  | some (j, want) => ∀ v w, R w1 w → V j v w → v = .bool (want == G i)
def All (p : Nat → Oper → Prop) (n : Nat) : List Oper → Nat → Prop
  | [], _ => True
  | o :: l, i => (i < n → p i o) ∧ All p n l (i + 1)
theorem all_cons {p : Nat → Oper → Prop} {o : Oper} {l : List Oper} {i : Nat} (h : p i o) (t : All p n l (i + 1)) : All p n (o :: l) i := ⟨fun _ => h, t⟩
theorem all_end {p : Nat → Oper → Prop} : ∀ {l : List Oper} {i : Nat}, n ≤ i → All p n l i
  | [], _, _ => trivial
  | _ :: _, i, h => ⟨fun h' => absurd h' (by omega), all_end (l := _) (i := i + 1) (by omega)⟩
theorem all_get {p : Nat → Oper → Prop} : ∀ {l : List Oper} {i : Nat}, All p n l i → ∀ j o, l[j]? = some o → i + j < n → p (i + j) o
  | [], _, _, j, o, ho, _ => by simp at ho
  | o' :: l, i, h, 0, o, ho, hj => by obtain rfl : o' = o := by simpa using ho
                                      exact h.1 hj
  | o' :: l, i, h, j + 1, o, ho, hj => by
    have := all_get h.2 j o (by simpa using ho) (by omega)
    rwa [show i + 1 + j = i + (j + 1) by omega] at this
structure Inv (ops : Array Oper) (n : Nat) (R : World → World → Prop) (V : Nat → Value → World → Prop) (a0 : Act) (w1 : World) (listed : Array Bool) (a : Act) (x : Nat → Value) (w : World) : Prop where
  size : listed.size = ops.size
  closed : ∀ k o, ops[k]? = some o → listed.getD k false = true → ∀ e ∈ o.after, Region.binds .any e = true → listed.getD e.on false = true
  tail : ∀ k, n ≤ k → listed.getD k false = false
  rel : R w1 w
  defers : a.defers = a0.defers
  tsize : a.tmps.size = a0.tmps.size
  at_ : ∀ i, i < n → listed.getD i false = true → V i (x i) w ∧ ∀ d, dstAt ops i = some d → a.tmps[d]? = some (x i)
  out : ∀ k, (∀ i, i < n → listed.getD i false = true → dstAt ops i ≠ some k) → a.tmps[k]? = a0.tmps[k]?
theorem getD_set (l : Array Bool) (i k : Nat) (hi : i < l.size) : (l.setIfInBounds i true).getD k false = (if i = k then true else l.getD k false) := by
  by_cases h : i = k
  · subst h; simp [Array.getD, hi]
  · rw [if_neg h]
    simp only [Array.getD_eq_getD_getElem?]
    rw [Array.getElem?_setIfInBounds_ne h]
theorem anc_foldl {L : Nat → Prop} (es : List Edge) (m : Array Bool) (h : ∀ e ∈ es, Region.binds .any e = true → L e.on) (hm : ∀ k, m.getD k false = true → L k) :
    ∀ k, (es.foldl (fun m e => if Region.binds .any e then m.setIfInBounds e.on true else m) m).getD k false = true → L k := by
  induction es generalizing m with
  | nil => exact hm
  | cons e es ih =>
    rw [List.foldl_cons]
    refine ih _ (fun e' he' => h e' (by simp [he'])) fun k hk => ?_
    by_cases hb : Region.binds .any e = true
    · rw [if_pos hb] at hk
      by_cases hi : e.on < m.size
      · rw [getD_set _ _ _ hi] at hk
        by_cases hek : e.on = k
        · subst hek; exact h e (by simp) hb
        · rw [if_neg hek] at hk; exact hm k hk
      · rw [Array.setIfInBounds_eq_of_size_le (by omega)] at hk; exact hm k hk
    · rw [if_neg hb] at hk; exact hm k hk
theorem anc_sound {L : Nat → Prop} (hc : ∀ k o, ops[k]? = some o → L k → ∀ e ∈ o.after, Region.binds .any e = true → L e.on) : ∀ (ks : List Nat) (m : Array Bool), (∀ k, m.getD k false = true → L k) → ∀ k, (anc ops ks m).getD k false = true → L k
  | [], m, hm => hm
  | k :: ks, m, hm => by
    refine anc_sound hc ks _ fun i hi => ?_
    by_cases hk : m.getD k false = true
    · rw [if_pos hk] at hi
      cases ho : ops[k]? with
      | none => rw [ho] at hi; exact hm i hi
      | some o =>
        rw [ho] at hi
        simp only [Option.map_some, Option.getD_some] at hi
        rw [← Array.foldl_toList] at hi
        exact anc_foldl o.after.toList m (fun e he hb => hc k o ho (hm k hk) e (by simpa using he) hb) hm i hi
    · rw [if_neg hk] at hi; exact hm i hi
theorem puts_get (x : Nat → Value) (a : Act) : ∀ m, (∀ i, i < m → ∀ j, j < i → ∀ d, dstAt ops i = some d → dstAt ops j ≠ some d) → (∀ i, i < m → ∀ d, dstAt ops i = some d → d < a.tmps.size) →
    (puts ops x m a).defers = a.defers ∧ (puts ops x m a).tmps.size = a.tmps.size ∧ (∀ i, i < m → ∀ d, dstAt ops i = some d → (puts ops x m a).tmps[d]? = some (x i)) ∧ ∀ k, (∀ i, i < m → dstAt ops i ≠ some k) → (puts ops x m a).tmps[k]? = a.tmps[k]?
  | 0, _, _ => ⟨rfl, rfl, fun i hi => by omega, fun k _ => rfl⟩
  | m + 1, hd, hb => by
    obtain ⟨h1, h2, h3, h4⟩ := puts_get x a m (fun i hi => hd i (by omega)) (fun i hi => hb i (by omega))
    unfold puts
    cases hm : dstAt ops m with
    | none =>
      refine ⟨h1, h2, fun i hi d hid => ?_, fun k hk => h4 k fun i hi => hk i (by omega)⟩
      by_cases him : i = m
      · subst him; rw [hm] at hid; cases hid
      · exact h3 i (by omega) d hid
    | some dm =>
      have hlt : dm < (puts ops x m a).tmps.size := by rw [h2]; exact hb m (by omega) dm hm
      refine ⟨h1, by simp [Act.put, h2], fun i hi d hid => ?_, fun k hk => ?_⟩
      · by_cases him : i = m
        · subst him; rw [hm] at hid; injection hid with hid; subst hid
          simp [Act.put, hlt]
        · have hne : dm ≠ d := fun e => hd m (by omega) i (by omega) dm hm (e ▸ hid)
          simp only [Act.put]
          rw [Array.getElem?_setIfInBounds_ne hne]
          exact h3 i (by omega) d hid
      · have hne : dm ≠ k := fun e => hk m (by omega) (e ▸ hm)
        simp only [Act.put]
        rw [Array.getElem?_setIfInBounds_ne hne]
        exact h4 k fun i hi => hk i (by omega)
def count (listed : Array Bool) (n : Nat) : Nat := ((List.range n).filter fun i => !listed.getD i false).length
theorem count_set (listed : Array Bool) (i : Nat) (hi : i < listed.size) (h : listed.getD i false = false) : ∀ n, i < n → count listed n = count (listed.setIfInBounds i true) n + 1
  | 0, h' => by omega
  | n + 1, h' => by
    unfold count
    rw [List.range_succ, List.filter_append, List.filter_append, List.length_append, List.length_append]
    by_cases hin : i = n
    · subst hin
      have e : (List.range i).filter (fun k => !listed.getD k false) = (List.range i).filter fun k => !(listed.setIfInBounds i true).getD k false := by
        refine List.filter_congr fun k hk => ?_
        rw [getD_set _ _ _ hi, if_neg (by have := List.mem_range.1 hk; omega)]
      rw [e]
      have e1 : (listed.setIfInBounds i true).getD i false = true := by rw [getD_set _ _ _ hi, if_pos rfl]
      simp only [List.filter_cons, List.filter_nil, h, e1]
      simp
    · have ih := count_set listed i hi h n (by omega)
      unfold count at ih
      have e : (listed.setIfInBounds i true).getD n false = listed.getD n false := by rw [getD_set _ _ _ hi, if_neg hin]
      simp only [List.filter_cons, List.filter_nil, e]
      omega
theorem count_zero (listed : Array Bool) (n : Nat) (h : count listed n = 0) (i : Nat) (hi : i < n) : listed.getD i false = true := by
  unfold count at h
  have := List.filter_eq_nil_iff.1 (List.length_eq_zero_iff.1 h) i (List.mem_range.2 hi)
  simpa using this
theorem count_pos (listed : Array Bool) (n m : Nat) (h : count listed n = m + 1) : ∃ i, i < n ∧ listed.getD i false = false ∧ ∀ j, j < i → listed.getD j false = true := by
  have hne : ∃ i, i < n ∧ listed.getD i false = false := by
    apply Decidable.byContradiction
    intro hno
    have : (List.range n).filter (fun i => !listed.getD i false) = [] := by
      refine List.filter_eq_nil_iff.2 fun i hi => ?_
      have hi' := List.mem_range.1 hi
      cases hv : listed.getD i false with
      | true => simp
      | false => exact absurd ⟨i, hi', hv⟩ hno
    unfold count at h
    rw [this] at h
    simp at h
  obtain ⟨i, hi, hv⟩ := hne
  induction i using Nat.strongRecOn with
  | _ i ih =>
    by_cases hall : ∀ j, j < i → listed.getD j false = true
    · exact ⟨i, hi, hv, hall⟩
    · have : ∃ j, j < i ∧ listed.getD j false = false := by
        apply Decidable.byContradiction
        intro hno
        refine hall fun j hj => ?_
        cases hv : listed.getD j false with
        | true => rfl
        | false => exact absurd ⟨j, hj, hv⟩ hno
      obtain ⟨j, hj, hjv⟩ := this
      exact ih j hj (by omega) hjv
theorem eval_of_get {a : Act} {d : Nat} {v : Value} (h : a.tmps[d]? = some v) : a.eval (.tmp d) = v := by simp [Act.eval, Array.getD_eq_getD_getElem?, h]
theorem wp_region_inv {id : Nat} {l : List Oper} {w0 : World} (n : Nat) (V : Nat → Value → World → Prop) (G : Nat → Bool) (R : World → World → Prop) (hm : P.follows .mixedOrders = true) (hchk : chk l.toArray n a0.tmps.size = true)
    (hrefl : ∀ w, R w w) (htrans : ∀ a b c, R a b → R b c → R a c) (hstay : ∀ i, i < n → ∀ v w w', V i v w → R w w' → V i v w')
    (hguard : All (GuardAt R V G w0.drew) n l 0) (hstep : All (StepAt P l.toArray n R V G a0 w0.drew) n l 0)
    (hrest : ∀ (x : Nat → Value) (w : World), R w0.drew w → (∀ i, i < n → V i (x i) w) → wpAnyH P .any l.toArray Q (fun _ => True) (l.length - n) (listedTo n l.length) (puts l.toArray x n a0) w) :
    (Code.region id l.toArray true).wp P Q a0 w0 := by
  refine wp_region_any hm ?_
  change wpAny P .any l.toArray Q l.toArray.size (Array.replicate l.toArray.size false) a0 w0.drew
  have hg0 := fun j o ho hj => all_get hguard j o ho (by simpa using hj)
  have hs0 := fun j o ho hj => all_get hstep j o ho (by simpa using hj)
  clear hguard hstep
  generalize w0.drew = w1 at *
  have hsz : l.toArray.size = l.length := by simp
  have hget : ∀ j o, l.toArray[j]? = some o → l[j]? = some o := fun j o h => (List.getElem?_toArray (xs := l)).symm.trans h
  simp only [Nat.zero_add] at hg0 hs0
  have hg : ∀ j o, l.toArray[j]? = some o → j < n → GuardAt R V G w1 j o := fun j o ho hj => hg0 j o (hget j o ho) hj
  have hs : ∀ j o, l.toArray[j]? = some o → j < n → StepAt P l.toArray n R V G a0 w1 j o := fun j o ho hj => hs0 j o (hget j o ho) hj
  clear hg0 hs0 hget
  rw [hsz]
  rw [← hsz] at hrest ⊢
  generalize l.toArray = ops at *
  clear hsz
  unfold chk at hchk
  simp only [Bool.and_eq_true, List.all_eq_true, List.mem_range] at hchk
  obtain ⟨⟨⟨⟨c0, c1⟩, c2⟩, c3⟩, c4⟩ := hchk
  have hn : n ≤ ops.size := of_decide_eq_true c0
  have back : ∀ i o, ops[i]? = some o → ∀ e ∈ o.after, Region.binds .any e = true → e.on < i := fun i o ho e he hb => by
    have hi := (Array.getElem?_eq_some_iff.1 ho).1
    have h := c1 i hi
    rw [ho] at h
    simp only [Option.map_some, Option.getD_some, Array.all_eq_true_iff_forall_mem] at h
    have := h e he
    simpa [hb] using this
  have dlt : ∀ i, i < n → ∀ d, dstAt ops i = some d → d < a0.tmps.size := fun i hi d hd => by
    have h := c2 i hi
    rw [hd] at h
    simp only [Bool.and_eq_true, decide_eq_true_eq] at h
    exact h.1
  have dne : ∀ i, i < n → ∀ j, j < i → ∀ d, dstAt ops i = some d → dstAt ops j ≠ some d := fun i hi j hj d hd => by
    have h := c2 i hi
    rw [hd] at h
    simp only [Bool.and_eq_true, List.all_eq_true, List.mem_range] at h
    have := h.2 j hj
    simpa using this
  have dinj : ∀ i j d, i < n → j < n → dstAt ops i = some d → dstAt ops j = some d → i = j := fun i j d hi hj h1 h2 => by
    rcases Nat.lt_trichotomy i j with h | h | h
    · exact absurd h1 (dne j hj i h d h2)
    · exact h
    · exact absurd h2 (dne i hi j h d h1)
  have look : ∀ i o, i < n → ops[i]? = some o → ∀ j want, o.guard = some (j, want) → j < n ∧ waitsFor o j = true ∧ ∃ d, dstAt ops j = some d := fun i o hi ho j want hgd => by
    have h := c3 i hi
    rw [ho] at h
    simp only [Option.map_some, Option.getD_some, hgd, Bool.and_eq_true, decide_eq_true_eq] at h
    exact ⟨h.1.1, h.1.2, Option.isSome_iff_exists.1 h.2⟩
  have tails : ∀ j, j < ops.size → n ≤ j → ∀ i, i < n → (anc ops (List.range (j + 1)).reverse ((Array.replicate ops.size false).setIfInBounds j true)).getD i false = true := fun j hj hnj i hi => by
    have h := c4 j hj
    simp only [Bool.or_eq_true, decide_eq_true_eq, List.all_eq_true, List.mem_range] at h
    exact (h.resolve_left (by omega)) i hi
  clear c0 c1 c2 c3 c4
  have main : ∀ m listed a x w, count listed n = m → Inv ops n R V a0 w1 listed a x w → wpAny P .any ops Q (m + (ops.size - n)) listed a w := by
    intro m
    induction m with
    | zero =>
      intro listed a x w hm0 I
      have hl : listed = listedTo n ops.size := by
        apply Array.ext_getElem?
        intro k
        by_cases hk : k < ops.size
        · have hks : k < listed.size := by rw [I.size]; exact hk
          rw [Array.getElem?_eq_getElem hks]
          have e : listed.getD k false = listed[k] := by simp [Array.getD, hks]
          by_cases hkn : k < n
          · have h1 := count_zero listed n hm0 k hkn
            rw [e] at h1
            rw [h1, listedTo, Array.getElem?_append_left (by simpa using hkn)]
            simp [hkn]
          · have h1 := I.tail k (by omega)
            rw [e] at h1
            rw [h1, listedTo, Array.getElem?_append_right (by simp; omega), Array.getElem?_replicate, if_pos (by simp; omega)]
        · rw [Array.getElem?_eq_none (by rw [I.size]; omega), Array.getElem?_eq_none (by simp [listedTo]; omega)]
      have ha : a = puts ops x n a0 := by
        obtain ⟨p1, p2, p3, p4⟩ := puts_get x a0 n dne dlt
        have ht : a.tmps = (puts ops x n a0).tmps := by
          apply Array.ext_getElem?
          intro k
          by_cases hk : ∃ i, i < n ∧ dstAt ops i = some k
          · obtain ⟨i, hi, hd⟩ := hk
            rw [(I.at_ i hi (count_zero listed n hm0 i hi)).2 k hd, p3 i hi k hd]
          · rw [I.out k fun i hi _ hd => hk ⟨i, hi, hd⟩, p4 k fun i hi hd => hk ⟨i, hi, hd⟩]
        have hd : a.defers = (puts ops x n a0).defers := I.defers.trans p1.symm
        generalize puts ops x n a0 = b at *
        cases a; cases b; simp only at ht hd; subst ht hd; rfl
      rw [Nat.zero_add, hl, ha]
      refine wpAny_of_held _ _ _ _ (S := fun _ => True) ?_
      exact hrest x w I.rel fun i hi => (I.at_ i hi (count_zero listed n hm0 i hi)).1
    | succ m ih =>
      intro listed a x w hm1 I
      rw [show m + 1 + (ops.size - n) = (m + (ops.size - n)) + 1 by omega]
      have hgd : ∀ k, k < ops.size → listed.getD k true = listed.getD k false := fun k hk => by simp [Array.getD, show k < listed.size by rw [I.size]; exact hk]
      refine ⟨fun hr => ?_, fun i hi => ?_⟩
      · exfalso
        obtain ⟨i, hin, hif, hbelow⟩ := count_pos listed n m hm1
        have hio : i < ops.size := by omega
        have : i ∈ Region.ready .any ops listed := mem_ready.2 ⟨by rw [hgd i hio]; exact hif, ops[i], Array.getElem?_eq_getElem hio, fun e he hb => hbelow e.on (back i _ (Array.getElem?_eq_getElem hio) e he hb)⟩
        rw [hr] at this
        cases this
      · obtain ⟨hun, o, ho, hall⟩ := mem_ready.1 hi
        have hio : i < ops.size := (Array.getElem?_eq_some_iff.1 ho).1
        have hif : listed.getD i false = false := by rw [← hgd i hio]; exact hun
        have hin : i < n := by
          apply Decidable.byContradiction
          intro hge
          have hL : ∀ k, ((Array.replicate ops.size false).setIfInBounds i true).getD k false = true → k = i ∨ listed.getD k false = true := fun k hk => by
            rw [getD_set _ _ _ (by simpa using hio)] at hk
            by_cases hik : i = k
            · exact .inl hik.symm
            · rw [if_neg hik] at hk
              simp [Array.getD] at hk
          have hcl : ∀ k o', ops[k]? = some o' → (k = i ∨ listed.getD k false = true) → ∀ e ∈ o'.after, Region.binds .any e = true → (e.on = i ∨ listed.getD e.on false = true) := fun k o' ho' hk e he hb => by
            rcases hk with rfl | hk
            · rw [ho] at ho'; injection ho' with ho'; subst ho'
              exact .inr (hall e he hb)
            · exact .inr (I.closed k o' ho' hk e he hb)
          obtain ⟨k, hkn, hkf, _⟩ := count_pos listed n m hm1
          have := anc_sound (L := fun k => k = i ∨ listed.getD k false = true) hcl _ _ hL k (tails i hio (by omega) k hkn)
          rcases this with h | h
          · omega
          · rw [hkf] at h; cases h
        have hun0 : ∀ j, j < n → dstAt ops j = dstAt ops i → listed.getD j false = true → dstAt ops i = none := fun j hj hd hl => by
          cases hdi : dstAt ops i with
          | none => rfl
          | some d =>
            rw [hdi] at hd
            obtain rfl := dinj j i d hj hin hd hdi
            rw [hif] at hl; cases hl
        have hilt : i < listed.size := by rw [I.size]; exact hio
        have next : ∀ v w', R w w' → V i v w' → Inv ops n R V a0 w1 (listed.setIfInBounds i true) (a.put o.dst v) (fun k => if k = i then v else x k) w' := fun v w' hR hV => by
          have hdo : dstAt ops i = o.dst := by simp [dstAt, ho]
          refine ⟨by simp [I.size], fun k o' ho' hk e he hb => ?_, fun k hk => ?_, htrans _ _ _ I.rel hR, ?_, ?_, fun k hk hkl => ?_, fun k hk => ?_⟩
          · rw [getD_set _ _ _ hilt] at hk ⊢
            by_cases hei : i = e.on
            · rw [if_pos hei]
            · rw [if_neg hei]
              by_cases hik : i = k
              · subst hik
                rw [ho] at ho'; injection ho' with ho'; subst ho'
                exact hall e he hb
              · rw [if_neg hik] at hk
                exact I.closed k o' ho' hk e he hb
          · rw [getD_set _ _ _ hilt, if_neg (by omega)]; exact I.tail k hk
          · cases hd : o.dst <;> simp [Act.put, I.defers]
          · cases hd : o.dst <;> simp [Act.put, I.tsize]
          · rw [getD_set _ _ _ hilt] at hkl
            by_cases hki : k = i
            · subst hki
              refine ⟨by rw [if_pos rfl]; exact hV, fun d hd => ?_⟩
              rw [if_pos rfl]
              have hlt := dlt k hin d hd
              rw [hdo] at hd
              simp [Act.put, hd, I.tsize, hlt]
            · rw [if_neg (fun e => hki e.symm)] at hkl
              obtain ⟨h1, h2⟩ := I.at_ k hk hkl
              rw [if_neg hki]
              refine ⟨hstay k hk _ _ _ h1 hR, fun d hd => ?_⟩
              cases hd2 : o.dst with
              | none => simp only [Act.put]; exact h2 d hd
              | some di =>
                have hne : di ≠ d := fun e => hki (dinj k i d hk hin hd (by rw [hdo, hd2, e]))
                simp only [Act.put]
                rw [Array.getElem?_setIfInBounds_ne hne]
                exact h2 d hd
          · have hki := hk i hin (by rw [getD_set _ _ _ hilt, if_pos rfl])
            have hout := I.out k fun j hj hl => hk j hj (by rw [getD_set _ _ _ hilt]; split <;> simp_all)
            cases hd2 : o.dst with
            | none => simp only [Act.put]; exact hout
            | some di =>
              have hne : di ≠ k := fun e => hki (by rw [hdo, hd2, e])
              simp only [Act.put]
              rw [Array.getElem?_setIfInBounds_ne hne]
              exact hout
        have hcount : count (listed.setIfInBounds i true) n = m := by have := count_set listed i hilt hif n hin; omega
        have known : Known ops n V a x w o := fun j hwj hj => by
          unfold waitsFor at hwj
          rw [Array.any_eq_true] at hwj
          obtain ⟨k, hk, he⟩ := hwj
          simp only [Bool.and_eq_true, beq_iff_eq] at he
          have hl := hall o.after[k] (Array.getElem_mem hk) he.1
          rw [he.2] at hl
          obtain ⟨h1, h2⟩ := I.at_ j hj hl
          exact ⟨h1, h2⟩
        have outer : ∀ t, noDst ops n t = true → a.tmps[t]? = a0.tmps[t]? := fun t ht => by
          unfold noDst at ht
          simp only [List.all_eq_true, List.mem_range] at ht
          exact I.out t fun j hj _ hd => by have := ht j hj; rw [hd] at this; simp at this
        have step := hs i o ho hin a x w I.rel outer known
        have hwant : Region.wanted o (yielded ops a.tmps) = G i := by
          have hgi := hg i o ho hin
          unfold GuardAt at hgi
          unfold Region.wanted
          cases hgd2 : o.guard with
          | none => rw [hgd2] at hgi; exact hgi.symm
          | some jw =>
            obtain ⟨j, want⟩ := jw
            rw [hgd2] at hgi
            simp only at hgi ⊢
            obtain ⟨hj, hwj, d, hd⟩ := look i o hin ho j want hgd2
            unfold waitsFor at hwj
            rw [Array.any_eq_true] at hwj
            obtain ⟨k, hk, he⟩ := hwj
            simp only [Bool.and_eq_true, beq_iff_eq] at he
            have hl := hall o.after[k] (Array.getElem_mem hk) he.1
            rw [he.2] at hl
            obtain ⟨h1, h2⟩ := I.at_ j hj hl
            have hv := hgi _ _ I.rel h1
            have ht := h2 d hd
            rw [hv] at ht
            unfold dstAt at hd
            simp only [yielded, hd, Option.bind_some, ht]
            cases want <;> cases G i <;> rfl
        unfold wpOp
        simp only [ho, hwant]
        by_cases hGi : G i = true
        · rw [if_pos hGi] at step ⊢
          exact .inl (step _ _ fun v w' ⟨hR, hV⟩ => ih _ _ _ w' hcount (next v w' hR hV))
        · rw [if_neg hGi] at step ⊢
          exact ih _ _ _ w hcount (next undef w (hrefl w) step)
  have hcount : count (Array.replicate ops.size false) n = n := by
    unfold count
    have e : (List.range n).filter (fun i => !(Array.replicate ops.size false).getD i false) = List.range n := by
      refine List.filter_eq_self.2 fun i hi => ?_
      simp [Array.getD]
    rw [e, List.length_range]
  have := main n (Array.replicate ops.size false) a0 (fun _ => undef) w1 hcount ⟨by simp, fun k o _ hk => by simp [Array.getD] at hk, fun k _ => by simp [Array.getD], hrefl _, rfl, rfl, fun i _ hl => by simp [Array.getD] at hl, fun k _ => rfl⟩
  rwa [show n + (ops.size - n) = ops.size by omega] at this
end
theorem anyH_one {P : Program} {md : Region.Mode} {ops : Array Oper} {Q : Exit → Act → World → Prop} {S : World → Prop} {i : Nat} {o : Oper} {fuel : Nat} {listed : Array Bool} {a : Act} {w : World} (hr : Region.ready md ops listed = [i]) (ho : ops[i]? = some o)
    (h : ∀ K' : Act → World → Prop, (∀ a w, S w → wpAnyH P md ops Q S fuel (listed.setIfInBounds i true) a w → K' a w) → if Region.wanted o (yielded ops a.tmps) = true then Oper.wp P o a w K' Q else K' (a.put o.dst undef) w) : wpAnyH P md ops Q S (fuel + 1) listed a w :=
  wpAnyH_all hr (by simp) fun j hj => by
    obtain rfl : j = i := by simpa using hj
    exact wpOp_step ho (fun K hK => h K fun a w h1 h2 => hK a w ⟨h1, h2⟩)
end Go.Proofs.Ytppbgkdkioldbaa
