/- A region that draws its order and in which some operations change what was there (calls of methods, appends, stores), one behind the other: each of them begins a new phase; what is known of the world hangs on the phase. -/
import Derived.Test.YtppbgkdkioldbaaDoes
set_option maxRecDepth 4000
namespace Go.Proofs.Ytppbgkdkioldbaa
open Go Go.RowKit
def wildCount (U : Nat → Bool) (n : Nat) (m : Nat → Bool) : Nat := ((List.range n).filter fun i => U i && m i).length
def ancOf (ops : Array Oper) (j : Nat) : Array Bool := anc ops (List.range (j + 1)).reverse ((Array.replicate ops.size false).setIfInBounds j true)
def phChk (ops : Array Oper) (n : Nat) (U : Nat → Bool) (ph : Nat → Option Nat) (rig : Nat → Bool) : Bool :=
  (List.range n).all fun j => match ph j with
    | none => !U j && rig j
    | some p => (wildCount U n (fun i => i != j && (ancOf ops j).getD i false) == p) && (List.range n).all fun u => !U u || (ancOf ops j).getD u false || u == j || (ancOf ops u).getD j false
/- no operation that may come up ahead of operation i stores to slot t -/
def noDstF (ops : Array Oper) (n i t : Nat) : Bool := (List.range n).all fun j => dstAt ops j != some t || (j != i && (ancOf ops j).getD i false)
def phAfter (U : Nat → Bool) (ph : Nat → Option Nat) (i : Nat) : Option Nat := (ph i).map fun p => if U i then p + 1 else p
section
variable {P : Program} {Q : Exit → Act → World → Prop} {ops : Array Oper} {n : Nat} {K : World → World → Prop} {Φ : Nat → World → Prop} {V : Nat → Value → World → Prop} {G U rig : Nat → Bool} {ph : Nat → Option Nat} {a0 : Act} {w1 : World}
def KnownP (ops : Array Oper) (n : Nat) (V : Nat → Value → World → Prop) (U rig : Nat → Bool) (ph : Nat → Option Nat) (q : Option Nat) (a : Act) (x : Nat → Value) (w : World) (o : Oper) : Prop :=
  ∀ j, waitsFor o j = true → j < n → (rig j = true ∨ (q.isSome = true ∧ phAfter U ph j = q) → V j (x j) w) ∧ ∀ d, dstAt ops j = some d → a.tmps[d]? = some (x j)
def StepP (P : Program) (ops : Array Oper) (n : Nat) (K : World → World → Prop) (Φ : Nat → World → Prop) (V : Nat → Value → World → Prop) (G U rig : Nat → Bool) (ph : Nat → Option Nat) (a0 : Act) (i : Nat) (o : Oper) : Prop :=
  ∀ (a : Act) (x : Nat → Value) (w : World), (∀ t, noDstF ops n i t = true → a.tmps[t]? = a0.tmps[t]?) → KnownP ops n V U rig ph (ph i) a x w o →
    match ph i with
    | none => (∃ p, Φ p w) → if G i then Does P o a w (fun v w' => w' = w ∧ V i v w') else V i undef w
    | some p => Φ p w → if G i then Does P o a w (fun v w' => (if U i then Φ (p + 1) w' else K w w') ∧ V i v w') else U i = false ∧ V i undef w
def GuardP (V : Nat → Value → World → Prop) (G : Nat → Bool) (rig : Nat → Bool) (i : Nat) (o : Oper) : Prop :=
  match o.guard with
  | none => G i = true
  | some (j, want) => rig j = true ∧ ∀ v w, V j v w → v = .bool (want == G i) ∨ (v = undef ∧ G i = false)
structure InvP (ops : Array Oper) (n : Nat) (Φ : Nat → World → Prop) (V : Nat → Value → World → Prop) (U rig : Nat → Bool) (ph : Nat → Option Nat) (a0 : Act) (listed : Array Bool) (a : Act) (x : Nat → Value) (w : World) : Prop where
  size : listed.size = ops.size
  closed : ∀ k o, ops[k]? = some o → listed.getD k false = true → ∀ e ∈ o.after, Region.binds .any e = true → listed.getD e.on false = true
  rel : Φ (wildCount U n fun i => listed.getD i false) w
  le : ∀ i, i < n → listed.getD i false = true → ∀ q, phAfter U ph i = some q → q ≤ wildCount U n fun i => listed.getD i false
  defers : a.defers = a0.defers
  tsize : a.tmps.size = a0.tmps.size
  at_ : ∀ i, i < n → listed.getD i false = true → ((rig i = true ∨ phAfter U ph i = some (wildCount U n fun i => listed.getD i false)) → V i (x i) w) ∧ ∀ d, dstAt ops i = some d → a.tmps[d]? = some (x i)
  out : ∀ k, (∀ i, i < n → listed.getD i false = true → dstAt ops i ≠ some k) → a.tmps[k]? = a0.tmps[k]?
theorem wildCount_congr {n : Nat} {m m' : Nat → Bool} (h : ∀ i, i < n → U i = true → m i = m' i) : wildCount U n m = wildCount U n m' := by
  unfold wildCount
  congr 1
  refine List.filter_congr fun i hi => ?_
  have hi' := List.mem_range.1 hi
  cases hu : U i with
  | false => rfl
  | true => rw [h i hi' hu]
theorem wildCount_step {j : Nat} {m m' : Nat → Bool} (hj : m j = false) (hj' : m' j = true) (hu : U j = true) (h : ∀ i, i ≠ j → m' i = m i) : ∀ n, j < n → wildCount U n m' = wildCount U n m + 1
  | 0, hn => by omega
  | n + 1, hn => by
    unfold wildCount
    rw [List.range_succ, List.filter_append, List.filter_append, List.length_append, List.length_append]
    by_cases hjn : j = n
    · subst hjn
      have e : (List.range j).filter (fun i => U i && m' i) = (List.range j).filter fun i => U i && m i :=
        List.filter_congr fun i hi => by rw [h i (by have := List.mem_range.1 hi; omega)]
      rw [e]
      simp [hu, hj, hj']
    · have ih := wildCount_step hj hj' hu h n (by omega)
      unfold wildCount at ih
      have e : m' n = m n := h n (fun e => hjn e.symm)
      simp only [List.filter_cons, List.filter_nil, e]
      omega
theorem wildCount_same {m m' : Nat → Bool} {j : Nat} (hu : U j = false) (h : ∀ i, i ≠ j → m' i = m i) (n : Nat) : wildCount U n m' = wildCount U n m :=
  wildCount_congr fun i _ hui => h i fun e => by rw [e, hu] at hui; cases hui
theorem wp_region_ph {id : Nat} {l : List Oper} {w0 : World} (n : Nat) (hn : n = l.length) (hm : P.follows .mixedOrders = true) (hchk : chk l.toArray n a0.tmps.size = true) (hph : phChk l.toArray n U ph rig = true)
    (hKΦ : ∀ p w w', Φ p w → K w w' → Φ p w') (hKV : ∀ i, i < n → ∀ v w w', V i v w → K w w' → V i v w') (hrig : ∀ i, i < n → rig i = true → ∀ v w w', V i v w → V i v w')
    (h0 : Φ 0 w0.drew) (hguard : All (GuardP V G rig) n l 0) (hstep : All (StepP P l.toArray n K Φ V G U rig ph a0) n l 0)
    (hrest : ∀ (x : Nat → Value) (w : World), Φ (wildCount U n fun _ => true) w → (∀ i, i < n → rig i = true ∨ phAfter U ph i = some (wildCount U n fun _ => true) → V i (x i) w) → wpAnyH P .any l.toArray Q (fun _ => True) 0 (Array.replicate l.length true) (puts l.toArray x n a0) w) :
    (Code.region id l.toArray true).wp P Q a0 w0 := by
  refine wp_region_any hm ?_
  change wpAny P .any l.toArray Q l.toArray.size (Array.replicate l.toArray.size false) a0 w0.drew
  have hg0 := fun j o ho hj => all_get hguard j o ho (by simpa using hj)
  have hs0 := fun j o ho hj => all_get hstep j o ho (by simpa using hj)
  clear hguard hstep
  generalize w0.drew = w1 at *
  have hsz : l.toArray.size = l.length := by simp
  have hget : ∀ j o, l.toArray[j]? = some o → l[j]? = some o := fun j o h => (List.getElem?_toArray (xs := l)).symm.trans h
  simp only [Nat.zero_add] at hg0 hs0
  have hg : ∀ j o, l.toArray[j]? = some o → j < n → GuardP V G rig j o := fun j o ho hj => hg0 j o (hget j o ho) hj
  have hs : ∀ j o, l.toArray[j]? = some o → j < n → StepP P l.toArray n K Φ V G U rig ph a0 j o := fun j o ho hj => hs0 j o (hget j o ho) hj
  clear hg0 hs0 hget
  rw [← hsz] at hn hrest
  generalize l.toArray = ops at *
  clear hsz
  subst hn
  unfold chk at hchk
  simp only [Bool.and_eq_true, List.all_eq_true, List.mem_range] at hchk
  obtain ⟨⟨⟨⟨_, c1⟩, c2⟩, c3⟩, _⟩ := hchk
  unfold phChk at hph
  simp only [List.all_eq_true, List.mem_range] at hph
  have back : ∀ i o, ops[i]? = some o → ∀ e ∈ o.after, Region.binds .any e = true → e.on < i := fun i o ho e he hb => by
    have hi := (Array.getElem?_eq_some_iff.1 ho).1
    have h := c1 i hi
    rw [ho] at h
    simp only [Option.map_some, Option.getD_some, Array.all_eq_true_iff_forall_mem] at h
    have := h e he
    simpa [hb] using this
  have dlt : ∀ i, i < ops.size → ∀ d, dstAt ops i = some d → d < a0.tmps.size := fun i hi d hd => by
    have h := c2 i hi
    rw [hd] at h
    simp only [Bool.and_eq_true, decide_eq_true_eq] at h
    exact h.1
  have dne : ∀ i, i < ops.size → ∀ j, j < i → ∀ d, dstAt ops i = some d → dstAt ops j ≠ some d := fun i hi j hj d hd => by
    have h := c2 i hi
    rw [hd] at h
    simp only [Bool.and_eq_true, List.all_eq_true, List.mem_range] at h
    have := h.2 j hj
    simpa using this
  have dinj : ∀ i j d, i < ops.size → j < ops.size → dstAt ops i = some d → dstAt ops j = some d → i = j := fun i j d hi hj h1 h2 => by
    rcases Nat.lt_trichotomy i j with h | h | h
    · exact absurd h1 (dne j hj i h d h2)
    · exact h
    · exact absurd h2 (dne i hi j h d h1)
  have look : ∀ i o, i < ops.size → ops[i]? = some o → ∀ j want, o.guard = some (j, want) → j < ops.size ∧ waitsFor o j = true ∧ ∃ d, dstAt ops j = some d := fun i o hi ho j want hgd => by
    have h := c3 i hi
    rw [ho] at h
    simp only [Option.map_some, Option.getD_some, hgd, Bool.and_eq_true, decide_eq_true_eq] at h
    exact ⟨h.1.1, h.1.2, Option.isSome_iff_exists.1 h.2⟩
  clear c1 c2 c3
  have main : ∀ m listed a x w, count listed ops.size = m → InvP ops ops.size Φ V U rig ph a0 listed a x w → wpAny P .any ops Q m listed a w := by
    intro m
    induction m with
    | zero =>
      intro listed a x w hm0 I
      have hl : listed = Array.replicate ops.size true := by
        apply Array.ext_getElem?
        intro k
        by_cases hk : k < ops.size
        · have hks : k < listed.size := by rw [I.size]; exact hk
          rw [Array.getElem?_eq_getElem hks, Array.getElem?_replicate, if_pos hk]
          have e : listed.getD k false = listed[k] := by simp [Array.getD, hks]
          rw [← e, count_zero listed _ hm0 k hk]
        · rw [Array.getElem?_eq_none (by rw [I.size]; omega), Array.getElem?_replicate, if_neg hk]
      have hwc : (wildCount U ops.size fun i => listed.getD i false) = wildCount U ops.size fun _ => true := wildCount_congr fun i hi _ => count_zero listed _ hm0 i hi
      have ha : a = puts ops x ops.size a0 := by
        obtain ⟨p1, p2, p3, p4⟩ := puts_get x a0 ops.size dne dlt
        have ht : a.tmps = (puts ops x ops.size a0).tmps := by
          apply Array.ext_getElem?
          intro k
          by_cases hk : ∃ i, i < ops.size ∧ dstAt ops i = some k
          · obtain ⟨i, hi, hd⟩ := hk
            rw [(I.at_ i hi (count_zero listed _ hm0 i hi)).2 k hd, p3 i hi k hd]
          · rw [I.out k fun i hi _ hd => hk ⟨i, hi, hd⟩, p4 k fun i hi hd => hk ⟨i, hi, hd⟩]
        have hd : a.defers = (puts ops x ops.size a0).defers := I.defers.trans p1.symm
        generalize puts ops x ops.size a0 = b at *
        cases a; cases b; simp only at ht hd; subst ht hd; rfl
      have hat := fun i hi => (I.at_ i hi (count_zero listed _ hm0 i hi)).1
      have hrel := I.rel
      rw [hwc] at hat hrel
      rw [hl, ha]
      refine wpAny_of_held _ _ _ _ (S := fun _ => True) ?_
      exact hrest x w hrel hat
    | succ m ih =>
      intro listed a x w hm1 I
      have hgd : ∀ k, k < ops.size → listed.getD k true = listed.getD k false := fun k hk => by simp [Array.getD, show k < listed.size by rw [I.size]; exact hk]
      refine ⟨fun hr => ?_, fun i hi => ?_⟩
      · exfalso
        obtain ⟨i, hio, hif, hbelow⟩ := count_pos listed _ m hm1
        have : i ∈ Region.ready .any ops listed := mem_ready.2 ⟨by rw [hgd i hio]; exact hif, ops[i], Array.getElem?_eq_getElem hio, fun e he hb => hbelow e.on (back i _ (Array.getElem?_eq_getElem hio) e he hb)⟩
        rw [hr] at this
        cases this
      · obtain ⟨hun, o, ho, hall⟩ := mem_ready.1 hi
        have hio : i < ops.size := (Array.getElem?_eq_some_iff.1 ho).1
        have hif : listed.getD i false = false := by rw [← hgd i hio]; exact hun
        have hilt : i < listed.size := by rw [I.size]; exact hio
        have hdo : dstAt ops i = o.dst := by simp [dstAt, ho]
        -- the phase
        have hphase : ∀ p, ph i = some p → (wildCount U ops.size fun k => listed.getD k false) = p := fun p hp => by
          have h := hph i hio
          rw [hp] at h
          simp only [Bool.and_eq_true, beq_iff_eq, List.all_eq_true, List.mem_range, Bool.or_eq_true, Bool.not_eq_true'] at h
          obtain ⟨hc, hu⟩ := h
          rw [← hc]
          refine wildCount_congr fun u hul hwild => ?_
          have h2 := hu u hul
          by_cases hui : u = i
          · subst hui; rw [hif]; simp
          · have hne : (u != i) = true := bne_iff_ne.2 hui
            rw [hne, Bool.true_and]
            cases hanc : (ancOf ops i).getD u false with
            | true =>
              have hL : ∀ k, ((Array.replicate ops.size false).setIfInBounds i true).getD k false = true → k = i ∨ listed.getD k false = true := fun k hk => by
                rw [getD_set _ _ _ (by simpa using hio)] at hk
                by_cases hik : i = k
                · exact .inl hik.symm
                · rw [if_neg hik] at hk
                  simp [Array.getD] at hk
              have hcl : ∀ k o', ops[k]? = some o' → (k = i ∨ listed.getD k false = true) → ∀ e ∈ o'.after, Region.binds .any e = true → (e.on = i ∨ listed.getD e.on false = true) := fun k o' ho' hk e he hb => by
                rcases hk with rfl | hk
                · rw [ho] at ho'; injection ho' with ho'; subst ho'
                  exact .inr (hall e he hb)
                · exact .inr (I.closed k o' ho' hk e he hb)
              have := anc_sound (L := fun k => k = i ∨ listed.getD k false = true) hcl _ _ hL u hanc
              rcases this with h | h
              · exact absurd h hui
              · exact h
            | false =>
              rw [hwild, hanc] at h2
              have hju : (ancOf ops u).getD i false = true := by
                rcases h2 with ((h | h) | h) | h
                · cases h
                · cases h
                · exact absurd h hui
                · exact h
              cases hlu : listed.getD u false with
              | false => rfl
              | true =>
                have hL : ∀ k, ((Array.replicate ops.size false).setIfInBounds u true).getD k false = true → listed.getD k false = true := fun k hk => by
                  rw [getD_set _ _ _ (by simpa using hul)] at hk
                  by_cases hik : u = k
                  · subst hik; exact hlu
                  · rw [if_neg hik] at hk
                    simp [Array.getD] at hk
                have := anc_sound (L := fun k => listed.getD k false = true) I.closed _ _ hL i hju
                rw [hif] at this; cases this
        have next : ∀ v w', (match ph i with | none => w' = w | some p => if U i && G i then Φ (p + 1) w' else K w w' ∨ w' = w) → (U i = true → G i = true ∧ (ph i).isSome = true) → V i v w' → InvP ops ops.size Φ V U rig ph a0 (listed.setIfInBounds i true) (a.put o.dst v) (fun k => if k = i then v else x k) w' := by
          intro v w' hR hUG hV
          have hcnt : (wildCount U ops.size fun k => (listed.setIfInBounds i true).getD k false) = (wildCount U ops.size fun k => listed.getD k false) + if U i then 1 else 0 := by
            cases hu : U i with
            | true =>
              rw [if_pos rfl]
              exact wildCount_step (j := i) hif (by rw [getD_set _ _ _ hilt, if_pos rfl]) hu (fun k hk => by rw [getD_set _ _ _ hilt, if_neg (fun e => hk e.symm)]) _ hio
            | false =>
              rw [if_neg (by decide), Nat.add_zero]
              exact wildCount_same hu (fun k hk => by rw [getD_set _ _ _ hilt, if_neg (fun e => hk e.symm)]) _
          have hmild : U i = false → K w w' ∨ w' = w := fun hu => by
            revert hR
            cases hp : ph i with
            | none => exact fun h => .inr h
            | some p => intro h; simp only [hu, Bool.false_and] at h; simpa using h
          have hsoft : ∀ k, k < ops.size → listed.getD k false = true → k ≠ i → (rig k = true ∨ phAfter U ph k = some (wildCount U ops.size fun k => (listed.setIfInBounds i true).getD k false)) → V k (x k) w' := fun k hk hkl hki hor => by
            have hle := I.le k hk hkl
            rcases hor with h | h
            · exact hrig k hk h _ _ _ ((I.at_ k hk hkl).1 (.inl h))
            · cases hu : U i with
              | true =>
                rw [hcnt, hu, if_pos rfl] at h
                have := hle _ h
                omega
              | false =>
                rw [hcnt, hu, if_neg (by decide), Nat.add_zero] at h
                have h1 := (I.at_ k hk hkl).1 (.inr h)
                rcases hmild hu with h2 | h2
                · exact hKV k hk _ _ _ h1 h2
                · rw [h2]; exact h1
          refine ⟨by simp [I.size], fun k o' ho' hk e he hb => ?_, ?_, fun k hk hkl q hq => ?_, ?_, ?_, fun k hk hkl => ?_, fun k hk => ?_⟩
          · rw [getD_set _ _ _ hilt] at hk ⊢
            by_cases hei : i = e.on
            · rw [if_pos hei]
            · rw [if_neg hei]
              by_cases hik : i = k
              · subst hik
                rw [ho] at ho'; injection ho' with ho'; subst ho'
                exact hall e he hb
              · rw [if_neg hik] at hk
                exact I.closed k o' ho' hk e he hb
          · rw [hcnt]
            cases hu : U i with
            | true =>
              obtain ⟨hGi, hps⟩ := hUG hu
              obtain ⟨p, hp⟩ := Option.isSome_iff_exists.1 hps
              rw [hp] at hR
              simp only [hu, hGi, Bool.and_self, if_true] at hR
              rw [hphase p hp]
              exact hR
            | false =>
              rw [if_neg (by decide), Nat.add_zero]
              rcases hmild hu with h | h
              · exact hKΦ _ _ _ I.rel h
              · rw [h]; exact I.rel
          · rw [hcnt]
            rw [getD_set _ _ _ hilt] at hkl
            by_cases hki : k = i
            · subst hki
              unfold phAfter at hq
              obtain ⟨p, hp, hq⟩ := Option.map_eq_some_iff.1 hq
              rw [hphase p hp, ← hq]
              cases U k <;> simp
            · rw [if_neg (fun e => hki e.symm)] at hkl
              have := I.le k hk hkl q hq
              omega
          · cases hd : o.dst <;> simp [Act.put, I.defers]
          · cases hd : o.dst <;> simp [Act.put, I.tsize]
          · rw [getD_set _ _ _ hilt] at hkl
            by_cases hki : k = i
            · subst hki
              refine ⟨fun _ => by rw [if_pos rfl]; exact hV, fun d hd => ?_⟩
              rw [if_pos rfl]
              have hlt := dlt k hio d hd
              rw [hdo] at hd
              simp [Act.put, hd, I.tsize, hlt]
            · rw [if_neg (fun e => hki e.symm)] at hkl
              refine ⟨fun hor => by rw [if_neg hki]; exact hsoft k hk hkl hki hor, fun d hd => ?_⟩
              rw [if_neg hki]
              have h2 := (I.at_ k hk hkl).2
              cases hd2 : o.dst with
              | none => simp only [Act.put]; exact h2 d hd
              | some di =>
                have hne : di ≠ d := fun e => hki (dinj k i d hk hio hd (by rw [hdo, hd2, e]))
                simp only [Act.put]
                rw [Array.getElem?_setIfInBounds_ne hne]
                exact h2 d hd
          · have hki := hk i hio (by rw [getD_set _ _ _ hilt, if_pos rfl])
            have hout := I.out k fun j hj hl => hk j hj (by rw [getD_set _ _ _ hilt]; split <;> simp_all)
            cases hd2 : o.dst with
            | none => simp only [Act.put]; exact hout
            | some di =>
              have hne : di ≠ k := fun e => hki (by rw [hdo, hd2, e])
              simp only [Act.put]
              rw [Array.getElem?_setIfInBounds_ne hne]
              exact hout
        have hcount : count (listed.setIfInBounds i true) ops.size = m := by have := count_set listed i hilt hif ops.size hio; omega
        have waits : ∀ j, waitsFor o j = true → listed.getD j false = true := fun j hwj => by
          unfold waitsFor at hwj
          rw [Array.any_eq_true] at hwj
          obtain ⟨k, hk, he⟩ := hwj
          simp only [Bool.and_eq_true, beq_iff_eq] at he
          have hl := hall o.after[k] (Array.getElem_mem hk) he.1
          rw [he.2] at hl
          exact hl
        have known : KnownP ops ops.size V U rig ph (ph i) a x w o := fun j hwj hj => by
          obtain ⟨h1, h2⟩ := I.at_ j hj (waits j hwj)
          refine ⟨fun hor => h1 ?_, h2⟩
          rcases hor with h | ⟨hs1, h⟩
          · exact .inl h
          · obtain ⟨p, hp⟩ := Option.isSome_iff_exists.1 hs1
            rw [hphase p hp, ← hp]
            exact .inr h
        have outer : ∀ t, noDstF ops ops.size i t = true → a.tmps[t]? = a0.tmps[t]? := fun t ht => by
          unfold noDstF at ht
          simp only [List.all_eq_true, List.mem_range] at ht
          refine I.out t fun j hj hlj hd => ?_
          have h2 := ht j hj
          rw [hd] at h2
          simp only [bne_self_eq_false, Bool.false_or, Bool.and_eq_true] at h2
          have hL : ∀ k, ((Array.replicate ops.size false).setIfInBounds j true).getD k false = true → listed.getD k false = true := fun k hk => by
            rw [getD_set _ _ _ (by simpa using hj)] at hk
            by_cases hjk : j = k
            · subst hjk; exact hlj
            · rw [if_neg hjk] at hk
              simp [Array.getD] at hk
          have h3 := anc_sound (L := fun k => listed.getD k false = true) I.closed _ _ hL i h2.2
          rw [hif] at h3; cases h3
        have step := hs i o ho hio a x w outer known
        have hwant : Region.wanted o (yielded ops a.tmps) = G i := by
          have hgi := hg i o ho hio
          unfold GuardP at hgi
          unfold Region.wanted
          cases hgd2 : o.guard with
          | none => rw [hgd2] at hgi; exact hgi.symm
          | some jw =>
            obtain ⟨j, want⟩ := jw
            rw [hgd2] at hgi
            simp only at hgi ⊢
            obtain ⟨hj, hwj, d, hd⟩ := look i o hio ho j want hgd2
            obtain ⟨h1, h2⟩ := I.at_ j hj (waits j hwj)
            have hv := hgi.2 _ _ (h1 (.inl hgi.1))
            have ht := h2 d hd
            rcases hv with hv | ⟨hv, hG0⟩
            · rw [hv] at ht
              unfold dstAt at hd
              simp only [yielded, hd, Option.bind_some, ht]
              cases want <;> cases G i <;> rfl
            · rw [hv] at ht
              unfold dstAt at hd
              simp only [yielded, hd, Option.bind_some, ht]
              rw [hG0]; rfl
        unfold wpOp
        simp only [ho, hwant]
        cases hp : ph i with
        | none =>
          rw [hp] at step
          simp only at step
          have step := step ⟨_, I.rel⟩
          have hU : U i = false := by
            have h := hph i hio
            rw [hp] at h
            simp only [Bool.and_eq_true, Bool.not_eq_true'] at h
            exact h.1
          by_cases hGi : G i = true
          · rw [if_pos hGi] at step ⊢
            exact .inl (step _ _ fun v w' ⟨hR, hV⟩ => ih _ _ _ w' hcount (next v w' (by rw [hp]; exact hR) (fun h => by rw [hU] at h; cases h) hV))
          · rw [if_neg hGi] at step ⊢
            exact ih _ _ _ w hcount (next undef w (by rw [hp]) (fun h => by rw [hU] at h; cases h) step)
        | some p =>
          rw [hp] at step
          simp only at step
          have hΦ : Φ p w := by rw [← hphase p hp]; exact I.rel
          have step := step hΦ
          by_cases hGi : G i = true
          · rw [if_pos hGi] at step ⊢
            refine .inl (step _ _ fun v w' ⟨hR, hV⟩ => ih _ _ _ w' hcount (next v w' ?_ (fun _ => ⟨hGi, by rw [hp]; rfl⟩) hV))
            rw [hp, hGi, Bool.and_true]
            cases hu : U i with
            | true => rw [hu] at hR; simpa using hR
            | false => rw [hu] at hR; simp only [Bool.false_eq_true, if_false] at hR ⊢; exact .inl hR
          · rw [if_neg hGi] at step ⊢
            obtain ⟨hU, hV⟩ := step
            exact ih _ _ _ w hcount (next undef w (by rw [hp, hU]; exact .inr rfl) (fun h => by rw [hU] at h; cases h) hV)
  have hcount : count (Array.replicate ops.size false) ops.size = ops.size := by
    unfold count
    have e : (List.range ops.size).filter (fun i => !(Array.replicate ops.size false).getD i false) = List.range ops.size := by
      refine List.filter_eq_self.2 fun i hi => ?_
      simp [Array.getD]
    rw [e, List.length_range]
  have hz : (wildCount U ops.size fun i => (Array.replicate ops.size false).getD i false) = 0 := by
    unfold wildCount
    have e : (List.range ops.size).filter (fun i => U i && (Array.replicate ops.size false).getD i false) = [] := by
      refine List.filter_eq_nil_iff.2 fun i hi => ?_
      simp [Array.getD]
    rw [e]; rfl
  exact main ops.size (Array.replicate ops.size false) a0 (fun _ => undef) w1 hcount ⟨by simp, fun k o _ hk => by simp [Array.getD] at hk, by rw [hz]; exact h0, fun i _ hl => by simp [Array.getD] at hl, rfl, rfl, fun i _ hl => by simp [Array.getD] at hl, fun k _ => rfl⟩
end
end Go.Proofs.Ytppbgkdkioldbaa
