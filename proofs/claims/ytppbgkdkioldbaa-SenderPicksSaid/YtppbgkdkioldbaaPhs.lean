/- The region whose operations change things, with lists of what is known: of the values, of the phases. -/
import Derived.Test.YtppbgkdkioldbaaPh
set_option maxRecDepth 4000
namespace Go.Proofs.Ytppbgkdkioldbaa
open Go Go.RowKit
/- all that there was is as it was -/
def Same (w w' : World) : Prop := Below w.heap.size w w'
theorem Same.refl (w : World) : Same w w := Below.refl _ _
theorem Same.alloc (w : World) (o : Obj) : Same w (w.alloc o) := (Below.refl _ _).alloc (Nat.le_refl _) o
def VOk : List (Value → World → Prop) → List Bool → Prop
  | V :: Vl, true :: rl => (∀ v w w', V v w → V v w') ∧ VOk Vl rl
  | V :: Vl, false :: rl => (∀ v w w', V v w → Same w w' → V v w') ∧ VOk Vl rl
  | [], [] => True
  | _, _ => False
theorem vok_nil : VOk [] [] := trivial
theorem vok_rig {V : Value → World → Prop} {Vl : List (Value → World → Prop)} {rl : List Bool} (h : ∀ v w w', V v w → V v w') (t : VOk Vl rl) : VOk (V :: Vl) (true :: rl) := ⟨h, t⟩
theorem vok_soft {V : Value → World → Prop} {Vl : List (Value → World → Prop)} {rl : List Bool} (h : ∀ v w w', V v w → Same w w' → V v w') (t : VOk Vl rl) : VOk (V :: Vl) (false :: rl) := ⟨h, t⟩
theorem vok_at : ∀ {Vl : List (Value → World → Prop)} {rl : List Bool}, VOk Vl rl → ∀ i, (rl.getD i false = true → ∀ v w w', Vs Vl i v w → Vs Vl i v w') ∧ ∀ v w w', Vs Vl i v w → Same w w' → Vs Vl i v w'
  | [], [], _, i => ⟨fun h => by simp at h, fun _ _ _ _ _ => by unfold Vs; simp [anyV]⟩
  | V :: Vl, true :: rl, h, 0 => ⟨fun _ => h.1, fun v w w' hv _ => h.1 v w w' hv⟩
  | V :: Vl, false :: rl, h, 0 => ⟨fun h => by simp at h, h.1⟩
  | V :: Vl, true :: rl, h, i + 1 => by have := vok_at h.2 i; unfold Vs at *; simpa using this
  | V :: Vl, false :: rl, h, i + 1 => by have := vok_at h.2 i; unfold Vs at *; simpa using this
  | [], _ :: _, h, _ => h.elim
  | _ :: _, [], h, _ => by cases h
def Wl (l : List (World → Prop)) (p : Nat) : World → Prop := l.getD p fun _ => False
def WOk : List (World → Prop) → Prop
  | [] => True
  | F :: l => (∀ w w', F w → Same w w' → F w') ∧ WOk l
theorem wok_nil : WOk [] := trivial
theorem wok_cons {F : World → Prop} {l : List (World → Prop)} (h : ∀ w w', F w → Same w w' → F w') (t : WOk l) : WOk (F :: l) := ⟨h, t⟩
theorem wok_at : ∀ {l : List (World → Prop)}, WOk l → ∀ p w w', Wl l p w → Same w w' → Wl l p w'
  | [], _, p, w, w', h, _ => by unfold Wl at h; simp at h
  | F :: l, h, 0, w, w', hw, k => h.1 w w' hw k
  | F :: l, h, p + 1, w, w', hw, k => by have := wok_at h.2 p w w'; unfold Wl at *; simp only [List.getD_cons_succ] at *; exact this hw k
section
variable {P : Program} {ops : Array Oper} {n : Nat} {K : World → World → Prop} {Φ : Nat → World → Prop} {V : Nat → Value → World → Prop} {G U rig : Nat → Bool} {ph : Nat → Option Nat} {a0 a : Act} {w : World} {x : Nat → Value} {o : Oper} {l : List Oper} {i : Nat} {q : Option Nat}
theorem KnownP.get (hk : KnownP ops n V U rig ph q a x w o) (j d : Nat) (hw : waitsFor o j = true) (hj : j < n) (hd : dstAt ops j = some d) (hor : rig j = true ∨ (q.isSome = true ∧ phAfter U ph j = q)) : ∃ v, a.tmps[d]? = some v ∧ V j v w :=
  ⟨x j, (hk j hw hj).2 d hd, (hk j hw hj).1 hor⟩
theorem KnownP.is (hk : KnownP ops n V U rig ph q a x w o) (j d : Nat) (hw : waitsFor o j = true) (hj : j < n) (hd : dstAt ops j = some d) (hor : rig j = true) (c : Value) (hV : V j = is c) : a.tmps[d]? = some c := by
  obtain ⟨h1, h2⟩ := hk j hw hj
  have h1 := h1 (.inl hor)
  rw [hV] at h1
  rw [h2 d hd]; exact congrArg some h1
theorem allp_pure (hp : ph i = none) (hG : G i = true) (h : ∀ (a : Act) (x : Nat → Value) (w : World), (∀ t, noDstF ops n i t = true → a.tmps[t]? = a0.tmps[t]?) → KnownP ops n V U rig ph none a x w o → Does P o a w (fun v w' => w' = w ∧ V i v w'))
    (t : All (StepP P ops n K Φ V G U rig ph a0) n l (i + 1)) : All (StepP P ops n K Φ V G U rig ph a0) n (o :: l) i :=
  all_cons (fun a x w h1 h2 => by rw [hp] at h2 ⊢; simp only; intro _; rw [if_pos hG]; exact h a x w h1 h2) t
/- an operation that may come up in any phase and only reads: what it reads must hold in each -/
theorem allp_any (hp : ph i = none) (hG : G i = true) (h : ∀ (a : Act) (x : Nat → Value) (w : World), (∀ t, noDstF ops n i t = true → a.tmps[t]? = a0.tmps[t]?) → KnownP ops n V U rig ph none a x w o → (∃ p, Φ p w) → Does P o a w (fun v w' => w' = w ∧ V i v w'))
    (t : All (StepP P ops n K Φ V G U rig ph a0) n l (i + 1)) : All (StepP P ops n K Φ V G U rig ph a0) n (o :: l) i :=
  all_cons (fun a x w h1 h2 => by rw [hp] at h2 ⊢; simp only; intro hΦ; rw [if_pos hG]; exact h a x w h1 h2 hΦ) t
theorem wl_any {l : List (World → Prop)} {S : World → Prop} (h : ∀ F ∈ l, ∀ w, F w → S w) {w : World} (hp : ∃ p, Wl l p w) : S w := by
  obtain ⟨p, hp⟩ := hp
  unfold Wl at hp
  rw [List.getD_eq_getElem?_getD] at hp
  cases hl : l[p]? with
  | none => rw [hl] at hp; exact hp.elim
  | some F => rw [hl] at hp; exact h F (List.mem_of_getElem? hl) w hp
theorem allp_mild (p : Nat) (hp : ph i = some p) (hU : U i = false) (hG : G i = true) (h : ∀ (a : Act) (x : Nat → Value) (w : World), (∀ t, noDstF ops n i t = true → a.tmps[t]? = a0.tmps[t]?) → KnownP ops n V U rig ph (some p) a x w o → Φ p w → Does P o a w (fun v w' => K w w' ∧ V i v w'))
    (t : All (StepP P ops n K Φ V G U rig ph a0) n l (i + 1)) : All (StepP P ops n K Φ V G U rig ph a0) n (o :: l) i :=
  all_cons (fun a x w h1 h2 => by
    rw [hp] at h2 ⊢; simp only; intro hΦ
    rw [if_pos hG, hU]
    intro k q hk
    exact h a x w h1 h2 hΦ k q fun v w' hv => hk v w' ⟨by rw [if_neg (by decide)]; exact hv.1, hv.2⟩) t
theorem allp_wild (p : Nat) (hp : ph i = some p) (hU : U i = true) (hG : G i = true) (h : ∀ (a : Act) (x : Nat → Value) (w : World), (∀ t, noDstF ops n i t = true → a.tmps[t]? = a0.tmps[t]?) → KnownP ops n V U rig ph (some p) a x w o → Φ p w → Does P o a w (fun v w' => Φ (p + 1) w' ∧ V i v w'))
    (t : All (StepP P ops n K Φ V G U rig ph a0) n l (i + 1)) : All (StepP P ops n K Φ V G U rig ph a0) n (o :: l) i :=
  all_cons (fun a x w h1 h2 => by
    rw [hp] at h2 ⊢; simp only; intro hΦ
    rw [if_pos hG, hU]
    intro k q hk
    exact h a x w h1 h2 hΦ k q fun v w' hv => hk v w' ⟨by rw [if_pos rfl]; exact hv.1, hv.2⟩) t
theorem allp_skip (hG : G i = false) (hU : U i = false) (h : ∀ w, V i undef w)
    (t : All (StepP P ops n K Φ V G U rig ph a0) n l (i + 1)) : All (StepP P ops n K Φ V G U rig ph a0) n (o :: l) i :=
  all_cons (fun a x w h1 _ => by
    cases hp : ph i with
    | none => simp only; intro _; rw [if_neg (by rw [hG]; decide)]; exact h w
    | some p => simp only; intro _; rw [if_neg (by rw [hG]; decide)]; exact ⟨hU, h w⟩) t
end
theorem wp_region_phs {P : Program} {Q : Exit → Act → World → Prop} {id : Nat} {l : List Oper} {a0 : Act} {w0 : World} (Vl : List (Value → World → Prop)) (rl : List Bool) (Fl : List (World → Prop)) (Ul : List Bool) (pl : List (Option Nat)) (ds : List (Option Tmp)) (n m : Nat) (G : Nat → Bool)
    (hN : l.length = n) (hds : l.map (·.dst) = ds) (hm : P.follows .mixedOrders = true) (hchk : chk l.toArray n a0.tmps.size = true) (hph : phChk l.toArray n (fun i => Ul.getD i false) (fun i => pl.getD i none) (fun i => rl.getD i false) = true) (hmm : wildCount (fun i => Ul.getD i false) n (fun _ => true) = m)
    (hF : WOk Fl) (hV : VOk Vl rl) (h0 : Wl Fl 0 w0.drew)
    (hguard : All (GuardP (Vs Vl) G (fun i => rl.getD i false)) n l 0) (hstep : All (StepP P l.toArray n Same (Wl Fl) (Vs Vl) G (fun i => Ul.getD i false) (fun i => rl.getD i false) (fun i => pl.getD i none) a0) n l 0)
    (hrest : ∀ (x : Nat → Value) (w : World), Wl Fl m w → (∀ i, i < n → rl.getD i false = true ∨ phAfter (fun i => Ul.getD i false) (fun i => pl.getD i none) i = some m → Vs Vl i (x i) w) → wpAnyH P .any l.toArray Q (fun _ => True) 0 (Array.replicate n true) (putL ds x 0 a0) w) :
    (Code.region id l.toArray true).wp P Q a0 w0 := by
  subst hN hds hmm
  refine wp_region_ph l.length rfl hm hchk hph (fun p w w' => wok_at hF p w w') (fun i _ => (vok_at hV i).2) (fun i _ => (vok_at hV i).1) h0 hguard hstep fun x w h1 h2 => ?_
  have e : puts l.toArray x l.length a0 = putL (l.map (·.dst)) x 0 a0 := by
    have := puts_eq l x a0 l.length (Nat.le_refl _)
    rwa [List.take_of_length_le (by simp)] at this
  rw [e]
  exact hrest x w h1 h2
end Go.Proofs.Ytppbgkdkioldbaa
