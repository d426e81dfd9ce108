/- Lists of slices: as a list of values, of the call's own, handed on. -/
import Derived.Test.YtnfceejmkcohnaaDoorCopy
import Derived.Test.YtnfceejmkcohnaaDoorPartsG
import Derived.Test.YtnfceejmkcohnaaDoorMacSpec
import Derived.Test.YtnfceejmkcohnaaDoorRefSum
import Derived.Test.YtnfceejmkcohnaaDoorBy
import Derived.OwnWalk
namespace Go.Proofs.YtnfceejmkcohnaaDoor
open Go Go.RowKit
/- the slices of a slice of slices, as a list -/
theorem Parts.list {w : World} {v : Value} {ps : List (List (BitVec 8))} (h : Parts w v ps) : ∃ A c, ∃ us : List Value, v = .slice A ps.length c ∧ us.length = ps.length ∧ (∀ ad, A = some ad → ∀ (j : Nat) (u : Value), us[j]? = some u → w.cell? (ad.add j) = some u) ∧ (A = none → ps = []) ∧
    (∀ u ∈ us, Value.oneCell' u = true) ∧ ∀ (k : Nat) (q : List (BitVec 8)), ps[k]? = some q → ∃ u, us[k]? = some u ∧ Slice w u q := by
  obtain ⟨A, c, rfl, h3⟩ := h
  by_cases hne : ps = []
  · subst hne
    exact ⟨A, c, [], rfl, rfl, fun _ _ j u hu => (by simp at hu), fun _ => rfl, fun u hu => (by cases hu), fun k q hq => (by simp at hq)⟩
  · obtain ⟨b, o, rfl, _, hc⟩ := h3 hne
    have hk : ∀ k, k < ps.length → ∃ u, w.cell? ⟨b, o + k, none⟩ = some u ∧ Slice w u (ps.getD k []) := fun k hk => hc k _ (by rw [List.getD_eq_getElem?_getD, List.getElem?_eq_getElem hk]; rfl)
    refine ⟨some ⟨b, o, none⟩, c, (List.range ps.length).map fun k => (w.cell? ⟨b, o + k, none⟩).getD undef, rfl, by simp, ?_, fun h => (by cases h), ?_, ?_⟩
    · rintro ad e j u hu
      injection e with e
      subst e
      simp only [List.getElem?_map, Option.map_eq_some_iff] at hu
      obtain ⟨k, hk1, rfl⟩ := hu
      have hlt : j < ps.length := by have := (List.getElem?_eq_some_iff.1 hk1).1; simpa using this
      obtain rfl : j = k := by simpa [hlt] using hk1
      obtain ⟨u, hu, _⟩ := hk _ hlt
      rw [Addr.add_mid, hu]; rfl
    · intro u hu
      simp only [List.mem_map, List.mem_range] at hu
      obtain ⟨k, hlt, rfl⟩ := hu
      obtain ⟨u, hu, A', c', rfl, _⟩ := hk k hlt
      rw [hu]; rfl
    · intro k q hq
      have hlt := (List.getElem?_eq_some_iff.1 hq).1
      obtain ⟨u, hu, hs⟩ := hk k hlt
      rw [List.getD_eq_getElem?_getD, hq] at hs
      exact ⟨u, by simp [hlt, hu], hs⟩
theorem parts_own {w : World} {base g N cap : Nat} {bv : Value} {us : List Value} {l : List (BitVec 8)} {ps : List (List (BitVec 8))} (h : w.ownsRow base 22 1 (.slice (some ⟨g, 0, none⟩) N cap) N ([bv] ++ us)) (hN : N = ps.length + 1)
    (hb : Slice w bv l) (hu : ∀ (k : Nat) (q : List (BitVec 8)), ps[k]? = some q → ∃ u, us[k]? = some u ∧ Slice w u q) : Parts w (.slice (some ⟨g, 0, none⟩) N cap) (l :: ps) := by
  subst hN
  refine ⟨_, cap, rfl, fun _ => ⟨g, 0, rfl, (h.lt g rfl).2, fun k q hq => ?_⟩⟩
  have hk := (List.getElem?_eq_some_iff.1 hq).1
  rw [Nat.zero_add, h.cellAt k (by simp at hk; omega)]
  cases k with
  | zero => obtain rfl : l = q := by simpa using hq
            exact ⟨bv, rfl, hb⟩
  | succ k => obtain ⟨u, hu1, hu2⟩ := hu k q (by simpa using hq)
              exact ⟨u, by simpa using hu1, hu2⟩
theorem below_only {w w' : World} {g B : Nat} (h : w.grownBy w' (some g)) (hg : B ≤ g) (hs : B ≤ w.heap.size) : Below B w w' := below_of_grown h (fun k e => by injection e with e; omega) hs
theorem conv3 (w : World) (o o' : Obj) (C : Array Value) (n c : Nat) : (convert 22 22 (.slice (some ⟨w.heap.size + 1 + 1, 0, none⟩) n c)).run Tryd.prog (((w.alloc o).alloc o').alloc (.cells C 5)) = .ok (.slice (some ⟨w.heap.size + 1 + 1, 0, none⟩) n c) (((w.alloc o).alloc o').alloc (.cells C 5 (C.size, C.size + 1))) := by
  have h := Lib.run_convert_bytes_const (P := Tryd.prog) ((w.alloc o).alloc o') 22 5 C n c Tryd.underlying22 Tryd.underlying5
  rw [show ((w.alloc o).alloc o').heap.size = w.heap.size + 1 + 1 by simp] at h
  exact h
theorem parts2 {w : World} {a b : Value} {p q : List (BitVec 8)} (ha : Slice w a p) (hb : Slice w b q) : Parts (w.alloc (.cells #[a, b] 22)) (.slice (some ⟨w.heap.size, 0, none⟩) 2 2) [p, q] := by
  have t := Row.fresh w 22 #[a, b]
  have hx := (Below.refl w.heap.size w).alloc (Nat.le_refl _) (.cells #[a, b] 22)
  refine ⟨_, 2, rfl, fun _ => ⟨w.heap.size, 0, rfl, t.lt, fun k s hs => ?_⟩⟩
  match k, hs with
  | 0, hs => obtain rfl : p = s := by simpa using hs
             exact ⟨a, t.get rfl, ha.below hx (Nat.le_refl _)⟩
  | 1, hs => obtain rfl : q = s := by simpa using hs
             exact ⟨b, t.get rfl, hb.below hx (Nat.le_refl _)⟩
theorem consts3 (w : World) (p q r : List (BitVec 8)) (f g h : Nat × Nat) :
    Slice (((w.alloc (.cells (bs p) 5 f)).alloc (.cells (bs q) 5 g)).alloc (.cells (bs r) 5 h)) (.slice (some ⟨w.heap.size, 0, none⟩) p.length p.length) p ∧
    Slice (((w.alloc (.cells (bs p) 5 f)).alloc (.cells (bs q) 5 g)).alloc (.cells (bs r) 5 h)) (.slice (some ⟨w.heap.size + 1, 0, none⟩) q.length q.length) q ∧
    Slice (((w.alloc (.cells (bs p) 5 f)).alloc (.cells (bs q) 5 g)).alloc (.cells (bs r) 5 h)) (.slice (some ⟨w.heap.size + 1 + 1, 0, none⟩) r.length r.length) r := by
  refine ⟨bytes_slice (t := 5) (fr := f) ?_ (Nat.le_refl _), bytes_slice (t := 5) (fr := g) ?_ (Nat.le_refl _), bytes_slice (t := 5) (fr := h) ?_ (Nat.le_refl _)⟩
  · rw [Below.heap_alloc _ _ _ (by simp; omega), Below.heap_alloc _ _ _ (by simp), heap_alloc_new]
  · rw [Below.heap_alloc _ _ _ (by simp), heap_alloc2_new]
  · have e : w.heap.size + 1 + 1 = ((w.alloc (.cells (bs p) 5 f)).alloc (.cells (bs q) 5 g)).heap.size := by simp
    rw [e, heap_alloc_new]
theorem hand1 {w : World} {v : Value} {q : List (BitVec 8)} (h : Item w v q) : Hand (w.alloc (.cells #[v] 22)) (.slice (some ⟨w.heap.size, 0, none⟩) 1 1) [q] := by
  have r := Row.fresh w 22 #[v]
  refine ⟨_, 1, rfl, fun _ => ⟨w.heap.size, 0, rfl, r.lt, fun k p hp => ?_⟩⟩
  match k, hp with
  | 0, hp => obtain rfl : q = p := by simpa using hp
             exact ⟨v, r.get rfl, h.below ((Below.refl _ _).alloc (Nat.le_refl _) _) (Nat.le_refl _)⟩
/- the slices of a slice of slices that was handed in, as a list -/
theorem Hand.list {w : World} {v : Value} {ps : List (List (BitVec 8))} (h : Hand w v ps) : ∃ A c, ∃ us : List Value, v = .slice A ps.length c ∧ us.length = ps.length ∧ (∀ ad, A = some ad → ∀ (j : Nat) (u : Value), us[j]? = some u → w.cell? (ad.add j) = some u) ∧ (A = none → ps = []) ∧
    (∀ u ∈ us, Value.oneCell' u = true) ∧ ∀ (k : Nat) (q : List (BitVec 8)), ps[k]? = some q → ∃ u, us[k]? = some u ∧ Item w u q := by
  obtain ⟨A, c, rfl, h3⟩ := h
  by_cases hne : ps = []
  · subst hne
    exact ⟨A, c, [], rfl, rfl, fun _ _ j u hu => (by simp at hu), fun _ => rfl, fun u hu => (by cases hu), fun k q hq => (by simp at hq)⟩
  · obtain ⟨b, o, rfl, _, hc⟩ := h3 hne
    have hk : ∀ k, k < ps.length → ∃ u, w.cell? ⟨b, o + k, none⟩ = some u ∧ Item w u (ps.getD k []) := fun k hk => hc k _ (by rw [List.getD_eq_getElem?_getD, List.getElem?_eq_getElem hk]; rfl)
    refine ⟨some ⟨b, o, none⟩, c, (List.range ps.length).map fun k => (w.cell? ⟨b, o + k, none⟩).getD undef, rfl, by simp, ?_, fun h => (by cases h), ?_, ?_⟩
    · rintro ad e j u hu
      injection e with e
      subst e
      simp only [List.getElem?_map, Option.map_eq_some_iff] at hu
      obtain ⟨k, hk1, rfl⟩ := hu
      have hlt : j < ps.length := by have := (List.getElem?_eq_some_iff.1 hk1).1; simpa using this
      obtain rfl : j = k := by simpa [hlt] using hk1
      obtain ⟨u, hu, _⟩ := hk _ hlt
      rw [Addr.add_mid, hu]; rfl
    · intro u hu
      simp only [List.mem_map, List.mem_range] at hu
      obtain ⟨k, hlt, rfl⟩ := hu
      obtain ⟨u, hu, A', c', rfl, _⟩ := hk k hlt
      rw [hu]; rfl
    · intro k q hq
      have hlt := (List.getElem?_eq_some_iff.1 hq).1
      obtain ⟨u, hu, hs⟩ := hk k hlt
      rw [List.getD_eq_getElem?_getD, hq] at hs
      exact ⟨u, by simp [hlt, hu], hs⟩
theorem hand_own {w : World} {base g N cap : Nat} {bv : Value} {us : List Value} {l : List (BitVec 8)} {ps : List (List (BitVec 8))} (h : w.ownsRow base 22 1 (.slice (some ⟨g, 0, none⟩) N cap) N ([bv] ++ us)) (hN : N = ps.length + 1)
    (hb : Item w bv l) (hu : ∀ (k : Nat) (q : List (BitVec 8)), ps[k]? = some q → ∃ u, us[k]? = some u ∧ Item w u q) : Hand w (.slice (some ⟨g, 0, none⟩) N cap) (l :: ps) := by
  subst hN
  refine ⟨_, cap, rfl, fun _ => ⟨g, 0, rfl, (h.lt g rfl).2, fun k q hq => ?_⟩⟩
  have hk := (List.getElem?_eq_some_iff.1 hq).1
  rw [Nat.zero_add, h.cellAt k (by simp at hk; omega)]
  cases k with
  | zero => obtain rfl : l = q := by simpa using hq
            exact ⟨bv, rfl, hb⟩
  | succ k => obtain ⟨u, hu1, hu2⟩ := hu k q (by simpa using hq)
              exact ⟨u, by simpa using hu1, hu2⟩
theorem wpList_append_parts {w : World} {ops : Array Oper} {rest : List Oper} {o : Oper} {a : Act} {Q : Exit → Act → World → Prop} (hgd : o.guard = none) (s x : Operand)
    (ho : o.op = .call { callee := .builtin .append, args := #[s, x], argTypes := #[25, 25] }) (base : Nat)
    (v : Value) (n : Nat) (xs : List Value) (hs : a.eval s = v) (hown : w.ownsRow base 22 1 v n xs)
    (A : Option Addr) (m c : Nat) (us : List Value) (hx : a.eval x = .slice A m c) (hul : us.length = m) (huc : ∀ ad, A = some ad → ∀ (j : Nat) (u : Value), us[j]? = some u → w.cell? (ad.add j) = some u) (hun : A = none → m = 0 ∧ c = 0) (huo : ∀ u ∈ us, Value.oneCell' u = true)
    (hnm : n + m ≤ 1000000000) (hbase : base ≤ w.heap.size)
    (h : ∀ v' w', w'.ownsRow base 22 1 v' (n + m) (xs ++ us) → Below base w w' → wpList Tryd.prog ops Q rest (a.put o.dst v') w') : wpList Tryd.prog ops Q (o :: rest) a w := by
  obtain ⟨i1, hi1, hz10, hz11, hz12⟩ := info_parts info_sl
  have hblk : ∀ g, v.ownBlock = some g → base ≤ g := fun g hg => (hown.lt g hg).1
  cases A with
  | none =>
    obtain ⟨rfl, rfl⟩ := hun rfl
    obtain rfl : us = [] := List.length_eq_zero_iff.1 hul
    refine wpList_append_own_none hgd s x 25 ho base 22 i1 1 Tryd.underlying25 hi1 v n xs hs hown hx ?_
    exact h v w (by simpa using hown) (Below.refl _ _)
  | some ad =>
    refine wpList_append_own w hgd s x 25 ho base 22 i1 (.slice none 0 0) 1 24 Tryd.underlying25 hi1 hz10 hz11 hz12 rfl (by omega) v n xs hs hown ad m c us hx (by omega) (huc ad rfl) huo (by unfold maxLen; omega) (by omega) hbase ?_
    intro v' w' h1 h2 _
    exact h v' w' h1 (below_of_grown h2 hblk hbase)
theorem item_row {w : World} {g c : Nat} {q : List (BitVec 8)} {t : TypeId} (hg : Row w g t (bs q)) (hc : q.length ≤ c) (hm : q.length ≤ maxLen) : Item w (.slice (some ⟨g, 0, none⟩) q.length c) q :=
  ⟨_, c, rfl, row_slice hg hc, fun h => (by cases h), hm⟩
theorem hand2 {w : World} {a b : Value} {p q : List (BitVec 8)} (ha : Item w a p) (hb : Item w b q) : Hand (w.alloc (.cells #[a, b] 22)) (.slice (some ⟨w.heap.size, 0, none⟩) 2 2) [p, q] := by
  have t := Row.fresh w 22 #[a, b]
  have hx := (Below.refl w.heap.size w).alloc (Nat.le_refl _) (.cells #[a, b] 22)
  refine ⟨_, 2, rfl, fun _ => ⟨w.heap.size, 0, rfl, t.lt, fun k s hs => ?_⟩⟩
  match k, hs with
  | 0, hs => obtain rfl : p = s := by simpa using hs
             exact ⟨a, t.get rfl, ha.below hx (Nat.le_refl _)⟩
  | 1, hs => obtain rfl : q = s := by simpa using hs
             exact ⟨b, t.get rfl, hb.below hx (Nat.le_refl _)⟩
theorem refsum_two (p q : List (BitVec 8)) (v : Value) (w : World) (hv : Hand w v [p, q]) (h : p.length + q.length ≤ 100000) (D : List (BitVec 8)) (hD : sha (p ++ q) = D) :
    Calls Tryd.prog 19 #[v] w fun e w' => e = .returned (.agg (bs D)) ∧ Below w.heap.size w w' := by
  subst hD
  have h := refsum_any [p, q] v w hv (by simp) (by simp; omega)
  rwa [show ([p, q] : List (List (BitVec 8))).flatten = p ++ q by simp] at h
theorem own_lit1 (w : World) (u : Value) : (w.alloc (.cells #[u] 22)).ownsRow w.heap.size 22 1 (.slice (some ⟨w.heap.size, 0, none⟩) 1 1) 1 [u] :=
  World.ownsRow_lit w #[u] 1 (Nat.le_refl _) (by unfold maxLen; omega) rfl
theorem own_nil {w : World} {base e n : Nat} {v : Value} {xs : List Value} (h : w.ownsRow base e 1 v n xs) : ∀ m c, v = .slice none m c → c = 0 := by
  intro m c e
  rcases h.2 with ⟨rfl, _⟩ | ⟨g, cap, cur, rfl, _⟩
  · injection e with _ _ e; exact e.symm
  · injection e with e _ _; cases e
theorem row_range {w W : World} {B g : Nat} {t : TypeId} {l : List (BitVec 8)} (h : Row w g t (bs l)) (hb : Below B w W) (hg : g < B) : W.rangeAt g 0 (bs l).toList := fun j v hv => by
  rw [Nat.zero_add, (h.below hb hg).cell]; simpa using hv
theorem sum_one (q : List (BitVec 8)) (v : Value) (w : World) (hT : Tab w) (hv : Parts w v [q]) (h : q.length < 2147483648) :
    Calls Tryd.prog 17 #[v] w fun e w' => e = .returned (.agg (bs (sha q))) ∧ Below w.heap.size w w' := by
  have h := sum_any [q] v w hT hv (by simp) (by simpa using h)
  rwa [show ([q] : List (List (BitVec 8))).flatten = q by simp] at h
theorem tmod_nat (x : Int) (hx : 0 ≤ x) (n : Nat) : x.tmod (n : Int) = ((x.toNat % n : Nat) : Int) := by
  obtain ⟨m, rfl⟩ := Int.eq_ofNat_of_zero_le hx
  rw [Int.tmod_eq_emod_of_nonneg hx]; simp
end Go.Proofs.YtnfceejmkcohnaaDoor
