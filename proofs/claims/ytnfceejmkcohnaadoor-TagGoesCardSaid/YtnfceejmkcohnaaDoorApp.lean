/- An append of bytes onto a slice of the call's own, the appended slice nil, empty or not. -/
import Derived.Test.YtnfceejmkcohnaaDoorSum
import Derived.Laws.AppendOwnNone
import Derived.Laws.OwnMore
namespace Go.Proofs.YtnfceejmkcohnaaDoor
open Go Go.RowKit
theorem owns_refl (w : World) (row : Option Nat) : w.grownBy w row := ⟨rfl, rfl, rfl, Nat.le_refl _, fun _ _ _ => rfl⟩
theorem grown_of_below {w w' : World} (hb : Below w.heap.size w w') (row : Option Nat) : w.grownBy w' row := ⟨hb.os, hb.tape, hb.output, hb.size, fun k hk _ => hb.block k hk⟩
theorem below_of_grown {w w' : World} {base : Nat} {row : Option Nat} (h : w.grownBy w' row) (hr : ∀ g, row = some g → base ≤ g) (hs : base ≤ w.heap.size) : Below base w w' :=
  ⟨h.os, h.tape, h.output, h.size, fun k hk => h.block k (by omega) (fun e => by have := hr k e.symm; omega)⟩
theorem wpList_append_slice {w : World} {ops : Array Oper} {rest : List Oper} {o : Oper} {a : Act} {Q : Exit → Act → World → Prop} (hgd : o.guard = none) (s x : Operand)
    (ho : o.op = .call { callee := .builtin .append, args := #[s, x], argTypes := #[22, 22] }) (base : Nat)
    (v : Value) (n : Nat) (xs : List Value) (hs : a.eval s = v) (hown : w.ownsRow base 5 1 v n xs)
    (A : Option Addr) (m c : Nat) (q : List (BitVec 8)) (hx : a.eval x = .slice A m c) (hq : Slice w (.slice A m c) q) (hA : A = none → c = 0)
    (hnm : n + m ≤ 1000000000) (hbase : base ≤ w.heap.size)
    (h : ∀ v' w', w'.ownsRow base 5 1 v' (n + m) (xs ++ bytesV q) → Below base w w' → wpList Tryd.prog ops Q rest (a.put o.dst v') w') : wpList Tryd.prog ops Q (o :: rest) a w := by
  obtain ⟨i0, hi, hz0, hz1, hz2⟩ := info_parts info_u8
  have hblk : ∀ g, v.ownBlock = some g → base ≤ g := fun g hg => (hown.lt g hg).1
  obtain ⟨A', c', e1, _, h3⟩ := hq
  injection e1 with e1 e2 e3
  subst e1 e2 e3
  cases A with
  | none =>
    have hq0 : q = [] := by
      apply Decidable.byContradiction
      intro hne
      obtain ⟨_, _, h4, _⟩ := h3 hne
      cases h4
    subst hq0
    obtain rfl := hA rfl
    refine wpList_append_own_none hgd s x 22 ho base 5 i0 1 Tryd.underlying22 hi v n xs hs hown hx ?_
    exact h v w (by simpa [bytesV] using hown) (Below.refl _ _)
  | some ad =>
    refine wpList_append_own w hgd s x 22 ho base 5 i0 (.int .u8 0) 1 1 Tryd.underlying22 hi hz0 hz1 hz2 rfl (by omega) v n xs hs hown ad q.length c (bytesV q) hx (by simp [bytesV]) ?_ (one_bytesV q) (by unfold maxLen; omega) (by omega) hbase ?_
    · intro j u hu
      have hne : q ≠ [] := by rintro rfl; simp [bytesV] at hu
      obtain ⟨b, o, h4, _, h6⟩ := h3 hne
      injection h4 with h4
      subst h4
      rw [Addr.add_mid]
      simp only [bytesV, List.getElem?_map, Option.map_eq_some_iff] at hu
      obtain ⟨y, hy, rfl⟩ := hu
      exact h6 j y hy
    · intro v' w' h1 h2 _
      exact h v' w' h1 (below_of_grown h2 hblk hbase)
theorem own_empty (w : World) : (w.alloc (.cells #[] 5)).ownsRow w.heap.size 5 1 (.slice (some ⟨w.heap.size, 0, none⟩) 0 0) 0 [] :=
  ⟨rfl, .inr ⟨w.heap.size, 0, #[], rfl, Nat.le_refl _, heap_alloc_new w _, Nat.le_refl _, by unfold maxLen; omega, rfl, rfl⟩⟩
theorem owns_call {w w' : World} {base e size n : Nat} {v : Value} {xs : List Value} (h : w.ownsRow base e size v n xs) (hb : Below w.heap.size w w') : w'.ownsRow base e size v n xs := by
  refine h.kept (row := none) (grown_of_below hb none) ?_
  cases hv : v.ownBlock with
  | none => exact .inl rfl
  | some g => exact .inr (by simp)
/- a slice of the call's own that is not empty: where it lies and what it holds -/
theorem owns_form {w : World} {base n : Nat} {e : TypeId} {v : Value} {q : List (BitVec 8)} (h : w.ownsRow base e 1 v n (bytesV q)) (hq : 0 < q.length) :
    ∃ g cap, v = .slice (some ⟨g, 0, none⟩) q.length cap ∧ base ≤ g ∧ g < w.heap.size ∧ q.length ≤ cap ∧ ∀ j x, q[j]? = some x → w.cell? ⟨g, j, none⟩ = some (.int .u8 (bd x)) := by
  have hn : q.length = n := by have := h.1; simp [bytesV] at this; omega
  subst hn
  rcases h.2 with ⟨_, h0⟩ | ⟨g, cap, cur, rfl, hg, hh, hc, _⟩
  · omega
  · refine ⟨g, cap, rfl, hg, (h.lt g rfl).2, hc, fun j x hx => ?_⟩
    have hj := (List.getElem?_eq_some_iff.1 hx).1
    have := h.cellAt j (by omega)
    rw [this]
    simp [bytesV, hx]
end Go.Proofs.YtnfceejmkcohnaaDoor
