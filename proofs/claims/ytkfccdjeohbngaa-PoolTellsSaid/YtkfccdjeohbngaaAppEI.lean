/- append onto an empty slice of ints of no room of the call's own: nothing that stood is changed. -/
import Derived.Test.YtkfccdjeohbngaaInts
import Derived.ArgAppend
set_option maxRecDepth 4000
namespace Go.Proofs.Ytkfccdjeohbngaa
open Go Go.RowKit
theorem wp_append_emptyI {w : World} {o : Oper} {a : Act} {K : Act → World → Prop} {Q : Exit → Act → World → Prop} (s x : Operand)
    (ho : o.op = .call { callee := .builtin .append, args := #[s, x], argTypes := #[26, 26] }) (base g : Nat)
    (hs : a.eval s = .slice (some ⟨g, 0, none⟩) 0 0) (hown : w.ownsRow base 3 1 (.slice (some ⟨g, 0, none⟩) 0 0) 0 [])
    (A : Option Addr) (m c : Nat) (q : List Int) (hx : a.eval x = .slice A m c) (hq : IntsAt w (.slice A m c) q) (hm : m ≤ 1000000) (hbase : base ≤ w.heap.size)
    (h : ∀ v' w', w'.ownsRow base 3 1 v' m (intsV q) → Below w.heap.size w w' → K (a.put o.dst v') w') : o.wp Try.prog a w K Q := by
  obtain ⟨i0, hi, hz0, hz1, hz2⟩ := info_parts info_int
  have hln := ints_len hq
  cases A with
  | none =>
    obtain rfl : q = [] := by
      apply Decidable.byContradiction
      intro hne
      obtain ⟨b, o, x, _, e, _⟩ := ints_get hq (k := 0) (List.length_pos_iff.2 hne)
      cases e
    obtain rfl : m = 0 := hln.symm
    obtain rfl : c = 0 := ints_nil hq rfl
    have hrun : (Builtin.append_ #[26, 26] o.type #[.slice (some ⟨g, 0, none⟩) 0 0, .slice none 0 0]).run Try.prog w = .ok (.slice (some ⟨g, 0, none⟩) 0 0) w := by
      simp [Builtin.append_, run_underlying Try.underlying26, sizeOf, typeInfo, hi, Builtin.lenOf, Builtin.firstCells, storeCells]
    unfold Oper.wp execOp
    simp only [ho, resolve, invoke, builtin, Sem.run_bind, Sem.run_pure, Result.andThen_ok, List.map_toArray, List.map_cons, List.map_nil, hs, hx, hrun]
    exact h _ _ hown (Below.refl _ _)
  | some ad =>
    have hnews : ∀ j u, (intsV q)[j]? = some u → w.cell? (ad.add j) = some u := fun j u hj => by
      unfold intsV at hj
      rw [List.getElem?_map] at hj
      cases hx2 : q[j]? with
      | none => rw [hx2] at hj; cases hj
      | some y =>
        rw [hx2] at hj
        cases hj
        obtain ⟨b, o', x', hxx, e, _, hc, _⟩ := ints_get hq (List.getElem?_eq_some_iff.1 hx2).1
        rw [hx2] at hxx
        cases hxx
        injection e with e
        subst e
        rw [Addr.add_mid]
        exact hc
    subst hln
    by_cases h0 : q = []
    · subst h0
      have hrun := run_append_room_cells (P := Try.prog) w 26 o.type 3 i0 Try.underlying26 hi g 0 0 0 ad 0 c [] (by simp) (fun j u hu => by simp at hu) (fun u hu => by simp at hu) (Nat.le_refl _) (fun j hj => by simp at hj) (fun j hj => by simp at hj)
      unfold Oper.wp
      simp only [List.length_nil] at hx
      simp [execOp, ho, resolve, invoke, builtin, hs, hx, hrun, Result.andThen]
      exact h _ w hown (Below.refl _ _)
    · have hl : 0 < q.length := List.length_pos_iff.2 h0
      obtain ⟨v', w', hrun, r1, r2⟩ := run_append_arg_grows (P := Try.prog) w 26 o.type 3 i0 (.int .i64 0) 1 8 Try.underlying26 hi hz0 hz1 hz2 rfl (by omega) ⟨g, 0, none⟩ 0 0 [] rfl (fun j u hu => by simp at hu) ad q.length c (intsV q) (by simp [intsV]) hnews (by omega) (by unfold maxLen; omega) (by omega)
      unfold Oper.wp
      simp [execOp, ho, resolve, invoke, builtin, hs, hx, hrun, Result.andThen]
      refine h v' w' (own_base (by simpa using r1) hbase) (below_of_grown r2 (fun g hg => by cases hg) (Nat.le_refl _))
end Go.Proofs.Ytkfccdjeohbngaa
