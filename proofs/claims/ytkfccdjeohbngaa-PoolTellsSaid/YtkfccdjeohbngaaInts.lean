/- Slices of ints: as they lie in memory, of one's own. No function of the program is named here. -/
import Derived.Test.YtkfccdjeohbngaaRead
import Derived.Test.YtkfccdjeohbngaaOpenN
import Derived.Test.YtkfccdjeohbngaaStMore
import Derived.Deep.DeepAppendWide
set_option maxRecDepth 4000
namespace Go.Proofs.Ytkfccdjeohbngaa
open Go Go.ChangeShapes Go.WideShapes Go.ChangeAt Go.RowKit
def intsV (l : List Int) : List Value := l.map (Value.int .i64)
theorem len_intsV (l : List Int) : (intsV l).length = l.length := by simp [intsV]
theorem one_intsV (l : List Int) : ∀ v ∈ intsV l, v.oneCell' = true := by
  intro v hv
  obtain ⟨x, _, rfl⟩ := List.mem_map.1 hv
  rfl
theorem info_int : (Try.prog.info? 3).map (fun i => (i.zero, i.size, i.bytes)) = some (some (.int .i64 0), 1, 8) := by kernel_rfl
def IntsAt (w : World) (v : Value) (l : List Int) : Prop := rdSl 1 (rdInt .i64) w [v] l
theorem IntsAt.below {w w' : World} {v : Value} {l : List Int} {B : Nat} (h : IntsAt w v l) (hb : Below B w w') (hB : w.heap.size ≤ B) : IntsAt w' v l := stays_sl (stays_int _) B w w' _ _ h hb hB
theorem ints_len {w : World} {A : Option Addr} {n c : Nat} {l : List Int} (h : IntsAt w (.slice A n c) l) : l.length = n := by
  obtain ⟨A', c', e1, _⟩ := h
  have e1 : Value.slice A n c = .slice A' l.length c' := by simpa using e1
  injection e1 with _ e1 _
  exact e1.symm
theorem ints_nil {w : World} {A : Option Addr} {n c : Nat} {l : List Int} (h : IntsAt w (.slice A n c) l) : A = none → c = 0 := by
  obtain ⟨A', c', e1, _, h3, _⟩ := h
  have e1 : Value.slice A n c = .slice A' l.length c' := by simpa using e1
  injection e1 with e1 _ e3
  rw [e1, e3]; exact h3
theorem ints_cap {w : World} {A : Option Addr} {n c : Nat} {l : List Int} (h : IntsAt w (.slice A n c) l) : n ≤ c ∧ n ≤ maxLen := by
  obtain ⟨A', c', e1, h2, _, h4, _⟩ := h
  have e1 : Value.slice A n c = .slice A' l.length c' := by simpa using e1
  injection e1 with _ e2 e3
  rw [e2, e3]; exact ⟨h2, h4⟩
theorem ints_get {w : World} {A : Option Addr} {n c : Nat} {l : List Int} (h : IntsAt w (.slice A n c) l) {k : Nat} (hk : k < l.length) :
    ∃ b o x, l[k]? = some x ∧ A = some ⟨b, o, none⟩ ∧ b < w.heap.size ∧ w.cell? ⟨b, o + k, none⟩ = some (.int .i64 x) ∧ -9223372036854775808 ≤ x ∧ x < 9223372036854775808 := by
  obtain ⟨A', c', e1, _, _, _, h5⟩ := h
  have e1 : Value.slice A n c = .slice A' l.length c' := by simpa using e1
  injection e1 with e1 _ _
  subst e1
  obtain ⟨b, o, h6, h7, h8⟩ := h5 (by rintro rfl; simp at hk)
  obtain ⟨x, hx⟩ : ∃ x, l[k]? = some x := ⟨_, List.getElem?_eq_getElem hk⟩
  obtain ⟨ds, _, h10, h11, h12⟩ := h8 k x hx
  subst h11
  have := h10 0 (.int .i64 x) rfl
  have hb := int_i64 h12
  exact ⟨b, o, x, hx, h6, h7, by simpa using this, hb.1, hb.2⟩
/- an own row of ints reads so -/
theorem ints_own {w : World} {base : Nat} {A : Option Addr} {n c : Nat} {l : List Int} (h : w.ownsRow base 3 1 (.slice A n c) n (intsV l)) (hl : ∀ x ∈ l, -9223372036854775808 ≤ x ∧ x < 9223372036854775808) : IntsAt w (.slice A n c) l := by
  have hln : l.length = n := by have := h.1; rw [len_intsV] at this; omega
  subst hln
  have hwf : ∀ x ∈ l, (Lit.int .i64 x).wf = true := fun x hx => by
    have h2 : IntKind.i64.min = -9223372036854775808 := by decide
    have h3 : IntKind.i64.max = 9223372036854775807 := by decide
    have := hl x hx
    simp only [Lit.wf, Bool.and_eq_true, decide_eq_true_eq]
    omega
  rcases h.2 with ⟨e0, h0⟩ | ⟨g, cap, cur, e0, _, hrow, hcap, hmx, hsz, htk⟩
  · injection e0 with e1 e2 e3
    have hl0 : l = [] := List.eq_nil_of_length_eq_zero h0
    subst hl0
    exact ⟨A, c, rfl, Nat.zero_le _, fun _ => e3, by decide, fun h => absurd rfl h⟩
  · injection e0 with e1 e2 e3
    subst e1 e3
    refine ⟨_, _, rfl, hcap, fun h => (by cases h), by omega, fun _ => ⟨g, 0, rfl, (h.lt g rfl).2, fun k x hx => ⟨[.int .i64 x], rfl, fun j v hv => ?_, rfl, hwf x (List.mem_of_getElem? hx)⟩⟩⟩
    have hk : k < l.length := (List.getElem?_eq_some_iff.1 hx).1
    cases j with
    | zero =>
      cases hv
      rw [Nat.zero_add, Nat.mul_one, Nat.add_zero, h.cellAt k (by omega)]
      unfold intsV
      rw [List.getElem?_map, hx]; rfl
    | succ j => simp at hv
/- appended -/
theorem wp_append_ints {w : World} {o : Oper} {a : Act} {K : Act → World → Prop} {Q : Exit → Act → World → Prop} (s x : Operand)
    (ho : o.op = .call { callee := .builtin .append, args := #[s, x], argTypes := #[26, 26] }) (base : Nat)
    (v : Value) (n : Nat) (l1 : List Int) (hs : a.eval s = v) (hown : w.ownsRow base 3 1 v n (intsV l1))
    (A : Option Addr) (m c : Nat) (l2 : List Int) (hx : a.eval x = .slice A m c) (h2 : IntsAt w (.slice A m c) l2) (hnm : n + m ≤ 1000000) (hbase : base ≤ w.heap.size)
    (h : ∀ v' w', w'.ownsRow base 3 1 v' (n + m) (intsV (l1 ++ l2)) → Below base w w' → K (a.put o.dst v') w') : o.wp Try.prog a w K Q := by
  obtain ⟨i0, hi, hz0, hz1, hz2⟩ := info_parts info_int
  have hl2 := ints_len h2
  have hn2 := ints_nil h2
  cases A with
  | none =>
    obtain rfl : l2 = [] := by
      apply Decidable.byContradiction
      intro hne
      obtain ⟨b, o, x, _, e, _⟩ := ints_get h2 (k := 0) (List.length_pos_iff.2 hne)
      cases e
    obtain rfl : m = 0 := hl2.symm
    obtain rfl : c = 0 := hn2 rfl
    have hrun : (Builtin.append_ #[26, 26] o.type #[v, .slice none 0 0]).run Try.prog w = .ok v w := by
      rcases hown.2 with ⟨rfl, rfl⟩ | ⟨g, cap, cur, rfl, _, hrow, hcap, _⟩
      · simp [Builtin.append_, run_underlying Try.underlying26, sizeOf, typeInfo, hi, Builtin.lenOf, Builtin.firstCells]
      · simp [Builtin.append_, run_underlying Try.underlying26, sizeOf, typeInfo, hi, Builtin.lenOf, Builtin.firstCells, storeCells, hcap]
    unfold Oper.wp execOp
    simp only [ho, resolve, invoke, builtin, Sem.run_bind, Sem.run_pure, Result.andThen_ok, List.map_toArray, List.map_cons, List.map_nil, hs, hx, hrun]
    exact h _ _ (by simpa using hown) (Below.refl _ _)
  | some ad =>
    have hnews : ∀ j u, (intsV l2)[j]? = some u → w.cell? (ad.add j) = some u := fun j u hj => by
      unfold intsV at hj
      rw [List.getElem?_map] at hj
      cases hx2 : l2[j]? with
      | none => rw [hx2] at hj; cases hj
      | some y =>
        rw [hx2] at hj
        cases hj
        obtain ⟨b, o', x', hxx, e, _, hc, _⟩ := ints_get h2 (List.getElem?_eq_some_iff.1 hx2).1
        rw [hx2] at hxx
        cases hxx
        injection e with e
        subst e
        rw [Addr.add_mid]
        exact hc
    refine wp_append_own_wide w s x 26 ho base 3 i0 (.int .i64 0) 1 8 Try.underlying26 hi hz0 hz1 hz2 rfl (by decide) v n (intsV l1) hs hown ad m c (intsV l2) hx (by rw [len_intsV, hl2, Nat.mul_one]) hnews (one_intsV _) (by unfold maxLen; omega) (by omega) hbase fun v' w' o2 hg _ => ?_
    refine h v' w' (by unfold intsV at o2 ⊢; rw [List.map_append]; exact o2) (below_of_grown hg (fun g hg => (hown.lt g hg).1) hbase)
end Go.Proofs.Ytkfccdjeohbngaa
