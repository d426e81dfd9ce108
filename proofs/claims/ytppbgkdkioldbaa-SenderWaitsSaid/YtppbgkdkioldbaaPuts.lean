/- Puts as they lie in memory; puts appended to a slice of none. No function of the program is named here. -/
import Derived.Test.YtppbgkdkioldbaaObj
import Derived.Test.YtppbgkdkioldbaaPhs
import Derived.Laws.OwnMore
set_option maxRecDepth 4000
namespace Go.Proofs.Ytppbgkdkioldbaa
open Go Go.RowKit
def pcell (x : Int × List (BitVec 8)) : List Value := .int .i64 x.1 :: bytesV x.2
def PutsAt (w : World) (v : Value) (l : List (Int × List (BitVec 8))) : Prop := ∃ A c, v = .slice A l.length c ∧ l.length ≤ c ∧ (∀ x ∈ l, x.2.length = 32 ∧ -9223372036854775808 ≤ x.1 ∧ x.1 < 9223372036854775808) ∧
  (l ≠ [] → ∃ b o, A = some ⟨b, o, none⟩ ∧ b < w.heap.size ∧ ∀ k x, l[k]? = some x → w.rangeAt b (o + k * 33) (pcell x))
theorem PutsAt.below {w w' : World} {v : Value} {l : List (Int × List (BitVec 8))} {B : Nat} (h : PutsAt w v l) (hb : Below B w w') (hB : w.heap.size ≤ B) : PutsAt w' v l := by
  obtain ⟨A, c, h1, h2, h3, h4⟩ := h
  refine ⟨A, c, h1, h2, h3, fun hne => ?_⟩
  obtain ⟨b, o, h5, h6, h7⟩ := h4 hne
  exact ⟨b, o, h5, Nat.lt_of_lt_of_le h6 hb.size, fun k x hx j v hv => (hb.cell (p := ⟨b, o + k * 33 + j, none⟩) (Nat.lt_of_lt_of_le h6 hB)).trans (h7 k x hx j v hv)⟩
theorem len_pcell {x : Int × List (BitVec 8)} (h : x.2.length = 32) : (pcell x).length = 33 := by simp [pcell, bytesV, h]
theorem puts_row {w : World} {g c : Nat} {t : TypeId} {l : List (Int × List (BitVec 8))} (h : Row w g t (l.map pcell).flatten.toArray) (hc : l.length ≤ c) (hl : ∀ x ∈ l, x.2.length = 32 ∧ -9223372036854775808 ≤ x.1 ∧ x.1 < 9223372036854775808) : PutsAt w (.slice (some ⟨g, 0, none⟩) l.length c) l :=
  ⟨_, c, rfl, hc, hl, fun _ => ⟨g, 0, rfl, h.lt, fun k x hx j v hv => by
    rw [Nat.zero_add]
    refine h.get ?_
    have hj : j < 33 := by have := (List.getElem?_eq_some_iff.1 hv).1; rw [len_pcell (hl x (List.mem_of_getElem? hx)).1] at this; exact this
    rw [List.getElem?_toArray, flat_get (sz := 33) (l.map pcell) (fun c hc => by
      obtain ⟨y, hy, rfl⟩ := List.mem_map.1 hc
      exact len_pcell (hl y hy).1) k j (pcell x) (by simp [hx]) hj]
    exact hv⟩⟩
/- puts appended to a slice of none: they lie elsewhere -/
def zput0 : Array Value := (pcell (0, zer 32)).toArray
theorem info_put : (Try.prog.info? 61).map (fun i => (i.zero, i.size, i.bytes)) = some (some (.agg zput0), 33, 40) := by kernel_rfl
theorem one_pcell0 {x : Int × List (BitVec 8)} : ∀ v ∈ pcell x, v.oneCell' = true := by
  intro v hv
  rcases List.mem_cons.1 hv with rfl | hv
  · rfl
  · exact one_bytesV _ v hv
theorem len_puts {l : List (Int × List (BitVec 8))} (h : ∀ x ∈ l, x.2.length = 32) : (l.map pcell).flatten.length = l.length * 33 := by
  induction l with
  | nil => rfl
  | cons x l ih =>
    rw [List.map_cons, List.flatten_cons, List.length_append, ih (fun y hy => h y (List.mem_cons_of_mem _ hy)), len_pcell (h x (List.mem_cons_self ..)), List.length_cons]
    omega
theorem puts_own {w : World} {base : Nat} {v : Value} {l : List (Int × List (BitVec 8))} (h : w.ownsRow base 61 33 v l.length (l.map pcell).flatten) (hl : ∀ x ∈ l, x.2.length = 32 ∧ -9223372036854775808 ≤ x.1 ∧ x.1 < 9223372036854775808) : PutsAt w v l := by
  rcases h.2 with ⟨rfl, hn⟩ | ⟨g, cap, cur, rfl, _, hg, hcap, _, _, ht⟩
  · obtain rfl : l = [] := List.eq_nil_of_length_eq_zero hn
    exact ⟨none, 0, rfl, Nat.le_refl _, hl, fun h => absurd rfl h⟩
  · refine ⟨_, cap, rfl, hcap, hl, fun _ => ⟨g, 0, rfl, (Array.getElem?_eq_some_iff.1 hg).1, fun k x hx j u hu => ?_⟩⟩
    have hk : k < l.length := (List.getElem?_eq_some_iff.1 hx).1
    have hj : j < 33 := by have := (List.getElem?_eq_some_iff.1 hu).1; rwa [len_pcell (hl x (List.mem_of_getElem? hx)).1] at this
    have hfl := flat_get (sz := 33) (l.map pcell) (fun c hc => by
      obtain ⟨y, hy, rfl⟩ := List.mem_map.1 hc
      exact len_pcell (hl y hy).1) k j (pcell x) (by simp [hx]) hj
    rw [Nat.zero_add]
    refine Row.get (cs := cur) (t := 61) hg ?_
    rw [← Array.getElem?_toList, ← List.getElem?_take_of_lt (show k * 33 + j < l.length * 33 by omega), ht, hfl]
    exact hu
theorem append_puts {w : World} {g c : Nat} {A : Option Addr} {l : List (Int × List (BitVec 8))} (ty : TypeId) (hg : Row w g 61 #[]) (h : PutsAt w (.slice A l.length c) l) (hl : l.length ≤ 1000000) :
    ∃ v' w', (Builtin.append_ #[28, 28] ty #[.slice (some ⟨g, 0, none⟩) 0 0, .slice A l.length c]).run Try.prog w = .ok v' w' ∧ PutsAt w' v' l ∧ Same w w' ∧ (∃ B n2 c2, v' = .slice B n2 c2) ∧ ∀ k, v'.ownBlock = some k → k = g ∨ k = w.heap.size := by
  obtain ⟨i0, hi, hz0, hz1, hz2⟩ := info_parts info_put
  obtain ⟨A', c', e1, h2, h3, h4⟩ := h
  injection e1 with e1 _ e3
  subst e1 e3
  have hown : w.ownsRow 0 61 33 (.slice (some ⟨g, 0, none⟩) 0 0) 0 [] := ⟨rfl, .inr ⟨g, 0, #[], rfl, Nat.zero_le _, hg, Nat.le_refl _, Nat.zero_le _, rfl, rfl⟩⟩
  have hlen := len_puts (fun x hx => (h3 x hx).1)
  cases A with
  | none =>
    have hl0 : l = [] := by
      apply Decidable.byContradiction
      intro hne
      obtain ⟨_, _, h5, _⟩ := h4 hne
      cases h5
    subst hl0
    refine ⟨.slice (some ⟨g, 0, none⟩) 0 0, w, ?_, ⟨_, 0, rfl, Nat.le_refl _, h3, fun h => absurd rfl h⟩, Same.refl _, ⟨_, _, _, rfl⟩, fun k hk => by cases hk; exact .inl rfl⟩
    simp [Builtin.append_, run_underlying Try.underlying28, sizeOf, typeInfo, hi, Builtin.lenOf, Builtin.firstCells, storeCells]
  | some ad =>
    have hnews : ∀ j u, (l.map pcell).flatten[j]? = some u → w.cell? (ad.add j) = some u := by
      intro j u hu
      have hj : j < l.length * 33 := by rw [← hlen]; exact (List.getElem?_eq_some_iff.1 hu).1
      obtain ⟨k, m, hm, rfl⟩ : ∃ k m, m < 33 ∧ j = k * 33 + m := ⟨j / 33, j % 33, Nat.mod_lt _ (by decide), by omega⟩
      have hk : k < l.length := by omega
      obtain ⟨x, hx⟩ : ∃ x, l[k]? = some x := ⟨_, List.getElem?_eq_getElem hk⟩
      obtain ⟨b, o, h5, _, h7⟩ := h4 (by rintro rfl; simp at hk)
      injection h5 with h5
      subst h5
      rw [flat_get (sz := 33) (l.map pcell) (fun c hc => by
        obtain ⟨y, hy, rfl⟩ := List.mem_map.1 hc
        exact len_pcell (h3 y hy).1) k m (pcell x) (by simp [hx]) hm] at hu
      rw [Addr.add_mid, ← Nat.add_assoc]
      exact h7 k x hx m u hu
    have h1 : ∀ u ∈ (l.map pcell).flatten, u.oneCell' = true := by
      intro u hu
      obtain ⟨p, hp, hu⟩ := List.mem_flatten.1 hu
      obtain ⟨y, _, rfl⟩ := List.mem_map.1 hp
      exact one_pcell0 u hu
    obtain ⟨v', w', hr, ho, _, _⟩ := run_append_own (P := Try.prog) w 0 28 ty 61 i0 (.agg zput0) 33 40 Try.underlying28 hi hz0 hz1 hz2 (by rfl) (by decide) (.slice (some ⟨g, 0, none⟩) 0 0) 0 [] hown ad l.length c (l.map pcell).flatten hlen hnews h1 (by unfold maxLen; omega) (by omega) (Nat.zero_le _)
    refine ⟨v', w', hr, puts_own (base := 0) (by simpa using ho) h3, ?_⟩
    by_cases h0 : l.length = 0
    · have hl0 : l = [] := List.eq_nil_of_length_eq_zero h0
      subst hl0
      have hr2 := run_append_room (P := Try.prog) (w := w) 28 ty 61 i0 Try.underlying28 hi g 0 0 #[] hg ad 0 c [] (by rw [hz1]; rfl) (fun j u hu => by simp at hu) (fun u hu => by simp at hu) (by decide) (by simp)
      have hr3 : Result.ok v' w' = _ := hr.symm.trans hr2
      injection hr3 with hv9 hw
      subst hw
      refine ⟨?_, ⟨_, _, _, hv9⟩, fun k hk => by rw [hv9] at hk; cases hk; exact .inl rfl⟩
      refine ⟨rfl, rfl, rfl, by simp [World.setRow], fun k hk => ?_⟩
      by_cases hkg : k = g
      · subst hkg
        rw [setRow_heap w k #[] _ 61 (0, 0) hg]
        exact (hg.trans (by simp)).symm
      · exact setRow_other w g k _ hkg
    · have hr2 := run_append_grow (P := Try.prog) w 28 ty 61 i0 (.agg zput0) Try.underlying28 hi hz0 ⟨g, 0, none⟩ 0 0 [] (by simp) (fun j u hu => by simp at hu) ad l.length c (l.map pcell).flatten (by rw [hz1]; exact hlen) hnews (by omega) (by omega) (growslice_fits (by omega) (by rw [hz2]; omega))
      have hr3 : Result.ok v' w' = _ := hr.symm.trans hr2
      injection hr3 with hv9 hw
      rw [hw]
      exact ⟨((Below.refl _ _).drew).alloc (Nat.le_refl _) _, ⟨_, _, _, hv9⟩, fun k hk => by rw [hv9] at hk; cases hk; exact .inr rfl⟩
theorem wp_append_puts {w : World} {o : Oper} {a : Act} {K : Act → World → Prop} {Q : Exit → Act → World → Prop} (s x : Operand)
    (ho : o.op = .call { callee := .builtin .append, args := #[s, x], argTypes := #[28, 28] }) (g : Nat) (hs : a.eval s = .slice (some ⟨g, 0, none⟩) 0 0) (hg : Row w g 61 #[])
    (A : Option Addr) (c : Nat) (l : List (Int × List (BitVec 8))) (hx : a.eval x = .slice A l.length c) (h : PutsAt w (.slice A l.length c) l) (hl : l.length ≤ 1000000)
    (hK : ∀ v' w', PutsAt w' v' l → Same w w' → K (a.put o.dst v') w') : o.wp Try.prog a w K Q := by
  obtain ⟨v', w', hr, h1, h2, _⟩ := append_puts o.type hg h hl
  unfold Oper.wp execOp
  simp only [ho, resolve, invoke, builtin, Sem.run_bind, Sem.run_pure, Result.andThen_ok, List.map_toArray, List.map_cons, List.map_nil, hs, hx, hr]
  exact hK v' w' h1 h2
/- the same, and where they lie -/
theorem wp_append_puts_own {w : World} {o : Oper} {a : Act} {K : Act → World → Prop} {Q : Exit → Act → World → Prop} (s x : Operand)
    (ho : o.op = .call { callee := .builtin .append, args := #[s, x], argTypes := #[28, 28] }) (g : Nat) (hs : a.eval s = .slice (some ⟨g, 0, none⟩) 0 0) (hg : Row w g 61 #[])
    (A : Option Addr) (c : Nat) (l : List (Int × List (BitVec 8))) (hx : a.eval x = .slice A l.length c) (h : PutsAt w (.slice A l.length c) l) (hl : l.length ≤ 1000000)
    (hK : ∀ v' w', PutsAt w' v' l → Same w w' → (∃ B n2 c2, v' = .slice B n2 c2) → (∀ k, v'.ownBlock = some k → k = g ∨ k = w.heap.size) → K (a.put o.dst v') w') : o.wp Try.prog a w K Q := by
  obtain ⟨v', w', hr, h1, h2, h3, h4⟩ := append_puts o.type hg h hl
  unfold Oper.wp execOp
  simp only [ho, resolve, invoke, builtin, Sem.run_bind, Sem.run_pure, Result.andThen_ok, List.map_toArray, List.map_cons, List.map_nil, hs, hx, hr]
  exact hK v' w' h1 h2 h3 h4
end Go.Proofs.Ytppbgkdkioldbaa
