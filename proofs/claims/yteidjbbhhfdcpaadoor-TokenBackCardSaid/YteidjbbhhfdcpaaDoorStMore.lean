/- Blocks that come to a list of blocks. No function of the program is named here. -/
import Derived.Test.YteidjbbhhfdcpaaDoorSt
set_option maxRecDepth 4000
namespace Go.Proofs.YteidjbbhhfdcpaaDoor
open Go Go.RowKit
section
variable {w0 W W' : World} {F : Nat → Prop} {R : List Blk}
theorem St.join (h : St w0 F R W) {g : Nat} {t : TypeId} {cs : Array Value} (hr : Row W g t cs) (hg : w0.heap.size ≤ g) (hne : ∀ b ∈ R, b.g ≠ g) : St w0 F (R ++ [⟨g, t, cs⟩]) W := by
  have at_ : ∀ (j : Nat) (s : Blk), (R ++ [(⟨g, t, cs⟩ : Blk)])[j]? = some s → (j < R.length ∧ R[j]? = some s) ∨ (j = R.length ∧ s = ⟨g, t, cs⟩) := fun j s hj => by
    by_cases e : j < R.length
    · rw [List.getElem?_append_left e] at hj; exact .inl ⟨e, hj⟩
    · rw [List.getElem?_append_right (by omega)] at hj
      have e2 : j - R.length = 0 := by
        rcases Nat.eq_zero_or_pos (j - R.length) with h0 | h0
        · exact h0
        · rw [List.getElem?_eq_none (by simp; omega)] at hj; cases hj
      rw [e2] at hj
      exact .inr ⟨by omega, (Option.some.inj hj).symm⟩
  refine ⟨h.chg, fun j s hj => ?_, fun i j s u hij hi hj => ?_, fun j s hj => ?_⟩
  · rcases at_ j s hj with ⟨_, hk⟩ | ⟨_, rfl⟩
    · exact h.rows j s hk
    · exact hr
  · rcases at_ i s hi with ⟨_, hk⟩ | ⟨e1, rfl⟩ <;> rcases at_ j u hj with ⟨_, hu⟩ | ⟨e2, rfl⟩
    · exact h.apart _ _ _ _ hij hk hu
    · exact hne s (List.mem_of_getElem? hk)
    · exact fun e => hne u (List.mem_of_getElem? hu) e.symm
    · omega
  · rcases at_ j s hj with ⟨_, hk⟩ | ⟨_, rfl⟩
    · exact h.own j s hk
    · exact .inr hg
/- a block that is none of the list's changes -/
theorem St.far (h : St w0 F R W) {g : Nat} (k : W.grownBy W' (some g)) (hg : w0.heap.size ≤ g) (hne : ∀ b ∈ R, b.g ≠ g) : St w0 F R W' :=
  ⟨h.chg.grown k (fun j e => by cases e; exact .inr hg), fun j r hj => (h.rows j r hj).only k (hne r (List.mem_of_getElem? hj)), h.apart, h.own⟩
theorem St.lt (h : St w0 F R W) {b : Blk} (hb : b ∈ R) : b.g < W.heap.size := by
  obtain ⟨k, hk⟩ := List.getElem?_of_mem hb
  exact (h.rows k b hk).lt
end
theorem row_ne {w : World} {g k : Nat} {t u : TypeId} {cs ds : Array Value} (h : Row w g t cs) (h' : Row w k u ds) (hne : t ≠ u) : g ≠ k := by
  rintro rfl
  have := h.symm.trans h'
  injection this with this
  injection this with _ this _
  exact hne this
/- a guarded load of a whole row, said so that other operations fall at once -/
theorem wplG_row {P : Program} {ops : Array Oper} {rest : List Oper} {dst : Option Tmp} {type : TypeId} {pos : String} {after : Array Edge} {gd : Option (Nat × Bool)} {a : Act} {w : World} {Q : Exit → Act → World → Prop} (ty : TypeId) (x : Nat) (g : Nat) (t : TypeId) (cs : Array Value) (fr : Nat × Nat) (d : TypeDesc)
    (hw : Region.wanted { dst := dst, op := .load ty (.tmp x), type := type, pos := pos, after := after, guard := gd } (yielded ops a.tmps) = true) (hx : a.eval (.tmp x) = .pointer (some ⟨g, 0, none⟩)) (hg : w.heap[g]? = some (.cells cs t fr))
    (hu : P.underlying ty = some d) (hd : (match d with | .struct _ | .array _ _ => true | _ => false) = true) (hi : (P.info? ty).map (·.size) = some cs.size)
    (h : wpList P ops Q rest (a.put dst (.agg cs)) w) : wpList P ops Q ({ dst := dst, op := .load ty (.tmp x), type := type, pos := pos, after := after, guard := gd } :: rest) a w :=
  wpList_guarded hw fun _ hK => wp_load_row ty (.tmp x) rfl g hx t cs fr d hg hu hd hi (hK _ _ h)
end Go.Proofs.YteidjbbhhfdcpaaDoor
