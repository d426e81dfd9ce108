/- Literals of bytes in a region that is walked by what each operation yields. -/
import Derived.Test.YtamofhjnpahamaaDoes
set_option maxRecDepth 4000
namespace Go.Proofs.Ytamofhjnpahamaa
open Go Go.RowKit
theorem run_conv_lit (w : World) (g n c : Nat) (C : Array Value) (fr : Nat × Nat) (hg : w.heap[g]? = some (.cells C 5 fr)) :
    ∃ w', (convert 23 23 (.slice (some ⟨g, 0, none⟩) n c)).run Try.prog w = .ok (.slice (some ⟨g, 0, none⟩) n c) w' ∧ ∀ B, B ≤ g → Keeps B w w' := by
  have hsh : w.shape? g = some (5, C.size) := by unfold World.shape?; rw [hg]
  refine ⟨w.freeze ⟨g, C.size, none⟩ 1, by simp [convert, run_underlying Try.underlying23, run_underlying Try.underlying5, markStringish, hsh], fun B hB => ⟨⟨rfl, rfl, rfl, by simp [World.freeze], fun k hk => ?_⟩, fun k cs t fr' hk => ?_⟩⟩
  · simp only [World.freeze, if_neg (show ¬ (1 = 0) by decide), Array.getElem?_modify]
    rw [if_neg (by omega)]
  · simp only [World.freeze, if_neg (show ¬ (1 = 0) by decide), Array.getElem?_modify]
    by_cases hkg : g = k
    · subst hkg
      rw [if_pos rfl, hk]
      exact ⟨_, rfl⟩
    · rw [if_neg hkg]; exact ⟨fr', hk⟩
section
variable {o : Oper} {a : Act} {w : World} {R : Value → World → Prop}
theorem does_conv {B t : Nat} {v : Value} {q : List (BitVec 8)} (ho : o.op = .convert 23 23 (.tmp t)) (ht : a.tmps[t]? = some v) (hv : lit B q v w) (h : ∀ w', Keeps B w w' → lit B q v w' → R v w') : Does Try.prog o a w R := by
  obtain ⟨g, fr, rfl, hB, hg⟩ := hv
  obtain ⟨w', hr, hk⟩ := run_conv_lit w g q.length q.length _ fr hg
  obtain ⟨fr', h'⟩ := (hk B hB).rows _ _ _ _ hg
  refine does_run (w' := w') (v := .slice (some ⟨g, 0, none⟩) q.length q.length) ?_ (h w' (hk B hB) ⟨g, fr', rfl, hB, h'⟩)
  simp only [execOp, ho, eval_of_get ht, Sem.run_bind, hr, Result.andThen_ok, Sem.run_pure]
end
theorem lit_new {B : Nat} (w : World) (q : List (BitVec 8)) (hB : B ≤ w.heap.size) : lit B q (.slice (some ⟨w.heap.size, 0, none⟩) q.length q.length) (w.alloc (.cells (bs q) 5)) := ⟨_, _, rfl, hB, heap_alloc_new w _⟩
end Go.Proofs.Ytamofhjnpahamaa
