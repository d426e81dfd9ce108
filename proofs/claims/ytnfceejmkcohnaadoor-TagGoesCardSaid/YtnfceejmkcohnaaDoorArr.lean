/- Two arrays of integers that are the same are told as equal. -/
import Derived.Laws.StructEq
import Derived.Test.YtnfceejmkcohnaaDoorMem
namespace Go.Proofs.YtnfceejmkcohnaaDoor
open Go
theorem forIn_stays {P : Program} {w : World} {β : Type} (b : β) (f : Nat → β → Sem (ForInStep β)) : ∀ l : List Nat, (∀ i ∈ l, (f i b).run P w = .ok (.yield b) w) → (forIn l b f).run P w = .ok b w
  | [], _ => by simp [Sem.run_pure]
  | i :: l, h => by
    simp only [List.forIn_cons, Sem.run_bind, h i (by simp), Result.andThen]
    exact forIn_stays b f l fun j hj => h j (by simp [hj])
theorem equal_same {P : Program} (w : World) (d : Nat) (t e : TypeId) (k : IntKind) (n : Nat) (xs : Array Value) (ht : P.underlying t = some (.array n e)) (he : P.underlying e = some (.int k)) (hs : (P.info? e).map (·.size) = some 1)
    (hx : ∀ i, i < n → ∃ z, xs[i]? = some (.int k z)) : (Op.equalIn (d + 2) t (.agg xs) (.agg xs)).run P w = .ok true w := by
  obtain ⟨i0, hi, hs⟩ := Option.map_eq_some_iff.1 hs
  have hsz : (sizeOf e).run P w = .ok 1 w := by simp [sizeOf, typeInfo, hi, hs]
  rw [show Op.equalIn (d + 2) t (.agg xs) (.agg xs) = Op.equalIn ((d + 1) + 1) t (.agg xs) (.agg xs) from rfl]
  unfold Op.equalIn
  simp only [Sem.run_bind, run_underlying ht, Result.andThen_ok, hsz]
  rw [Std.Legacy.Range.forIn_eq_forIn_range', forIn_stays]
  · simp
  · intro i hi
    have hin : i < n := by simp [Std.Legacy.Range.size] at hi; omega
    obtain ⟨z, hz⟩ := hx i hin
    have hp : (Go.part e xs (i * 1)).run P w = .ok (.int k z) w := by simp [Go.part, isAgg, run_underlying he, hz]
    simp only [Sem.run_bind, hp, Result.andThen_ok, run_equalIn_int w d e k k z z he]
    simp
end Go.Proofs.YtnfceejmkcohnaaDoor
