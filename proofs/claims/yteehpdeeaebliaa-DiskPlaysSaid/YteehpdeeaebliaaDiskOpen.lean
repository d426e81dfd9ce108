/- Arguments of disk's statements opened. -/
import Derived.Test.YteehpdeeaebliaaDiskStep
import Derived.Test.YteehpdeeaebliaaDiskNone
namespace Go.Proofs.Yteehpdeeaebliaa
open Go Go.ChangeShapes Go.WideShapes Go.ChangeAt Go.RowKit
theorem open_steps {H : Type} {enc : TypeId × Value → H} {W : World} {r : Reach} {base : Nat} {v : Value} {d : DataW H} {ps : List MemPlace} (hval : Value.okWide Try.prog W r base 22 v)
    (h : DataW.Trod enc Try.prog W 0 (fun _ => true) true 22 v d ps) (hlt : ∀ x ∈ ps, x.block < W.heap.size) :
    ∃ A c l, v = .slice A l.length c ∧ rdSl 4 rdStep W [.slice A l.length c] l := open_argSl Try.underlying22 opens_steps hval h hlt
theorem open_step {H : Type} {enc : TypeId × Value → H} {W : World} {r : Reach} {base : Nat} {v : Value} {d : DataW H} {ps : List MemPlace} (hval : Value.okWide Try.prog W r base 34 v)
    (h : DataW.Trod enc Try.prog W 0 (fun _ => true) true 34 v d ps) (hlt : ∀ x ∈ ps, x.block < W.heap.size) :
    ∃ x u, v = .agg #[.int .i64 x.kind, .int .i64 x.i, .int .u8 (bd x.v), u] ∧ rdStep W [.int .i64 x.kind, .int .i64 x.i, .int .u8 (bd x.v), u] x := by
  obtain ⟨cs, x, rfl, hx⟩ := open_argRec Try.underlying34 opens_step hval h hlt
  obtain ⟨u, rfl, _⟩ := step_vals hx
  exact ⟨x, u, rfl, hx⟩
end Go.Proofs.Yteehpdeeaebliaa
