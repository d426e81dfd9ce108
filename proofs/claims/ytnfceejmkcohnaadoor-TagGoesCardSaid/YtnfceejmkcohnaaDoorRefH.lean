/- The document's start; one operation of a region that draws its order. -/
import Derived.Test.YtnfceejmkcohnaaDoorRefTurn
import Derived.Test.YtnfceejmkcohnaaDoorRefPad
import Derived.Test.YtnfceejmkcohnaaDoorEq
namespace Go.Proofs.YtnfceejmkcohnaaDoor
open Go Go.RowKit
theorem ref_h0 (w : World) : Calls Tryd.prog 25 #[] w fun e w' => e = .returned (.agg (ws h0)) ∧ Below w.heap.size w w' := ref_start w
theorem anyH_one {P : Program} {md : Region.Mode} {ops : Array Oper} {Q : Exit → Act → World → Prop} {S : World → Prop} {i : Nat} {o : Oper} {fuel : Nat} {listed : Array Bool} {a : Act} {w : World} (hr : Region.ready md ops listed = [i]) (ho : ops[i]? = some o)
    (h : ∀ K' : Act → World → Prop, (∀ a w, S w → wpAnyH P md ops Q S fuel (listed.setIfInBounds i true) a w → K' a w) → if Region.wanted o (yielded ops a.tmps) = true then Oper.wp P o a w K' Q else K' (a.put o.dst undef) w) : wpAnyH P md ops Q S (fuel + 1) listed a w :=
  wpAnyH_all hr (by simp) fun j hj => by
    obtain rfl : j = i := by simpa using hj
    exact wpOp_step ho (fun K hK => h K fun a w h1 h2 => hK a w ⟨h1, h2⟩)
end Go.Proofs.YtnfceejmkcohnaaDoor
