/- Arguments of label's statements opened: labels, words, puts. -/
import Derived.Test.YtmghacgifokbhaaLabelWakes
import Derived.Test.YtmghacgifokbhaaPutsOpen
import Derived.Test.YtmghacgifokbhaaReadW
set_option maxRecDepth 4000
namespace Go.Proofs.Ytmghacgifokbhaa
open Go Go.ChangeShapes Go.WideShapes Go.ChangeAt Go.RowKit
def rdLab : Rd Lab := rdMap (fun x => ⟨x.1, x.2.1, x.2.2.1, x.2.2.2.1, x.2.2.2.2.1⟩) (rdCons 1 rdU32 (rdCons 1 rdU32 (rdCons 1 rdU32 (rdCons 1 rdU16 (rdCons 1 rdU16 rdNil)))))
theorem cellsU32 : Try.prog.cellsOf 22 = 1 := by kernel_rfl
theorem cellsU16 : Try.prog.cellsOf 23 = 1 := by kernel_rfl
theorem opens_lab : Opens Try.prog 25 rdLab :=
  opens_map (opens_struct Try.underlying25 (by kernel_rfl) (opensF_cons rfl cellsU32 (opens_u32 Try.underlying22) (opensF_cons rfl cellsU32 (opens_u32 Try.underlying22) (opensF_cons rfl cellsU32 (opens_u32 Try.underlying22) (opensF_cons rfl cellsU16 (opens_u16 Try.underlying23) (opensF_cons rfl cellsU16 (opens_u16 Try.underlying23) opensF_nil))))))
theorem open_lab {H : Type} {enc : TypeId × Value → H} {W : World} {r : Reach} {base : Nat} {v : Value} {d : DataW H} {ps : List MemPlace} (hval : Value.okWide Try.prog W r base 25 v)
    (h : DataW.Trod enc Try.prog W 0 (fun _ => true) true 25 v d ps) (hlt : ∀ x ∈ ps, x.block < W.heap.size) : ∃ L, v = .agg (labCells L) := by
  obtain ⟨cs, L, rfl, hx⟩ := open_argRec Try.underlying25 opens_lab hval h hlt
  obtain ⟨⟨a, b, c, d, e, _⟩, hx, rfl⟩ := hx
  obtain ⟨c0, d0, rfl, _, h0, c1, d1, rfl, _, h1, c2, d2, rfl, _, h2, c3, d3, rfl, _, h3, c4, d4, rfl, _, h4, h5⟩ := hx
  have h0 : c0 = [.int .u32 (wd a)] := h0
  have h1 : c1 = [.int .u32 (wd b)] := h1
  have h2 : c2 = [.int .u32 (wd c)] := h2
  have h3 : c3 = [.int .u16 (hd d)] := h3
  have h4 : c4 = [.int .u16 (hd e)] := h4
  have h5 : d4 = [] := h5
  subst h0 h1 h2 h3 h4 h5
  exact ⟨⟨a, b, c, d, e⟩, rfl⟩
end Go.Proofs.Ytmghacgifokbhaa
