/- LabelCodes' third argument opened: four words and puts. -/
import Derived.Test.YtmghacgifokbhaaLabelOpen
set_option maxRecDepth 4000
namespace Go.Proofs.Ytmghacgifokbhaa
open Go Go.ChangeShapes Go.WideShapes Go.ChangeAt Go.RowKit
def rdAsk : Rd (List (BitVec 32) × List (Int × List (BitVec 8)) × Unit) := rdCons 4 (rdWords 4) (rdCons 1 (rdSl 33 rdPut) rdNil)
theorem cellsW4 : Try.prog.cellsOf 28 = 4 := by kernel_rfl
theorem cellsPuts : Try.prog.cellsOf 29 = 1 := by kernel_rfl
theorem opens_ask : Opens Try.prog 31 rdAsk :=
  opens_struct Try.underlying31 (by kernel_rfl) (opensF_cons rfl cellsW4 (opens_words Try.underlying28 Try.underlying22 (by kernel_rfl) cellsW4) (opensF_cons rfl cellsPuts opens_puts opensF_nil))
theorem fourth {q : List (BitVec 32)} (h : q.length = 4) : ∃ a b c d, q = [a, b, c, d] := by
  match q, h with
  | [a, b, c, d], _ => exact ⟨a, b, c, d, rfl⟩
theorem open_ask {H : Type} {enc : TypeId × Value → H} {W : World} {r : Reach} {base : Nat} {v : Value} {d : DataW H} {ps : List MemPlace} (hval : Value.okWide Try.prog W r base 31 v)
    (h : DataW.Trod enc Try.prog W 0 (fun _ => true) true 31 v d ps) (hlt : ∀ x ∈ ps, x.block < W.heap.size) :
    ∃ n0 n1 n2 n3 A c l, v = .agg #[.int .u32 (wd n0), .int .u32 (wd n1), .int .u32 (wd n2), .int .u32 (wd n3), .slice A l.length c] ∧ PutsAt W (.slice A l.length c) l := by
  obtain ⟨cs, ⟨q, l, _⟩, rfl, hx⟩ := open_argRec Try.underlying31 opens_ask hval h hlt
  obtain ⟨c0, d0, e0, _, h0, c1, d1, rfl, _, h1, h2⟩ := hx
  obtain ⟨rfl, hq⟩ := h0
  have h2 : d1 = [] := h2
  subst h2
  obtain ⟨n0, n1, n2, n3, rfl⟩ := fourth hq
  have h1' := h1
  obtain ⟨A, c, rfl, _⟩ := h1'
  refine ⟨n0, n1, n2, n3, A, c, l, ?_, puts_at h1⟩
  exact congrArg Value.agg (by apply Array.toList_inj.1; simpa using e0)
end Go.Proofs.Ytmghacgifokbhaa
