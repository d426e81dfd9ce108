/- Arguments that are puts opened. -/
import Derived.Test.YtmghacgifokbhaaPuts
import Derived.Test.YtmghacgifokbhaaRead
set_option maxRecDepth 4000
namespace Go.Proofs.Ytmghacgifokbhaa
open Go Go.ChangeShapes Go.WideShapes Go.ChangeAt Go.RowKit
theorem bounds_i64L {n : Int} (h : (Lit.int .i64 n).wf = true) : -9223372036854775808 ≤ n ∧ n < 9223372036854775808 := by
  simp only [Lit.wf, Bool.and_eq_true, decide_eq_true_eq] at h
  have h1 : IntKind.i64.min = -9223372036854775808 := by decide
  have h2 : IntKind.i64.max = 9223372036854775807 := by decide
  omega
/- puts -/
def rdPut : Rd (Int × List (BitVec 8)) := rdMap (fun x => (x.1, x.2.1)) (rdCons 1 (rdInt .i64) (rdCons 32 (rdRow 32) rdNil))
theorem cellsI64 : Try.prog.cellsOf 3 = 1 := by kernel_rfl
theorem cellsBlk : Try.prog.cellsOf 27 = 32 := by kernel_rfl
theorem cellsPut : Try.prog.cellsOf 50 = 33 := by kernel_rfl
theorem opens_put : Opens Try.prog 50 rdPut :=
  opens_map (opens_struct Try.underlying50 (by kernel_rfl) (opensF_cons rfl cellsI64 (opens_int Try.underlying3) (opensF_cons rfl cellsBlk (opens_row Try.underlying27 Try.underlying5 (by kernel_rfl) cellsBlk) opensF_nil)))
theorem opens_puts : Opens Try.prog 29 (rdSl 33 rdPut) := opens_sl Try.underlying29 cellsPut (by decide) opens_put
theorem put_cells {w : World} {ds : List Value} {x : Int × List (BitVec 8)} (h : rdPut w ds x) : ds = pcell x ∧ x.2.length = 32 ∧ -9223372036854775808 ≤ x.1 ∧ x.1 < 9223372036854775808 := by
  obtain ⟨⟨i, q, _⟩, h, rfl⟩ := h
  obtain ⟨c0, d0, rfl, _, ⟨rfl, hi⟩, c1, d1, rfl, _, ⟨rfl, hq⟩, h2⟩ := h
  have h2 : d1 = [] := h2
  subst h2
  exact ⟨by simp [pcell], hq, bounds_i64L hi⟩
theorem puts_at {w : World} {A : Option Addr} {n c : Nat} {l : List (Int × List (BitVec 8))} (h : rdSl 33 rdPut w [.slice A n c] l) : PutsAt w (.slice A n c) l := by
  obtain ⟨A', c', h1, h2, _, _, h5⟩ := h
  injection h1 with h1 _
  refine ⟨A', c', h1, h2, fun x hx => ?_, fun hne => ?_⟩
  · obtain ⟨b, o, _, _, h8⟩ := h5 (by intro e; subst e; cases hx)
    obtain ⟨k, hk⟩ := List.getElem?_of_mem hx
    obtain ⟨ds, _, _, h10⟩ := h8 k x hk
    exact (put_cells h10).2
  · obtain ⟨b, o, h6, h7, h8⟩ := h5 hne
    refine ⟨b, o, h6, h7, fun k x hx => ?_⟩
    obtain ⟨ds, _, h9, h10⟩ := h8 k x hx
    rw [(put_cells h10).1] at h9
    exact h9
theorem open_puts {H : Type} {enc : TypeId × Value → H} {W : World} {r : Reach} {base : Nat} {v : Value} {d : DataW H} {ps : List MemPlace} (hval : Value.okWide Try.prog W r base 29 v)
    (h : DataW.Trod enc Try.prog W 0 (fun _ => true) true 29 v d ps) (hlt : ∀ x ∈ ps, x.block < W.heap.size) :
    ∃ A c l, v = .slice A l.length c ∧ PutsAt W (.slice A l.length c) l := by
  obtain ⟨A, c, l, e, hx⟩ := open_argSl Try.underlying29 opens_puts hval h hlt
  exact ⟨A, c, l, e, puts_at hx⟩
end Go.Proofs.Ytmghacgifokbhaa
