/- The steps of a disk's story, as they are handed in. -/
import Derived.Test.YteehpdeeaebliaaRead
namespace Go.Proofs.Yteehpdeeaebliaa
open Go Go.ChangeShapes Go.WideShapes Go.ChangeAt Go.RowKit
structure StepD where
  kind : Int
  i : Int
  v : BitVec 8
  keep : List (BitVec 8)
def rdStep : Rd StepD := rdMap (fun x => ⟨x.1, x.2.1, x.2.2.1, x.2.2.2.1⟩) (rdCons 1 (rdInt .i64) (rdCons 1 (rdInt .i64) (rdCons 1 rdU8 (rdCons 1 (rdSl 1 rdU8) rdNil))))
theorem cellsU8 : Try.prog.cellsOf 5 = 1 := by kernel_rfl
theorem cellsInt : Try.prog.cellsOf 3 = 1 := by kernel_rfl
theorem cellsBytes : Try.prog.cellsOf 32 = 1 := by kernel_rfl
theorem cellsStep : Try.prog.cellsOf 34 = 4 := by kernel_rfl
theorem opens_bytes : Opens Try.prog 32 (rdSl 1 rdU8) := opens_sl Try.underlying32 cellsU8 (by decide) (opens_u8 Try.underlying5)
theorem opens_int64 : Opens Try.prog 3 (rdInt .i64) := opens_int Try.underlying3
theorem opens_step : Opens Try.prog 34 rdStep :=
  opens_map (opens_struct Try.underlying34 (by kernel_rfl) (opensF_cons rfl cellsInt opens_int64 (opensF_cons rfl cellsInt opens_int64 (opensF_cons rfl cellsU8 (opens_u8 Try.underlying5) (opensF_cons rfl cellsBytes opens_bytes opensF_nil)))))
theorem opens_steps : Opens Try.prog 22 (rdSl 4 rdStep) := opens_sl Try.underlying22 cellsStep (by decide) opens_step
theorem stays_step : rdStep.Stays := stays_map (stays_cons' (stays_int _) (stays_cons' (stays_int _) (stays_cons' stays_u8 (stays_cons' (stays_sl stays_u8) stays_rnil))))
theorem stays_steps : (rdSl 4 rdStep).Stays := stays_sl stays_step
/- one step's cells -/
structure StepAt' (w : World) (b o : Nat) (x : StepD) : Prop where
  kind : w.cell? ⟨b, o, none⟩ = some (.int .i64 x.kind)
  i : w.cell? ⟨b, o + 1, none⟩ = some (.int .i64 x.i)
  v : w.cell? ⟨b, o + 2, none⟩ = some (.int .u8 (bd x.v))
  keep : ∃ u, w.cell? ⟨b, o + 3, none⟩ = some u ∧ Item w u x.keep
  wk : -9223372036854775808 ≤ x.kind ∧ x.kind < 9223372036854775808
  wi : -9223372036854775808 ≤ x.i ∧ x.i < 9223372036854775808
theorem bounds_i64' {n : Int} (h : (Lit.int .i64 n).wf = true) : -9223372036854775808 ≤ n ∧ n < 9223372036854775808 := by
  simp only [Lit.wf, Bool.and_eq_true, decide_eq_true_eq] at h
  have h1 : IntKind.i64.min = -9223372036854775808 := by decide
  have h2 : IntKind.i64.max = 9223372036854775807 := by decide
  omega
theorem step_cells {w : World} {ds : List Value} {x : StepD} {b o : Nat} (h : rdStep w ds x) (hr : w.rangeAt b o ds) : StepAt' w b o x := by
  obtain ⟨⟨k, i, v, kp, _⟩, h, rfl⟩ := h
  obtain ⟨c0, d0, rfl, _, ⟨rfl, hk⟩, c1, d1, rfl, _, ⟨rfl, hi⟩, c2, d2, rfl, _, h2, c3, d3, rfl, hl, h3, h4⟩ := h
  have h2 : c2 = [.int .u8 (bd v)] := h2
  have h4 : d3 = [] := h4
  subst h2 h4
  obtain ⟨u, rfl⟩ : ∃ u, c3 = [u] := List.length_eq_one_iff.1 hl
  exact ⟨hr 0 _ rfl, hr 1 _ rfl, hr 2 _ rfl, ⟨u, hr 3 _ rfl, rdSl_item h3⟩, bounds_i64' hk, bounds_i64' hi⟩
theorem steps_at {w : World} {A : Option Addr} {n c : Nat} {l : List StepD} (h : rdSl 4 rdStep w [.slice A n c] l) {k : Nat} {x : StepD} (hx : l[k]? = some x) : ∃ b o, A = some ⟨b, o, none⟩ ∧ b < w.heap.size ∧ StepAt' w b (o + k * 4) x := by
  obtain ⟨A', c', h1, _, _, _, h5⟩ := h
  injection h1 with h1 _
  injection h1 with h1 _ _
  subst h1
  obtain ⟨b, o, h6, h7, h8⟩ := h5 (by intro e; subst e; simp at hx)
  obtain ⟨ds, _, h9, h10⟩ := h8 k x hx
  exact ⟨b, o, h6, h7, step_cells h10 h9⟩
end Go.Proofs.Yteehpdeeaebliaa
