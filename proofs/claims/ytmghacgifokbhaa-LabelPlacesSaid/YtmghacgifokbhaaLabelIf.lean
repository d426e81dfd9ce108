/- Two labels compared; what the statements of label need to know of the program's label. -/
import Derived.Test.YtmghacgifokbhaaLabelRefD
import Derived.Test.YtmghacgifokbhaaLabelBits
import Derived.Laws.StructEq
set_option maxRecDepth 4000
namespace Go.Proofs.Ytmghacgifokbhaa
open Go Go.RowKit
theorem labCells_inj {L M : Lab} (h1 : wd L.e = wd M.e) (h2 : wd L.s = wd M.s) (h3 : wd L.n = wd M.n) (h4 : hd L.d = hd M.d) (h5 : hd L.l = hd M.l) : L = M := by
  cases L; cases M
  simp only at h1 h2 h3 h4 h5
  rw [wd_inj h1, wd_inj h2, wd_inj h3, hd_inj h4, hd_inj h5]
theorem eql_lab (L M : Lab) (w : World) : (Op.equalIn 10000 25 (.agg (labCells L)) (.agg (labCells M))).run Try.prog w = .ok (decide (L = M)) w := by
  have hS : Try.prog.underlying 25 = some (.struct (Try.prog.fieldsOf 25)) := by kernel_rfl
  have e : decide (L = M) = (wd L.e == wd M.e && (wd L.s == wd M.s && (wd L.n == wd M.n && (hd L.d == hd M.d && hd L.l == hd M.l)))) := by
    by_cases h : L = M
    · subst h; simp
    · rw [decide_eq_false h]
      symm
      cases hx : (wd L.e == wd M.e && (wd L.s == wd M.s && (wd L.n == wd M.n && (hd L.d == hd M.d && hd L.l == hd M.l)))) with
      | false => rfl
      | true =>
        simp only [Bool.and_eq_true, beq_iff_eq] at hx
        exact absurd (labCells_inj hx.1 hx.2.1 hx.2.2.1 hx.2.2.2.1 hx.2.2.2.2) h
  rw [e, show (10000 : Nat) = 9999 + 1 from rfl, run_equalIn_agg w 9999 25 _ _ hS (by kernel_rfl)]
  unfold labCells
  have u1 := Try.underlying22
  have u2 := Try.underlying23
  simp only [Program.fieldsOf, Try.underlying25]
  generalize wd L.e = a1
  generalize wd L.s = a2
  generalize wd L.n = a3
  generalize hd L.d = a4
  generalize hd L.l = a5
  generalize wd M.e = b1
  generalize wd M.s = b2
  generalize wd M.n = b3
  generalize hd M.d = b4
  generalize hd M.l = b5
  go_simp
  by_cases h1 : a1 = b1 <;> by_cases h2 : a2 = b2 <;> by_cases h3 : a3 = b3 <;> by_cases h4 : a4 = b4 <;> by_cases h5 : a5 = b5 <;> simp [h1, h2, h3, h4, h5]
structure LabelOps : Prop where
  enc : ∀ (L : Lab) (w : World), Calls Try.prog 11 #[.agg (labCells L)] w fun e w' => e = .returned (.agg (bs (labB L))) ∧ Below w.heap.size w w'
  dec : ∀ (b : List (BitVec 8)) (w : World), b.length = 32 → Calls Try.prog 9 #[.agg (bs b)] w fun e w' => e = .returned (.tuple #[.agg (labCells (decLab b)), .int .i64 (decLabE b)]) ∧ Below w.heap.size w w'
  later : ∀ (e s t n : BitVec 32) (w : World), Calls Try.prog 13 #[.int .u32 (wd e), .int .u32 (wd s), .int .u32 (wd t), .int .u32 (wd n)] w fun r w' => r = .returned (.bool (laterB e s t n)) ∧ Below w.heap.size w w'
  bits : ∀ (l : List (Int × List (BitVec 8))) (v : Value) (w : World), PutsAt w v l → l.length ≤ 1000000 → Calls Try.prog 15 #[v] w fun e w' => e = .returned (.int .u16 (hd (bitsOf (l.map (·.1))))) ∧ Below w.heap.size w w'
end Go.Proofs.Ytmghacgifokbhaa
