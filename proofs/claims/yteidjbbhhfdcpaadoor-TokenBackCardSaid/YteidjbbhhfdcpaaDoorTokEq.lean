/- Two tokens compared; what tokens' bytes come to. -/
import Derived.Test.YteidjbbhhfdcpaaDoorTokDec
import Derived.Laws.StructEq
set_option maxRecDepth 4000
namespace Go.Proofs.YteidjbbhhfdcpaaDoor
open Go Go.RowKit
theorem eql_clmD (a b : Clm) (w : World) : (Op.equalIn 9999 24 (.agg (clmCells a)) (.agg (clmCells b))).run Tryd.prog w = .ok (decide (a = b)) w := by
  have hS : Tryd.prog.underlying 24 = some (.struct (Tryd.prog.fieldsOf 24)) := by kernel_rfl
  obtain ⟨p, n, r, u, g⟩ := a
  obtain ⟨p', n', r', u', g'⟩ := b
  have e : decide ((⟨p, n, r, u, g⟩ : Clm) = ⟨p', n', r', u', g'⟩) = (p == p' && (((strB n).toList == (strB n').toList) && (r == r' && (wd u == wd u' && wd g == wd g')))) := by
    rw [str_beq]
    by_cases h : (⟨p, n, r, u, g⟩ : Clm) = ⟨p', n', r', u', g'⟩
    · rw [decide_eq_true h]
      injection h with h1 h2 h3 h4 h5
      subst h1 h2 h3 h4 h5
      simp
    · rw [decide_eq_false h]
      symm
      cases hx : (p == p' && (decide (n = n') && (r == r' && (wd u == wd u' && wd g == wd g')))) with
      | false => rfl
      | true =>
        simp only [Bool.and_eq_true, beq_iff_eq, decide_eq_true_eq] at hx
        obtain ⟨h1, h2, h3, h4, h5⟩ := hx
        exact absurd (by rw [h1, h2, h3, wd_inj h4, wd_inj h5]) h
  rw [e, show (9999 : Nat) = 9998 + 1 from rfl, run_equalIn_agg w 9998 24 _ _ hS (by kernel_rfl)]
  unfold clmCells
  have u1 := Tryd.underlying22
  have u2 := Tryd.underlying3
  have u3 := Tryd.underlying9
  simp only [Program.fieldsOf, Tryd.underlying24]
  generalize wd u = a1
  generalize wd g = a2
  generalize wd u' = b1
  generalize wd g' = b2
  generalize strB n = s
  generalize strB n' = s'
  go_simp
  by_cases h1 : p = p' <;> by_cases h2 : s.toList = s'.toList <;> by_cases h3 : r = r' <;> by_cases h4 : a1 = b1 <;> by_cases h5 : a2 = b2 <;> simp [h1, h2, h3, h4, h5]
theorem take_tok (c : Clm) (t : List (BitVec 8)) : (tokCells c t).extract 0 5 = clmCells c := by
  unfold tokCells
  rw [Array.extract_append]
  simp [clmCells]
theorem drop_tok (c : Clm) (t : List (BitVec 8)) (h : t.length = 32) : (tokCells c t).extract 5 37 = bs t := by
  unfold tokCells
  rw [Array.extract_append]
  have h5 : (clmCells c).size = 5 := rfl
  rw [h5, Array.extract_empty_of_size_le_start (by rw [h5]; exact Nat.le_refl 5), Array.empty_append, show 5 - 5 = 0 from rfl, show 37 - 5 = (bs t).size by rw [size_bs, h], Array.extract_size]
theorem eql_tok (a b : Clm) (p q : List (BitVec 8)) (hp : p.length = 32) (hq : q.length = 32) (w : World) : (Op.equalIn 10000 28 (.agg (tokCells a p)) (.agg (tokCells b q))).run Tryd.prog w = .ok (decide (a = b ∧ p = q)) w := by
  have hS : Tryd.prog.underlying 28 = some (.struct (Tryd.prog.fieldsOf 28)) := by kernel_rfl
  have h3 : ∀ w, (Op.equalIn 9999 26 (.agg (bs p)) (.agg (bs q))).run Tryd.prog w = .ok (decide (p = q)) w := fun w => equal_bytesD 9997 26 32 p q hp hq Tryd.underlying26 w
  have e : decide (a = b ∧ p = q) = (a.p == b.p && (((strB a.n).toList == (strB b.n).toList) && (a.r == b.r && (wd a.u == wd b.u && (wd a.g == wd b.g && decide (p = q)))))) := by
    rw [str_beq]
    by_cases h : a = b
    · subst h; simp
    · rw [decide_eq_false (fun k => h k.1)]
      symm
      cases hx : (a.p == b.p && (decide (a.n = b.n) && (a.r == b.r && (wd a.u == wd b.u && (wd a.g == wd b.g && decide (p = q)))))) with
      | false => rfl
      | true =>
        simp only [Bool.and_eq_true, beq_iff_eq, decide_eq_true_eq] at hx
        obtain ⟨h1, h2, h3, h4, h5, _⟩ := hx
        obtain ⟨p, n, r, u, g⟩ := a
        obtain ⟨p', n', r', u', g'⟩ := b
        simp only at h1 h2 h3 h4 h5
        exact absurd (by rw [h1, h2, h3, wd_inj h4, wd_inj h5]) h
  rw [e, show (10000 : Nat) = 9999 + 1 from rfl, run_equalIn_agg w 9999 28 _ _ hS (by kernel_rfl)]
  simp only [Program.fieldsOf, Tryd.underlying28]
  go_simp
  rw [take_tok, take_tok, drop_tok a p hp, drop_tok b q hq]
  clear e hp hq
  have u1 := Tryd.underlying22
  have u2 := Tryd.underlying3
  have u3 := Tryd.underlying9
  unfold clmCells
  generalize decide (p = q) = D at *
  generalize bs p = P at *
  generalize bs q = Q at *
  generalize wd a.u = a1
  generalize wd a.g = a2
  generalize wd b.u = b1
  generalize wd b.g = b2
  generalize strB a.n = s
  generalize strB b.n = s'
  generalize a.p = k
  generalize b.p = k'
  generalize a.r = r
  generalize b.r = r'
  go_simp
  cases D <;> by_cases h1 : k = k' <;> by_cases h2 : s.toList = s'.toList <;> by_cases h3 : r = r' <;> by_cases h4 : a1 = b1 <;> by_cases h5 : a2 = b2 <;> simp [h1, h2, h3, h4, h5]
end Go.Proofs.YteidjbbhhfdcpaaDoor
