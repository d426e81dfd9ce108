/- Arguments opened: a slice of bytes, a list of them, an array of integers. -/
import Derived.Test.YtppbgkdkioldbaaSl
import Derived.WalkKit
import Derived.ProofKit
import Derived.OpenShut
import Derived.Carry
import Derived.Deep.DeepHandedRow
import Derived.Deep.Slices
set_option maxRecDepth 4000
namespace Go.Proofs.Ytppbgkdkioldbaa
open Go Go.ChangeShapes Go.WideShapes Go.ChangeAt Go.RowKit
theorem ownK : ownKnob Try.prog.godebug = none := by kernel_rfl
theorem laidOutT : laidOutB Try.prog = true := by kernel_rfl
theorem cellsB : Try.prog.cellsOf 5 = 1 := by kernel_rfl
theorem open_bytes {H : Type} {enc : TypeId × Value → H} {W : World} {r : Reach} {base : Nat} {v : Value} {d : DataW H} {ps : List MemPlace} (hval : Value.okWide Try.prog W r base 56 v)
    (h : DataW.Trod enc Try.prog W 0 (fun _ => true) true 56 v d ps) (hlt : ∀ x ∈ ps, x.block < W.heap.size) :
    ∃ A c q, v = .slice A q.length c ∧ Slice W (.slice A q.length c) q ∧ (A = none → c = 0) ∧ q.length ≤ maxLen := by
  obtain ⟨a0, len, cap, rfl⟩ := okWide_slice Try.underlying56 hval
  obtain ⟨fuel, hf⟩ := h
  rcases open_ints Try.underlying56 Try.underlying5 cellsB hf with ⟨hcs, hx⟩ | ⟨a, len', cap', zs, hcs, _, hl, hm, hz, hx, hcell, hwz⟩
  · simp [Value.cells] at hcs
    obtain ⟨rfl, rfl, rfl⟩ := hcs
    exact ⟨none, 0, [], rfl, ⟨none, 0, rfl, by simp, fun h => absurd rfl h⟩, fun _ => rfl, by simp⟩
  · simp [Value.cells] at hcs
    obtain ⟨rfl, rfl, rfl⟩ := hcs
    simp only [Prod.mk.injEq] at hx
    obtain ⟨_, rfl⟩ := hx
    simp only [if_true] at hz
    have hq : ((zs.take len).map (BitVec.ofInt 8)).length = len := by rw [List.length_map, List.length_take]; omega
    refine ⟨some a, cap, (zs.take len).map (BitVec.ofInt 8), by rw [hq], ?_, fun h => (by cases h), by rw [hq]; omega⟩
    refine ⟨some a, cap, rfl, by rw [hq]; exact hl, fun hne => ?_⟩
    have hpos : 0 < len := by rw [← hq]; exact List.length_pos_iff.2 hne
    obtain ⟨b, off, spot⟩ := a
    have hspot : spot = none := by simpa [Addr.add] using World.cell?_spot (hcell 0 (by omega))
    subst hspot
    refine ⟨b, off, rfl, hlt (.cell b off) (MemPlace.mem_row.2 ⟨0, by omega, by simp⟩), fun j x hxj => ?_⟩
    have hj : j < len := by have := (List.getElem?_eq_some_iff.1 hxj).1; omega
    have hc := hcell j (by omega)
    rw [Addr.add_mid] at hc
    rw [hc]
    have hjz : j < zs.length := by omega
    have e : x = BitVec.ofInt 8 zs[j] := by
      simp only [List.getElem?_map, List.getElem?_take, if_pos hj, List.getElem?_eq_getElem hjz, Option.map_some, Option.some.injEq] at hxj
      exact hxj.symm
    have hb := bounds_u8 (hwz zs[j] (List.getElem_mem hjz))
    rw [e, ← bd_of zs[j] hb.1 (by omega)]
    simp [hjz]
theorem okWide_arr {P : Program} {w : World} {r : Reach} {base n : Nat} {t e : TypeId} {v : Value} (ht : P.underlying t = some (.array n e)) (h : Value.okWide P w r base t v) : ∃ cs, v = .agg cs := by
  simp only [Value.okWide, ht] at h
  cases v <;> simp_all
def intIn : Value → Int
  | .int _ z => z
  | _ => 0
theorem open_row {H : Type} {enc : TypeId × Value → H} {P : Program} {W : World} {t e : TypeId} {n : Nat} {k : IntKind} {cs : Array Value} {d : DataW H} {ps : List MemPlace} (ht : P.underlying t = some (.array n e)) (he : P.underlying e = some (.int k)) (hce : P.cellsOf e = 1) (hct : P.cellsOf t = n)
    (h : DataW.Trod enc P W 0 (fun _ => true) true t (.agg cs) d ps) : cs.size = n ∧ ∀ i, i < n → ∃ z, cs[i]? = some (.int k z) ∧ (Lit.int k z).wf = true := by
  obtain ⟨fuel, hf⟩ := h
  obtain ⟨xs, m, _, _, hl, hx, hi⟩ := DataW.trod_array ht hf
  have hs : cs.size = n := by simpa [Value.cells, hct] using hl
  refine ⟨hs, fun i hin => ?_⟩
  have h1 := hi i hin
  rw [List.getElem?_eq_getElem (by omega)] at h1
  obtain ⟨z, hz, _, hw⟩ := DataW.trod_int he h1
  refine ⟨z, ?_, hw⟩
  have hin' : i < cs.size := by omega
  simp only [hce, Nat.mul_one, Value.cells] at hz
  rw [List.take_one, List.head?_drop] at hz
  rw [Array.getElem?_eq_getElem hin']
  have e1 : cs.toList[i]? = some cs[i] := by simp [hin']
  rw [e1] at hz
  simpa using hz
theorem cellsSl : Try.prog.cellsOf 56 = 1 := by kernel_rfl
theorem open_item {H : Type} {enc : TypeId × Value → H} {W : World} {fuel : Nat} {u : Value} {x : DataW H × List MemPlace}
    (hf : DataW.trod enc Try.prog W 0 (fun _ => true) true fuel 56 [u] = some x) (hlt : ∀ y ∈ x.2, y.block < W.heap.size) : ∃ q, Item W u q := by
  rcases open_ints Try.underlying56 Try.underlying5 cellsB hf with ⟨hcs, hx⟩ | ⟨a, len, cap, zs, hcs, _, hl, hm, hz, hx, hcell, hwz⟩
  · simp at hcs
    subst hcs
    exact ⟨[], none, 0, rfl, ⟨none, 0, rfl, by simp, fun h => absurd rfl h⟩, fun _ => rfl, by simp⟩
  · simp at hcs
    subst hcs hx
    simp only [if_true] at hz
    have hq : ((zs.take len).map (BitVec.ofInt 8)).length = len := by rw [List.length_map, List.length_take]; omega
    refine ⟨(zs.take len).map (BitVec.ofInt 8), some a, cap, by rw [hq], ?_, fun h => (by cases h), by rw [hq]; omega⟩
    refine ⟨some a, cap, rfl, by rw [hq]; exact hl, fun hne => ?_⟩
    have hpos : 0 < len := by rw [← hq]; exact List.length_pos_iff.2 hne
    obtain ⟨b, off, spot⟩ := a
    have hspot : spot = none := by simpa [Addr.add] using World.cell?_spot (hcell 0 (by omega))
    subst hspot
    refine ⟨b, off, rfl, hlt (.cell b off) (MemPlace.mem_row.2 ⟨0, by omega, by simp⟩), fun j x hxj => ?_⟩
    have hj : j < len := by have := (List.getElem?_eq_some_iff.1 hxj).1; omega
    have hc := hcell j (by omega)
    rw [Addr.add_mid] at hc
    rw [hc]
    have hjz : j < zs.length := by omega
    have e : x = BitVec.ofInt 8 zs[j] := by
      simp only [List.getElem?_map, List.getElem?_take, if_pos hj, List.getElem?_eq_getElem hjz, Option.map_some, Option.some.injEq] at hxj
      exact hxj.symm
    have hb := bounds_u8 (hwz zs[j] (List.getElem_mem hjz))
    rw [e, ← bd_of zs[j] hb.1 (by omega)]
    simp [hjz]
theorem open_parts {H : Type} {enc : TypeId × Value → H} {W : World} {r : Reach} {base : Nat} {v : Value} {d : DataW H} {ps : List MemPlace} (hval : Value.okWide Try.prog W r base 86 v)
    (h : DataW.Trod enc Try.prog W 0 (fun _ => true) true 86 v d ps) (hlt : ∀ x ∈ ps, x.block < W.heap.size) :
    ∃ qs, Hand W v qs ∧ qs.length ≤ maxLen ∧ ∀ n c, v = .slice none n c → c = 0 := by
  obtain ⟨a0, len, cap, rfl⟩ := okWide_slice Try.underlying86 hval
  obtain ⟨fuel, hf⟩ := h
  rcases Deep.open_slice1 Try.underlying86 cellsSl hf with ⟨hcs, hx⟩ | ⟨a, len', cap', m, n, V, D, Pl, hcs, _, hl, hm, hmm, hx, hcell⟩
  · simp [Value.cells] at hcs
    obtain ⟨rfl, rfl, rfl⟩ := hcs
    exact ⟨[], ⟨none, 0, rfl, fun h => absurd rfl h⟩, by simp, fun n c e => by injection e with _ _ e; exact e.symm⟩
  · simp [Value.cells] at hcs
    obtain ⟨rfl, rfl, rfl⟩ := hcs
    simp only [Prod.mk.injEq] at hx
    obtain ⟨_, rfl⟩ := hx
    simp only [if_true] at hmm
    subst hmm
    obtain ⟨Q, hQ⟩ := Deep.choose_lt (α := List (BitVec 8)) (n := len) (p := fun i q => Item W (V i) q) (fun i hi => open_item (hcell i (by omega)).2 (fun y hy => hlt y (List.mem_append_right _ (List.mem_flatMap.2 ⟨i, List.mem_range.2 (by omega), hy⟩))))
    have hql : ((List.range len).map Q).length = len := by simp
    refine ⟨(List.range len).map Q, ⟨some a, _, by rw [hql], fun hne => ?_⟩, by rw [hql]; omega, fun n c e => by injection e with e _ _; cases e⟩
    have hpos : 0 < len := by rw [← hql]; exact List.length_pos_iff.2 hne
    obtain ⟨b, off, spot⟩ := a
    have hspot : spot = none := by simpa [Addr.add] using World.cell?_spot (hcell 0 (by omega)).1
    subst hspot
    refine ⟨b, off, rfl, hlt (.cell b off) (List.mem_append_left _ (MemPlace.mem_row.2 ⟨0, by omega, by simp⟩)), fun k q hq => ?_⟩
    have hk : k < len := by have := (List.getElem?_eq_some_iff.1 hq).1; omega
    have hc := (hcell k (by omega)).1
    rw [Addr.add_mid] at hc
    refine ⟨V k, hc, ?_⟩
    obtain rfl : Q k = q := by simpa [hk] using hq
    exact hQ k hk
end Go.Proofs.Ytppbgkdkioldbaa
