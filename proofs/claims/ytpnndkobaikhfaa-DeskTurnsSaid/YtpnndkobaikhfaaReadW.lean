/- Arguments of words (uint32, uint16, arrays of them) opened. No function of the program is named here. -/
import Derived.Test.YtpnndkobaikhfaaRead
import Derived.Test.YtpnndkobaikhfaaHalf
set_option maxRecDepth 4000
namespace Go.Proofs.Ytpnndkobaikhfaa
open Go Go.ChangeShapes Go.WideShapes Go.ChangeAt Go.RowKit
def rdU32 : Rd (BitVec 32) := fun _ cs x => cs = [.int .u32 (wd x)]
def rdU16 : Rd (BitVec 16) := fun _ cs x => cs = [.int .u16 (hd x)]
def rdWords (n : Nat) : Rd (List (BitVec 32)) := fun _ cs b => cs = b.map (fun x => Value.int .u32 (wd x)) ∧ b.length = n
theorem bounds_u32L {n : Int} (h : (Lit.int .u32 n).wf = true) : 0 ≤ n ∧ n < 4294967296 := by
  simp only [Lit.wf, Bool.and_eq_true, decide_eq_true_eq] at h
  have h1 : IntKind.u32.min = 0 := by decide
  have h2 : IntKind.u32.max = 4294967295 := by decide
  omega
theorem bounds_u16L {n : Int} (h : (Lit.int .u16 n).wf = true) : 0 ≤ n ∧ n < 65536 := by
  simp only [Lit.wf, Bool.and_eq_true, decide_eq_true_eq] at h
  have h1 : IntKind.u16.min = 0 := by decide
  have h2 : IntKind.u16.max = 65535 := by decide
  omega
theorem opens_u32 {P : Program} {t : TypeId} (ht : P.underlying t = some (.int .u32)) : Opens P t rdU32 := fun _ _ _ _ _ h _ => by
  obtain ⟨n, h1, _, h2⟩ := DataW.trod_int ht h
  have hb := bounds_u32L h2
  exact ⟨BitVec.ofInt 32 n, by unfold rdU32; rw [h1, ← wd_of n hb.1 hb.2]⟩
theorem opens_u16 {P : Program} {t : TypeId} (ht : P.underlying t = some (.int .u16)) : Opens P t rdU16 := fun _ _ _ _ _ h _ => by
  obtain ⟨n, h1, _, h2⟩ := DataW.trod_int ht h
  have hb := bounds_u16L h2
  exact ⟨BitVec.ofInt 16 n, by unfold rdU16; rw [h1, ← hd_of n hb.1 hb.2]⟩
theorem opens_words {P : Program} {t e : TypeId} {n : Nat} (ht : P.underlying t = some (.array n e)) (he : P.underlying e = some (.int .u32)) (hce : P.cellsOf e = 1) (hct : P.cellsOf t = n) : Opens P t (rdWords n) := fun enc W fuel cs x h _ => by
  obtain ⟨xs, m, _, _, hl, hx, hi⟩ := DataW.trod_array ht h
  have hs : cs.length = n := by rw [hl, hct]
  have hint : ∀ i, i < n → ∃ z, cs[i]? = some (.int .u32 z) ∧ (Lit.int .u32 z).wf = true := fun i hin => by
    have h1 := hi i hin
    rw [List.getElem?_eq_getElem (by omega)] at h1
    obtain ⟨z, hz, _, hw⟩ := DataW.trod_int he h1
    refine ⟨z, ?_, hw⟩
    simp only [hce, Nat.mul_one] at hz
    rw [List.take_one, List.head?_drop] at hz
    cases hc : cs[i]? with
    | none => rw [hc] at hz; cases hz
    | some v => rw [hc] at hz; simpa using hz
  refine ⟨cs.map fun v => BitVec.ofInt 32 (intIn v), ?_, by simp [hs]⟩
  apply List.ext_getElem?
  intro i
  by_cases hin : i < n
  · obtain ⟨z, hz, hw⟩ := hint i hin
    have hb := bounds_u32L hw
    simp [hz, intIn, ← wd_of z hb.1 hb.2]
  · rw [List.getElem?_eq_none (by omega), List.getElem?_eq_none (by simp; omega)]
theorem open_words {P : Program} {t e : TypeId} {n : Nat} (ht : P.underlying t = some (.array n e)) (he : P.underlying e = some (.int .u32)) (hce : P.cellsOf e = 1) (hct : P.cellsOf t = n) {H : Type} {enc : TypeId × Value → H} {W : World} {r : Reach} {base : Nat} {v : Value} {d : DataW H} {ps : List MemPlace} (hval : Value.okWide P W r base t v) (hT : DataW.Trod enc P W 0 (fun _ => true) true t v d ps) (hlt : ∀ y ∈ ps, y.block < W.heap.size) : ∃ q : List (BitVec 32), q.length = n ∧ v = .agg (ws q) := by
  obtain ⟨cs, rfl⟩ := okWide_arr ht hval
  obtain ⟨q, h1, h2⟩ := open_arg (opens_words ht he hce hct) hT hlt
  exact ⟨q, h2, congrArg Value.agg (by apply Array.toList_inj.1; simpa [Value.cells, ws] using h1)⟩
end Go.Proofs.Ytpnndkobaikhfaa
