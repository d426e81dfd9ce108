/- Arguments of label's statements opened: labels, words, puts. -/
import Derived.Test.YtnmnokipbbibiaaLabelWakes
import Derived.Test.YtnmnokipbbibiaaRead
namespace Go.Proofs.Ytnmnokipbbibiaa
open Go Go.ChangeShapes Go.WideShapes Go.ChangeAt Go.RowKit
def rdU32 : Rd (BitVec 32) := fun _ cs x => cs = [.int .u32 (wd x)]
def rdU16 : Rd (BitVec 16) := fun _ cs x => cs = [.int .u16 (hd x)]
def rdWords (n : Nat) : Rd (List (BitVec 32)) := fun _ cs b => cs = b.map (fun x => Value.int .u32 (wd x)) ∧ b.length = n
theorem bounds_u32L {n : Int} (h : (Lit.int .u32 n).wf = true) : 0 ≤ n ∧ n < 4294967296 := by
  simp only [Lit.wf, Bool.and_eq_true, decide_eq_true_eq] at h
  have h1 : IntKind.u32.min = 0 := by decide
  have h2 : IntKind.u32.max = 4294967295 := by decide
  omega
theorem bounds_u16L {n : Int} (h : (Lit.int .u16 n).wf = true) : 0 ≤ n ∧ n < 65536 := by
  simp only [Lit.wf, Bool.and_eq_true, decide_eq_true_eq] at h
  have h1 : IntKind.u16.min = 0 := by decide
  have h2 : IntKind.u16.max = 65535 := by decide
  omega
theorem bounds_i64L {n : Int} (h : (Lit.int .i64 n).wf = true) : -9223372036854775808 ≤ n ∧ n < 9223372036854775808 := by
  simp only [Lit.wf, Bool.and_eq_true, decide_eq_true_eq] at h
  have h1 : IntKind.i64.min = -9223372036854775808 := by decide
  have h2 : IntKind.i64.max = 9223372036854775807 := by decide
  omega
theorem opens_u32 {P : Program} {t : TypeId} (ht : P.underlying t = some (.int .u32)) : Opens P t rdU32 := fun _ _ _ _ _ h _ => by
  obtain ⟨n, h1, _, h2⟩ := DataW.trod_int ht h
  have hb := bounds_u32L h2
  exact ⟨BitVec.ofInt 32 n, by unfold rdU32; rw [h1, ← wd_of n hb.1 hb.2]⟩
theorem opens_u16 {P : Program} {t : TypeId} (ht : P.underlying t = some (.int .u16)) : Opens P t rdU16 := fun _ _ _ _ _ h _ => by
  obtain ⟨n, h1, _, h2⟩ := DataW.trod_int ht h
  have hb := bounds_u16L h2
  exact ⟨BitVec.ofInt 16 n, by unfold rdU16; rw [h1, ← hd_of n hb.1 hb.2]⟩
theorem opens_words {P : Program} {t e : TypeId} {n : Nat} (ht : P.underlying t = some (.array n e)) (he : P.underlying e = some (.int .u32)) (hce : P.cellsOf e = 1) (hct : P.cellsOf t = n) : Opens P t (rdWords n) := fun enc W fuel cs x h _ => by
  obtain ⟨xs, m, _, _, hl, hx, hi⟩ := DataW.trod_array ht h
  have hs : cs.length = n := by rw [hl, hct]
  have hint : ∀ i, i < n → ∃ z, cs[i]? = some (.int .u32 z) ∧ (Lit.int .u32 z).wf = true := fun i hin => by
    have h1 := hi i hin
    rw [List.getElem?_eq_getElem (by omega)] at h1
    obtain ⟨z, hz, _, hw⟩ := DataW.trod_int he h1
    refine ⟨z, ?_, hw⟩
    simp only [hce, Nat.mul_one] at hz
    rw [List.take_one, List.head?_drop] at hz
    cases hc : cs[i]? with
    | none => rw [hc] at hz; cases hz
    | some v => rw [hc] at hz; simpa using hz
  refine ⟨cs.map fun v => BitVec.ofInt 32 (intIn v), ?_, by simp [hs]⟩
  apply List.ext_getElem?
  intro i
  by_cases hin : i < n
  · obtain ⟨z, hz, hw⟩ := hint i hin
    have hb := bounds_u32L hw
    simp [hz, intIn, ← wd_of z hb.1 hb.2]
  · rw [List.getElem?_eq_none (by omega), List.getElem?_eq_none (by simp; omega)]
def rdLab : Rd Lab := rdMap (fun x => ⟨x.1, x.2.1, x.2.2.1, x.2.2.2.1, x.2.2.2.2.1⟩) (rdCons 1 rdU32 (rdCons 1 rdU32 (rdCons 1 rdU32 (rdCons 1 rdU16 (rdCons 1 rdU16 rdNil)))))
theorem cellsU32 : Try.prog.cellsOf 22 = 1 := by kernel_rfl
theorem cellsU16 : Try.prog.cellsOf 23 = 1 := by kernel_rfl
theorem opens_lab : Opens Try.prog 25 rdLab :=
  opens_map (opens_struct Try.underlying25 (by kernel_rfl) (opensF_cons rfl cellsU32 (opens_u32 Try.underlying22) (opensF_cons rfl cellsU32 (opens_u32 Try.underlying22) (opensF_cons rfl cellsU32 (opens_u32 Try.underlying22) (opensF_cons rfl cellsU16 (opens_u16 Try.underlying23) (opensF_cons rfl cellsU16 (opens_u16 Try.underlying23) opensF_nil))))))
theorem open_lab {H : Type} {enc : TypeId × Value → H} {W : World} {r : Reach} {base : Nat} {v : Value} {d : DataW H} {ps : List MemPlace} (hval : Value.okWide Try.prog W r base 25 v)
    (h : DataW.Trod enc Try.prog W 0 (fun _ => true) true 25 v d ps) (hlt : ∀ x ∈ ps, x.block < W.heap.size) : ∃ L, v = .agg (labCells L) := by
  obtain ⟨cs, L, rfl, hx⟩ := open_argRec Try.underlying25 opens_lab hval h hlt
  obtain ⟨⟨a, b, c, d, e, _⟩, hx, rfl⟩ := hx
  obtain ⟨c0, d0, rfl, _, h0, c1, d1, rfl, _, h1, c2, d2, rfl, _, h2, c3, d3, rfl, _, h3, c4, d4, rfl, _, h4, h5⟩ := hx
  have h0 : c0 = [.int .u32 (wd a)] := h0
  have h1 : c1 = [.int .u32 (wd b)] := h1
  have h2 : c2 = [.int .u32 (wd c)] := h2
  have h3 : c3 = [.int .u16 (hd d)] := h3
  have h4 : c4 = [.int .u16 (hd e)] := h4
  have h5 : d4 = [] := h5
  subst h0 h1 h2 h3 h4 h5
  exact ⟨⟨a, b, c, d, e⟩, rfl⟩
theorem open_words {P : Program} {t e : TypeId} {n : Nat} (ht : P.underlying t = some (.array n e)) (he : P.underlying e = some (.int .u32)) (hce : P.cellsOf e = 1) (hct : P.cellsOf t = n) {H : Type} {enc : TypeId × Value → H} {W : World} {r : Reach} {base : Nat} {v : Value} {d : DataW H} {ps : List MemPlace} (hval : Value.okWide P W r base t v) (hT : DataW.Trod enc P W 0 (fun _ => true) true t v d ps) (hlt : ∀ y ∈ ps, y.block < W.heap.size) : ∃ q : List (BitVec 32), q.length = n ∧ v = .agg (ws q) := by
  obtain ⟨cs, rfl⟩ := okWide_arr ht hval
  obtain ⟨q, h1, h2⟩ := open_arg (opens_words ht he hce hct) hT hlt
  exact ⟨q, h2, congrArg Value.agg (by apply Array.toList_inj.1; simpa [Value.cells, ws] using h1)⟩
/- puts -/
def rdPut : Rd (Int × List (BitVec 8)) := rdMap (fun x => (x.1, x.2.1)) (rdCons 1 (rdInt .i64) (rdCons 32 (rdRow 32) rdNil))
theorem cellsI64 : Try.prog.cellsOf 3 = 1 := by kernel_rfl
theorem cellsBlk : Try.prog.cellsOf 27 = 32 := by kernel_rfl
theorem cellsPut : Try.prog.cellsOf 50 = 33 := by kernel_rfl
theorem opens_put : Opens Try.prog 50 rdPut :=
  opens_map (opens_struct Try.underlying50 (by kernel_rfl) (opensF_cons rfl cellsI64 (opens_int Try.underlying3) (opensF_cons rfl cellsBlk (opens_row Try.underlying27 Try.underlying5 (by kernel_rfl) cellsBlk) opensF_nil)))
theorem opens_puts : Opens Try.prog 29 (rdSl 33 rdPut) := opens_sl Try.underlying29 cellsPut (by decide) opens_put
theorem put_cells {w : World} {ds : List Value} {x : Int × List (BitVec 8)} (h : rdPut w ds x) : ds = pcell x ∧ x.2.length = 32 ∧ -9223372036854775808 ≤ x.1 ∧ x.1 < 9223372036854775808 := by
  obtain ⟨⟨i, q, _⟩, h, rfl⟩ := h
  obtain ⟨c0, d0, rfl, _, ⟨rfl, hi⟩, c1, d1, rfl, _, ⟨rfl, hq⟩, h2⟩ := h
  have h2 : d1 = [] := h2
  subst h2
  exact ⟨by simp [pcell], hq, bounds_i64L hi⟩
theorem puts_at {w : World} {A : Option Addr} {n c : Nat} {l : List (Int × List (BitVec 8))} (h : rdSl 33 rdPut w [.slice A n c] l) : PutsAt w (.slice A n c) l := by
  obtain ⟨A', c', h1, h2, _, _, h5⟩ := h
  injection h1 with h1 _
  refine ⟨A', c', h1, h2, fun x hx => ?_, fun hne => ?_⟩
  · obtain ⟨b, o, _, _, h8⟩ := h5 (by intro e; subst e; cases hx)
    obtain ⟨k, hk⟩ := List.getElem?_of_mem hx
    obtain ⟨ds, _, _, h10⟩ := h8 k x hk
    exact (put_cells h10).2
  · obtain ⟨b, o, h6, h7, h8⟩ := h5 hne
    refine ⟨b, o, h6, h7, fun k x hx => ?_⟩
    obtain ⟨ds, _, h9, h10⟩ := h8 k x hx
    rw [(put_cells h10).1] at h9
    exact h9
theorem open_puts {H : Type} {enc : TypeId × Value → H} {W : World} {r : Reach} {base : Nat} {v : Value} {d : DataW H} {ps : List MemPlace} (hval : Value.okWide Try.prog W r base 29 v)
    (h : DataW.Trod enc Try.prog W 0 (fun _ => true) true 29 v d ps) (hlt : ∀ x ∈ ps, x.block < W.heap.size) :
    ∃ A c l, v = .slice A l.length c ∧ PutsAt W (.slice A l.length c) l := by
  obtain ⟨A, c, l, e, hx⟩ := open_argSl Try.underlying29 opens_puts hval h hlt
  exact ⟨A, c, l, e, puts_at hx⟩
end Go.Proofs.Ytnmnokipbbibiaa
