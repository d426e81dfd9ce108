/- Replies as they lie in memory: a slice of replies, opened, taken apart, laid. No function of the program is named here. -/
import Derived.Test.YtamofhjnpahamaaRepSpec
import Derived.Test.YtamofhjnpahamaaRead
import Derived.Test.YtamofhjnpahamaaOpenN
import Derived.Test.YtamofhjnpahamaaPhs
set_option maxRecDepth 4000
namespace Go.Proofs.Ytamofhjnpahamaa
open Go Go.ChangeShapes Go.WideShapes Go.ChangeAt Go.RowKit
abbrev Rp := Int × Int × List (BitVec 8)
def rdRep : Rd Rp := rdMap (fun x => (x.1, x.2.1, x.2.2.1)) (rdCons 1 (rdInt .i64) (rdCons 1 (rdInt .i64) (rdCons 1 (rdSl 1 rdU8) rdNil)))
def RepsAt (w : World) (v : Value) (l : List Rp) : Prop := rdSl 3 rdRep w [v] l
theorem stays_rep : rdRep.Stays := stays_map (stays_cons' (stays_int _) (stays_cons' (stays_int _) (stays_cons' (stays_sl stays_u8) stays_rnil)))
theorem RepsAt.below {w w' : World} {v : Value} {l : List Rp} {B : Nat} (h : RepsAt w v l) (hb : Below B w w') (hB : w.heap.size ≤ B) : RepsAt w' v l := stays_sl stays_rep B w w' _ _ h hb hB
theorem item_rdSl {w : World} {u : Value} {q : List (BitVec 8)} (h : Item w u q) : rdSl 1 rdU8 w [u] q := by
  obtain ⟨A, c, rfl, ⟨A', c', e, h2, h3⟩, h4, h5⟩ := h
  injection e with e1 _ e3
  subst e1 e3
  refine ⟨A, c, rfl, h2, h4, h5, fun hne => ?_⟩
  obtain ⟨b, o, h6, h7, h8⟩ := h3 hne
  refine ⟨b, o, h6, h7, fun k x hx => ⟨[.int .u8 (bd x)], rfl, fun j v hv => ?_, rfl⟩⟩
  cases j with
  | zero => cases hv; simpa using h8 k x hx
  | succ j => simp at hv
theorem int_wf {z : Int} (h0 : -9223372036854775808 ≤ z) (h1 : z < 9223372036854775808) : (Lit.int .i64 z).wf = true := by
  have h2 : IntKind.i64.min = -9223372036854775808 := by decide
  have h3 : IntKind.i64.max = 9223372036854775807 := by decide
  simp only [Lit.wf, Bool.and_eq_true, decide_eq_true_eq]
  omega
/- one reply's cells -/
def RepAt (w : World) (ds : List Value) (x : Rp) : Prop := ∃ A c, ds = [.int .i64 x.1, .int .i64 x.2.1, .slice A x.2.2.length c] ∧ Item w (.slice A x.2.2.length c) x.2.2 ∧ -9223372036854775808 ≤ x.1 ∧ x.1 < 9223372036854775808 ∧ -9223372036854775808 ≤ x.2.1 ∧ x.2.1 < 9223372036854775808
theorem rep_cells {w : World} {ds : List Value} {x : Rp} (h : rdRep w ds x) : RepAt w ds x := by
  obtain ⟨⟨i, e, d, _⟩, h, rfl⟩ := h
  obtain ⟨c0, d0, rfl, _, ⟨rfl, hi⟩, c1, d1, rfl, _, ⟨rfl, he⟩, c2, d2, rfl, _, h3, h4⟩ := h
  have h4 : d2 = [] := h4
  subst h4
  have hi := int_i64 hi
  have he := int_i64 he
  obtain ⟨A, c, rfl, _⟩ := id h3
  exact ⟨A, c, rfl, rdSl_item h3, hi.1, hi.2, he.1, he.2⟩
theorem rep_rd {w : World} {ds : List Value} {x : Rp} (h : RepAt w ds x) : rdRep w ds x := by
  obtain ⟨A, c, rfl, h1, h2, h3, h4, h5⟩ := h
  exact ⟨(x.1, x.2.1, x.2.2, ()), ⟨_, _, rfl, rfl, ⟨rfl, int_wf h2 h3⟩, _, _, rfl, rfl, ⟨rfl, int_wf h4 h5⟩, _, [], rfl, rfl, item_rdSl h1, rfl⟩, rfl⟩
theorem RepAt.below {w w' : World} {ds : List Value} {x : Rp} {B : Nat} (h : RepAt w ds x) (hb : Below B w w') (hB : w.heap.size ≤ B) : RepAt w' ds x := rep_cells (stays_rep B w w' _ _ (rep_rd h) hb hB)
theorem item_lit {w : World} {A : Option Addr} {n c : Nat} {q : List (BitVec 8)} (h : Slice w (.slice A n c) q) (hA : A = none → c = 0) (hn : n ≤ maxLen) : Item w (.slice A n c) q := by
  obtain ⟨A', c', e, h2, h3⟩ := id h
  injection e with e1 e2 e3
  subst e1 e2 e3
  exact ⟨_, _, rfl, h, hA, hn⟩
theorem rep_at {w : World} {i e : Int} {A : Option Addr} {n c : Nat} {q : List (BitVec 8)} (h : Slice w (.slice A n c) q) (hA : A = none → c = 0) (hn : n ≤ maxLen) (h1 : -9223372036854775808 ≤ i) (h2 : i < 9223372036854775808) (h3 : -9223372036854775808 ≤ e) (h4 : e < 9223372036854775808) : RepAt w [.int .i64 i, .int .i64 e, .slice A n c] (i, e, q) := by
  obtain ⟨A', c', e', _, _⟩ := id h
  injection e' with e1 e2 e3
  subst e1 e2 e3
  exact ⟨A, c, rfl, item_lit h hA hn, h1, h2, h3, h4⟩
/- one of several -/
theorem reps_get {w : World} {A : Option Addr} {n c : Nat} {l : List Rp} (h : RepsAt w (.slice A n c) l) {k : Nat} (hk : k < l.length) :
    ∃ b o i e B m c' d, l[k]? = some (i, e, d) ∧ A = some ⟨b, o, none⟩ ∧ b < w.heap.size ∧ w.rangeAt b (o + k * 3) [.int .i64 i, .int .i64 e, .slice B m c'] ∧ Slice w (.slice B m c') d ∧ d.length = m ∧ (B = none → c' = 0) ∧ m ≤ maxLen ∧ -9223372036854775808 ≤ i ∧ i < 9223372036854775808 ∧ -9223372036854775808 ≤ e ∧ e < 9223372036854775808 := by
  obtain ⟨A', c', e1, _, _, _, h5⟩ := h
  have e1 : Value.slice A n c = .slice A' l.length c' := by simpa using e1
  injection e1 with e1 _ _
  subst e1
  obtain ⟨b, o, h6, h7, h8⟩ := h5 (by rintro rfl; simp at hk)
  obtain ⟨x, hx⟩ : ∃ x, l[k]? = some x := ⟨_, List.getElem?_eq_getElem hk⟩
  obtain ⟨ds, _, h10, h11⟩ := h8 k x hx
  obtain ⟨B, c2, rfl, ⟨B2, c3, e3, hs, hA, hn⟩, a1, a2, a3, a4⟩ := rep_cells h11
  injection e3 with e3 _ e4
  subst e3 e4
  obtain ⟨i, e, d⟩ := x
  exact ⟨b, o, i, e, B, _, c2, d, hx, h6, h7, h10, hs, rfl, hA, hn, a1, a2, a3, a4⟩
theorem reps_len {w : World} {A : Option Addr} {n c : Nat} {l : List Rp} (h : RepsAt w (.slice A n c) l) : l.length = n := by
  obtain ⟨A', c', e1, _⟩ := h
  have e1 : Value.slice A n c = .slice A' l.length c' := by simpa using e1
  injection e1 with _ e1 _
  exact e1.symm
theorem reps_data {w : World} {A : Option Addr} {n c : Nat} {l : List Rp} (h : RepsAt w (.slice A n c) l) : ∀ x ∈ l, x.2.2.length ≤ maxLen := fun x hx => by
  obtain ⟨k, hk, e⟩ := List.getElem_of_mem hx
  obtain ⟨b, o, i, e', B, m, c', d, h1, _, _, _, _, h2, _, h3, _⟩ := reps_get h hk
  rw [List.getElem?_eq_getElem hk, e] at h1
  cases h1
  rw [h2]; exact h3
/- a block of replies of one's own -/
theorem reps_row {w : World} {g c : Nat} {t : TypeId} {cs : Array Value} {l : List Rp} (h : Row w g t cs) (hc : l.length ≤ c) (hm : l.length ≤ maxLen) (hl : ∀ k x, l[k]? = some x → RepAt w ((cs.toList.drop (k * 3)).take 3) x) : RepsAt w (.slice (some ⟨g, 0, none⟩) l.length c) l :=
  ⟨_, c, rfl, hc, fun h => (by cases h), hm, fun _ => ⟨g, 0, rfl, h.lt, fun k x hx => ⟨(cs.toList.drop (k * 3)).take 3, by
    obtain ⟨A, c, e, _⟩ := hl k x hx
    rw [e]; rfl, fun j v hv => by
    rw [Nat.zero_add]
    refine h.get ?_
    obtain ⟨hj, _⟩ := List.getElem?_eq_some_iff.1 hv
    rw [← Array.getElem?_toList]
    rw [List.length_take] at hj
    rw [List.getElem?_take_of_lt (by omega), List.getElem?_drop] at hv
    exact hv, rep_rd (hl k x hx)⟩⟩⟩
theorem reps_none (w : World) : RepsAt w (.slice none 0 0) [] := ⟨none, 0, rfl, Nat.le_refl _, fun _ => rfl, by decide, fun h => absurd rfl h⟩
/- a part of it -/
theorem reps_part {w : World} {b o n c : Nat} {l : List Rp} (h : RepsAt w (.slice (some ⟨b, o, none⟩) n c) l) (i j c' : Nat) (hij : i ≤ j) (hj : j ≤ n) (hc : j - i ≤ c') : RepsAt w (.slice (some ⟨b, o + i * 3, none⟩) (j - i) c') ((l.take j).drop i) := by
  have hln := reps_len h
  have hlen : ((l.take j).drop i).length = j - i := by rw [List.length_drop, List.length_take]; omega
  obtain ⟨A', c2, e1, h2, h3, h4, h5⟩ := h
  have e1 : Value.slice (some ⟨b, o, none⟩) n c = .slice A' l.length c2 := by simpa using e1
  injection e1 with e1 _ _
  subst e1
  refine ⟨_, c', by rw [hlen], by rw [hlen]; exact hc, fun h => (by cases h), by rw [hlen]; omega, fun hne => ?_⟩
  obtain ⟨b2, o2, h6, h7, h8⟩ := h5 (by rintro rfl; simp at hne)
  injection h6 with h6
  injection h6 with h6 h6'
  subst h6 h6'
  refine ⟨b, o + i * 3, rfl, h7, fun k x hx => ?_⟩
  have hk : k < j - i := by have := (List.getElem?_eq_some_iff.1 hx).1; omega
  rw [List.getElem?_drop, List.getElem?_take_of_lt (by omega)] at hx
  obtain ⟨ds, h9, h10, h11⟩ := h8 (i + k) x hx
  exact ⟨ds, h9, by rw [show o + i * 3 + k * 3 = o + (i + k) * 3 by omega]; exact h10, h11⟩
/- an argument that is a slice of replies; one that is a reply -/
theorem cellsI64r : Try.prog.cellsOf 3 = 1 := by kernel_rfl
theorem cellsErr : Try.prog.cellsOf 27 = 1 := by kernel_rfl
theorem cellsU8r : Try.prog.cellsOf 5 = 1 := by kernel_rfl
theorem cellsBytes : Try.prog.cellsOf 23 = 1 := by kernel_rfl
theorem cellsRep : Try.prog.cellsOf 31 = 3 := by kernel_rfl
theorem opens_rep : Opens Try.prog 31 rdRep :=
  opens_map (opens_struct Try.underlying31 (by kernel_rfl) (opensF_cons rfl cellsI64r (opens_int Try.underlying3) (opensF_cons rfl cellsErr (opens_int Try.underlying27) (opensF_cons rfl cellsBytes (opens_sl Try.underlying23 cellsU8r (by decide) (opens_u8 Try.underlying5)) opensF_nil))))
theorem opens_reps : Opens Try.prog 22 (rdSl 3 rdRep) := opens_sl Try.underlying22 cellsRep (by decide) opens_rep
theorem open_rep {H : Type} {enc : TypeId × Value → H} {W : World} {r : Reach} {base : Nat} {v : Value} {d : DataW H} {ps : List MemPlace} (hval : Value.okWide Try.prog W r base 31 v)
    (h : DataW.Trod enc Try.prog W 0 (fun _ => true) true 31 v d ps) (hlt : ∀ x ∈ ps, x.block < W.heap.size) :
    ∃ i e A n c q, v = .agg (repCells i e (.slice A n c)) ∧ Slice W (.slice A n c) q ∧ q.length = n ∧ (A = none → c = 0) ∧ n ≤ maxLen ∧ -9223372036854775808 ≤ i ∧ i < 9223372036854775808 ∧ -9223372036854775808 ≤ e ∧ e < 9223372036854775808 := by
  obtain ⟨cs, ⟨i, e, q⟩, rfl, hx⟩ := open_argRec Try.underlying31 opens_rep hval h hlt
  obtain ⟨A, c, rfl, ⟨A2, c2, e2, hs, hA, hn⟩, a1, a2, a3, a4⟩ := rep_cells hx
  injection e2 with e2 _ e3
  subst e2 e3
  exact ⟨i, e, A, _, c, q, rfl, hs, rfl, hA, hn, a1, a2, a3, a4⟩
theorem open_reps {H : Type} {enc : TypeId × Value → H} {W : World} {r : Reach} {base : Nat} {v : Value} {d : DataW H} {ps : List MemPlace} (hval : Value.okWide Try.prog W r base 22 v)
    (h : DataW.Trod enc Try.prog W 0 (fun _ => true) true 22 v d ps) (hlt : ∀ x ∈ ps, x.block < W.heap.size) :
    ∃ A n c l, v = .slice A n c ∧ RepsAt W (.slice A n c) l ∧ n ≤ maxLen := by
  obtain ⟨A, c, l, e, hx⟩ := open_argSl Try.underlying22 opens_reps hval h hlt
  obtain ⟨_, _, _, _, _, h4, _⟩ := id hx
  exact ⟨A, _, c, l, e, hx, h4⟩
end Go.Proofs.Ytamofhjnpahamaa
