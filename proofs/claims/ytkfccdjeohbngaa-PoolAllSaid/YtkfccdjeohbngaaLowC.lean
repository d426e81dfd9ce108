/- Numbers that slices begin with, as the program's lowfirst reads them. -/
import Derived.Test.YtkfccdjeohbngaaLow
import Derived.Deep.AppendLies
set_option maxRecDepth 4000
namespace Go.Proofs.Ytkfccdjeohbngaa
open Go Go.RowKit
/- block g holds q from offset a on -/
structure BAt (w : World) (g o : Nat) (q : List (BitVec 8)) : Prop where
  lt : g < w.heap.size
  at_ : ∀ (j : Nat) (x : BitVec 8), q[j]? = some x → w.cell? ⟨g, o + j, none⟩ = some (.int .u8 (bd x))
theorem BAt.below {w w' : World} {g o B : Nat} {q : List (BitVec 8)} (h : BAt w g o q) (hb : Below B w w') (hg : g < B) : BAt w' g o q := ⟨Nat.lt_of_lt_of_le h.lt hb.size, fun j x hx => (hb.cell (p := ⟨g, o + j, none⟩) hg).trans (h.at_ j x hx)⟩
theorem BAt.call {w w' : World} {g o : Nat} {q : List (BitVec 8)} (h : BAt w g o q) (hb : Below w.heap.size w w') : BAt w' g o q := h.below hb h.lt
theorem BAt.get {w : World} {g o : Nat} {q : List (BitVec 8)} (h : BAt w g o q) (j : Nat) (hj : j < q.length) : w.cell? ⟨g, o + j, none⟩ = some (.int .u8 (bd (q.getD j 0#8))) :=
  h.at_ j _ (by rw [List.getD_eq_getElem?_getD, List.getElem?_eq_getElem hj]; rfl)
theorem BAt.drop {w : World} {g o : Nat} {q : List (BitVec 8)} (h : BAt w g o q) (k : Nat) : BAt w g (o + k) (q.drop k) := ⟨h.lt, fun j x hx => by
  rw [List.getElem?_drop] at hx
  rw [Nat.add_assoc]
  exact h.at_ (k + j) x hx⟩
theorem BAt.take {w : World} {g o : Nat} {q : List (BitVec 8)} (h : BAt w g o q) (k : Nat) : BAt w g o (q.take k) := ⟨h.lt, fun j x hx => by
  refine h.at_ j x ?_
  by_cases hj : j < k
  · rw [List.getElem?_take_of_lt hj] at hx; exact hx
  · rw [List.getElem?_eq_none (by rw [List.length_take]; omega)] at hx; cases hx⟩
theorem BAt.slice {w : World} {g o c : Nat} {q : List (BitVec 8)} (h : BAt w g o q) {n : Nat} (hn : q.length = n) (hc : n ≤ c) : Slice w (.slice (some ⟨g, o, none⟩) n c) q :=
  ⟨_, c, by rw [hn], by rw [hn]; exact hc, fun _ => ⟨g, o, rfl, h.lt, h.at_⟩⟩
theorem slice_bat {w : World} {A : Option Addr} {n c : Nat} {q : List (BitVec 8)} (h : Slice w (.slice A n c) q) (hq : 0 < q.length) : ∃ g o, A = some ⟨g, o, none⟩ ∧ BAt w g o q ∧ q.length ≤ c := by
  obtain ⟨A', c', e, h2, h3⟩ := h
  injection e with e1 _ e3
  subst e1 e3
  obtain ⟨g, o, h4, h5, h6⟩ := h3 (by intro e; rw [e] at hq; simp at hq)
  exact ⟨g, o, h4, ⟨h5, h6⟩, h2⟩
theorem Row.bat {w : World} {g : Nat} {t : TypeId} {q : List (BitVec 8)} (h : Row w g t (bs q)) : BAt w g 0 q := ⟨h.lt, fun j x hx => by rw [Nat.zero_add]; exact h.get (by simp [bs, hx])⟩
theorem i64_bd (x : BitVec 8) : IntKind.i64.wrap (bd x) = bd x := i64_id _ (by have := bd_lo x; omega) (by have := bd_hi x; omega)
theorem BAt.range {w : World} {g o : Nat} {q : List (BitVec 8)} (h : BAt w g o q) (k n : Nat) (_ : k + n ≤ q.length) : w.rangeAt g (o + k) (bytesV ((q.drop k).take n)) := fun j v hv => by
  simp only [bytesV, List.getElem?_map, Option.map_eq_some_iff] at hv
  obtain ⟨x, hx, rfl⟩ := hv
  exact ((h.drop k).take n).at_ j x hx
theorem BAt.far {w w' : World} {g o k : Nat} {q : List (BitVec 8)} (h : BAt w g o q) (hg : w.grownBy w' (some k)) (hne : g ≠ k) : BAt w' g o q :=
  ⟨Nat.lt_of_lt_of_le h.lt hg.size, fun j x hx => (hg.cell_far ⟨g, o + j, none⟩ h.lt (by simpa using hne)).trans (h.at_ j x hx)⟩
theorem slice_at {w : World} {g o n c : Nat} {q : List (BitVec 8)} (h : Slice w (.slice (some ⟨g, o, none⟩) n c) q) (hq : 0 < q.length) : BAt w g o q := by
  obtain ⟨g', o', e, hb, _⟩ := slice_bat h hq
  injection e with e
  injection e with e1 e2
  subst e1 e2
  exact hb
attribute [local go_sem] lowb_hd lowb8_hd convb_hd shl8_hd or_hd lw16 lsh16 lwh or_wd shl16_wd
theorem sv_drop (q : List (BitVec 8)) : sv 0 (q.drop 2) = sv (0 + 2) q := by
  unfold sv
  simp [List.getD_eq_getElem?_getD, List.getElem?_drop]
end Go.Proofs.Ytkfccdjeohbngaa
