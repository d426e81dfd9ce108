/- Parts laid by the call; blocks of 64 bytes of a message. -/
import Derived.Test.YtnfceejmkcohnaaDoorEq
import Derived.Deep.MidRow
import Derived.Maps.RangeWalk
import Derived.Test.YtnfceejmkcohnaaDoorApp
import Derived.Test.YtnfceejmkcohnaaDoorPadG
namespace Go.Proofs.YtnfceejmkcohnaaDoor
open Go Go.RowKit
theorem parts1 {w : World} {v : Value} {q : List (BitVec 8)} (h : Slice w v q) : Parts (w.alloc (.cells #[v] 22)) (.slice (some ⟨w.heap.size, 0, none⟩) 1 1) [q] := by
  have r := Row.fresh w 22 #[v]
  refine ⟨_, 1, rfl, fun _ => ⟨w.heap.size, 0, rfl, r.lt, fun k p hp => ?_⟩⟩
  match k, hp with
  | 0, hp => obtain rfl : q = p := by simpa using hp
             exact ⟨v, r.get rfl, h.below ((Below.refl _ _).alloc (Nat.le_refl _) _) (Nat.le_refl _)⟩
theorem parts3 {w : World} {a b c : Value} {p q r : List (BitVec 8)} (ha : Slice w a p) (hb : Slice w b q) (hc : Slice w c r) : Parts (w.alloc (.cells #[a, b, c] 22)) (.slice (some ⟨w.heap.size, 0, none⟩) 3 3) [p, q, r] := by
  have t := Row.fresh w 22 #[a, b, c]
  have hx := (Below.refl w.heap.size w).alloc (Nat.le_refl _) (.cells #[a, b, c] 22)
  refine ⟨_, 3, rfl, fun _ => ⟨w.heap.size, 0, rfl, t.lt, fun k s hs => ?_⟩⟩
  match k, hs with
  | 0, hs => obtain rfl : p = s := by simpa using hs
             exact ⟨a, t.get rfl, ha.below hx (Nat.le_refl _)⟩
  | 1, hs => obtain rfl : q = s := by simpa using hs
             exact ⟨b, t.get rfl, hb.below hx (Nat.le_refl _)⟩
  | 2, hs => obtain rfl : r = s := by simpa using hs
             exact ⟨c, t.get rfl, hc.below hx (Nat.le_refl _)⟩
theorem slice_nil (w : World) : Slice w (.slice none 0 0) [] := ⟨none, 0, rfl, by simp, fun h => absurd rfl h⟩
theorem Slice.take {w : World} {A : Option Addr} {c k : Nat} {q : List (BitVec 8)} (h : Slice w (.slice A q.length c) q) (hk : k ≤ q.length) : Slice w (.slice A k c) (q.take k) := by
  obtain ⟨A', c', h1, h2, h3⟩ := h
  injection h1 with h1 _ h1c
  subst h1 h1c
  refine ⟨A, c, by rw [List.length_take, Nat.min_eq_left hk], by rw [List.length_take]; omega, fun hne => ?_⟩
  obtain ⟨b, o, h4, h5, h6⟩ := h3 (by intro e; subst e; simp at hne)
  refine ⟨b, o, h4, h5, fun j x hx => h6 j x ?_⟩
  rw [List.getElem?_take] at hx
  split at hx
  · exact hx
  · cases hx
theorem Slice.drop {w : World} {A : Option Addr} {c k : Nat} {q : List (BitVec 8)} (h : Slice w (.slice A q.length c) q) (hk : k ≤ q.length) : Slice w (.slice (if c = k then A else A.map (·.add k)) (q.length - k) (c - k)) (q.drop k) := by
  obtain ⟨A', c', h1, h2, h3⟩ := h
  injection h1 with h1 _ h1c
  subst h1 h1c
  refine ⟨_, c - k, by rw [List.length_drop], by rw [List.length_drop]; omega, fun hne => ?_⟩
  have hl : 0 < (q.drop k).length := List.length_pos_iff.2 hne
  rw [List.length_drop] at hl
  obtain ⟨b, o, h4, h5, h6⟩ := h3 (by intro e; subst e; simp at hne)
  subst h4
  refine ⟨b, o + k, ?_, h5, fun j x hx => ?_⟩
  · rw [if_neg (by omega)]; simp [Addr.add_mid]
  · rw [List.getElem?_drop] at hx
    rw [Nat.add_assoc]; exact h6 _ x hx
theorem sum3 {w : World} {A : Option Addr} {c k : Nat} {q : List (BitVec 8)} (hT : Tab w) (h : Slice w (.slice A q.length c) q) (hk : k ≤ q.length) (hq : q.length < 2147483648) :
    Calls Tryd.prog 17 #[.slice (some ⟨w.heap.size, 0, none⟩) 3 3] (w.alloc (.cells #[.slice A k c, .slice none 0 0, .slice (if c = k then A else A.map (·.add k)) (q.length - k) (c - k)] 22)).drew fun e w' => e = .returned (.agg (bs (sha q))) ∧ Below w.heap.size w w' := by
  have hb := ((Below.refl w.heap.size w).alloc (Nat.le_refl _) (.cells #[.slice A k c, .slice none 0 0, .slice (if c = k then A else A.map (·.add k)) (q.length - k) (c - k)] 22)).drew
  have e : ([q.take k, [], q.drop k] : List (List (BitVec 8))).flatten = q := by simp
  have hc := sum_any [q.take k, [], q.drop k] (.slice (some ⟨w.heap.size, 0, none⟩) 3 3) (w.alloc (.cells #[.slice A k c, .slice none 0 0, .slice (if c = k then A else A.map (·.add k)) (q.length - k) (c - k)] 22)).drew (hT.below hb hT.pos) (parts3 (h.take hk) (slice_nil w) (h.drop hk)) (by simp) (by rw [e]; exact hq)
  rw [e] at hc
  exact hc.mono fun _ w' ⟨h1, h2⟩ => ⟨h1, hb.trans (h2.mono (by show w.heap.size ≤ (w.alloc _).heap.size; simp))⟩
theorem all_form {w : World} {base n : Nat} {v : Value} {q L : List (BitVec 8)} (h : w.ownsRow base 5 1 v n (bytesV q ++ bytesV (pad q.length))) (hL : q ++ pad q.length = L) :
    ∃ g cap, v = .slice (some ⟨g, 0, none⟩) L.length cap ∧ base ≤ g ∧ g < w.heap.size ∧ L.length ≤ cap ∧ ∀ j x, L[j]? = some x → w.cell? ⟨g, j, none⟩ = some (.int .u8 (bd x)) := by
  subst hL
  have e : bytesV q ++ bytesV (pad q.length) = bytesV (q ++ pad q.length) := by simp [bytesV]
  rw [e] at h
  exact owns_form h (by rw [List.length_append, length_pad]; have := padSize_lo q.length; omega)
theorem range_call {w w' : World} {g : Nat} {cs : List Value} (h : w.rangeAt g 0 cs) (hb : Below w.heap.size w w') : w'.rangeAt g 0 cs := fun j v hv => by
  have hc := h j v hv
  exact (hb.cell (p := ⟨g, 0 + j, none⟩) (World.block_lt_of_cell? w _ hc)).trans hc
def PR (w wr : World) (gh g g6 : Nat) (L D : List (BitVec 8)) (k : Nat) : Prop :=
  Row wr gh 46 (ws (turns L k)) ∧ Row wr g6 24 (bs D) ∧ Below w.heap.size w wr ∧ (∀ j x, L[j]? = some x → wr.cell? ⟨g, j, none⟩ = some (.int .u8 (bd x))) ∧ g < wr.heap.size
theorem PR.call {w wr w' : World} {gh g g6 k : Nat} {L D : List (BitVec 8)} (h : PR w wr gh g g6 L D k) (hb : Below wr.heap.size wr w') : PR w w' gh g g6 L D k := by
  obtain ⟨h1, h2, h3, h4, h5⟩ := h
  exact ⟨h1.call hb, h2.call hb, h3.trans (hb.mono h3.size), fun j x hx => (hb.cell (p := ⟨g, j, none⟩) h5).trans (h4 j x hx), Nat.lt_of_lt_of_le h5 hb.size⟩
theorem PR.setRow {w wx : World} {gh g g6 gy k : Nat} {L D : List (BitVec 8)} (h : PR w wx gh g g6 L D k) (h1 : gh ≠ gy) (h2 : g ≠ gy) (h3 : g6 ≠ gy) (h4 : w.heap.size ≤ gy) (cs : Array Value) : PR w (wx.drew.setRow gy cs) gh g g6 L D k := by
  obtain ⟨a1, a2, a3, a4, a5⟩ := h
  exact ⟨a1.drew.setRow_far h1 cs, a2.drew.setRow_far h3 cs, below_setRow a3.drew h4 cs, fun j x hx => (cell_setRow_other wx.drew gy cs ⟨g, j, none⟩ h2).trans (a4 j x hx), by rw [size_setRow]; exact a5⟩
theorem PR.turned {w w8 : World} {gh g g6 k : Nat} {L D : List (BitVec 8)} (h : PR w w8 gh g g6 L D k) (h1 : gh ≠ g) (h3 : gh ≠ g6) (h4 : w.heap.size ≤ gh) : PR w (w8.setRow gh (ws (turns L (k + 1)))) gh g g6 L D (k + 1) := by
  obtain ⟨a1, a2, a3, a4, a5⟩ := h
  exact ⟨a1.setRow _, a2.setRow_far (Ne.symm h3) _, below_setRow a3 h4 _, fun j x hx => (cell_setRow_other w8 gh _ ⟨g, j, none⟩ (Ne.symm h1)).trans (a4 j x hx), by rw [size_setRow]; exact a5⟩
/- a hash's first i bytes, and zeros -/
def dpart (H : List (BitVec 32)) (i : Nat) : List (BitVec 8) := (dig H).take i ++ zer (32 - i)
theorem dpart_zero (H : List (BitVec 32)) : dpart H 0 = zer 32 := by simp [dpart]
theorem dpart_all (H : List (BitVec 32)) (h : H.length = 8) : dpart H 32 = dig H := by
  rw [dpart, List.take_of_length_le (by rw [length_dig, h]; omega)]; simp [zer]
theorem length_dpart (H : List (BitVec 32)) (i : Nat) (h : H.length = 8) (hi : i ≤ 32) : (dpart H i).length = 32 := by
  simp [dpart, length_dig, h, zer]; omega
theorem dig_get (H : List (BitVec 32)) (a b : Nat) (ha : a < H.length) (hb : b < 4) : (dig H)[4 * a + b]? = some ((H.getD a 0 >>> (24 - 8 * b)).setWidth 8) := by
  induction H generalizing a with
  | nil => simp at ha
  | cons x r ih =>
    have e : dig (x :: r) = four x ++ dig r := by simp [dig]
    cases a with
    | zero =>
      rw [e, List.getElem?_append_left (by simp [four]; omega)]
      match b, hb with
      | 0, _ => rfl
      | 1, _ => rfl
      | 2, _ => rfl
      | 3, _ => simp [four]
    | succ a =>
      rw [e, List.getElem?_append_right (by simp [four]; omega), show 4 * (a + 1) + b - (four x).length = 4 * a + b by simp [four]; omega, ih a (by simpa using ha)]
      simp
theorem dpart_set (H : List (BitVec 32)) (a b : Nat) (hl : H.length = 8) (ha : a < 8) (hb : b < 4) : (dpart H (4 * a + b)).set (4 * a + b) ((H.getD a 0 >>> (24 - 8 * b)).setWidth 8) = dpart H (4 * a + b + 1) := by
  have hd := dig_get H a b (by omega) hb
  have hlen : (dig H).length = 32 := by rw [length_dig, hl]
  have h1 : ((dig H).take (4 * a + b)).length = 4 * a + b := by rw [List.length_take, hlen]; omega
  have hz : zer (32 - (4 * a + b)) = 0 :: zer (32 - (4 * a + b + 1)) := by
    rw [show 32 - (4 * a + b) = (32 - (4 * a + b + 1)) + 1 by omega]; simp [zer, List.replicate_succ]
  have he : (dig H)[4 * a + b]'(by omega) = (H.getD a 0 >>> (24 - 8 * b)).setWidth 8 := (List.getElem?_eq_some_iff.1 hd).2
  rw [dpart, dpart, List.set_append_right _ _ (by omega), h1, Nat.sub_self, hz, List.set_cons_zero, List.take_succ_eq_append_getElem (by omega), he, List.append_assoc]
  rfl
theorem d_step {w wz : World} {gd gh g6 i : Nat} {H : List (BitVec 32)} {D : List (BitVec 8)} (hl : H.length = 8) (hi : i < 32) (rd : Row wz gd 24 (bs (dpart H i))) (hr : Row wz gh 46 (ws H)) (hr6 : Row wz g6 24 (bs D)) (hb : Below w.heap.size w wz)
    (h1 : gh ≠ gd) (h2 : g6 ≠ gd) (h3 : w.heap.size ≤ gd) :
    Row (wz.setCell ⟨gd, i, none⟩ (.int .u8 (wd (H.getD (i / 4) 0) / 2 ^ (24 - 8 * (i % 4)) % 256))) gd 24 (bs (dpart H (i + 1))) ∧ Row (wz.setCell ⟨gd, i, none⟩ (.int .u8 (wd (H.getD (i / 4) 0) / 2 ^ (24 - 8 * (i % 4)) % 256))) gh 46 (ws H) ∧
      Row (wz.setCell ⟨gd, i, none⟩ (.int .u8 (wd (H.getD (i / 4) 0) / 2 ^ (24 - 8 * (i % 4)) % 256))) g6 24 (bs D) ∧ Below w.heap.size w (wz.setCell ⟨gd, i, none⟩ (.int .u8 (wd (H.getD (i / 4) 0) / 2 ^ (24 - 8 * (i % 4)) % 256))) := by
  have e : wd (H.getD (i / 4) 0) / 2 ^ (24 - 8 * (i % 4)) % 256 = bd ((H.getD (i / 4) 0 >>> (24 - 8 * (i % 4))).setWidth 8) := by
    rw [shr_wd, ← low_wd, IntKind.wrap_u8']
  rw [e]
  refine ⟨?_, hr.far h1 _, hr6.far h2 _, hb.setCell h3 _⟩
  have h := rd.put i (.int .u8 (bd ((H.getD (i / 4) 0 >>> (24 - 8 * (i % 4))).setWidth 8)))
  have hs := dpart_set H (i / 4) (i % 4) hl (by omega) (by omega)
  rw [show 4 * (i / 4) + i % 4 = i by omega] at hs
  rw [set_bs, hs] at h
  exact h
theorem src_at {w : World} {g o : Nat} {L : List (BitVec 8)} (h : ∀ j x, L[j]? = some x → w.cell? ⟨g, j, none⟩ = some (.int .u8 (bd x))) :
    ∀ j x, (L.drop o)[j]? = some x → w.cell? ⟨g, o + j, none⟩ = some (.int .u8 (bd x)) := fun j x hx => by
  rw [List.getElem?_drop] at hx; exact h _ x hx
theorem copy_block (L : List (BitVec 8)) (t : Nat) (h : 64 * t + 64 ≤ L.length) :
    ((bs (zer 64)).toList.take 0 ++ (bytesV ((L.drop (64 * t)).take 64) ++ (bs (zer 64)).toList.drop (0 + (bytesV ((L.drop (64 * t)).take 64)).length))).toArray = bs ((L.drop (64 * t)).take 64) := by
  have e : (bytesV ((L.drop (64 * t)).take 64)).length = 64 := by simp [bytesV]; omega
  have hd : (bs (zer 64)).toList.drop (0 + 64) = [] := rfl
  rw [e, hd, List.take_zero, List.nil_append, List.append_nil]
  rfl
theorem Parts.below {w w' : World} {B : Nat} {v : Value} {ps : List (List (BitVec 8))} (h : Parts w v ps) (hb : Below B w w') (hB : w.heap.size ≤ B) : Parts w' v ps := by
  obtain ⟨A, c, h1, h3⟩ := h
  refine ⟨A, c, h1, fun hne => ?_⟩
  obtain ⟨b, o, h4, h5, h6⟩ := h3 hne
  refine ⟨b, o, h4, Nat.lt_of_lt_of_le h5 hb.size, fun k q hq => ?_⟩
  obtain ⟨u, h7, h8⟩ := h6 k q hq
  exact ⟨u, (hb.cell (p := ⟨b, o + k, none⟩) (Nat.lt_of_lt_of_le h5 hB)).trans h7, h8.below hb hB⟩
theorem mem_flat (ps : List (List (BitVec 8))) (q : List (BitVec 8)) (h : q ∈ ps) : q.length ≤ ps.flatten.length := by
  induction ps with
  | nil => cases h
  | cons p r ih =>
    rw [List.flatten_cons, List.length_append]
    rcases List.mem_cons.1 h with rfl | h
    · omega
    · have := ih h; omega
end Go.Proofs.YtnfceejmkcohnaaDoor
