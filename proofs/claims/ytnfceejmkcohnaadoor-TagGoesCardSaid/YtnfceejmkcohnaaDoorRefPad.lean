/- The document's pad: the plain function's. -/
import Derived.Test.YtnfceejmkcohnaaDoorApp
import Derived.Test.YtnfceejmkcohnaaDoorPadG
namespace Go.Proofs.YtnfceejmkcohnaaDoor
open Go Go.RowKit
theorem own_one (w : World) (x : BitVec 8) : (w.alloc (.cells #[.int .u8 (bd x)] 5)).ownsRow w.heap.size 5 1 (.slice (some ⟨w.heap.size, 0, none⟩) 1 1) 1 (bytesV [x]) :=
  ⟨rfl, .inr ⟨w.heap.size, 1, #[.int .u8 (bd x)], rfl, Nat.le_refl _, heap_alloc_new w _, Nat.le_refl _, by unfold maxLen; omega, rfl, rfl⟩⟩
/- a slice of the call's own, of these bytes -/
def Own (w wr : World) (v : Value) (q : List (BitVec 8)) : Prop := ∃ g cap, v = .slice (some ⟨g, 0, none⟩) q.length cap ∧ wr.ownsRow w.heap.size 5 1 v q.length (bytesV q) ∧ Below w.heap.size w wr
theorem Own.slice {w wr : World} {v : Value} {q : List (BitVec 8)} (h : Own w wr v q) (hq : 0 < q.length) : Slice wr v q := by
  obtain ⟨g, cap, rfl, h1, _⟩ := h
  obtain ⟨g', cap', e, _, h3, h4, h5⟩ := owns_form h1 hq
  injection e with e1 _ e3
  injection e1 with e1
  injection e1 with e1
  subst e1 e3
  exact ⟨_, cap, rfl, h4, fun _ => ⟨g, 0, rfl, h3, fun j x hx => by rw [Nat.zero_add]; exact h5 j x hx⟩⟩
theorem own_of {w w0 wr : World} {v : Value} {q : List (BitVec 8)} {n : Nat} {xs : List Value} (h : wr.ownsRow w.heap.size 5 1 v n xs) (hx : xs = bytesV q) (hq : 0 < q.length) (h0 : Below w.heap.size w w0) (hb : Below w.heap.size w0 wr) : Own w wr v q := by
  subst hx
  have hn : q.length = n := by have := h.1; simp [bytesV] at this; omega
  subst hn
  obtain ⟨g, cap, rfl, _⟩ := owns_form h hq
  exact ⟨g, cap, rfl, h, h0.trans hb⟩
theorem one_slice (w : World) (x : BitVec 8) : Slice (w.alloc (.cells #[.int .u8 (bd x)] 5)) (.slice (some ⟨w.heap.size, 0, none⟩) 1 1) [x] := bytes_slice (q := [x]) (c := 1) (heap_alloc_new w _) (by simp)
theorem one_slice_at (w : World) {x : BitVec 8} {i : Int} (hi : bd x = i) : Slice (w.alloc (.cells #[.int .u8 i] 5)) (.slice (some ⟨w.heap.size, 0, none⟩) 1 1) [x] := by
  subst hi; exact one_slice w x
set_option maxHeartbeats 800000 in
theorem refpad_core (n z : Nat) (X : Int) (w : World) (_hn : n < 18446744073709551616) (hz9 : 9 ≤ z) (hz72 : z ≤ 72) (hzm : (n + z) % 64 = 0) (hX : IntKind.u64.wrap ((n : Int) * 8) = X) :
    Calls Tryd.prog 24 #[.int .u64 (n : Int)] w fun e w' => ∃ v, e = .returned v ∧ Own w w' v (padTo z X 8) := by
  go_enter Tryd.func24, Tryd.ntmps24
  go_wp2_with fail
  go_loopw [3] (fun v wr => ∃ j : Nat, j + 9 ≤ z ∧ Own w wr v (0x80#8 :: zer j)) (fun v _ => 100 - sliceLen v)
  case atStart => exact ⟨0, hz9, _, 1, rfl, own_one w 0x80#8, (Below.refl _ _).alloc (Nat.le_refl _) _⟩
  case round =>
    obtain ⟨j, hj, g, cap, rfl, hown, hb⟩ := hrel
    have hl : (0x80#8 :: zer j).length = j + 1 := by simp [zer]
    rw [hl] at hown ⊢
    have hS : ∃ S : Nat, IntKind.u64.wrap ((n : Int) + ((j : Int) + 1)) = (S : Int) ∧ S % 64 = (n + (j + 1)) % 64 := ⟨(n + (j + 1)) % 18446744073709551616, by rw [u64_wrap]; omega, by omega⟩
    obtain ⟨S, hS1, hS2⟩ := hS
    have hS3 : (S : Int).tmod 64 = ((S % 64 : Nat) : Int) := by rw [Int.tmod_eq_emod_of_nonneg (by omega)]; omega
    by_cases hlt : j + 9 < z
    · have e1 : (((IntKind.u64.wrap ((n : Int) + ((j : Int) + 1))).tmod 64) != 56) = true := by rw [hS1, hS3, bne_iff_ne]; omega
      clear hS1 hS2 hS3
      go_wp2_with (first | (at_builtin; refine wpList_append_slice rfl _ _ rfl w.heap.size _ (j + 1) (bytesV (0x80#8 :: zer j)) rfl (hown.alloc _) _ 1 1 [0#8] rfl (one_slice wr 0#8) (fun h => by cases h) (by omega) (Nat.le_trans hb.size (by simp)) ?_; intro v1 w4 own1 hb4))
      have HO : Own w w4 v1 (0x80#8 :: zer (j + 1)) := own_of own1 (by simp [bytesV, zer, List.replicate_succ']) (by simp) (hb.alloc hb.size _) hb4
      refine ⟨⟨j + 1, by omega, HO⟩, ?_⟩
      obtain ⟨_, _, e, _⟩ := HO
      rw [e]
      simp only [sliceLen, List.length_cons, zer, List.length_replicate]
      omega
    · have e1 : (((IntKind.u64.wrap ((n : Int) + ((j : Int) + 1))).tmod 64) != 56) = false := by rw [hS1, hS3, bne_eq_false_iff_eq]; omega
      have hjz : j = z - 9 := by omega
      have HO : Own w wr (.slice (some ⟨g, 0, none⟩) (j + 1) cap) (0x80#8 :: (zer (z - 9) ++ (lows X 8).take 0)) := ⟨g, cap, by simp [zer]; omega, by simpa [zer, ← hjz] using hown, hb⟩
      have HO1 := Lib.hid HO
      clear hS1 hS2 hS3 HO hown hb hl hjz
      go_wp2_with fail
      clear e1 hlt hj
      generalize Value.slice (some ⟨g, 0, none⟩) (j + 1) cap = v0 at *
      go_loopw [3, 4] (fun v i wr => ∃ k : Nat, k ≤ 8 ∧ i = .int .i64 (7 - (k : Int)) ∧ Own w wr v (0x80#8 :: (zer (z - 9) ++ (lows X 8).take k))) (fun _ i _ => (intOf i + 1).toNat)
      case atStart => exact ⟨0, by omega, rfl, HO1.out⟩
      case round =>
        clear HO1
        obtain ⟨k, hk, rfl, g, cap, rfl, hown, hb⟩ := hrel
        have hl : (0x80#8 :: (zer (z - 9) ++ (lows X 8).take k)).length = z - 8 + k := by simp [zer, length_lows]; omega
        by_cases hlt : k < 8
        · have HB : Hid (bd (lenByte X (7 - k)) = X / 2 ^ (8 * (7 - k)) % 256) := Lib.hid (lenByte_val X (7 - k))
          have HT : Hid ((lows X 8).take (k + 1) = (lows X 8).take k ++ [lenByte X (7 - k)]) := Lib.hid (by rw [List.take_succ_eq_append_getElem (by rw [length_lows]; exact hlt)]; congr 2; have := lows_get X 8 k hlt; rw [List.getElem?_eq_getElem (by rw [length_lows]; exact hlt)] at this; injection this)
          rw [hl] at hown ⊢
          go_wp2_with (first | (at_builtin; refine wpList_append_slice rfl _ _ rfl w.heap.size _ (z - 8 + k) (bytesV (0x80#8 :: (zer (z - 9) ++ (lows X 8).take k))) rfl (hown.alloc _) _ 1 1 [lenByte X (7 - k)] rfl (one_slice_at wr HB.out) (fun h => by cases h) (by omega) (Nat.le_trans hb.size (by simp)) ?_; intro v1 w4 own1 hb4))
          refine ⟨⟨k + 1, by omega, by go_num, ?_⟩, by simp [intOf]; omega⟩
          exact own_of own1 (by rw [HT.out]; simp [bytesV]) (by simp) (hb.alloc hb.size _) hb4
        · obtain rfl : k = 8 := by omega
          have HO : Hid (Own w wr (.slice (some ⟨g, 0, none⟩) (z - 8 + 8) cap) (padTo z X 8)) := Lib.hid (by
            have e : padTo z X 8 = 0x80#8 :: (zer (z - 9) ++ (lows X 8).take 8) := by rw [padTo, List.take_of_length_le (by rw [length_lows]; omega)]; rfl
            rw [e]
            exact ⟨g, cap, by rw [hl], by rw [← hl]; exact hown, hb⟩)
          rw [hl]
          clear hown hb hl hlt hk
          go_wp2_with fail
          go_ret
          exact ⟨_, rfl, HO.out⟩
/- the post of the document's pad -/
def PadPost (w : World) (n : Nat) (e : Ending) (w' : World) : Prop := ∃ g cap, e = .returned (.slice (some ⟨g, 0, none⟩) (padSize n) cap) ∧ Slice w' (.slice (some ⟨g, 0, none⟩) (padSize n) cap) (pad n) ∧ Below w.heap.size w w'
theorem refpad_any (n : Nat) (hn : n < 18446744073709551616) (w : World) : Calls Tryd.prog 24 #[.int .u64 (n : Int)] w (PadPost w n) := by
  refine (refpad_core n (padSize n) (bitLen n) w hn (padSize_lo n) (padSize_hi n) (padSize_whole n) (by rw [u64_wrap]; unfold bitLen; omega)).mono fun e w' ⟨v, he, hO⟩ => ?_
  have hs := hO.slice (by rw [length_padTo _ _ _ (padSize_lo n) (Nat.le_refl _)]; have := padSize_lo n; omega)
  obtain ⟨g, cap, rfl, _, hb⟩ := hO
  rw [length_padTo _ _ _ (padSize_lo n) (Nat.le_refl _)] at he hs
  exact ⟨g, cap, he, hs, hb⟩
end Go.Proofs.YtnfceejmkcohnaaDoor
