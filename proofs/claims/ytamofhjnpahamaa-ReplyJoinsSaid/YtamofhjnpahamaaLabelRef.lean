/- The document's numbers as bytes, the lowest first, and back. -/
import Derived.Test.YtamofhjnpahamaaSealRefD
import Derived.Test.YtamofhjnpahamaaLabelSpec
set_option maxRecDepth 4000
namespace Go.Proofs.Ytamofhjnpahamaa
open Go Go.RowKit
attribute [local go_sem] low_wd low8_wd low16_wd low24_wd shl8_wd conv_bd add_wd
theorem bytesV_snoc (q : List (BitVec 8)) (x : BitVec 8) : bytesV (q ++ [x]) = bytesV q ++ bytesV [x] := by simp [bytesV]
set_option maxHeartbeats 800000 in
theorem refput_any (v : BitVec 32) (n : Nat) (w : World) (hn : n ≤ 4) :
    Calls Try.prog 23 #[.int .u32 (wd v), .int .i64 (n : Int)] w fun e w' => ∃ u, e = .returned u ∧ w'.ownsRow w.heap.size 5 1 u n (bytesV (le v n)) ∧ Below w.heap.size w w' := by
  have HS : Hid (∀ k, le v (k + 1) = le v k ++ [(v >>> (8 * k)).setWidth 8]) := Lib.hid (le_succ v)
  obtain ⟨L, hL⟩ : ∃ L, le v = L := ⟨_, rfl⟩
  have HL0 : Hid (L 0 = []) := Lib.hid (by rw [← hL]; rfl)
  rw [hL] at HS ⊢
  clear hL
  go_enter Try.func23, Try.ntmps23
  go_wp2_with fail
  go_loopw [5, 6] (fun s i wr => ∃ k : Nat, k ≤ n ∧ i = .int .i64 k ∧ wr.ownsRow w.heap.size 5 1 s k (bytesV (L k)) ∧ Below w.heap.size w wr) (fun _ i _ => n - (intOf i).toNat)
  case atStart => exact ⟨0, by omega, rfl, by rw [HL0.out]; exact World.ownsRow_nil _ _ _ _, Below.refl _ _⟩
  case round =>
    obtain ⟨k, hk, rfl, hO, hB⟩ := hrel
    obtain ⟨A, c, rfl, _⟩ := own_slice_form hO
    by_cases hlt : k < n
    · have hs := HS.out k
      have HB := Lib.hid hB
      have hlt' : (k : Int) < (n : Int) := by omega
      obtain ⟨x, hx⟩ : ∃ x, (v >>> (8 * k)).setWidth 8 = x := ⟨_, rfl⟩
      rw [hx] at hs
      have HSS := Lib.hid hs
      have HO := Lib.hid (hO.alloc (.cells #[.int .u8 (bd x)] 5))
      have HR : Hid (Slice (wr.alloc (.cells #[.int .u8 (bd x)] 5)) (.slice (some ⟨wr.heap.size, 0, none⟩) 1 1) [x]) := Lib.hid (row_slice (Row.fresh wr 5 (bs [x])) (c := 1) (Nat.le_refl _))
      have HB2 := Lib.hid (hB.alloc hB.size (.cells #[.int .u8 (bd x)] 5))
      clear hO hB hs
      rcases k with _ | _ | _ | _ | k
      · subst hx
        go_wp2_with (at_builtin; refine wpList_append_slice rfl (.tmp 12) (.tmp 19) rfl w.heap.size _ _ _ rfl HO.out (some ⟨wr.heap.size, 0, none⟩) 1 1 _ rfl HR.out (fun h => by cases h) (by omega) HB2.out.size ?_; intro v6 w6 own6 hb6; have HO6 := Lib.hid own6; have HB6 := Lib.hid (HB2.out.trans hb6); clear own6 hb6)
        exact ⟨⟨1, by omega, rfl, by rw [HSS.out, bytesV_snoc]; exact HO6.out, HB6.out⟩, by simp [intOf] <;> omega⟩
      · subst hx
        go_wp2_with (at_builtin; refine wpList_append_slice rfl (.tmp 12) (.tmp 19) rfl w.heap.size _ _ _ rfl HO.out (some ⟨wr.heap.size, 0, none⟩) 1 1 _ rfl HR.out (fun h => by cases h) (by omega) HB2.out.size ?_; intro v6 w6 own6 hb6; have HO6 := Lib.hid own6; have HB6 := Lib.hid (HB2.out.trans hb6); clear own6 hb6)
        exact ⟨⟨2, by omega, rfl, by rw [HSS.out, bytesV_snoc]; exact HO6.out, HB6.out⟩, by simp [intOf] <;> omega⟩
      · subst hx
        go_wp2_with (at_builtin; refine wpList_append_slice rfl (.tmp 12) (.tmp 19) rfl w.heap.size _ _ _ rfl HO.out (some ⟨wr.heap.size, 0, none⟩) 1 1 _ rfl HR.out (fun h => by cases h) (by omega) HB2.out.size ?_; intro v6 w6 own6 hb6; have HO6 := Lib.hid own6; have HB6 := Lib.hid (HB2.out.trans hb6); clear own6 hb6)
        exact ⟨⟨3, by omega, rfl, by rw [HSS.out, bytesV_snoc]; exact HO6.out, HB6.out⟩, by simp [intOf] <;> omega⟩
      · subst hx
        go_wp2_with (at_builtin; refine wpList_append_slice rfl (.tmp 12) (.tmp 19) rfl w.heap.size _ _ _ rfl HO.out (some ⟨wr.heap.size, 0, none⟩) 1 1 _ rfl HR.out (fun h => by cases h) (by omega) HB2.out.size ?_; intro v6 w6 own6 hb6; have HO6 := Lib.hid own6; have HB6 := Lib.hid (HB2.out.trans hb6); clear own6 hb6)
        exact ⟨⟨4, by omega, rfl, by rw [HSS.out, bytesV_snoc]; exact HO6.out, HB6.out⟩, by simp [intOf] <;> omega⟩
      · omega
    · obtain rfl : k = n := by omega
      have HO := Lib.hid hO
      have HB := Lib.hid hB
      clear hO hB
      go_wp2_with fail
      go_ret
      exact ⟨_, rfl, HO.out, HB.out⟩
theorem num_drop (q : List (BitVec 8)) (k : Nat) (hk : k < q.length) : num (q.drop k) = (num (q.drop (k + 1)) <<< 8) + (q.getD k 0#8).setWidth 32 := by
  rw [List.drop_eq_getElem_cons hk, List.getD_eq_getElem?_getD, List.getElem?_eq_getElem hk]; rfl
set_option maxHeartbeats 800000 in
theorem refnum_any (q : List (BitVec 8)) (v : Value) (w : World) (hs : Slice w v q) (hq : q.length ≤ 100) :
    Calls Try.prog 28 #[v] w fun e w' => e = .returned (.int .u32 (wd (num q))) ∧ w = w' := by
  obtain ⟨A, c, rfl, _, h3⟩ := hs
  have H3 := Lib.hid h3
  obtain ⟨n, hn⟩ : ∃ n, q.length = n := ⟨_, rfl⟩
  have HN := Lib.hid hn
  obtain ⟨D, hD⟩ : ∃ D : Nat → BitVec 32, ∀ k, num (q.drop k) = D k := ⟨_, fun _ => rfl⟩
  have HD1 : Hid (∀ k, k < n → D k = (D (k + 1) <<< 8) + (q.getD k 0#8).setWidth 32) := Lib.hid fun k hk => by rw [← hD, ← hD]; exact num_drop q k (by omega)
  have HDn : Hid (D n = 0#32) := Lib.hid (by rw [← hD, ← hn, List.drop_length]; rfl)
  rw [show num q = D 0 by rw [← hD 0]; rfl]
  rw [hn] at hq ⊢
  clear hD h3 hn
  go_enter Try.func28, Try.ntmps28
  go_wp2_with fail
  go_loopw [3, 4] (fun x j wr => wr = w ∧ ∃ (k : Nat) (J : Int), j = .int .i64 J ∧ J + 1 = k ∧ k ≤ n ∧ x = .int .u32 (wd (D k))) (fun _ j _ => (intOf j + 1).toNat)
  case atStart => exact ⟨rfl, n, (n : Int) - 1, by go_num, by omega, Nat.le_refl _, by rw [HDn.out]; rfl⟩
  case round =>
    obtain ⟨rfl, k, J, rfl, hJ, hk, rfl⟩ := hrel
    rcases k with _ | k
    · obtain rfl : J = -1 := by omega
      clear hk hJ
      go_wp2_with fail
      go_ret
      exact ⟨rfl, rfl⟩
    · obtain rfl : J = (k : Int) := by omega
      have hd := HD1.out k (by omega)
      have HD := Lib.hid hd
      obtain ⟨b, o, rfl, _, h6⟩ := H3.out (by intro e; have := HN.out; rw [e] at this; simp at this; omega)
      have c0 := h6 k (q.getD k 0#8) (by rw [List.getD_eq_getElem?_getD, List.getElem?_eq_getElem (by rw [HN.out]; omega)]; rfl)
      obtain ⟨x, hx⟩ : ∃ x, q.getD k 0#8 = x := ⟨_, rfl⟩
      rw [hx] at HD c0
      have hk0 : (0 : Int) ≤ (k : Int) := by omega
      have hk1 : (k : Int) < (n : Int) := by omega
      clear hx h6 hd
      generalize D (k + 1) = y at *
      go_wp2_with fail
      exact ⟨⟨trivial, k, (k : Int) - 1, by go_num, by omega, by omega, by rw [HD.out]⟩, by simp [intOf] <;> omega⟩
theorem got_piece {w : World} {g k n c : Nat} {t : TypeId} {q : List (BitVec 8)} {e : Int} (h : Row w g t (gotCells q e)) (hq : q.length = 30) (hn : 1 + k + n ≤ 30) (hc : n ≤ c) : Slice w (.slice (some ⟨g, 1 + k, none⟩) n c) (((q.drop 1).drop k).take n) := by
  have hl : (((q.drop 1).drop k).take n).length = n := by rw [List.length_take, List.length_drop, List.length_drop]; omega
  refine ⟨some ⟨g, 1 + k, none⟩, c, by rw [hl], by rw [hl]; exact hc, fun _ => ⟨g, 1 + k, rfl, h.lt, fun j x hx => ?_⟩⟩
  have hj : j < n := by have := (List.getElem?_eq_some_iff.1 hx).1; omega
  rw [List.getElem?_take_of_lt hj, List.getElem?_drop, List.getElem?_drop] at hx
  refine h.get ?_
  unfold gotCells
  rw [List.getElem?_toArray, List.getElem?_append_left (by rw [len_bytesV, hq]; omega)]
  unfold bytesV
  rw [List.getElem?_map, show 1 + k + j = 1 + (k + j) by omega, hx]; rfl
theorem got_at {w : World} {g i : Nat} {t : TypeId} {q : List (BitVec 8)} {e : Int} (h : Row w g t (gotCells q e)) (hq : q.length = 30) (hi : i < 30) : w.cell? ⟨g, i, none⟩ = some (.int .u8 (bd (q.getD i 0#8))) := by
  refine h.get ?_
  unfold gotCells
  rw [List.getElem?_toArray, List.getElem?_append_left (by rw [len_bytesV, hq]; exact hi)]
  unfold bytesV
  rw [List.getElem?_map, List.getElem?_eq_getElem (by rw [hq]; exact hi), List.getD_eq_getElem?_getD, List.getElem?_eq_getElem (by rw [hq]; exact hi)]; rfl
end Go.Proofs.Ytamofhjnpahamaa
