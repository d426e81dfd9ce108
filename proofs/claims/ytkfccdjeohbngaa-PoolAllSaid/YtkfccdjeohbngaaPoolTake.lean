/- The n least blocks that are free: the program's Take. -/
import Derived.Test.YtkfccdjeohbngaaPoolFree
import Derived.Test.YtkfccdjeohbngaaOpenN
import Derived.Test.YtkfccdjeohbngaaStMore
import Derived.Deep.Cut
set_option maxRecDepth 4000
namespace Go.Proofs.Ytkfccdjeohbngaa
open Go Go.RowKit
def freeB (u : BitVec 16) (b : Nat) : List Int := ((List.range b).filter fun b => !u.getLsbD b).map Int.ofNat
theorem freeB_12 (u : BitVec 16) : freeB u 12 = freeL u := rfl
theorem freeB_add (u : BitVec 16) (b : Nat) : freeB u (b + 1) = freeB u b ++ if u.getLsbD b then [] else [(b : Int)] := by
  unfold freeB
  rw [List.range_succ, List.filter_append, List.map_append]
  congr 1
  cases h : u.getLsbD b <;> simp [h]
theorem freeB_pre (u : BitVec 16) (b : Nat) (h : b ≤ 12) : freeB u b = (freeL u).take (freeB u b).length := by
  have : freeB u b <+: freeL u := by
    unfold freeB freeL
    refine List.IsPrefix.map _ (List.IsPrefix.filter _ ?_)
    have e : List.range 12 = List.range b ++ (List.range (12 - b)).map (b + ·) := by rw [← List.range_add, Nat.add_sub_cancel' h]
    rw [e]; exact List.prefix_append _ _
  exact List.prefix_iff_eq_take.1 this
theorem freeB_bound (u : BitVec 16) (b : Nat) : ∀ x ∈ freeB u b, 0 ≤ x ∧ x < b := by
  intro x hx
  unfold freeB at hx
  obtain ⟨y, hy, rfl⟩ := List.mem_map.1 hx
  have := List.mem_range.1 (List.mem_filter.1 hy).1
  exact ⟨Int.natCast_nonneg _, by show (y : Int) < b; omega⟩
theorem freeB_len (u : BitVec 16) (b : Nat) : (freeB u b).length ≤ b := by
  unfold freeB; rw [List.length_map]; exact Nat.le_trans (List.length_filter_le _ _) (by simp)
/- what Take tells -/
def takeV (u : BitVec 16) (n : Int) : List Int := if n < 1 ∨ 4 < n ∨ ((freeL u).length : Int) < n then [] else (freeL u).take n.toNat
def takeE (u : BitVec 16) (n : Int) : Int := if n < 1 ∨ 4 < n then 1 else if ((freeL u).length : Int) < n then 18 else 0
theorem takeV_bound (u : BitVec 16) (n : Int) : ∀ x ∈ takeV u n, 0 ≤ x ∧ x < 12 := by
  intro x hx
  unfold takeV at hx
  split at hx
  · simp at hx
  · exact freeB_bound u 12 x (List.mem_of_mem_take hx)
theorem takeV_len (u : BitVec 16) (n : Int) : (takeV u n).length ≤ 12 := by
  unfold takeV
  split
  · simp
  · have := freeB_len u 12
    rw [freeB_12] at this
    rw [List.length_take]; omega
theorem own_ints0 (w : World) (n : Nat) (h : n ≤ 4) : (w.alloc (.cells (Array.mk (List.replicate n (.int .i64 0))) 3)).ownsRow w.heap.size 3 1 (.slice (some ⟨w.heap.size, 0, none⟩) 0 n) 0 (intsV []) :=
  ⟨rfl, .inr ⟨w.heap.size, n, Array.mk (List.replicate n (.int .i64 0)), rfl, Nat.le_refl _, heap_alloc_new w _, Nat.zero_le _, by unfold maxLen; omega, by simp, rfl⟩⟩
theorem make_ints (n : Nat) (h1 : 1 ≤ n) (h4 : n ≤ 4) (w : World) : (Instr.makeSlice 26 (.int .i64 0) (.int .i64 (n : Int))).run Try.prog w = .ok (.slice (some ⟨w.heap.size, 0, none⟩) 0 n) (w.alloc (.cells (Array.mk (List.replicate n (.int .i64 0))) 3)) := by
  obtain rfl | rfl | rfl | rfl : n = 1 ∨ n = 2 ∨ n = 3 ∨ n = 4 := by omega
  all_goals kernel_rfl
theorem ints_one (w : World) (b : Int) (hb : -9223372036854775808 ≤ b ∧ b < 9223372036854775808) : IntsAt (w.alloc (.cells #[.int .i64 b] 3)) (.slice (some ⟨w.heap.size, 0, none⟩) 1 1) [b] :=
  ints_own (base := w.heap.size) ⟨rfl, .inr ⟨w.heap.size, 1, #[.int .i64 b], rfl, Nat.le_refl _, heap_alloc_new w _, Nat.le_refl _, by unfold maxLen; omega, rfl, rfl⟩⟩ (by simp only [List.mem_singleton]; rintro x rfl; exact hb)
theorem bit_shr (u : BitVec 16) (b : Nat) : bits .and .u16 (hd u / (2 : Int) ^ b) 1 = if u.getLsbD b then 1 else 0 := by
  have e : hd u / (2 : Int) ^ b = hd (u >>> b) := by unfold hd; rw [BitVec.toNat_ushiftRight, Nat.shiftRight_eq_div_pow]; exact_mod_cast rfl
  rw [e, show (1 : Int) = hd 1#16 from rfl, and_hd]
  have : u >>> b &&& 1#16 = if u.getLsbD b then 1#16 else 0#16 := by
    apply BitVec.eq_of_getLsbD_eq
    intro i hi
    rw [BitVec.getLsbD_and, BitVec.getLsbD_ushiftRight, BitVec.getLsbD_one]
    by_cases h0 : i = 0
    · subst h0; cases h : u.getLsbD b <;> simp
    · cases h : u.getLsbD b <;> simp [h0]
  rw [this]; split <;> rfl
set_option maxHeartbeats 1600000 in
theorem take_any (n : Int) (A : Option Addr) (m c : Nat) (l : List Vl) (w : World) (h : VolsAt w (.slice A m c) l) (hn : m ≤ 1000000) (hm : ∀ x ∈ l, x.2.length ≤ 1000000) (hn64 : -9223372036854775808 ≤ n ∧ n < 9223372036854775808) :
    Calls Try.prog 10 #[.int .i64 n, .slice A m c] w fun e w' => ∃ v, e = .returned (.tuple #[v, .int .i64 (takeE (usedV l) n)]) ∧ w'.ownsRow w.heap.size 3 1 v (takeV (usedV l) n).length (intsV (takeV (usedV l) n)) ∧ Below w.heap.size w w' := by
  have HFR := Lib.hid (fun w' (hb : Below w.heap.size w w') => free_any A m c l w' (h.below hb (Nat.le_refl _)) hn hm)
  have HUS := Lib.hid (fun w' (hb : Below w.heap.size w w') => used_any A m c l w' (h.below hb (Nat.le_refl _)) hn hm)
  obtain ⟨u, hu⟩ : ∃ u, usedV l = u := ⟨_, rfl⟩
  rw [hu] at HFR HUS ⊢
  clear h hn hm hu
  by_cases h1 : n < 1
  · have hd1 : decide (n < 1) = true := decide_eq_true h1
    have hE : takeE u n = 1 := if_pos (.inl h1)
    have hV : takeV u n = [] := if_pos (.inl h1)
    rw [hE, hV]
    clear h1 hE hV hn64
    go_enter Try.func10, Try.ntmps10
    go_wp2_with fail
    go_ret2
    exact ⟨_, rfl, ⟨rfl, .inl ⟨rfl, rfl⟩⟩, Below.refl _ _⟩
  have hd1 : decide (n < 1) = false := decide_eq_false h1
  by_cases h4 : 4 < n
  · have hd4 : decide (4 < n) = true := decide_eq_true h4
    have hE : takeE u n = 1 := if_pos (.inr h4)
    have hV : takeV u n = [] := if_pos (.inr (.inl h4))
    rw [hE, hV]
    clear h1 hE hV hn64 h4
    go_enter Try.func10, Try.ntmps10
    go_wp2_with fail
    go_ret2
    exact ⟨_, rfl, ⟨rfl, .inl ⟨rfl, rfl⟩⟩, Below.refl _ _⟩
  have hd4 : decide (4 < n) = false := decide_eq_false h4
  obtain ⟨N, rfl⟩ : ∃ N : Nat, n = N := ⟨n.toNat, by omega⟩
  by_cases hf : ((freeL u).length : Int) < N
  · have hdf : decide ((freeL u).length < N) = true := decide_eq_true (by omega)
    have hE : takeE u N = 18 := by unfold takeE; rw [if_neg (by omega), if_pos hf]
    have hV : takeV u N = [] := if_pos (.inr (.inr hf))
    rw [hE, hV]
    clear h1 hE hV hn64 h4 hf
    go_enter Try.func10, Try.ntmps10
    go_wp2_with fail
    refine (HFR.out _ (Below.refl _ _)).mono ?_
    rintro e w2 ⟨rfl, hb⟩
    go_wp2_with fail
    go_ret2
    exact ⟨_, rfl, ⟨rfl, .inl ⟨rfl, rfl⟩⟩, hb⟩
  have hdf : decide ((freeL u).length < N) = false := decide_eq_false (by omega)
  have hE : takeE u N = 0 := by unfold takeE; rw [if_neg (by omega), if_neg hf]
  have hV : takeV u N = (freeL u).take N := by unfold takeV; rw [if_neg (by omega)]; rfl
  rw [hE, hV]
  have HN1 : Hid (1 ≤ N) := Lib.hid (by omega)
  have HN4 : Hid (N ≤ 4) := Lib.hid (by omega)
  have HNF : Hid (N ≤ (freeL u).length) := Lib.hid (by omega)
  clear hE hV hn64 h1 h4 hf
  go_enter Try.func10, Try.ntmps10
  go_wp2_with fail
  refine (HFR.out _ (Below.refl _ _)).mono ?_
  rintro e w2 ⟨rfl, hb⟩
  have HB2 := Lib.hid hb
  clear hb
  go_wp2_with fail
  refine (HUS.out _ HB2.out).mono ?_
  rintro e w3 ⟨rfl, hb⟩
  have HB3 := Lib.hid (HB2.out.trans (hb.mono HB2.out.size))
  clear hb HB2 HFR HUS hd1 hd4 hdf
  have hmk := make_ints N HN1.out HN4.out w3
  go_wp2_with fail
  clear hmk
  go_loopw [7, 8] (fun v i wr => ∃ b K : Nat, b ≤ 12 ∧ K ≤ N ∧ (freeB u b).length = K ∧ i = .int .i64 b ∧ wr.ownsRow w.heap.size 3 1 v K (intsV (freeB u b)) ∧ Below w.heap.size w wr) (fun _ i _ => 12 - (intOf i).toNat)
  case atStart => exact ⟨0, 0, by omega, by omega, rfl, rfl, own_base (own_ints0 w3 N HN4.out) HB3.out.size, HB3.out.trans ((Below.refl _ _).alloc HB3.out.size _)⟩
  case round =>
    obtain ⟨b, K, hb, hK, hKL, rfl, ho, hbl⟩ := hrel
    obtain ⟨B, cc, rfl, hcc⟩ := own_slice_form ho
    have HK := Lib.hid hKL
    have HO := Lib.hid ho
    have HBL := Lib.hid hbl
    have hcK := hcc
    clear hKL ho hbl hcc
    by_cases hlt : K < N
    · have hdd : decide (K < N) = true := decide_eq_true hlt
      have hb12 : b < 12 := by
        rcases Nat.lt_or_ge b 12 with h | h
        · exact h
        · have e : b = 12 := by omega
          subst e
          have := HK.out
          rw [freeB_12] at this
          have := HNF.out
          omega
      have hsh := bit_shr u b
      have hADD := freeB_add u b
      obtain ⟨q, hq⟩ : ∃ q, u.getLsbD b = q := ⟨_, rfl⟩
      rw [hq] at hsh hADD
      have HAD := Lib.hid hADD
      clear hq hADD
      cases q with
      | true =>
        have hsh : bits .and .u16 (hd u / (2 : Int) ^ b) 1 = 1 := hsh
        have HAD2 : Hid (freeB u (b + 1) = freeB u b) := Lib.hid (by rw [HAD.out]; exact List.append_nil _)
        go_wp2_with fail
        refine ⟨⟨b + 1, K, by omega, by omega, by rw [HAD2.out]; exact HK.out, by go_num, by rw [HAD2.out]; exact HO.out, HBL.out⟩, by simp [intOf]; omega⟩
      | false =>
        have hsh : bits .and .u16 (hd u / (2 : Int) ^ b) 1 = 0 := hsh
        have HAD2 : Hid (freeB u (b + 1) = freeB u b ++ [(b : Int)]) := Lib.hid HAD.out
        have HI1 := Lib.hid (ints_one wr (b : Int) (by omega))
        have HAL : Hid (Below w.heap.size w (wr.alloc (.cells #[.int .i64 b] 3))) := Lib.hid (HBL.out.alloc HBL.out.size _)
        have HOA : Hid ((wr.alloc (.cells #[.int .i64 b] 3)).ownsRow w.heap.size 3 1 (.slice B K cc) K (intsV (freeB u b))) := Lib.hid (own_chg HO.out ((Chg.refl (fun _ => False) wr).alloc _) (fun _ _ h => h))
        go_wp2_with (first | ((with_reducible refine wpList_plain ?_ ?_); exact rfl; intro KK hKK; refine wp_append_ints (.tmp 34) (.tmp 36) rfl w.heap.size _ K (freeB u b) rfl HOA.out _ 1 1 [(b : Int)] rfl HI1.out (by have := HN4.out; omega) HAL.out.size (fun kv w5 own1 hb5 => hKK _ _ ?_); clear hKK KK; have HB5 := Lib.hid (HAL.out.trans hb5); have HO5 := Lib.hid own1; clear own1 hb5))
        refine ⟨⟨b + 1, K + 1, by omega, by omega, by rw [HAD2.out, List.length_append, HK.out]; rfl, by go_num, by rw [HAD2.out]; exact HO5.out, HB5.out⟩, by simp [intOf]; omega⟩
    · obtain rfl : K = N := by omega
      have hdd : decide (K < K) = false := decide_eq_false hlt
      go_wp2_with fail
      go_ret2
      have hP := freeB_pre u b hb
      rw [HK.out] at hP
      refine ⟨_, rfl, ?_, HBL.out⟩
      rw [← hP, HK.out]
      exact HO.out
end Go.Proofs.Ytkfccdjeohbngaa
