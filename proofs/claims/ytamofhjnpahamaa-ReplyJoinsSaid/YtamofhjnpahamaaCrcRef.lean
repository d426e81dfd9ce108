/- What the document's own check comes to: crcMore, crcOf. -/
import Derived.Test.YtamofhjnpahamaaCrcMore
set_option maxRecDepth 4000
namespace Go.Proofs.Ytamofhjnpahamaa
open Go Go.RowKit
attribute [local go_sem] xor_hd low_hd convb_hd not_hd signed_u16
set_option maxHeartbeats 800000 in
theorem refmore_any (c : BitVec 16) (q : List (BitVec 8)) (v : Value) (w : World) (hs : Slice w v q) (hn : q.length ≤ maxLen) :
    Calls Try.prog 33 #[.int .u16 (hd c), v] w fun e w' => e = .returned (.int .u16 (hd (crcMore c q))) ∧ w = w' := by
  unfold maxLen at hn
  obtain ⟨A, cp, rfl, _, h3⟩ := hs
  have H3 := Lib.hid h3
  clear h3
  go_enter Try.func33, Try.ntmps33
  go_wp2_with fail
  go_loopw [0, 5] (fun x i wr => ∃ k : Nat, k ≤ q.length ∧ i = .int .i64 k ∧ x = .int .u16 (hd (crcMore c (q.take k))) ∧ wr = w) (fun _ i _ => q.length - (intOf i).toNat)
  case atStart => exact ⟨0, by omega, rfl, rfl, rfl⟩
  case round =>
    obtain ⟨k, hk, rfl, rfl, rfl⟩ := hrel
    by_cases hlt : k < q.length
    · obtain ⟨b, o, rfl, _, h6⟩ := H3.out (by intro e; subst e; simp at hlt)
      have hx := h6 k q[k] (List.getElem?_eq_getElem hlt)
      have HU := Lib.hid (crcMore_take c q k hlt)
      clear h6 H3
      generalize q[k] = x at *
      generalize crcMore c (q.take k) = y at *
      have HS : Hid (∀ n, crcBits (n + 1) (y ^^^ x.setWidth 16) = crcBit (crcBits n (y ^^^ x.setWidth 16))) := Lib.hid fun _ => rfl
      have H0 : Hid (crcBits 0 (y ^^^ x.setWidth 16) = y ^^^ x.setWidth 16) := Lib.hid rfl
      have H8 : Hid (crcByte y x = crcBits 8 (y ^^^ x.setWidth 16)) := Lib.hid rfl
      obtain ⟨D, hD⟩ : ∃ D : Nat → BitVec 16, ∀ n, crcBits n (y ^^^ x.setWidth 16) = D n := ⟨fun n => crcBits n (y ^^^ x.setWidth 16), fun _ => rfl⟩
      have HD := Lib.hid hD
      clear hD
      have H9 : Hid (crcMore c (q.take (k + 1)) = D 8) := Lib.hid (by rw [HU.out, H8.out, HD.out])
      go_wp2_with fail
      go_loopw [0, 6] (fun z j ws => ∃ m : Nat, m ≤ 8 ∧ j = .int .i64 m ∧ z = .int .u16 (hd (D m)) ∧ ws = wr) (fun _ j _ => 8 - (intOf j).toNat)
      case atStart => exact ⟨0, by omega, rfl, by rw [← HD.out 0, H0.out], rfl⟩
      case round =>
        obtain ⟨m, hm, rfl, rfl, rfl⟩ := hrel
        by_cases hlm : m < 8
        · have HV : Hid (D (m + 1) = crcBit (D m)) := Lib.hid (by rw [← HD.out, ← HD.out, HS.out])
          generalize D m = d at *
          rcases lowI_eq d with ⟨hb, hl⟩ | ⟨hb, hl⟩
          · have HN : Hid (crcBit d = (d >>> 1) ^^^ 0x8408#16) := Lib.hid (by unfold crcBit; rw [if_pos hb])
            clear hb
            go_wp2_with fail
            exact ⟨⟨m + 1, by omega, by go_num, by rw [HV.out, HN.out, shr1_hd, xorP_hd], trivial⟩, by simp [intOf]; omega⟩
          · have HN : Hid (crcBit d = d >>> 1) := Lib.hid (by unfold crcBit; rw [hb]; rfl)
            clear hb
            go_wp2_with fail
            exact ⟨⟨m + 1, by omega, by go_num, by rw [HV.out, HN.out, shr1_hd], trivial⟩, by simp [intOf]; omega⟩
        · obtain rfl : m = 8 := by omega
          go_wp2_with fail
          exact ⟨⟨k + 1, by omega, by go_num, by rw [H9.out], trivial⟩, by simp [intOf]; omega⟩
    · obtain rfl : k = q.length := by omega
      rw [List.take_length]
      go_wp2_with fail
      go_ret
      exact ⟨rfl, rfl⟩
set_option maxHeartbeats 400000 in
theorem refcheck_any (ps : List (List (BitVec 8))) (v : Value) (w : World) (hv : Parts w v ps) (hn : ps.length ≤ maxLen) (hq : ∀ q ∈ ps, q.length ≤ maxLen) :
    Calls Try.prog 30 #[v] w fun e w' => e = .returned (.int .u16 (hd (crcOf ps.flatten))) ∧ w = w' := by
  unfold maxLen at hn
  obtain ⟨A, cp, rfl, h3⟩ := hv
  have H3 := Lib.hid h3
  have HQ := Lib.hid hq
  have HE : Hid (crcOf ps.flatten = ~~~ crcMore 0xffff#16 ps.flatten) := Lib.hid rfl
  clear h3 hq
  generalize crcOf ps.flatten = R at *
  go_enter Try.func30, Try.ntmps30
  go_wp2_with fail
  go_loopw [3, 4] (fun x i wr => ∃ k : Nat, k ≤ ps.length ∧ i = .int .i64 k ∧ x = .int .u16 (hd (crcMore 0xffff#16 (ps.take k).flatten)) ∧ wr = w) (fun _ i _ => ps.length - (intOf i).toNat)
  case atStart => exact ⟨0, by omega, rfl, rfl, rfl⟩
  case round =>
    obtain ⟨k, hk, rfl, rfl, rfl⟩ := hrel
    by_cases hlt : k < ps.length
    · obtain ⟨b, o, rfl, _, h6⟩ := H3.out (by intro e; subst e; simp at hlt)
      obtain ⟨u, hu, hs⟩ := h6 k ps[k] (List.getElem?_eq_getElem hlt)
      have HU := Lib.hid (flat_more ps k hlt 0xffff#16)
      have C1 := Lib.hid (refmore_any (crcMore 0xffff#16 (ps.take k).flatten) ps[k] u wr hs (HQ.out _ (List.getElem_mem hlt)))
      clear h6 H3 hs
      generalize crcMore 0xffff#16 (ps.take k).flatten = y at *
      generalize ps[k] = pk at *
      generalize ps.length = n at *
      go_wp2_with fail
      refine C1.out.mono ?_
      rintro e w1 ⟨rfl, rfl⟩
      go_wp2_with fail
      exact ⟨⟨k + 1, by omega, by go_num, by rw [HU.out], trivial⟩, by simp [intOf]; omega⟩
    · obtain rfl : k = ps.length := by omega
      rw [List.take_length]
      go_wp2_with fail
      go_ret
      rw [HE.out]
      exact ⟨rfl, rfl⟩
end Go.Proofs.Ytamofhjnpahamaa
