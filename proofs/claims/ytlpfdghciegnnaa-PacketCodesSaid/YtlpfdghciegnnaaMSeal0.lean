/- Merged: CrcSpec CrcMore CrcRef SealSpec SealRef SealRefE SealRefD SealIf SealPrgH SealPrgE SealPrgD. -/
import Derived.KernelRfl
import Derived.Deep.Cut
import Derived.Test.YtlpfdghciegnnaaMGen0
/- The check of bytes as plain functions on lists of bytes: what a step is, that it is linear and takes no two states to one, and what is left behind a message and its check. No program is named here. -/
set_option maxRecDepth 4000
namespace Go.Proofs.Ytlpfdghciegnnaa
/- one bit, one byte, many bytes -/
def crcBit (c : BitVec 16) : BitVec 16 := if c.getLsbD 0 then (c >>> 1) ^^^ 0x8408#16 else c >>> 1
def crcBits (n : Nat) (c : BitVec 16) : BitVec 16 := Nat.repeat crcBit n c
def crcByte (c : BitVec 16) (x : BitVec 8) : BitVec 16 := crcBits 8 (c ^^^ x.setWidth 16)
def crcMore (c : BitVec 16) (b : List (BitVec 8)) : BitVec 16 := b.foldl crcByte c
def crcOf (b : List (BitVec 8)) : BitVec 16 := ~~~ crcMore 0xffff#16 b
theorem crcMore_append (c : BitVec 16) (a b : List (BitVec 8)) : crcMore c (a ++ b) = crcMore (crcMore c a) b := List.foldl_append
end Go.Proofs.Ytlpfdghciegnnaa

/- What the program's check and the document's come to: crcMore, crcOf. -/
set_option maxRecDepth 4000
namespace Go.Proofs.Ytlpfdghciegnnaa
open Go Go.RowKit
attribute [local go_sem] xor_hd low_hd convb_hd
set_option maxHeartbeats 400000 in
theorem shifted_any (c : BitVec 16) (w : World) :
    Calls Try.prog 38 #[.int .u16 (hd c)] w fun e w' => e = .returned (.int .u16 (hd (crcBits 8 c))) ∧ w = w' := by
  have HS : Hid (∀ n, crcBits (n + 1) c = crcBit (crcBits n c)) := Lib.hid fun _ => rfl
  have H0 : Hid (crcBits 0 c = c) := Lib.hid rfl
  generalize hD : (fun n => crcBits n c) = D at *
  have HD : Hid (∀ n, crcBits n c = D n) := Lib.hid fun n => by rw [← hD]
  clear hD
  rw [HD.out 8]
  go_enter Try.func38, Try.ntmps38
  go_wp2_with fail
  go_loopw [0, 4] (fun v i wr => ∃ k : Nat, k ≤ 8 ∧ i = .int .i64 k ∧ v = .int .u16 (hd (D k)) ∧ wr = w) (fun _ i _ => 8 - (intOf i).toNat)
  case atStart => exact ⟨0, by omega, rfl, by rw [← HD.out 0, H0.out], rfl⟩
  case round =>
    obtain ⟨k, hk, rfl, rfl, rfl⟩ := hrel
    by_cases hlt : k < 8
    · have hu : D (k + 1) = crcBit (D k) := by rw [← HD.out, ← HD.out, HS.out]
      have HU := Lib.hid hu
      clear hu
      generalize D k = x at *
      rcases lowI_eq x with ⟨hb, hl⟩ | ⟨hb, hl⟩
      · have hn : crcBit x = (x >>> 1) ^^^ 0x8408#16 := by unfold crcBit; rw [if_pos hb]
        have HN := Lib.hid hn
        clear hn hb
        go_wp2_with fail
        exact ⟨⟨k + 1, by omega, by go_num, by rw [HU.out, HN.out, shr1_hd, xorP_hd], trivial⟩, by simp [intOf]; omega⟩
      · have hn : crcBit x = x >>> 1 := by unfold crcBit; rw [hb]; rfl
        have HN := Lib.hid hn
        clear hn hb
        go_wp2_with fail
        exact ⟨⟨k + 1, by omega, by go_num, by rw [HU.out, HN.out, shr1_hd], trivial⟩, by simp [intOf]; omega⟩
    · obtain rfl : k = 8 := by omega
      go_wp2_with fail
      go_ret
      exact ⟨rfl, rfl⟩
theorem crcMore_take (c : BitVec 16) (q : List (BitVec 8)) (k : Nat) (hk : k < q.length) : crcMore c (q.take (k + 1)) = crcByte (crcMore c (q.take k)) q[k] := by
  rw [List.take_succ_eq_append_getElem hk, crcMore_append]; rfl
set_option maxHeartbeats 400000 in
theorem more_any (c : BitVec 16) (q : List (BitVec 8)) (v : Value) (w : World) (hs : Slice w v q) (hn : q.length ≤ maxLen) :
    Calls Try.prog 31 #[.int .u16 (hd c), v] w fun e w' => e = .returned (.int .u16 (hd (crcMore c q))) ∧ w = w' := by
  unfold maxLen at hn
  obtain ⟨A, cp, rfl, _, h3⟩ := hs
  have H3 := Lib.hid h3
  clear h3
  go_enter Try.func31, Try.ntmps31
  go_wp2_with fail
  go_loopw [0, 9] (fun x i wr => ∃ k : Nat, k ≤ q.length ∧ i = .int .i64 k ∧ x = .int .u16 (hd (crcMore c (q.take k))) ∧ wr = w) (fun _ i _ => q.length - (intOf i).toNat)
  case atStart => exact ⟨0, by omega, rfl, rfl, rfl⟩
  case round =>
    obtain ⟨k, hk, rfl, rfl, rfl⟩ := hrel
    by_cases hlt : k < q.length
    · obtain ⟨b, o, rfl, _, h6⟩ := H3.out (by intro e; subst e; simp at hlt)
      have hx := h6 k q[k] (List.getElem?_eq_getElem hlt)
      have HU := Lib.hid (crcMore_take c q k hlt)
      clear h6 H3
      generalize q[k] = x at *
      generalize crcMore c (q.take k) = y at *
      generalize q.length = n at *
      have C1 := Lib.hid (shifted_any (y ^^^ x.setWidth 16) wr)
      go_wp2_with fail
      refine C1.out.mono ?_
      rintro e w1 ⟨rfl, rfl⟩
      go_wp2_with fail
      exact ⟨⟨k + 1, by omega, by go_num, by rw [HU.out]; rfl, trivial⟩, by simp [intOf]; omega⟩
    · obtain rfl : k = q.length := by omega
      rw [List.take_length]
      go_wp2_with fail
      go_ret
      exact ⟨rfl, rfl⟩
theorem flat_more (ps : List (List (BitVec 8))) (k : Nat) (hk : k < ps.length) (c : BitVec 16) : crcMore c (ps.take (k + 1)).flatten = crcMore (crcMore c (ps.take k).flatten) ps[k] := by
  rw [flat_succ ps k hk, crcMore_append]
attribute [local go_sem] not_hd signed_u16
set_option maxHeartbeats 400000 in
theorem check_any (ps : List (List (BitVec 8))) (v : Value) (w : World) (hv : Parts w v ps) (hn : ps.length ≤ maxLen) (hq : ∀ q ∈ ps, q.length ≤ maxLen) :
    Calls Try.prog 16 #[v] w fun e w' => e = .returned (.int .u16 (hd (crcOf ps.flatten))) ∧ w = w' := by
  unfold maxLen at hn
  obtain ⟨A, cp, rfl, h3⟩ := hv
  have H3 := Lib.hid h3
  have HQ := Lib.hid hq
  have HE : Hid (crcOf ps.flatten = ~~~ crcMore 0xffff#16 ps.flatten) := Lib.hid rfl
  clear h3 hq
  generalize crcOf ps.flatten = R at *
  go_enter Try.func16, Try.ntmps16
  go_wp2_with fail
  go_loopw [3, 8] (fun x i wr => ∃ k : Nat, k ≤ ps.length ∧ i = .int .i64 k ∧ x = .int .u16 (hd (crcMore 0xffff#16 (ps.take k).flatten)) ∧ wr = w) (fun _ i _ => ps.length - (intOf i).toNat)
  case atStart => exact ⟨0, by omega, rfl, rfl, rfl⟩
  case round =>
    obtain ⟨k, hk, rfl, rfl, rfl⟩ := hrel
    by_cases hlt : k < ps.length
    · obtain ⟨b, o, rfl, _, h6⟩ := H3.out (by intro e; subst e; simp at hlt)
      obtain ⟨u, hu, hs⟩ := h6 k ps[k] (List.getElem?_eq_getElem hlt)
      have HU := Lib.hid (flat_more ps k hlt 0xffff#16)
      have C1 := Lib.hid (more_any (crcMore 0xffff#16 (ps.take k).flatten) ps[k] u wr hs (HQ.out _ (List.getElem_mem hlt)))
      clear h6 H3 hs
      generalize crcMore 0xffff#16 (ps.take k).flatten = y at *
      generalize ps[k] = pk at *
      generalize ps.length = n at *
      go_wp2_with fail
      refine C1.out.mono ?_
      rintro e w1 ⟨rfl, rfl⟩
      go_wp2_with fail
      exact ⟨⟨k + 1, by omega, by go_num, by rw [HU.out], trivial⟩, by simp [intOf]; omega⟩
    · obtain rfl : k = ps.length := by omega
      rw [List.take_length]
      go_wp2_with fail
      go_ret
      rw [HE.out]
      exact ⟨rfl, rfl⟩
end Go.Proofs.Ytlpfdghciegnnaa

/- What the document's own check comes to: crcMore, crcOf. -/
set_option maxRecDepth 4000
namespace Go.Proofs.Ytlpfdghciegnnaa
open Go Go.RowKit
attribute [local go_sem] xor_hd low_hd convb_hd not_hd signed_u16
set_option maxHeartbeats 800000 in
theorem refmore_any (c : BitVec 16) (q : List (BitVec 8)) (v : Value) (w : World) (hs : Slice w v q) (hn : q.length ≤ maxLen) :
    Calls Try.prog 39 #[.int .u16 (hd c), v] w fun e w' => e = .returned (.int .u16 (hd (crcMore c q))) ∧ w = w' := by
  unfold maxLen at hn
  obtain ⟨A, cp, rfl, _, h3⟩ := hs
  have H3 := Lib.hid h3
  clear h3
  go_enter Try.func39, Try.ntmps39
  go_wp2_with fail
  go_loopw [0, 5] (fun x i wr => ∃ k : Nat, k ≤ q.length ∧ i = .int .i64 k ∧ x = .int .u16 (hd (crcMore c (q.take k))) ∧ wr = w) (fun _ i _ => q.length - (intOf i).toNat)
  case atStart => exact ⟨0, by omega, rfl, rfl, rfl⟩
  case round =>
    obtain ⟨k, hk, rfl, rfl, rfl⟩ := hrel
    by_cases hlt : k < q.length
    · obtain ⟨b, o, rfl, _, h6⟩ := H3.out (by intro e; subst e; simp at hlt)
      have hx := h6 k q[k] (List.getElem?_eq_getElem hlt)
      have HU := Lib.hid (crcMore_take c q k hlt)
      clear h6 H3
      generalize q[k] = x at *
      generalize crcMore c (q.take k) = y at *
      have HS : Hid (∀ n, crcBits (n + 1) (y ^^^ x.setWidth 16) = crcBit (crcBits n (y ^^^ x.setWidth 16))) := Lib.hid fun _ => rfl
      have H0 : Hid (crcBits 0 (y ^^^ x.setWidth 16) = y ^^^ x.setWidth 16) := Lib.hid rfl
      have H8 : Hid (crcByte y x = crcBits 8 (y ^^^ x.setWidth 16)) := Lib.hid rfl
      obtain ⟨D, hD⟩ : ∃ D : Nat → BitVec 16, ∀ n, crcBits n (y ^^^ x.setWidth 16) = D n := ⟨fun n => crcBits n (y ^^^ x.setWidth 16), fun _ => rfl⟩
      have HD := Lib.hid hD
      clear hD
      have H9 : Hid (crcMore c (q.take (k + 1)) = D 8) := Lib.hid (by rw [HU.out, H8.out, HD.out])
      go_wp2_with fail
      go_loopw [0, 6] (fun z j ws => ∃ m : Nat, m ≤ 8 ∧ j = .int .i64 m ∧ z = .int .u16 (hd (D m)) ∧ ws = wr) (fun _ j _ => 8 - (intOf j).toNat)
      case atStart => exact ⟨0, by omega, rfl, by rw [← HD.out 0, H0.out], rfl⟩
      case round =>
        obtain ⟨m, hm, rfl, rfl, rfl⟩ := hrel
        by_cases hlm : m < 8
        · have HV : Hid (D (m + 1) = crcBit (D m)) := Lib.hid (by rw [← HD.out, ← HD.out, HS.out])
          generalize D m = d at *
          rcases lowI_eq d with ⟨hb, hl⟩ | ⟨hb, hl⟩
          · have HN : Hid (crcBit d = (d >>> 1) ^^^ 0x8408#16) := Lib.hid (by unfold crcBit; rw [if_pos hb])
            clear hb
            go_wp2_with fail
            exact ⟨⟨m + 1, by omega, by go_num, by rw [HV.out, HN.out, shr1_hd, xorP_hd], trivial⟩, by simp [intOf]; omega⟩
          · have HN : Hid (crcBit d = d >>> 1) := Lib.hid (by unfold crcBit; rw [hb]; rfl)
            clear hb
            go_wp2_with fail
            exact ⟨⟨m + 1, by omega, by go_num, by rw [HV.out, HN.out, shr1_hd], trivial⟩, by simp [intOf]; omega⟩
        · obtain rfl : m = 8 := by omega
          go_wp2_with fail
          exact ⟨⟨k + 1, by omega, by go_num, by rw [H9.out], trivial⟩, by simp [intOf]; omega⟩
    · obtain rfl : k = q.length := by omega
      rw [List.take_length]
      go_wp2_with fail
      go_ret
      exact ⟨rfl, rfl⟩
set_option maxHeartbeats 400000 in
theorem refcheck_any (ps : List (List (BitVec 8))) (v : Value) (w : World) (hv : Parts w v ps) (hn : ps.length ≤ maxLen) (hq : ∀ q ∈ ps, q.length ≤ maxLen) :
    Calls Try.prog 35 #[v] w fun e w' => e = .returned (.int .u16 (hd (crcOf ps.flatten))) ∧ w = w' := by
  unfold maxLen at hn
  obtain ⟨A, cp, rfl, h3⟩ := hv
  have H3 := Lib.hid h3
  have HQ := Lib.hid hq
  have HE : Hid (crcOf ps.flatten = ~~~ crcMore 0xffff#16 ps.flatten) := Lib.hid rfl
  clear h3 hq
  generalize crcOf ps.flatten = R at *
  go_enter Try.func35, Try.ntmps35
  go_wp2_with fail
  go_loopw [3, 4] (fun x i wr => ∃ k : Nat, k ≤ ps.length ∧ i = .int .i64 k ∧ x = .int .u16 (hd (crcMore 0xffff#16 (ps.take k).flatten)) ∧ wr = w) (fun _ i _ => ps.length - (intOf i).toNat)
  case atStart => exact ⟨0, by omega, rfl, rfl, rfl⟩
  case round =>
    obtain ⟨k, hk, rfl, rfl, rfl⟩ := hrel
    by_cases hlt : k < ps.length
    · obtain ⟨b, o, rfl, _, h6⟩ := H3.out (by intro e; subst e; simp at hlt)
      obtain ⟨u, hu, hs⟩ := h6 k ps[k] (List.getElem?_eq_getElem hlt)
      have HU := Lib.hid (flat_more ps k hlt 0xffff#16)
      have C1 := Lib.hid (refmore_any (crcMore 0xffff#16 (ps.take k).flatten) ps[k] u wr hs (HQ.out _ (List.getElem_mem hlt)))
      clear h6 H3 hs
      generalize crcMore 0xffff#16 (ps.take k).flatten = y at *
      generalize ps[k] = pk at *
      generalize ps.length = n at *
      go_wp2_with fail
      refine C1.out.mono ?_
      rintro e w1 ⟨rfl, rfl⟩
      go_wp2_with fail
      exact ⟨⟨k + 1, by omega, by go_num, by rw [HU.out], trivial⟩, by simp [intOf]; omega⟩
    · obtain rfl : k = ps.length := by omega
      rw [List.take_length]
      go_wp2_with fail
      go_ret
      rw [HE.out]
      exact ⟨rfl, rfl⟩
end Go.Proofs.Ytlpfdghciegnnaa

/- A sector with a mark and a check as plain functions on lists of bytes. No program is named here. -/
set_option maxRecDepth 4000
namespace Go.Proofs.Ytlpfdghciegnnaa
def crcTail (b : List (BitVec 8)) : List (BitVec 8) := [(crcOf b).setWidth 8, ((crcOf b) >>> 8).setWidth 8]
end Go.Proofs.Ytlpfdghciegnnaa

/- The document's bytes with their check behind. -/
set_option maxRecDepth 4000
namespace Go.Proofs.Ytlpfdghciegnnaa
open Go Go.RowKit
attribute [local go_sem] lowb_hd lowb8_hd
set_option maxHeartbeats 800000 in
theorem refsealed_any (q : List (BitVec 8)) (v : Value) (w : World) (hv : Item w v q) (hq : q.length ≤ 100000) :
    Calls Try.prog 24 #[v] w fun e w' => ∃ v', e = .returned v' ∧ w'.ownsRow w.heap.size 5 1 v' (q ++ crcTail q).length (bytesV (q ++ crcTail q)) ∧ Below w.heap.size w w' := by
  obtain ⟨A, c, rfl, hS, hA, hm⟩ := hv
  have HA := Lib.hid hA
  have hb1 := (Below.refl w.heap.size w).alloc (Nat.le_refl _) (.cells #[.slice A q.length c] 26)
  have C1 := refcheck_any [q] _ _ (parts1 hS) (by simp [maxLen]) (by simpa using hm)
  rw [show ([q] : List (List (BitVec 8))).flatten = q by simp] at C1
  have HT : Hid (crcTail q = [(crcOf q).setWidth 8, ((crcOf q) >>> 8).setWidth 8]) := Lib.hid rfl
  obtain ⟨z, hz⟩ : ∃ z, crcOf q = z := ⟨_, rfl⟩
  rw [hz] at C1 HT
  obtain ⟨n, hn⟩ : ∃ n, q.length = n := ⟨_, rfl⟩
  have HN := Lib.hid hn
  have HQ : Hid (n ≤ 100000) := Lib.hid (by rw [← hn]; exact hq)
  rw [hn] at hb1 hS C1 ⊢
  have HS1 := Lib.hid (Slice.below hS hb1 (Nat.le_refl _))
  clear hS hm hA hz hn hq
  go_enter Try.func24, Try.ntmps24
  go_wp2_with fail
  refine C1.mono ?_
  rintro e w1 ⟨rfl, rfl⟩
  clear C1
  generalize w.alloc (.cells #[.slice A n c] 26) = w1 at *
  have HS2 := Lib.hid (Slice.below HS1.out ((Below.refl w1.heap.size w1).alloc (Nat.le_refl _) (.cells #[] 5)) (Nat.le_refl _))
  go_wp2_with (first | (at_builtin; refine wpList_append_slice rfl (.tmp 7) (.tmp 8) rfl w1.heap.size _ 0 [] rfl (own_empty w1) A n c q rfl HS2.out HA.out (by have := HQ.out; omega) (by simp) ?_; intro v4 w4 own4 hb4; simp only [Nat.zero_add, List.nil_append] at own4; have HO4 := Lib.hid own4; have HB4 := Lib.hid (((Below.refl w1.heap.size w1).alloc (Nat.le_refl _) (.cells #[] 5)).trans hb4); clear own4 hb4; obtain ⟨B2, hB2⟩ : ∃ B2 : List (BitVec 8), B2 = [z.setWidth 8, (z >>> 8).setWidth 8] := ⟨_, rfl⟩; have HB2 := Lib.hid hB2; clear hB2; have HR4 := Lib.hid (row_slice (Row.fresh w4 5 (bs [z.setWidth 8, (z >>> 8).setWidth 8])) (c := 2) (Nat.le_refl _)); have HO5 := Lib.hid (HO4.out.alloc (.cells (bs [z.setWidth 8, (z >>> 8).setWidth 8]) 5)); have HB5 := Lib.hid (HB4.out.alloc HB4.out.size (.cells (bs [z.setWidth 8, (z >>> 8).setWidth 8]) 5))) | (at_builtin; refine wpList_append_slice rfl (.tmp 9) (.tmp 15) rfl w1.heap.size v4 n (bytesV q) rfl HO5.out (some ⟨w4.heap.size, 0, none⟩) 2 2 [z.setWidth 8, (z >>> 8).setWidth 8] rfl HR4.out (fun h => by cases h) (by have := HQ.out; omega) HB5.out.size ?_; intro v6 w6 own6 hb6; have HO6 := Lib.hid own6; have HB6 := Lib.hid (HB5.out.trans hb6); clear own6 hb6))
  go_ret
  refine ⟨v6, rfl, ?_, hb1.trans (HB6.out.mono hb1.size)⟩
  have h6 := own_mono HO6.out hb1.size
  rw [show bytesV q ++ bytesV [z.setWidth 8, (z >>> 8).setWidth 8] = bytesV (q ++ crcTail q) by rw [HT.out]; simp [bytesV]] at h6
  rw [show (q ++ crcTail q).length = n + 2 by rw [List.length_append, HN.out]; rfl]
  exact h6
end Go.Proofs.Ytlpfdghciegnnaa

/- The document's sector of a mark and a body. -/
set_option maxRecDepth 4000
namespace Go.Proofs.Ytlpfdghciegnnaa
open Go Go.RowKit
end Go.Proofs.Ytlpfdghciegnnaa

/- The document's mark and body of a sector. -/
set_option maxRecDepth 4000
namespace Go.Proofs.Ytlpfdghciegnnaa
open Go Go.RowKit
end Go.Proofs.Ytlpfdghciegnnaa

/- What the statements of seal need to know of the program's seal; bodies compared. -/
set_option maxRecDepth 4000
namespace Go.Proofs.Ytlpfdghciegnnaa
open Go Go.RowKit
end Go.Proofs.Ytlpfdghciegnnaa

/- The helpers of the program's seal: the check that a sector ought to have, a sealed sector as bytes, and of bytes. -/
set_option maxRecDepth 4000
namespace Go.Proofs.Ytlpfdghciegnnaa
open Go Go.RowKit
theorem halves (c : BitVec 16) (x y : BitVec 8) : (c.setWidth 8 = x ∧ (c >>> 8).setWidth 8 = y) ↔ x.setWidth 16 ||| (y.setWidth 16) <<< 8 = c := by
  constructor
  · rintro ⟨rfl, rfl⟩
    apply BitVec.eq_of_getLsbD_eq
    intro i hi
    simp only [BitVec.getLsbD_or, BitVec.getLsbD_setWidth, BitVec.getLsbD_shiftLeft, BitVec.getLsbD_ushiftRight]
    by_cases h : i < 8
    · simp [h, hi]
    · have h2 : i - 8 < 8 := by omega
      simp [h, hi, h2, show 8 + (i - 8) = i by omega, show i - 8 < 16 by omega]
  · rintro rfl
    constructor
    · apply BitVec.eq_of_getLsbD_eq
      intro i hi
      simp only [BitVec.getLsbD_or, BitVec.getLsbD_setWidth, BitVec.getLsbD_shiftLeft]
      simp [hi, show i < 16 by omega]
    · apply BitVec.eq_of_getLsbD_eq
      intro i hi
      simp only [BitVec.getLsbD_or, BitVec.getLsbD_setWidth, BitVec.getLsbD_shiftLeft, BitVec.getLsbD_ushiftRight]
      simp [hi, show 8 + i < 16 by omega, show i < 16 by omega]
theorem shl8_hd (x : BitVec 16) : IntKind.u16.wrap (hd x * (256 : Int)) = hd (x <<< 8) := by
  rw [IntKind.wrap_u16]; unfold hd; have := x.isLt; rw [BitVec.toNat_shiftLeft, Nat.shiftLeft_eq]; omega
attribute [local go_sem] lowb_hd lowb8_hd
end Go.Proofs.Ytlpfdghciegnnaa

/- A sector's bytes as a sealed sector; the program's sector of a mark and a body. -/
set_option maxRecDepth 4000
namespace Go.Proofs.Ytlpfdghciegnnaa
open Go Go.RowKit
attribute [local go_sem] convb_hd shl8_hd or_hd
end Go.Proofs.Ytlpfdghciegnnaa

/- The program's mark and body of a sector; its contracts together. -/
set_option maxRecDepth 4000
namespace Go.Proofs.Ytlpfdghciegnnaa
open Go Go.RowKit
end Go.Proofs.Ytlpfdghciegnnaa
