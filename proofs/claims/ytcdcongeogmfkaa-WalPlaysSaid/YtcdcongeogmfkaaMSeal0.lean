/- Merged: CrcSpec SealSpec CrcMore CrcRef SealRef SealRefE SealRefD SealIf SealPrgH SealPrgE SealPrgD. -/
import Derived.KernelRfl
import Derived.Deep.Cut
import Derived.Test.YtcdcongeogmfkaaMGen0
/- The check of bytes as plain functions on lists of bytes: what a step is, that it is linear and takes no two states to one, and what is left behind a message and its check. No program is named here. -/
set_option maxRecDepth 4000
namespace Go.Proofs.Ytcdcongeogmfkaa
/- one bit, one byte, many bytes -/
def crcBit (c : BitVec 16) : BitVec 16 := if c.getLsbD 0 then (c >>> 1) ^^^ 0x8408#16 else c >>> 1
def crcBits (n : Nat) (c : BitVec 16) : BitVec 16 := Nat.repeat crcBit n c
def crcByte (c : BitVec 16) (x : BitVec 8) : BitVec 16 := crcBits 8 (c ^^^ x.setWidth 16)
def crcMore (c : BitVec 16) (b : List (BitVec 8)) : BitVec 16 := b.foldl crcByte c
def crcOf (b : List (BitVec 8)) : BitVec 16 := ~~~ crcMore 0xffff#16 b
theorem crcMore_append (c : BitVec 16) (a b : List (BitVec 8)) : crcMore c (a ++ b) = crcMore (crcMore c a) b := List.foldl_append
end Go.Proofs.Ytcdcongeogmfkaa

/- A sector with a mark and a check as plain functions on lists of bytes. No program is named here. -/
set_option maxRecDepth 4000
namespace Go.Proofs.Ytcdcongeogmfkaa
def pad30 (m : BitVec 8) (q : List (BitVec 8)) : List (BitVec 8) := m :: (q ++ List.replicate (29 - q.length) 0#8)
def crcTail (b : List (BitVec 8)) : List (BitVec 8) := [(crcOf b).setWidth 8, ((crcOf b) >>> 8).setWidth 8]
def sealedB (m : BitVec 8) (q : List (BitVec 8)) : List (BitVec 8) := pad30 m q ++ crcTail (pad30 m q)
def encBad (m : BitVec 8) (q : List (BitVec 8)) : Bool := decide (m = 0#8) || decide (29 < q.length)
def encB (m : BitVec 8) (q : List (BitVec 8)) : List (BitVec 8) := if encBad m q then List.replicate 32 0#8 else sealedB m q
def encE (m : BitVec 8) (q : List (BitVec 8)) : Int := if encBad m q then 1 else 0
def bodyOf (b : List (BitVec 8)) : List (BitVec 8) := (b.drop 1).take 29
def markOf (b : List (BitVec 8)) : BitVec 8 := b.getD 0 0#8
def decOk (b : List (BitVec 8)) : Bool := decide (markOf b ≠ 0#8) && decide (sealedB (markOf b) (bodyOf b) = b)
def decR (b : List (BitVec 8)) : List (BitVec 8) := if decOk b then b.take 30 else List.replicate 30 0#8
def decE (b : List (BitVec 8)) : Int := if decOk b then 0 else 11
theorem length_pad30 {m : BitVec 8} {q : List (BitVec 8)} (h : q.length ≤ 29) : (pad30 m q).length = 30 := by simp [pad30]; omega
theorem length_crcTail (b : List (BitVec 8)) : (crcTail b).length = 2 := rfl
theorem length_sealedB {m : BitVec 8} {q : List (BitVec 8)} (h : q.length ≤ 29) : (sealedB m q).length = 32 := by simp [sealedB, length_pad30 h, length_crcTail]
theorem encBad_le {m : BitVec 8} {q : List (BitVec 8)} (h : encBad m q = false) : m ≠ 0#8 ∧ q.length ≤ 29 := by
  unfold encBad at h
  simp only [Bool.or_eq_false_iff, decide_eq_false_iff_not] at h
  exact ⟨h.1, by omega⟩
theorem length_encB (m : BitVec 8) (q : List (BitVec 8)) : (encB m q).length = 32 := by
  unfold encB
  cases h : encBad m q with
  | true => simp
  | false => exact length_sealedB (encBad_le h).2
theorem length_bodyOf {b : List (BitVec 8)} (h : b.length = 32) : (bodyOf b).length = 29 := by simp [bodyOf, h]
theorem length_decR {b : List (BitVec 8)} (h : b.length = 32) : (decR b).length = 30 := by
  unfold decR; split <;> simp [h]
theorem pad30_full {m : BitVec 8} {q : List (BitVec 8)} (h : q.length = 29) : pad30 m q = m :: q := by simp [pad30, h]
theorem take30 {b : List (BitVec 8)} (h : b.length = 32) : pad30 (markOf b) (bodyOf b) = b.take 30 := by
  rw [pad30_full (length_bodyOf h)]
  cases b with
  | nil => simp at h
  | cons x b => simp [markOf, bodyOf]
/- a sector is one just if its mark is none of 0 and its check is right -/
theorem decOk_eq {b : List (BitVec 8)} (h : b.length = 32) : decOk b = (decide (markOf b ≠ 0#8) && decide (crcTail (b.take 30) = b.drop 30)) := by
  unfold decOk
  congr 1
  have e : b = b.take 30 ++ b.drop 30 := (List.take_append_drop 30 b).symm
  apply decide_eq_decide.2
  unfold sealedB
  rw [take30 h]
  constructor
  · intro h1
    have h2 : b.take 30 ++ crcTail (b.take 30) = b.take 30 ++ b.drop 30 := h1.trans e
    exact List.append_cancel_left h2
  · intro h1
    rw [h1]; exact e.symm
theorem sealedB_take {m : BitVec 8} {q : List (BitVec 8)} (h : q.length ≤ 29) : (sealedB m q).take 30 = pad30 m q := by
  unfold sealedB
  rw [List.take_append_of_le_length (by rw [length_pad30 h]; exact Nat.le_refl _), List.take_of_length_le (by rw [length_pad30 h]; exact Nat.le_refl _)]
theorem sealedB_drop {m : BitVec 8} {q : List (BitVec 8)} (h : q.length ≤ 29) : (sealedB m q).drop 30 = crcTail (pad30 m q) := by
  unfold sealedB
  rw [List.drop_append, List.drop_of_length_le (by rw [length_pad30 h]; exact Nat.le_refl _), length_pad30 h]
  rfl
theorem markOf_sealedB (m : BitVec 8) (q : List (BitVec 8)) : markOf (sealedB m q) = m := rfl
theorem decOk_sealedB {m : BitVec 8} {q : List (BitVec 8)} (hm : m ≠ 0#8) (h : q.length ≤ 29) : decOk (sealedB m q) = true := by
  rw [decOk_eq (length_sealedB h), markOf_sealedB, sealedB_take h, sealedB_drop h]
  simp [hm]
/- one seal for each mark and padded body -/
theorem sealedB_inj {m : BitVec 8} {p q : List (BitVec 8)} (hp : p.length ≤ 29) (hq : q.length ≤ 29) : sealedB m p = sealedB m q ↔ pad30 m p = pad30 m q := by
  constructor
  · intro h
    rw [← sealedB_take hp, ← sealedB_take hq, h]
  · intro h
    unfold sealedB
    rw [h]
theorem pad30_get {m : BitVec 8} {q : List (BitVec 8)} (i : Nat) (_ : i < 29) : (pad30 m q).getD (i + 1) 0#8 = q.getD i 0#8 := by
  show (q ++ List.replicate (29 - q.length) 0#8).getD i 0#8 = q.getD i 0#8
  rw [List.getD_eq_getElem?_getD, List.getD_eq_getElem?_getD, List.getElem?_append]
  split
  · rfl
  · rename_i h
    rw [List.getElem?_eq_none (by omega : q.length ≤ i), List.getElem?_replicate]
    split <;> rfl
theorem pad30_eq {m : BitVec 8} {p q : List (BitVec 8)} (hp : p.length ≤ 29) (hq : q.length ≤ 29) : pad30 m p = pad30 m q ↔ ∀ i < 29, p.getD i 0#8 = q.getD i 0#8 := by
  constructor
  · intro h i hi
    rw [← pad30_get (m := m) i hi, h, pad30_get i hi]
  · intro h
    apply List.ext_getElem (by rw [length_pad30 hp, length_pad30 hq])
    intro i h1 h2
    rw [length_pad30 hp] at h1
    cases i with
    | zero => rfl
    | succ i =>
      have e1 := pad30_get (m := m) (q := p) i (by omega)
      have e2 := pad30_get (m := m) (q := q) i (by omega)
      have e3 := h i (by omega)
      rw [List.getD_eq_getElem?_getD, List.getElem?_eq_getElem (by rw [length_pad30 hp]; omega), Option.getD_some] at e1
      rw [List.getD_eq_getElem?_getD, List.getElem?_eq_getElem (by rw [length_pad30 hq]; omega), Option.getD_some] at e2
      rw [e1, e2, e3]
end Go.Proofs.Ytcdcongeogmfkaa

/- What the program's check and the document's come to: crcMore, crcOf. -/
set_option maxRecDepth 4000
namespace Go.Proofs.Ytcdcongeogmfkaa
open Go Go.RowKit
attribute [local go_sem] xor_hd low_hd convb_hd
set_option maxHeartbeats 400000 in
theorem shifted_any (c : BitVec 16) (w : World) :
    Calls Try.prog 61 #[.int .u16 (hd c)] w fun e w' => e = .returned (.int .u16 (hd (crcBits 8 c))) ∧ w = w' := by
  have HS : Hid (∀ n, crcBits (n + 1) c = crcBit (crcBits n c)) := Lib.hid fun _ => rfl
  have H0 : Hid (crcBits 0 c = c) := Lib.hid rfl
  generalize hD : (fun n => crcBits n c) = D at *
  have HD : Hid (∀ n, crcBits n c = D n) := Lib.hid fun n => by rw [← hD]
  clear hD
  rw [HD.out 8]
  go_enter Try.func61, Try.ntmps61
  go_wp2_with fail
  go_loopw [0, 4] (fun v i wr => ∃ k : Nat, k ≤ 8 ∧ i = .int .i64 k ∧ v = .int .u16 (hd (D k)) ∧ wr = w) (fun _ i _ => 8 - (intOf i).toNat)
  case atStart => exact ⟨0, by omega, rfl, by rw [← HD.out 0, H0.out], rfl⟩
  case round =>
    obtain ⟨k, hk, rfl, rfl, rfl⟩ := hrel
    by_cases hlt : k < 8
    · have hu : D (k + 1) = crcBit (D k) := by rw [← HD.out, ← HD.out, HS.out]
      have HU := Lib.hid hu
      clear hu
      generalize D k = x at *
      rcases lowI_eq x with ⟨hb, hl⟩ | ⟨hb, hl⟩
      · have hn : crcBit x = (x >>> 1) ^^^ 0x8408#16 := by unfold crcBit; rw [if_pos hb]
        have HN := Lib.hid hn
        clear hn hb
        go_wp2_with fail
        exact ⟨⟨k + 1, by omega, by go_num, by rw [HU.out, HN.out, shr1_hd, xorP_hd], trivial⟩, by simp [intOf]; omega⟩
      · have hn : crcBit x = x >>> 1 := by unfold crcBit; rw [hb]; rfl
        have HN := Lib.hid hn
        clear hn hb
        go_wp2_with fail
        exact ⟨⟨k + 1, by omega, by go_num, by rw [HU.out, HN.out, shr1_hd], trivial⟩, by simp [intOf]; omega⟩
    · obtain rfl : k = 8 := by omega
      go_wp2_with fail
      go_ret
      exact ⟨rfl, rfl⟩
theorem crcMore_take (c : BitVec 16) (q : List (BitVec 8)) (k : Nat) (hk : k < q.length) : crcMore c (q.take (k + 1)) = crcByte (crcMore c (q.take k)) q[k] := by
  rw [List.take_succ_eq_append_getElem hk, crcMore_append]; rfl
set_option maxHeartbeats 400000 in
theorem more_any (c : BitVec 16) (q : List (BitVec 8)) (v : Value) (w : World) (hs : Slice w v q) (hn : q.length ≤ maxLen) :
    Calls Try.prog 60 #[.int .u16 (hd c), v] w fun e w' => e = .returned (.int .u16 (hd (crcMore c q))) ∧ w = w' := by
  unfold maxLen at hn
  obtain ⟨A, cp, rfl, _, h3⟩ := hs
  have H3 := Lib.hid h3
  clear h3
  go_enter Try.func60, Try.ntmps60
  go_wp2_with fail
  go_loopw [0, 9] (fun x i wr => ∃ k : Nat, k ≤ q.length ∧ i = .int .i64 k ∧ x = .int .u16 (hd (crcMore c (q.take k))) ∧ wr = w) (fun _ i _ => q.length - (intOf i).toNat)
  case atStart => exact ⟨0, by omega, rfl, rfl, rfl⟩
  case round =>
    obtain ⟨k, hk, rfl, rfl, rfl⟩ := hrel
    by_cases hlt : k < q.length
    · obtain ⟨b, o, rfl, _, h6⟩ := H3.out (by intro e; subst e; simp at hlt)
      have hx := h6 k q[k] (List.getElem?_eq_getElem hlt)
      have HU := Lib.hid (crcMore_take c q k hlt)
      clear h6 H3
      generalize q[k] = x at *
      generalize crcMore c (q.take k) = y at *
      generalize q.length = n at *
      have C1 := Lib.hid (shifted_any (y ^^^ x.setWidth 16) wr)
      go_wp2_with fail
      refine C1.out.mono ?_
      rintro e w1 ⟨rfl, rfl⟩
      go_wp2_with fail
      exact ⟨⟨k + 1, by omega, by go_num, by rw [HU.out]; rfl, trivial⟩, by simp [intOf]; omega⟩
    · obtain rfl : k = q.length := by omega
      rw [List.take_length]
      go_wp2_with fail
      go_ret
      exact ⟨rfl, rfl⟩
theorem flat_more (ps : List (List (BitVec 8))) (k : Nat) (hk : k < ps.length) (c : BitVec 16) : crcMore c (ps.take (k + 1)).flatten = crcMore (crcMore c (ps.take k).flatten) ps[k] := by
  rw [flat_succ ps k hk, crcMore_append]
attribute [local go_sem] not_hd signed_u16
set_option maxHeartbeats 400000 in
theorem check_any (ps : List (List (BitVec 8))) (v : Value) (w : World) (hv : Parts w v ps) (hn : ps.length ≤ maxLen) (hq : ∀ q ∈ ps, q.length ≤ maxLen) :
    Calls Try.prog 59 #[v] w fun e w' => e = .returned (.int .u16 (hd (crcOf ps.flatten))) ∧ w = w' := by
  unfold maxLen at hn
  obtain ⟨A, cp, rfl, h3⟩ := hv
  have H3 := Lib.hid h3
  have HQ := Lib.hid hq
  have HE : Hid (crcOf ps.flatten = ~~~ crcMore 0xffff#16 ps.flatten) := Lib.hid rfl
  clear h3 hq
  generalize crcOf ps.flatten = R at *
  go_enter Try.func59, Try.ntmps59
  go_wp2_with fail
  go_loopw [3, 8] (fun x i wr => ∃ k : Nat, k ≤ ps.length ∧ i = .int .i64 k ∧ x = .int .u16 (hd (crcMore 0xffff#16 (ps.take k).flatten)) ∧ wr = w) (fun _ i _ => ps.length - (intOf i).toNat)
  case atStart => exact ⟨0, by omega, rfl, rfl, rfl⟩
  case round =>
    obtain ⟨k, hk, rfl, rfl, rfl⟩ := hrel
    by_cases hlt : k < ps.length
    · obtain ⟨b, o, rfl, _, h6⟩ := H3.out (by intro e; subst e; simp at hlt)
      obtain ⟨u, hu, hs⟩ := h6 k ps[k] (List.getElem?_eq_getElem hlt)
      have HU := Lib.hid (flat_more ps k hlt 0xffff#16)
      have C1 := Lib.hid (more_any (crcMore 0xffff#16 (ps.take k).flatten) ps[k] u wr hs (HQ.out _ (List.getElem_mem hlt)))
      clear h6 H3 hs
      generalize crcMore 0xffff#16 (ps.take k).flatten = y at *
      generalize ps[k] = pk at *
      generalize ps.length = n at *
      go_wp2_with fail
      refine C1.out.mono ?_
      rintro e w1 ⟨rfl, rfl⟩
      go_wp2_with fail
      exact ⟨⟨k + 1, by omega, by go_num, by rw [HU.out], trivial⟩, by simp [intOf]; omega⟩
    · obtain rfl : k = ps.length := by omega
      rw [List.take_length]
      go_wp2_with fail
      go_ret
      rw [HE.out]
      exact ⟨rfl, rfl⟩
end Go.Proofs.Ytcdcongeogmfkaa

/- What the document's own check comes to: crcMore, crcOf. -/
set_option maxRecDepth 4000
namespace Go.Proofs.Ytcdcongeogmfkaa
open Go Go.RowKit
attribute [local go_sem] xor_hd low_hd convb_hd not_hd signed_u16
set_option maxHeartbeats 800000 in
theorem refmore_any (c : BitVec 16) (q : List (BitVec 8)) (v : Value) (w : World) (hs : Slice w v q) (hn : q.length ≤ maxLen) :
    Calls Try.prog 58 #[.int .u16 (hd c), v] w fun e w' => e = .returned (.int .u16 (hd (crcMore c q))) ∧ w = w' := by
  unfold maxLen at hn
  obtain ⟨A, cp, rfl, _, h3⟩ := hs
  have H3 := Lib.hid h3
  clear h3
  go_enter Try.func58, Try.ntmps58
  go_wp2_with fail
  go_loopw [0, 5] (fun x i wr => ∃ k : Nat, k ≤ q.length ∧ i = .int .i64 k ∧ x = .int .u16 (hd (crcMore c (q.take k))) ∧ wr = w) (fun _ i _ => q.length - (intOf i).toNat)
  case atStart => exact ⟨0, by omega, rfl, rfl, rfl⟩
  case round =>
    obtain ⟨k, hk, rfl, rfl, rfl⟩ := hrel
    by_cases hlt : k < q.length
    · obtain ⟨b, o, rfl, _, h6⟩ := H3.out (by intro e; subst e; simp at hlt)
      have hx := h6 k q[k] (List.getElem?_eq_getElem hlt)
      have HU := Lib.hid (crcMore_take c q k hlt)
      clear h6 H3
      generalize q[k] = x at *
      generalize crcMore c (q.take k) = y at *
      have HS : Hid (∀ n, crcBits (n + 1) (y ^^^ x.setWidth 16) = crcBit (crcBits n (y ^^^ x.setWidth 16))) := Lib.hid fun _ => rfl
      have H0 : Hid (crcBits 0 (y ^^^ x.setWidth 16) = y ^^^ x.setWidth 16) := Lib.hid rfl
      have H8 : Hid (crcByte y x = crcBits 8 (y ^^^ x.setWidth 16)) := Lib.hid rfl
      obtain ⟨D, hD⟩ : ∃ D : Nat → BitVec 16, ∀ n, crcBits n (y ^^^ x.setWidth 16) = D n := ⟨fun n => crcBits n (y ^^^ x.setWidth 16), fun _ => rfl⟩
      have HD := Lib.hid hD
      clear hD
      have H9 : Hid (crcMore c (q.take (k + 1)) = D 8) := Lib.hid (by rw [HU.out, H8.out, HD.out])
      go_wp2_with fail
      go_loopw [0, 6] (fun z j ws => ∃ m : Nat, m ≤ 8 ∧ j = .int .i64 m ∧ z = .int .u16 (hd (D m)) ∧ ws = wr) (fun _ j _ => 8 - (intOf j).toNat)
      case atStart => exact ⟨0, by omega, rfl, by rw [← HD.out 0, H0.out], rfl⟩
      case round =>
        obtain ⟨m, hm, rfl, rfl, rfl⟩ := hrel
        by_cases hlm : m < 8
        · have HV : Hid (D (m + 1) = crcBit (D m)) := Lib.hid (by rw [← HD.out, ← HD.out, HS.out])
          generalize D m = d at *
          rcases lowI_eq d with ⟨hb, hl⟩ | ⟨hb, hl⟩
          · have HN : Hid (crcBit d = (d >>> 1) ^^^ 0x8408#16) := Lib.hid (by unfold crcBit; rw [if_pos hb])
            clear hb
            go_wp2_with fail
            exact ⟨⟨m + 1, by omega, by go_num, by rw [HV.out, HN.out, shr1_hd, xorP_hd], trivial⟩, by simp [intOf]; omega⟩
          · have HN : Hid (crcBit d = d >>> 1) := Lib.hid (by unfold crcBit; rw [hb]; rfl)
            clear hb
            go_wp2_with fail
            exact ⟨⟨m + 1, by omega, by go_num, by rw [HV.out, HN.out, shr1_hd], trivial⟩, by simp [intOf]; omega⟩
        · obtain rfl : m = 8 := by omega
          go_wp2_with fail
          exact ⟨⟨k + 1, by omega, by go_num, by rw [H9.out], trivial⟩, by simp [intOf]; omega⟩
    · obtain rfl : k = q.length := by omega
      rw [List.take_length]
      go_wp2_with fail
      go_ret
      exact ⟨rfl, rfl⟩
set_option maxHeartbeats 400000 in
theorem refcheck_any (ps : List (List (BitVec 8))) (v : Value) (w : World) (hv : Parts w v ps) (hn : ps.length ≤ maxLen) (hq : ∀ q ∈ ps, q.length ≤ maxLen) :
    Calls Try.prog 52 #[v] w fun e w' => e = .returned (.int .u16 (hd (crcOf ps.flatten))) ∧ w = w' := by
  unfold maxLen at hn
  obtain ⟨A, cp, rfl, h3⟩ := hv
  have H3 := Lib.hid h3
  have HQ := Lib.hid hq
  have HE : Hid (crcOf ps.flatten = ~~~ crcMore 0xffff#16 ps.flatten) := Lib.hid rfl
  clear h3 hq
  generalize crcOf ps.flatten = R at *
  go_enter Try.func52, Try.ntmps52
  go_wp2_with fail
  go_loopw [3, 4] (fun x i wr => ∃ k : Nat, k ≤ ps.length ∧ i = .int .i64 k ∧ x = .int .u16 (hd (crcMore 0xffff#16 (ps.take k).flatten)) ∧ wr = w) (fun _ i _ => ps.length - (intOf i).toNat)
  case atStart => exact ⟨0, by omega, rfl, rfl, rfl⟩
  case round =>
    obtain ⟨k, hk, rfl, rfl, rfl⟩ := hrel
    by_cases hlt : k < ps.length
    · obtain ⟨b, o, rfl, _, h6⟩ := H3.out (by intro e; subst e; simp at hlt)
      obtain ⟨u, hu, hs⟩ := h6 k ps[k] (List.getElem?_eq_getElem hlt)
      have HU := Lib.hid (flat_more ps k hlt 0xffff#16)
      have C1 := Lib.hid (refmore_any (crcMore 0xffff#16 (ps.take k).flatten) ps[k] u wr hs (HQ.out _ (List.getElem_mem hlt)))
      clear h6 H3 hs
      generalize crcMore 0xffff#16 (ps.take k).flatten = y at *
      generalize ps[k] = pk at *
      generalize ps.length = n at *
      go_wp2_with fail
      refine C1.out.mono ?_
      rintro e w1 ⟨rfl, rfl⟩
      go_wp2_with fail
      exact ⟨⟨k + 1, by omega, by go_num, by rw [HU.out], trivial⟩, by simp [intOf]; omega⟩
    · obtain rfl : k = ps.length := by omega
      rw [List.take_length]
      go_wp2_with fail
      go_ret
      rw [HE.out]
      exact ⟨rfl, rfl⟩
end Go.Proofs.Ytcdcongeogmfkaa

/- The document's bytes with their check behind. -/
set_option maxRecDepth 4000
namespace Go.Proofs.Ytcdcongeogmfkaa
open Go Go.RowKit
attribute [local go_sem] lowb_hd lowb8_hd
set_option maxHeartbeats 800000 in
theorem refsealed_any (q : List (BitVec 8)) (v : Value) (w : World) (hv : Item w v q) (hq : q.length ≤ 100000) :
    Calls Try.prog 41 #[v] w fun e w' => ∃ v', e = .returned v' ∧ w'.ownsRow w.heap.size 5 1 v' (q ++ crcTail q).length (bytesV (q ++ crcTail q)) ∧ Below w.heap.size w w' := by
  obtain ⟨A, c, rfl, hS, hA, hm⟩ := hv
  have HA := Lib.hid hA
  have hb1 := (Below.refl w.heap.size w).alloc (Nat.le_refl _) (.cells #[.slice A q.length c] 37)
  have C1 := refcheck_any [q] _ _ (parts1 hS) (by simp [maxLen]) (by simpa using hm)
  rw [show ([q] : List (List (BitVec 8))).flatten = q by simp] at C1
  have HT : Hid (crcTail q = [(crcOf q).setWidth 8, ((crcOf q) >>> 8).setWidth 8]) := Lib.hid rfl
  obtain ⟨z, hz⟩ : ∃ z, crcOf q = z := ⟨_, rfl⟩
  rw [hz] at C1 HT
  obtain ⟨n, hn⟩ : ∃ n, q.length = n := ⟨_, rfl⟩
  have HN := Lib.hid hn
  have HQ : Hid (n ≤ 100000) := Lib.hid (by rw [← hn]; exact hq)
  rw [hn] at hb1 hS C1 ⊢
  have HS1 := Lib.hid (Slice.below hS hb1 (Nat.le_refl _))
  clear hS hm hA hz hn hq
  go_enter Try.func41, Try.ntmps41
  go_wp2_with fail
  refine C1.mono ?_
  rintro e w1 ⟨rfl, rfl⟩
  clear C1
  generalize w.alloc (.cells #[.slice A n c] 37) = w1 at *
  have HS2 := Lib.hid (Slice.below HS1.out ((Below.refl w1.heap.size w1).alloc (Nat.le_refl _) (.cells #[] 5)) (Nat.le_refl _))
  go_wp2_with (first | (at_builtin; refine wpList_append_slice rfl (.tmp 7) (.tmp 8) rfl w1.heap.size _ 0 [] rfl (own_empty w1) A n c q rfl HS2.out HA.out (by have := HQ.out; omega) (by simp) ?_; intro v4 w4 own4 hb4; simp only [Nat.zero_add, List.nil_append] at own4; have HO4 := Lib.hid own4; have HB4 := Lib.hid (((Below.refl w1.heap.size w1).alloc (Nat.le_refl _) (.cells #[] 5)).trans hb4); clear own4 hb4; obtain ⟨B2, hB2⟩ : ∃ B2 : List (BitVec 8), B2 = [z.setWidth 8, (z >>> 8).setWidth 8] := ⟨_, rfl⟩; have HB2 := Lib.hid hB2; clear hB2; have HR4 := Lib.hid (row_slice (Row.fresh w4 5 (bs [z.setWidth 8, (z >>> 8).setWidth 8])) (c := 2) (Nat.le_refl _)); have HO5 := Lib.hid (HO4.out.alloc (.cells (bs [z.setWidth 8, (z >>> 8).setWidth 8]) 5)); have HB5 := Lib.hid (HB4.out.alloc HB4.out.size (.cells (bs [z.setWidth 8, (z >>> 8).setWidth 8]) 5))) | (at_builtin; refine wpList_append_slice rfl (.tmp 9) (.tmp 15) rfl w1.heap.size v4 n (bytesV q) rfl HO5.out (some ⟨w4.heap.size, 0, none⟩) 2 2 [z.setWidth 8, (z >>> 8).setWidth 8] rfl HR4.out (fun h => by cases h) (by have := HQ.out; omega) HB5.out.size ?_; intro v6 w6 own6 hb6; have HO6 := Lib.hid own6; have HB6 := Lib.hid (HB5.out.trans hb6); clear own6 hb6))
  go_ret
  refine ⟨v6, rfl, ?_, hb1.trans (HB6.out.mono hb1.size)⟩
  have h6 := own_mono HO6.out hb1.size
  rw [show bytesV q ++ bytesV [z.setWidth 8, (z >>> 8).setWidth 8] = bytesV (q ++ crcTail q) by rw [HT.out]; simp [bytesV]] at h6
  rw [show (q ++ crcTail q).length = n + 2 by rw [List.length_append, HN.out]; rfl]
  exact h6
end Go.Proofs.Ytcdcongeogmfkaa

/- The document's sector of a mark and a body. -/
set_option maxRecDepth 4000
namespace Go.Proofs.Ytcdcongeogmfkaa
open Go Go.RowKit
theorem encB_bad {m : BitVec 8} {q : List (BitVec 8)} (h : encBad m q = true) : encB m q = blk 0#8 := by unfold encB; rw [if_pos h]; rfl
theorem encE_bad {m : BitVec 8} {q : List (BitVec 8)} (h : encBad m q = true) : encE m q = 1 := by unfold encE; rw [if_pos h]
theorem encB_good {m : BitVec 8} {q : List (BitVec 8)} (h : encBad m q = false) : encB m q = sealedB m q := by unfold encB; rw [h]; rfl
theorem encE_good {m : BitVec 8} {q : List (BitVec 8)} (h : encBad m q = false) : encE m q = 0 := by unfold encE; rw [h]; rfl
theorem bd_zero_iff (m : BitVec 8) : (bd m == 0) = decide (m = 0#8) := by
  by_cases h : m = 0#8
  · subst h; rfl
  · rw [decide_eq_false h]
    exact beq_eq_false_iff_ne.2 fun e => h (bd_inj (by rw [e]; rfl))
structure EncAt (w W : World) (g4 g7 : Nat) (v6 : Value) (p : List (BitVec 8)) : Prop where
  r4 : Row W g4 52 (bs (blk 0#8))
  r7 : Row W g7 52 (bs (blk 0#8))
  it : Item W v6 p
  below : Below w.heap.size w W
  lo4 : w.heap.size ≤ g4
  lo7 : w.heap.size ≤ g7
  ne : g4 ≠ g7
theorem encAt_stays {w W W' : World} {g4 g7 : Nat} {v6 : Value} {p : List (BitVec 8)} (h : EncAt w W g4 g7 v6 p) (k : Same W W') : EncAt w W' g4 g7 v6 p :=
  ⟨h.r4.call k, h.r7.call k, h.it.below k (Nat.le_refl _), h.below.trans (k.mono h.below.size), h.lo4, h.lo7, h.ne⟩
structure EncDone (w W : World) (g4 g7 : Nat) (b : List (BitVec 8)) : Prop where
  r4 : Row W g4 52 (bs (blk 0#8))
  r7 : Row W g7 52 (bs b)
  below : Below w.heap.size w W
theorem encDone_stays {w W W' : World} {g4 g7 : Nat} {b : List (BitVec 8)} (h : EncDone w W g4 g7 b) (k : Same W W') : EncDone w W' g4 g7 b :=
  ⟨h.r4.call k, h.r7.call k, h.below.trans (k.mono h.below.size)⟩
theorem spl_all (p b : List (BitVec 8)) (h : p.length = b.length) : spl p 0 b = b := by
  unfold spl
  rw [List.take_zero, List.nil_append, Nat.zero_add, List.drop_of_length_le (by omega), List.append_nil]
theorem own_item {w : World} {base : Nat} {v : Value} {q : List (BitVec 8)} (h : w.ownsRow base 5 1 v q.length (bytesV q)) (hq : q.length ≤ maxLen) : Item w v q := by
  have hS := own_slice h
  obtain ⟨A, c, rfl, h1, h2⟩ := hS
  refine ⟨A, c, rfl, ⟨A, c, rfl, h1, h2⟩, ?_, hq⟩
  rintro rfl
  rcases h.2 with ⟨e, _⟩ | ⟨g, cap, cur, e, _⟩
  · injection e
  · injection e with e; cases e
set_option maxRecDepth 20000 in
set_option maxHeartbeats 1600000 in
theorem refenc_any (m : BitVec 8) (q : List (BitVec 8)) (v : Value) (w : World) (hv : Item w v q) :
    Calls Try.prog 20 #[.int .u8 (bd m), v] w fun e w' => e = .returned (.tuple #[.agg (bs (encB m q)), .int .i64 (encE m q)]) ∧ Below w.heap.size w w' := by
  obtain ⟨A, c, rfl, hS, hA, hm⟩ := hv
  obtain ⟨n, hn⟩ : ∃ n, q.length = n := ⟨_, rfl⟩
  have HN := Lib.hid hn
  have hb1 := (Below.refl w.heap.size w).alloc (Nat.le_refl _) (.cells (bs (blk 0#8)) 52)
  have hz := zeros_blk
  have H0 : Hid ((bs (blk 0#8)).size = 32) := Lib.hid (by rw [size_bs]; exact length_blk _)
  have rz := Row.fresh w 52 (bs (blk 0#8))
  have hB : encBad m q = (decide (m = 0#8) || decide (29 < q.length)) := rfl
  rw [hn] at hB hS hm ⊢
  by_cases h0 : m = 0#8
  · have hbad : encBad m q = true := by rw [hB, decide_eq_true h0]; rfl
    have hd : (bd m == 0) = true := by rw [bd_zero_iff, decide_eq_true h0]
    clear hn h0
    clear hS hA hm hB
    have e1 := Lib.hid (encB_bad hbad)
    have e2 := Lib.hid (encE_bad hbad)
    clear hbad
    go_enter Try.func20, Try.ntmps20
    go_wp2_with (first | (refine wpList_store_row rfl 52 _ _ rfl w.heap.size (bs (blk 0#8)) rfl rfl 52 _ rz (by rw [H0.out]; exact size_blk) rfl (one_bs _) ?_))
    exact bodyPost_ret (v := .tuple #[.agg (bs (blk 0#8)), .int .i64 1]) (results_cell_tmp Try.results20 _ _ w.heap.size 52 (bs (blk 0#8)) (0, 0) _ rfl (rz.setRow _) Try.underlying52 rfl (by rw [H0.out]; exact size_blk)) rfl ⟨by rw [e1.out, e2.out], below_setRow hb1 (Nat.le_refl _) _⟩
  by_cases h29 : 29 < n
  · have hbad : encBad m q = true := by rw [hB, decide_eq_true h29, Bool.or_true]
    have hd : (bd m == 0) = false := by rw [bd_zero_iff, decide_eq_false h0]
    have hd2 : decide ((29 : Int) < (n : Int)) = true := decide_eq_true (by omega)
    clear hn h0 h29
    clear hS hA hm hB
    have e1 := Lib.hid (encB_bad hbad)
    have e2 := Lib.hid (encE_bad hbad)
    clear hbad
    go_enter Try.func20, Try.ntmps20
    go_wp2_with (first | (refine wpList_store_row rfl 52 _ _ rfl w.heap.size (bs (blk 0#8)) rfl rfl 52 _ rz (by rw [H0.out]; exact size_blk) rfl (one_bs _) ?_))
    exact bodyPost_ret (v := .tuple #[.agg (bs (blk 0#8)), .int .i64 1]) (results_cell_tmp Try.results20 _ _ w.heap.size 52 (bs (blk 0#8)) (0, 0) _ rfl (rz.setRow _) Try.underlying52 rfl (by rw [H0.out]; exact size_blk)) rfl ⟨by rw [e1.out, e2.out], below_setRow hb1 (Nat.le_refl _) _⟩
  have hgood : encBad m q = false := by rw [hB, decide_eq_false h0, decide_eq_false h29]; rfl
  have HEB := Lib.hid (encB_good hgood)
  have HEE := Lib.hid (encE_good hgood)
  have HP30 : Hid ((pad30 m q).length = 30) := Lib.hid (length_pad30 (by omega))
  have HS32 : Hid ((sealedB m q).length = 32) := Lib.hid (length_sealedB (by omega))
  have HPB : Hid (bytesV (pad30 m q) = [.int .u8 (bd m)] ++ bytesV q ++ bytesV (zer (29 - n))) := Lib.hid (by rw [← hn]; simp [pad30, bytesV, zer])
  have HA := Lib.hid hA
  have hd : (bd m == 0) = false := by rw [bd_zero_iff, decide_eq_false h0]
  have hd2 : decide ((29 : Int) < (n : Int)) = false := decide_eq_false (by omega)
  have hn29 : n ≤ 29 := by omega
  have HSw := Lib.hid hS
  clear hn h0 h29 hgood hB hA hm hS
  go_enter Try.func20, Try.ntmps20
  go_upto_region 3 with fail
  clear hd hd2
  have HR4 := Lib.hid rz
  have HB1 := Lib.hid hb1
  obtain ⟨g4, hg4⟩ : ∃ g4, w.heap.size = g4 := ⟨_, rfl⟩
  have HG4 : Hid (w.heap.size ≤ g4) := Lib.hid (Nat.le_of_eq hg4)
  generalize w.alloc (.cells (bs (blk 0#8)) 52) = w1 at *
  rw [hg4] at HR4
  rw [hg4]
  have hlt4 : g4 < w1.heap.size := HR4.out.lt
  have O1 : Hid ((w1.alloc (.cells #[.int .u8 (bd m)] 5)).ownsRow w1.heap.size 5 1 (.slice (some ⟨w1.heap.size, 0, none⟩) 1 1) 1 [.int .u8 (bd m)]) := Lib.hid (own_built w1 [m] (by simp [maxLen]))
  have HS1 := Lib.hid (Slice.below HSw.out (HB1.out.alloc HB1.out.size (.cells #[.int .u8 (bd m)] 5)) (Nat.le_refl _))
  clear rz hb1 hg4
  have HLT4 := Lib.hid hlt4
  clear hlt4
  go_wp2_with (first | (at_builtin; refine wpList_append_slice rfl (.tmp 17) (.tmp 18) rfl w1.heap.size _ 1 [.int .u8 (bd m)] rfl O1.out A n c q rfl HS1.out HA.out (by omega) (by simp) ?_; intro v6 w6 own6 hb6; obtain ⟨A6, c6, rfl, hc6⟩ := own_slice_form own6; have HO6 := Lib.hid own6; have HB6 := Lib.hid (((Below.refl w1.heap.size w1).alloc (Nat.le_refl _) (.cells #[.int .u8 (bd m)] 5)).trans hb6); clear own6 hb6 hc6) | (at_builtin; refine wpList_append_zeros rfl (.tmp 20) (.tmp 23) rfl w1.heap.size _ (1 + n) _ rfl HO6.out _ (29 - n) rfl (by omega) (by omega) HB6.out.size ?_; intro v8 w8 own8 hb8; have HO8 := Lib.hid own8; have HB8 := Lib.hid (HB6.out.trans hb8); clear own8 hb8))
  have HE : Hid (EncAt w (w8.alloc (.cells (bs (blk 0#8)) 52)) g4 w8.heap.size v8 (pad30 m q)) := Lib.hid (by
    have h1 := HR4.out.call HB8.out
    have h2 : w8.ownsRow w1.heap.size 5 1 v8 (pad30 m q).length (bytesV (pad30 m q)) := by
      rw [HPB.out, HP30.out, show 30 = 1 + n + (29 - n) by omega]; exact HO8.out
    have h3 : Below w.heap.size w w8 := HB1.out.trans (HB8.out.mono HB1.out.size)
    exact ⟨h1.alloc _, Row.fresh _ _ _, (own_item h2 (by rw [HP30.out]; decide)).below (Same.alloc _ _) (Nat.le_refl _), h3.alloc h3.size _, HG4.out, h3.size, Nat.ne_of_lt h1.lt⟩)
  clear HO6 HB6 HO8 HB8 HSw HS1 O1 HR4 HB1
  obtain ⟨g7, hg7⟩ : ∃ g7, w8.heap.size = g7 := ⟨_, rfl⟩
  rw [hg7] at HE
  rw [hg7]
  generalize w8.alloc (.cells (bs (blk 0#8)) 52) = W8 at *
  clear hg7 hn29
  have hF0 : Wl [fun W => EncAt w W g4 g7 v8 (pad30 m q), fun W => EncDone w W g4 g7 (sealedB m q)] 0 W8.drew := encAt_stays HE.out (Below.refl _ _).drew
  refine wp_region_phs [is (.slice (some ⟨g7, 0, none⟩) 32 32), is (v8), sl (sealedB m q), anyV] [true, true, false, true] [(fun W => EncAt w W g4 g7 v8 (pad30 m q)), (fun W => EncDone w W g4 g7 (sealedB m q))] [false, false, false, true] [some 0, some 0, some 0, some 0] [some 25, some 26, some 27, some 28] 4 1 (fun _ => true) rfl rfl (by kernel_rfl) (by kernel_rfl) (by kernel_rfl) (by kernel_rfl) ?_ ?_ ?_ ?_ ?_ ?_
  · repeat first | exact wok_nil | refine wok_cons (by first | exact fun _ _ h k => encAt_stays h k | exact fun _ _ h k => encDone_stays h k) ?_
  · repeat first | exact vok_nil | refine vok_rig (by first | exact fun _ _ _ h => h) ?_ | refine vok_soft (by first | exact fun _ _ _ h _ => h | exact fun _ _ _ h k => Slice.below h k (Nat.le_refl _)) ?_
  · exact hF0
  · repeat first | exact all_end (by decide) | refine all_cons (by first | exact rfl | exact ⟨rfl, fun _ _ h => Or.inl h⟩ | exact ⟨rfl, fun _ _ h => Or.inr ⟨h, rfl⟩⟩) ?_
  · refine allp_mild 0 rfl rfl rfl (fun a x W hout hin hP => ?_) ?_
    · have e7 : a.tmps[7]? = some (.pointer (some ⟨g7, 0, none⟩)) := (hout 7 (by kernel_rfl)).trans rfl
      clear hin hout
      intro K Q hK
      go_simp
      exact hK _ _ ⟨Same.refl _, rfl⟩
    refine allp_mild 0 rfl rfl rfl (fun a x W hout hin hP => ?_) ?_
    · have e6 : a.tmps[6]? = some (v8) := (hout 6 (by kernel_rfl)).trans rfl
      exact does_move rfl e6 ⟨Same.refl _, rfl⟩
    refine allp_mild 0 rfl rfl rfl (fun a x W hout hin hP => ?_) ?_
    · have e26 := hin.is 1 26 (by kernel_rfl) (by decide) (by kernel_rfl) (by kernel_rfl) _ rfl
      have C := refsealed_any (pad30 m q) v8 W hP.it (by rw [HP30.out]; decide)
      clear hin hout hP
      intro K Q hK
      go_simp
      refine C.mono ?_
      rintro e W' ⟨v', rfl, own, hb⟩
      exact hK _ _ ⟨hb, own_slice own⟩
    refine allp_wild 0 rfl rfl rfl (fun a x W hout hin hP => ?_) ?_
    · have e25 := hin.is 0 25 (by kernel_rfl) (by decide) (by kernel_rfl) (by kernel_rfl) _ rfl
      obtain ⟨v27, e27, hv27⟩ := hin.get 2 27 (by kernel_rfl) (by decide) (by kernel_rfl) (.inr ⟨rfl, by kernel_rfl⟩)
      clear hin hout
      intro K Q hK
      refine wp_copy_any (.tmp 25) (.tmp 27) rfl g7 0 32 32 (eval_of_get e25) v27 (eval_of_get e27) (sealedB m q) hv27 52 (bs (blk 0#8)) hP.r7 (by rw [size_bs, length_blk, HS32.out]; exact Nat.le_refl _) (by rw [HS32.out]; exact Nat.le_refl _) ?_
      intro W' r7 hg
      rw [spl_bs, spl_all _ _ ((length_blk 0#8).trans HS32.out.symm)] at r7
      exact hK _ _ ⟨⟨hP.r4.only hg hP.ne, r7, hP.below.trans (only_below hg hP.lo7 hP.below.size)⟩, trivial⟩
    exact all_end (by decide)
  · intro x W hP hV
    clear hV
    obtain ⟨r4, r7, hbW⟩ : EncDone w W g4 g7 (sealedB m q) := hP
    simp only [putL, Act.put, List.setIfInBounds_toArray, List.set_cons_succ, List.set_cons_zero]
    refine wpAnyH_done (by kernel_rfl) ?_ _
    have rr := row_range r7 (Below.refl W.heap.size W) r7.lt
    go_wp2_with (first | (refine wpList_load_mid rfl 52 _ rfl g7 0 rfl (bs (sealedB m q)).toList _ rr Try.underlying52 rfl (by rw [len_bs, HS32.out]; exact size_blk) ?_) | (refine wpList_store_row rfl 52 _ _ rfl g4 (bs (sealedB m q)) rfl rfl 52 _ r4 (by rw [size_bs, HS32.out]; exact size_blk) (by rw [size_bs, size_bs, length_blk, HS32.out]) (one_bs _) ?_))
    exact bodyPost_ret (v := .tuple #[.agg (bs (sealedB m q)), .int .i64 0]) (results_cell_tmp Try.results20 _ _ g4 52 (bs (sealedB m q)) (0, 0) _ rfl (r4.setRow _) Try.underlying52 rfl (by rw [size_bs, HS32.out]; exact size_blk)) rfl ⟨by rw [HEB.out, HEE.out], below_setRow hbW HG4.out _⟩
end Go.Proofs.Ytcdcongeogmfkaa

/- The document's mark and body of a sector. -/
set_option maxRecDepth 4000
namespace Go.Proofs.Ytcdcongeogmfkaa
open Go Go.RowKit
/- the document's answer of a sector -/
def gotCells (r : List (BitVec 8)) (e : Int) : Array Value := (bytesV r ++ [Value.int .i64 e]).toArray
theorem size_gotCells {r : List (BitVec 8)} {e : Int} (h : r.length = 30) : (gotCells r e).size = 31 := by simp [gotCells, len_bytesV, h]
theorem size_got : (Try.prog.info? 91).map (·.size) = some 31 := by kernel_rfl
theorem one_gotCells (r : List (BitVec 8)) (e : Int) : (gotCells r e).all (·.oneCell') = true := all_oneCell_toArray fun v hv => by
  rcases List.mem_append.1 hv with h | h
  · exact one_bytesV _ v h
  · rw [List.mem_singleton.1 h]; rfl
theorem zeros_got : (#[.int .u8 0, .int .u8 0, .int .u8 0, .int .u8 0, .int .u8 0, .int .u8 0, .int .u8 0, .int .u8 0, .int .u8 0, .int .u8 0, .int .u8 0, .int .u8 0, .int .u8 0, .int .u8 0, .int .u8 0, .int .u8 0, .int .u8 0, .int .u8 0, .int .u8 0, .int .u8 0, .int .u8 0, .int .u8 0, .int .u8 0, .int .u8 0, .int .u8 0, .int .u8 0, .int .u8 0, .int .u8 0, .int .u8 0, .int .u8 0, .int .i64 0] : Array Value) = gotCells (zer 30) 0 := by rfl
theorem got11 : (#[.int .u8 0, .int .u8 0, .int .u8 0, .int .u8 0, .int .u8 0, .int .u8 0, .int .u8 0, .int .u8 0, .int .u8 0, .int .u8 0, .int .u8 0, .int .u8 0, .int .u8 0, .int .u8 0, .int .u8 0, .int .u8 0, .int .u8 0, .int .u8 0, .int .u8 0, .int .u8 0, .int .u8 0, .int .u8 0, .int .u8 0, .int .u8 0, .int .u8 0, .int .u8 0, .int .u8 0, .int .u8 0, .int .u8 0, .int .u8 0, .int .i64 11] : Array Value) = gotCells (zer 30) 11 := by rfl
theorem gotm (m : BitVec 8) : (#[.int .u8 (bd m), .int .u8 0, .int .u8 0, .int .u8 0, .int .u8 0, .int .u8 0, .int .u8 0, .int .u8 0, .int .u8 0, .int .u8 0, .int .u8 0, .int .u8 0, .int .u8 0, .int .u8 0, .int .u8 0, .int .u8 0, .int .u8 0, .int .u8 0, .int .u8 0, .int .u8 0, .int .u8 0, .int .u8 0, .int .u8 0, .int .u8 0, .int .u8 0, .int .u8 0, .int .u8 0, .int .u8 0, .int .u8 0, .int .u8 0, .int .i64 0] : Array Value) = gotCells (m :: zer 29) 0 := by rfl
theorem spl_got (m : BitVec 8) (q : List (BitVec 8)) (hq : q.length = 29) : (spl (gotCells (m :: zer 29) 0).toList 1 (bytesV q)).toArray = gotCells (m :: q) 0 := by
  unfold spl gotCells
  rw [len_bytesV, hq]
  simp [bytesV, zer]
theorem got_e {w : World} {g : Nat} {t : TypeId} {q : List (BitVec 8)} {e : Int} (h : Row w g t (gotCells q e)) (hq : q.length = 30) : w.cell? ⟨g, 30, none⟩ = some (.int .i64 e) :=
  h.get (by
    unfold gotCells
    rw [List.getElem?_toArray, List.getElem?_append_right (by rw [len_bytesV, hq]; exact Nat.le_refl _), len_bytesV, hq]; rfl)
theorem decR_no {b : List (BitVec 8)} (h : decOk b = false) : decR b = zer 30 := by unfold decR; rw [h]; rfl
theorem decE_no {b : List (BitVec 8)} (h : decOk b = false) : decE b = 11 := by unfold decE; rw [h]; rfl
theorem decR_yes {b : List (BitVec 8)} (hl : b.length = 32) (h : decOk b = true) : decR b = markOf b :: bodyOf b := by
  unfold decR; rw [h, if_pos rfl, ← take30 hl, pad30_full (length_bodyOf hl)]
theorem decE_yes {b : List (BitVec 8)} (h : decOk b = true) : decE b = 0 := by unfold decE; rw [h]; rfl
structure DecAt (w W : World) (g1 g2 B0 : Nat) (b : List (BitVec 8)) : Prop where
  r1 : Row W g1 52 (bs b)
  r2 : Row W g2 91 (gotCells (zer 30) 0)
  below : Below w.heap.size w W
  bse : B0 ≤ W.heap.size
  lo2 : w.heap.size ≤ g2
  l1 : g1 < B0
  l2 : g2 < B0
  b0 : w.heap.size ≤ B0
theorem decAt_stays {w W W' : World} {g1 g2 B0 : Nat} {b : List (BitVec 8)} (h : DecAt w W g1 g2 B0 b) (k : Same W W') : DecAt w W' g1 g2 B0 b :=
  ⟨h.r1.call k, h.r2.call k, h.below.trans (k.mono h.below.size), Nat.le_trans h.bse k.size, h.lo2, h.l1, h.l2, h.b0⟩
theorem DecAt.only {w W W' : World} {g1 g2 B0 g : Nat} {b : List (BitVec 8)} (h : DecAt w W g1 g2 B0 b) (hg : B0 ≤ g) (k : W.grownBy W' (some g)) : DecAt w W' g1 g2 B0 b :=
  ⟨h.r1.only k (by have := h.l1; omega), h.r2.only k (by have := h.l2; omega), h.below.trans (only_below k (Nat.le_trans h.b0 hg) h.below.size), Nat.le_trans h.bse k.size, h.lo2, h.l1, h.l2, h.b0⟩
theorem DecAt.set {w W : World} {g1 g2 B0 g : Nat} {b : List (BitVec 8)} (h : DecAt w W g1 g2 B0 b) (hg : B0 ≤ g) (cs : Array Value) : DecAt w (W.setRow g cs) g1 g2 B0 b := h.only hg (grown_setRow W g cs)
theorem DecAt.c0 {w W : World} {g1 g2 B0 : Nat} {b : List (BitVec 8)} (h : DecAt w W g1 g2 B0 b) (hb : b.length = 32) : W.cell? ⟨g1, 0, none⟩ = some (.int .u8 (bd (markOf b))) :=
  h.r1.get (by cases b with
    | nil => simp at hb
    | cons x b => simp [bs, markOf])
theorem DecAt.body {w W : World} {g1 g2 B0 : Nat} {b : List (BitVec 8)} (h : DecAt w W g1 g2 B0 b) (hb : b.length = 32) : Item W (.slice (some ⟨g1, 1, none⟩) 29 31) (bodyOf b) :=
  ⟨some ⟨g1, 1, none⟩, 31, by rw [length_bodyOf hb], by
    have h1 := row_piece h.r1 (off := 1) (n := 29) (c := 31) (by omega) (by decide)
    rw [length_bodyOf hb]
    exact h1, (fun h => by cases h), by rw [length_bodyOf hb]; decide⟩
set_option maxRecDepth 20000 in
set_option maxHeartbeats 1600000 in
theorem refdec_any (b : List (BitVec 8)) (w : World) (hb : b.length = 32) :
    Calls Try.prog 39 #[.agg (bs b)] w fun e w' => e = .returned (.agg (gotCells (decR b) (decE b))) ∧ Below w.heap.size w w' := by
  have HBL := Lib.hid hb
  obtain ⟨E, hE⟩ : ∃ E, encB (markOf b) (bodyOf b) = E := ⟨_, rfl⟩
  obtain ⟨ee, hee⟩ : ∃ ee, encE (markOf b) (bodyOf b) = ee := ⟨_, rfl⟩
  have HE := Lib.hid hE
  have HEE := Lib.hid hee
  have HEL : Hid (E.length = 32) := Lib.hid (by rw [← hE]; exact length_encB _ _)
  have hz := zeros_got
  have HD0 : Hid (DecAt w ((w.alloc (.cells (bs b) 52)).alloc (.cells (gotCells (zer 30) 0) 91)) w.heap.size (w.heap.size + 1) (w.heap.size + 1 + 1) b) := Lib.hid ⟨(Row.fresh _ _ _).alloc _, row2b _ _ _ _, ((Below.refl _ _).alloc (Nat.le_refl _) _).alloc (by simp) _, by simp, by omega, by omega, by omega, by omega⟩
  clear hE hee hb
  go_enter Try.func39, Try.ntmps39
  go_upto_region 1 with fail
  obtain ⟨g1, hg1⟩ : ∃ g1, w.heap.size = g1 := ⟨_, rfl⟩
  obtain ⟨g2, hg2⟩ : ∃ g2, w.heap.size + 1 = g2 := ⟨_, rfl⟩
  obtain ⟨B0, hB0⟩ : ∃ B0, w.heap.size + 1 + 1 = B0 := ⟨_, rfl⟩
  rw [hB0, hg2] at HD0
  rw [hg2]
  have HD1 : Hid (DecAt w ((w.alloc (.cells (bs b) 52)).alloc (.cells (gotCells (zer 30) 0) 91)) g1 g2 B0 b) := Lib.hid (by rw [← hg1]; exact HD0.out)
  rw [hg1]
  clear hg1 hg2 hB0 hz HD0
  generalize (w.alloc (.cells (bs b) 52)).alloc (.cells (gotCells (zer 30) 0) 91) = W1 at *
  have hF0 : Wl [fun W => DecAt w W g1 g2 B0 b, fun W => DecAt w W g1 g2 B0 b] 0 W1.drew := decAt_stays HD1.out (Below.refl _ _).drew
  clear HD1
  refine wp_region_phas [is (.pointer (some ⟨g1, 0, none⟩)), is (.int .u8 (bd (markOf b))), is (.slice (some ⟨g1, 1, none⟩) 29 31), is (.tuple #[.agg (bs E), .int .i64 ee]), is (.tuple #[.agg (bs E), .int .i64 ee]), is (.agg (bs E)), is (.int .i64 ee), (fun v W => ∃ g, v = Value.pointer (some ⟨g, 0, none⟩) ∧ Row W g 52 (bs (blk 0#8)) ∧ B0 ≤ g), (fun v W => ∃ g, v = Value.pointer (some ⟨g, 0, none⟩) ∧ Row W g 52 (bs E) ∧ B0 ≤ g), is (.int .i64 ee)] [true, true, true, true, true, true, true, false, false, true] [(fun W => DecAt w W g1 g2 B0 b), (fun W => DecAt w W g1 g2 B0 b)] [false, false, false, false, false, false, false, false, true, false] [some 0, some 0, some 0, some 0, some 0, some 0, none, some 0, some 0, some 1] [none, none, none, none, none, none, none, none, some 7, none] [some 7, some 8, some 9, some 10, some 6, some 11, some 12, some 3, none, some 4] 10 1 (fun _ => true) rfl rfl (by kernel_rfl) (by kernel_rfl) (by kernel_rfl) (by kernel_rfl) (by kernel_rfl) ?_ ?_ ?_ ?_ ?_ ?_
  · repeat first | exact wok_nil | refine wok_cons (by first | exact fun _ _ h k => decAt_stays h k) ?_
  · repeat first | exact vok_nil | refine vok_rig (by first | exact fun _ _ _ h => h) ?_ | refine vok_soft (by first | exact fun _ _ _ h _ => h | exact fun _ _ _ h k => ⟨h.choose, h.choose_spec.1, h.choose_spec.2.1.call k, h.choose_spec.2.2⟩) ?_
  · exact hF0
  · repeat first | exact all_end (by decide) | refine all_cons (by first | exact rfl | exact ⟨rfl, fun _ _ h => Or.inl h⟩ | exact ⟨rfl, fun _ _ h => Or.inr ⟨h, rfl⟩⟩) ?_
  · refine alla_old rfl (step_mild 0 rfl rfl rfl (fun a x W hout hin hP => ?_)) ?_
    · have e1 : a.tmps[1]? = some (.pointer (some ⟨g1, 0, none⟩)) := (hout 1 (by kernel_rfl)).trans rfl
      clear hin hout
      intro K Q hK
      go_simp
      exact hK _ _ ⟨Same.refl _, rfl⟩
    refine alla_old rfl (step_mild 0 rfl rfl rfl (fun a x W hout hin hP => ?_)) ?_
    · have e7 := hin.is 0 7 (by kernel_rfl) (by decide) (by kernel_rfl) (by kernel_rfl) _ rfl
      have hc := hP.c0 HBL.out
      clear hP
      clear hin hout
      intro K Q hK
      go_simp
      exact hK _ _ ⟨Same.refl _, rfl⟩
    refine alla_old rfl (step_mild 0 rfl rfl rfl (fun a x W hout hin hP => ?_)) ?_
    · have e1 : a.tmps[1]? = some (.pointer (some ⟨g1, 0, none⟩)) := (hout 1 (by kernel_rfl)).trans rfl
      clear hin hout
      intro K Q hK
      go_simp
      exact hK _ _ ⟨Same.refl _, rfl⟩
    refine alla_old rfl (step_mild 0 rfl rfl rfl (fun a x W hout hin hP => ?_)) ?_
    · have e8 := hin.is 1 8 (by kernel_rfl) (by decide) (by kernel_rfl) (by kernel_rfl) _ rfl
      have e9 := hin.is 2 9 (by kernel_rfl) (by decide) (by kernel_rfl) (by kernel_rfl) _ rfl
      have C := refenc_any (markOf b) (bodyOf b) _ W (hP.body HBL.out)
      rw [HE.out, HEE.out] at C
      clear hP
      clear hin hout
      intro K Q hK
      go_simp
      refine C.mono ?_
      rintro e W' ⟨rfl, hb⟩
      exact hK _ _ ⟨hb, rfl⟩
    refine alla_old rfl (step_mild 0 rfl rfl rfl (fun a x W hout hin hP => ?_)) ?_
    · have e10 := hin.is 3 10 (by kernel_rfl) (by decide) (by kernel_rfl) (by kernel_rfl) _ rfl
      exact does_move rfl e10 ⟨Same.refl _, rfl⟩
    refine alla_old rfl (step_mild 0 rfl rfl rfl (fun a x W hout hin hP => ?_)) ?_
    · have e6 := hin.is 4 6 (by kernel_rfl) (by decide) (by kernel_rfl) (by kernel_rfl) _ rfl
      clear hin hout
      intro K Q hK
      go_simp
      exact hK _ _ ⟨Same.refl _, rfl⟩
    refine alla_old rfl (step_pure rfl rfl (fun a x W hout hin => ?_)) ?_
    · have e6 := hin.is 4 6 (by kernel_rfl) (by decide) (by kernel_rfl) (by kernel_rfl) _ rfl
      clear hin hout
      intro K Q hK
      go_simp
      exact hK _ _ ⟨rfl, rfl⟩
    refine alla_old rfl (step_mild 0 rfl rfl rfl (fun a x W hout hin hP => ?_)) ?_
    · have hz := zeros_blk
      have hbse := hP.bse
      clear hP
      clear hin hout
      intro K Q hK
      go_simp
      exact hK _ _ ⟨Same.alloc _ _, _, rfl, Row.fresh _ _ _, hbse⟩
    refine alla_wild 0 rfl rfl rfl (fun a x W hout hin hP => ?_) ?_
    · obtain ⟨hw7, hx7⟩ := hin 7 (by kernel_rfl) (by decide)
      have hw7 := hw7 (.inr ⟨rfl, by kernel_rfl⟩)
      have hx7 := hx7 3 (by kernel_rfl)
      have e11 := hin.is 5 11 (by kernel_rfl) (by decide) (by kernel_rfl) (by kernel_rfl) _ rfl
      obtain ⟨g3, hg3, r3, hb3⟩ := hw7
      rw [hg3] at hx7
      clear hin hout
      intro K Q hK
      refine wp_store_row 52 (.tmp 3) (.tmp 11) rfl g3 (bs E) (eval_of_get hx7) (eval_of_get e11) 52 (bs (blk 0#8)) r3 (by rw [size_bs, HEL.out]; exact size_blk) (by rw [size_bs, size_bs, length_blk, HEL.out]) (one_bs _) ?_
      exact hK (x 7) _ ⟨hP.set hb3 _, ⟨g3, hg3, r3.setRow _, hb3⟩, al_one rfl rfl⟩
    refine alla_old rfl (step_mild 1 rfl rfl rfl (fun a x W hout hin hP => ?_)) ?_
    · have e12 := hin.is 6 12 (by kernel_rfl) (by decide) (by kernel_rfl) (by kernel_rfl) _ rfl
      exact does_assign rfl e12 ⟨Same.refl _, rfl⟩
    exact all_end (by decide)
  · intro x W hP hV hal
    obtain ⟨g3, h8, r3, hb3⟩ := hV 8 (by decide) (.inr (by kernel_rfl))
    have h7 : x 7 = .pointer (some ⟨g3, 0, none⟩) := (hal 8 (by decide) 7 rfl).symm.trans h8
    have h9 : x 9 = .int .i64 ee := hV 9 (by decide) (.inl (by kernel_rfl))
    have HD : Hid (DecAt w W g1 g2 B0 b) := Lib.hid hP
    have R3 := Lib.hid r3
    clear hV hP hal h8 r3
    simp only [putL, Act.put, List.setIfInBounds_toArray, List.set_cons_succ, List.set_cons_zero, h7, h9]
    refine wpAnyH_done (by kernel_rfl) ?_ _
    clear h7 h9
    have HZ := Lib.hid zeros_got
    by_cases hm0 : markOf b = 0#8
    · have hee : ee = 1 := by rw [← HEE.out]; exact encE_bad (by unfold encBad; rw [decide_eq_true hm0]; rfl)
      have HN : Hid (decOk b = false) := Lib.hid (by unfold decOk; rw [decide_eq_false (fun h => h hm0)]; rfl)
      subst hee
      have r2 := HD.out.r2
      have hz := HZ.out
      have h11 := got11
      clear hm0
      go_wp2_with (first | (refine wpList_store_row rfl 91 _ _ rfl g2 (gotCells (zer 30) 11) rfl rfl 91 _ r2 (by rw [size_gotCells (by rfl)]; exact size_got) rfl (one_gotCells _ _) ?_))
      exact bodyPost_ret (v := .agg (gotCells (zer 30) 11)) (results_cell_row Try.results39 _ _ g2 91 (gotCells (zer 30) 11) (0, 0) _ rfl (r2.setRow _) Try.underlying91 rfl (by rw [size_gotCells (by rfl)]; exact size_got)) rfl ⟨by rw [decR_no HN.out, decE_no HN.out], below_setRow HD.out.below HD.out.lo2 _⟩
    · have hgood : encBad (markOf b) (bodyOf b) = false := by unfold encBad; rw [decide_eq_false hm0, decide_eq_false (by rw [length_bodyOf HBL.out]; omega)]; rfl
      have hee : ee = 0 := by rw [← HEE.out]; exact encE_good hgood
      have hE : E = sealedB (markOf b) (bodyOf b) := by rw [← HE.out]; exact encB_good hgood
      subst hee
      have rr3 := row_range R3.out (Below.refl _ _) R3.out.lt
      have rr1 := row_range HD.out.r1 (Below.refl _ _) HD.out.r1.lt
      have q := eql_blk E b HEL.out HBL.out W
      by_cases hEb : E = b
      · have HY : Hid (decOk b = true) := Lib.hid (by unfold decOk; rw [decide_eq_true hm0, decide_eq_true (hE.symm.trans hEb)]; rfl)
        rw [decide_eq_true hEb] at q
        clear hm0 hgood hE hEb
        have c0 := HD.out.c0 HBL.out
        have hz := HZ.out
        have HM := Lib.hid (gotm (markOf b))
        have hzm := HM.out
        go_wp2_with (first | (refine wpList_guarded (by rfl) (fun K hK => ?_); refine wp_load_mid 52 _ rfl g3 0 rfl (bs E).toList _ rr3 Try.underlying52 rfl (by rw [len_bs, HEL.out]; exact size_blk) (hK _ _ ?_)) | (refine wpList_guarded (by rfl) (fun K hK => ?_); refine wp_load_mid 52 _ rfl g1 0 rfl (bs b).toList _ rr1 Try.underlying52 rfl (by rw [len_bs, HBL.out]; exact size_blk) (hK _ _ ?_)) | (refine wpList_store_row rfl 91 _ _ rfl W.heap.size (gotCells (markOf b :: zer 29) 0) rfl rfl 91 _ (Row.fresh _ _ _) (by rw [size_gotCells (by rfl)]; exact size_got) rfl (one_gotCells _ _) ?_; rw [World.setRow_alloc_new]))
        have HD5 : Hid (DecAt w (W.alloc (.cells (gotCells (markOf b :: zer 29) 0) 91)) g1 g2 B0 b) := Lib.hid (decAt_stays HD.out (Same.alloc _ _))
        have R5 := Lib.hid (Row.fresh W 91 (gotCells (markOf b :: zer 29) 0))
        have HB5 : Hid (B0 ≤ W.heap.size) := Lib.hid HD.out.bse
        obtain ⟨g5, hg5⟩ : ∃ g5, W.heap.size = g5 := ⟨_, rfl⟩
        rw [hg5] at R5 HB5
        rw [hg5]
        clear q rr3 rr1 c0 hzm hz HM HD R3 hg5
        generalize W.alloc (.cells (gotCells (markOf b :: zer 29) 0) 91) = W5 at *
        have hF0 : Wl [fun W => DecAt w W g1 g2 B0 b ∧ Row W g5 91 (gotCells (markOf b :: zer 29) 0), fun W => DecAt w W g1 g2 B0 b ∧ Row W g5 91 (gotCells (markOf b :: bodyOf b) 0)] 0 W5.drew := ⟨decAt_stays HD5.out (Below.refl _ _).drew, R5.out.call (Below.refl _ _).drew⟩
        refine wp_region_phs [is (.pointer (some ⟨g5, 1, none⟩)), is (.slice (some ⟨g5, 1, none⟩) 29 29), is (.slice (some ⟨g1, 1, none⟩) 29 31), anyV] [true, true, true, true] [(fun W => DecAt w W g1 g2 B0 b ∧ Row W g5 91 (gotCells (markOf b :: zer 29) 0)), (fun W => DecAt w W g1 g2 B0 b ∧ Row W g5 91 (gotCells (markOf b :: bodyOf b) 0))] [false, false, false, true] [some 0, some 0, some 0, some 0] [some 24, some 25, some 26, some 27] 4 1 (fun _ => true) rfl rfl (by kernel_rfl) (by kernel_rfl) (by kernel_rfl) (by kernel_rfl) ?_ ?_ ?_ ?_ ?_ ?_
        · repeat first | exact wok_nil | refine wok_cons (by first | exact fun _ _ h k => ⟨decAt_stays h.1 k, h.2.call k⟩) ?_
        · repeat first | exact vok_nil | refine vok_rig (by first | exact fun _ _ _ h => h) ?_ | refine vok_soft (by first | exact fun _ _ _ h _ => h) ?_
        · exact hF0
        · repeat first | exact all_end (by decide) | refine all_cons (by first | exact rfl | exact ⟨rfl, fun _ _ h => Or.inl h⟩ | exact ⟨rfl, fun _ _ h => Or.inr ⟨h, rfl⟩⟩) ?_
        · refine allp_mild 0 rfl rfl rfl (fun a x W hout hin hP => ?_) ?_
          · have e5 : a.tmps[5]? = some (.pointer (some ⟨g5, 0, none⟩)) := (hout 5 (by kernel_rfl)).trans rfl
            clear hin hout
            intro K Q hK
            go_simp
            exact hK _ _ ⟨Same.refl _, rfl⟩
          refine allp_mild 0 rfl rfl rfl (fun a x W hout hin hP => ?_) ?_
          · have e24 := hin.is 0 24 (by kernel_rfl) (by decide) (by kernel_rfl) (by kernel_rfl) _ rfl
            clear hin hout
            intro K Q hK
            go_simp
            exact hK _ _ ⟨Same.refl _, rfl⟩
          refine allp_mild 0 rfl rfl rfl (fun a x W hout hin hP => ?_) ?_
          · have e1 : a.tmps[1]? = some (.pointer (some ⟨g1, 0, none⟩)) := (hout 1 (by kernel_rfl)).trans rfl
            clear hin hout
            intro K Q hK
            go_simp
            exact hK _ _ ⟨Same.refl _, rfl⟩
          refine allp_wild 0 rfl rfl rfl (fun a x W hout hin hP => ?_) ?_
          · have e25 := hin.is 1 25 (by kernel_rfl) (by decide) (by kernel_rfl) (by kernel_rfl) _ rfl
            have e26 := hin.is 2 26 (by kernel_rfl) (by decide) (by kernel_rfl) (by kernel_rfl) _ rfl
            clear hin hout
            intro K Q hK
            refine wp_copy_any (.tmp 25) (.tmp 26) rfl g5 1 29 29 (eval_of_get e25) _ (eval_of_get e26) (bodyOf b) (hP.1.body HBL.out).slice 91 _ hP.2 (by rw [size_gotCells (by rfl), length_bodyOf HBL.out]; omega) (by rw [length_bodyOf HBL.out]; exact Nat.le_refl _) ?_
            intro W' r5 hg
            rw [spl_got _ _ (length_bodyOf HBL.out)] at r5
            exact hK _ _ ⟨⟨hP.1.only HB5.out hg, r5⟩, trivial⟩
          exact all_end (by decide)
        · intro x W hP hV
          clear hV
          obtain ⟨hD, r5⟩ : DecAt w W g1 g2 B0 b ∧ Row W g5 91 (gotCells (markOf b :: bodyOf b) 0) := hP
          have HD := Lib.hid hD
          simp only [putL, Act.put, List.setIfInBounds_toArray, List.set_cons_succ, List.set_cons_zero]
          refine wpAnyH_done (by kernel_rfl) ?_ _
          have r2 := HD.out.r2
          have HG : Hid ((gotCells (markOf b :: bodyOf b) 0).size = 31) := Lib.hid (size_gotCells (by rw [List.length_cons, length_bodyOf HBL.out]))
          clear hD
          go_wp2_with (first | (refine wpList_load_row rfl 91 _ rfl g5 rfl 91 (gotCells (markOf b :: bodyOf b) 0) (0, 0) _ r5 Try.underlying91 rfl (by rw [HG.out]; exact size_got) ?_) | (refine wpList_store_row rfl 91 _ _ rfl g2 (gotCells (markOf b :: bodyOf b) 0) rfl rfl 91 _ r2 (by rw [HG.out]; exact size_got) (by rw [HG.out]; exact size_gotCells (by rfl)) (one_gotCells _ _) ?_))
          exact bodyPost_ret (v := .agg (gotCells (markOf b :: bodyOf b) 0)) (results_cell_row Try.results39 _ _ g2 91 (gotCells (markOf b :: bodyOf b) 0) (0, 0) _ rfl (r2.setRow _) Try.underlying91 rfl (by rw [HG.out]; exact size_got)) rfl ⟨by rw [decR_yes HBL.out HY.out, decE_yes HY.out], below_setRow HD.out.below HD.out.lo2 _⟩
      · have HN : Hid (decOk b = false) := Lib.hid (by unfold decOk; rw [decide_eq_true hm0, decide_eq_false (fun h => hEb (hE.trans h))]; rfl)
        rw [decide_eq_false hEb] at q
        clear hm0 hgood hE hEb
        have r2 := HD.out.r2
        have hz := HZ.out
        have h11 := got11
        go_wp2_with (first | (refine wpList_guarded (by rfl) (fun K hK => ?_); refine wp_load_mid 52 _ rfl g3 0 rfl (bs E).toList _ rr3 Try.underlying52 rfl (by rw [len_bs, HEL.out]; exact size_blk) (hK _ _ ?_)) | (refine wpList_guarded (by rfl) (fun K hK => ?_); refine wp_load_mid 52 _ rfl g1 0 rfl (bs b).toList _ rr1 Try.underlying52 rfl (by rw [len_bs, HBL.out]; exact size_blk) (hK _ _ ?_)) | (refine wpList_store_row rfl 91 _ _ rfl g2 (gotCells (zer 30) 11) rfl rfl 91 _ r2 (by rw [size_gotCells (by rfl)]; exact size_got) rfl (one_gotCells _ _) ?_))
        exact bodyPost_ret (v := .agg (gotCells (zer 30) 11)) (results_cell_row Try.results39 _ _ g2 91 (gotCells (zer 30) 11) (0, 0) _ rfl (r2.setRow _) Try.underlying91 rfl (by rw [size_gotCells (by rfl)]; exact size_got)) rfl ⟨by rw [decR_no HN.out, decE_no HN.out], below_setRow HD.out.below HD.out.lo2 _⟩
end Go.Proofs.Ytcdcongeogmfkaa

/- What the statements of seal need to know of the program's seal; bodies compared. -/
set_option maxRecDepth 4000
namespace Go.Proofs.Ytcdcongeogmfkaa
open Go Go.RowKit
structure SealOps where
  enc : ∀ (m : BitVec 8) (q : List (BitVec 8)) (v : Value) (w : World), Item w v q → Calls Try.prog 48 #[.int .u8 (bd m), v] w fun e w' => e = .returned (.tuple #[.agg (bs (encB m q)), .int .i64 (encE m q)]) ∧ Below w.heap.size w w'
  dec : ∀ (b : List (BitVec 8)) (w : World), b.length = 32 → Calls Try.prog 49 #[.agg (bs b)] w fun e w' => e = .returned (.tuple #[.agg (bs (decR b)), .int .i64 (decE b)]) ∧ Below w.heap.size w w'
theorem size_sec : (Try.prog.info? 101).map (·.size) = some 30 := by kernel_rfl
end Go.Proofs.Ytcdcongeogmfkaa

/- The helpers of the program's seal: the check that a sector ought to have, a sealed sector as bytes, and of bytes. -/
set_option maxRecDepth 4000
namespace Go.Proofs.Ytcdcongeogmfkaa
open Go Go.RowKit
def sld (r : List (BitVec 8)) (c : BitVec 16) : Array Value := (bs r).push (.int .u16 (hd c))
theorem size_sld (r : List (BitVec 8)) (c : BitVec 16) : (sld r c).size = r.length + 1 := by simp [sld, size_bs]
theorem one_sld (r : List (BitVec 8)) (c : BitVec 16) : (sld r c).all (·.oneCell') = true := by
  have h := one_bs r
  rw [Array.all_eq_true_iff_forall_mem] at *
  intro v hv
  unfold sld at hv
  rcases Array.mem_push.1 hv with h1 | rfl
  · exact h v h1
  · rfl
theorem sld_toList (r : List (BitVec 8)) (c : BitVec 16) : (sld r c).toList = bytesV r ++ [.int .u16 (hd c)] := by simp [sld, bs_toList]
theorem sld_low {r : List (BitVec 8)} (c : BitVec 16) {i : Nat} (hi : i < r.length) {x : Int} (hx : bd (r.getD i 0#8) = x) : (sld r c)[i]? = some (.int .u8 x) := by
  have e : (bs r)[i]? = some (.int .u8 (bd (r.getD i 0#8))) := get_bs r i hi
  rw [← hx, ← e]
  unfold sld
  rw [Array.getElem?_push_lt (by rw [size_bs]; exact hi), Array.getElem?_eq_getElem (by rw [size_bs]; exact hi)]
theorem sld_top {r : List (BitVec 8)} (c : BitVec 16) (hr : r.length = 30) : (sld r c)[30]? = some (.int .u16 (hd c)) := by
  have e : (bs r).size = 30 := by rw [size_bs, hr]
  unfold sld
  rw [← e, Array.getElem?_push_size]
theorem sld_take (r : List (BitVec 8)) (c : BitVec 16) : ((sld r c).toList.drop 0).take (bs r).size = (bs r).toList := by
  rw [sld_toList, List.drop_zero, bs_toList, List.take_left' (by rw [len_bytesV, size_bs])]
theorem sld_set {r : List (BitVec 8)} (hr : r.length = 30) (c d : BitVec 16) : (spl (sld r c).toList 30 [.int .u16 (hd d)]).toArray = sld r d := by
  apply Array.ext'
  rw [sld_toList, sld_toList]
  unfold spl
  rw [List.take_left' (by rw [len_bytesV, hr]), List.drop_of_length_le (by simp [len_bytesV, hr]), List.append_nil]
theorem sldm (m : BitVec 8) : (#[.int .u8 (bd m), .int .u8 0, .int .u8 0, .int .u8 0, .int .u8 0, .int .u8 0, .int .u8 0, .int .u8 0, .int .u8 0, .int .u8 0, .int .u8 0, .int .u8 0, .int .u8 0, .int .u8 0, .int .u8 0, .int .u8 0, .int .u8 0, .int .u8 0, .int .u8 0, .int .u8 0, .int .u8 0, .int .u8 0, .int .u8 0, .int .u8 0, .int .u8 0, .int .u8 0, .int .u8 0, .int .u8 0, .int .u8 0, .int .u8 0, .int .u16 0] : Array Value) = sld (m :: zer 29) 0#16 := by rfl
theorem sld_body {m : BitVec 8} {q : List (BitVec 8)} (hq : q.length ≤ 29) (c : BitVec 16) : (spl (sld (m :: zer 29) c).toList 1 (bytesV q)).toArray = sld (pad30 m q) c := by
  apply Array.ext'
  rw [sld_toList, sld_toList]
  obtain ⟨n, hn⟩ : ∃ n, 29 = q.length + n := ⟨29 - q.length, by omega⟩
  have hz : zer (q.length + n) = zer q.length ++ zer n := by unfold zer; rw [List.replicate_append_replicate]
  unfold spl pad30
  rw [hn, Nat.add_sub_cancel_left, hz]
  simp only [bytesV, List.map_cons, List.map_append, List.length_map, List.cons_append, List.take_succ_cons, List.take_zero, Nat.add_comm 1, List.drop_succ_cons]
  rw [List.append_assoc (List.map _ (zer q.length)), List.drop_left' (by simp [zer])]
  simp [zer]
theorem sld_tail {w : World} {g : Nat} {t : TypeId} {r : List (BitVec 8)} {c : BitVec 16} (h : Row w g t (sld r c)) (hr : r.length = 30) : Slice w (.slice (some ⟨g, 1, none⟩) 29 29) (r.drop 1) := by
  have hl : (r.drop 1).length = 29 := by rw [List.length_drop, hr]
  refine ⟨some ⟨g, 1, none⟩, 29, by rw [hl], by rw [hl]; exact Nat.le_refl _, fun _ => ⟨g, 1, rfl, h.lt, fun j x hx => h.get ?_⟩⟩
  rw [List.getElem?_drop] at hx
  have hj := (List.getElem?_eq_some_iff.1 hx).1
  exact sld_low c hj (by rw [List.getD_eq_getElem?_getD, hx]; rfl)
theorem size_sld31 {r : List (BitVec 8)} (hr : r.length = 30) (c : BitVec 16) : (sld r c).size = 31 := by rw [size_sld, hr]
theorem info_sld : (Try.prog.info? 110).map (·.size) = some 31 := by kernel_rfl
/- the check that stands behind a sector -/
def tailC (b : List (BitVec 8)) : BitVec 16 := (b.getD 30 0#8).setWidth 16 ||| ((b.getD 31 0#8).setWidth 16) <<< 8
theorem halves (c : BitVec 16) (x y : BitVec 8) : (c.setWidth 8 = x ∧ (c >>> 8).setWidth 8 = y) ↔ x.setWidth 16 ||| (y.setWidth 16) <<< 8 = c := by
  constructor
  · rintro ⟨rfl, rfl⟩
    apply BitVec.eq_of_getLsbD_eq
    intro i hi
    simp only [BitVec.getLsbD_or, BitVec.getLsbD_setWidth, BitVec.getLsbD_shiftLeft, BitVec.getLsbD_ushiftRight]
    by_cases h : i < 8
    · simp [h, hi]
    · have h2 : i - 8 < 8 := by omega
      simp [h, hi, h2, show 8 + (i - 8) = i by omega, show i - 8 < 16 by omega]
  · rintro rfl
    constructor
    · apply BitVec.eq_of_getLsbD_eq
      intro i hi
      simp only [BitVec.getLsbD_or, BitVec.getLsbD_setWidth, BitVec.getLsbD_shiftLeft]
      simp [hi, show i < 16 by omega]
    · apply BitVec.eq_of_getLsbD_eq
      intro i hi
      simp only [BitVec.getLsbD_or, BitVec.getLsbD_setWidth, BitVec.getLsbD_shiftLeft, BitVec.getLsbD_ushiftRight]
      simp [hi, show 8 + i < 16 by omega, show i < 16 by omega]
theorem drop30 {b : List (BitVec 8)} (h : b.length = 32) : b.drop 30 = [b.getD 30 0#8, b.getD 31 0#8] := by
  rw [List.drop_eq_getElem_cons (by omega), List.drop_eq_getElem_cons (by omega), List.drop_of_length_le (by omega)]
  simp [List.getD_eq_getElem?_getD, h]
theorem decOk_tail {b : List (BitVec 8)} (h : b.length = 32) : decOk b = (decide (markOf b ≠ 0#8) && decide (tailC b = crcOf (b.take 30))) := by
  rw [decOk_eq h]
  congr 1
  apply decide_eq_decide.2
  rw [drop30 h]
  unfold crcTail tailC
  rw [List.cons.injEq, List.cons.injEq]
  constructor
  · rintro ⟨h1, h2, _⟩; exact (halves _ _ _).1 ⟨h1, h2⟩
  · intro h1
    obtain ⟨h2, h3⟩ := (halves _ _ _).2 h1
    exact ⟨h2, h3, rfl⟩
theorem shl8_hd (x : BitVec 16) : IntKind.u16.wrap (hd x * (256 : Int)) = hd (x <<< 8) := by
  rw [IntKind.wrap_u16]; unfold hd; have := x.isLt; rw [BitVec.toNat_shiftLeft, Nat.shiftLeft_eq]; omega
set_option maxHeartbeats 800000 in
theorem right_any (r : List (BitVec 8)) (w : World) (hr : r.length = 30) :
    Calls Try.prog 54 #[.agg (bs r)] w fun e w' => e = .returned (.int .u16 (hd (crcOf r))) ∧ Below w.heap.size w w' := by
  have HRL := Lib.hid hr
  obtain ⟨m, hm⟩ : ∃ m, r.getD 0 0#8 = m := ⟨_, rfl⟩
  have H0 : Hid ((bs r)[0]? = some (.int .u8 (bd m))) := Lib.hid (by rw [← hm]; exact get_bs r 0 (by omega))
  have HFL : Hid (([[m], r.drop 1] : List (List (BitVec 8))).flatten = r) := Lib.hid (by
    rw [← hm]
    cases r with
    | nil => simp at hr
    | cons x r => simp)
  clear hr hm
  have HS := St.nil w noF
  go_enter Try.func54, Try.ntmps54
  go_upto_region 1 with (first | ((with_reducible refine wpList_plain ?_ ?_); exact rfl; intro KK hKK; refine wp_st_box HS 101 (.tmp 0) rfl _ rfl (bs r) (rfl) (fun g1 W1 HSx => hKK _ _ ?_); clear hKK KK HS; have HS : St w noF [⟨g1, 101, bs r⟩] W1 := HSx; clear HSx))
  have hF0 : Wl [fun W => St w noF [⟨g1, 101, bs r⟩] W] 0 W1.drew := HS.drew
  clear HS
  refine wp_region_phs [is (.pointer (some ⟨g1, 0, none⟩)), is (.int .u8 (bd m)), sl [m], is (.pointer (some ⟨g1, 1, none⟩)), is (.slice (some ⟨g1, 1, none⟩) 29 29), pts [[m], r.drop 1], is (.int .u16 (hd (crcOf r))), is (.int .u16 (hd (crcOf r)))] [true, true, false, true, true, false, true, true] [(fun W => St w noF [⟨g1, 101, bs r⟩] W)] [false, false, false, false, false, false, false, false] [some 0, some 0, some 0, some 0, some 0, some 0, some 0, some 0] [some 3, some 4, some 5, some 6, some 7, some 8, some 9, some 2] 8 0 (fun _ => true) rfl rfl (by kernel_rfl) (by kernel_rfl) (by kernel_rfl) (by kernel_rfl) ?_ ?_ ?_ ?_ ?_ ?_
  · repeat first | exact wok_nil | refine wok_cons (by first | exact fun _ _ h k => h.same k) ?_
  · repeat first | exact vok_nil | refine vok_rig (by first | exact fun _ _ _ h => h) ?_ | refine vok_soft (by first | exact fun _ _ _ h _ => h | exact fun _ _ _ h k => Parts.below h k (Nat.le_refl _) | exact fun _ _ _ h k => Slice.below h k (Nat.le_refl _)) ?_
  · exact hF0
  · repeat first | exact all_end (by decide) | refine all_cons (by first | exact rfl | exact ⟨rfl, fun _ _ h => Or.inl h⟩ | exact ⟨rfl, fun _ _ h => Or.inr ⟨h, rfl⟩⟩) ?_
  · refine allp_mild 0 rfl rfl rfl (fun a x W hout hin hP => ?_) ?_
    · have e1 : a.tmps[1]? = some (.pointer (some ⟨g1, 0, none⟩)) := (hout 1 (by kernel_rfl)).trans rfl
      clear hin hout
      intro K Q hK
      go_simp
      exact hK _ _ ⟨Same.refl _, rfl⟩
    refine allp_mild 0 rfl rfl rfl (fun a x W hout hin hP => ?_) ?_
    · have e3 := hin.is 0 3 (by kernel_rfl) (by decide) (by kernel_rfl) (by kernel_rfl) _ rfl
      clear hin hout
      intro K Q hK
      exact wp_st_get hP 0 0 5 (.tmp 3) rfl rfl (eval_of_get e3) _ (H0.out) _ Try.underlying5 rfl (hK _ _ ⟨Same.refl _, rfl⟩)
    refine allp_mild 0 rfl rfl rfl (fun a x W hout hin hP => ?_) ?_
    · have e4 := hin.is 1 4 (by kernel_rfl) (by decide) (by kernel_rfl) (by kernel_rfl) _ rfl
      clear hin hout
      intro K Q hK
      go_simp
      exact hK _ _ ⟨Same.alloc _ _, row_slice (Row.fresh _ 5 (bs [m])) (Nat.le_refl _)⟩
    refine allp_mild 0 rfl rfl rfl (fun a x W hout hin hP => ?_) ?_
    · have e1 : a.tmps[1]? = some (.pointer (some ⟨g1, 0, none⟩)) := (hout 1 (by kernel_rfl)).trans rfl
      clear hin hout
      intro K Q hK
      go_simp
      exact hK _ _ ⟨Same.refl _, rfl⟩
    refine allp_mild 0 rfl rfl rfl (fun a x W hout hin hP => ?_) ?_
    · have e6 := hin.is 3 6 (by kernel_rfl) (by decide) (by kernel_rfl) (by kernel_rfl) _ rfl
      clear hin hout
      intro K Q hK
      go_simp
      exact hK _ _ ⟨Same.refl _, rfl⟩
    refine allp_mild 0 rfl rfl rfl (fun a x W hout hin hP => ?_) ?_
    · obtain ⟨v5, e5, hv5⟩ := hin.get 2 5 (by kernel_rfl) (by decide) (by kernel_rfl) (.inr ⟨rfl, by kernel_rfl⟩)
      have e7 := hin.is 4 7 (by kernel_rfl) (by decide) (by kernel_rfl) (by kernel_rfl) _ rfl
      have s7 := row_piece (hP.row 0 rfl) (off := 1) (n := 29) (c := 29) (by rw [HRL.out]; decide) (by decide)
      rw [List.take_of_length_le (by rw [List.length_drop, HRL.out]; decide)] at s7
      clear hP
      obtain ⟨A5, c5, rfl, h5⟩ := hv5
      clear hin hout
      intro K Q hK
      go_simp
      exact hK _ _ ⟨Same.alloc _ _, parts2 ⟨A5, c5, rfl, h5⟩ s7⟩
    refine allp_mild 0 rfl rfl rfl (fun a x W hout hin hP => ?_) ?_
    · obtain ⟨v8, e8, hv8⟩ := hin.get 5 8 (by kernel_rfl) (by decide) (by kernel_rfl) (.inr ⟨rfl, by kernel_rfl⟩)
      have C := check_any [[m], r.drop 1] _ W hv8 (by simp [maxLen]) (by simp [maxLen, HRL.out])
      rw [HFL.out] at C
      clear hP
      clear hin hout
      intro K Q hK
      go_simp
      refine C.mono ?_
      rintro e W' ⟨rfl, rfl⟩
      exact hK _ _ ⟨Same.refl _, rfl⟩
    refine allp_mild 0 rfl rfl rfl (fun a x W hout hin hP => ?_) ?_
    · have e9 := hin.is 6 9 (by kernel_rfl) (by decide) (by kernel_rfl) (by kernel_rfl) _ rfl
      exact does_assign rfl e9 ⟨Same.refl _, rfl⟩
    exact all_end (by decide)
  · intro x W hP hV
    have hB : Below w.heap.size w W := St.below hP
    have h7 : x 7 = .int .u16 (hd (crcOf r)) := hV 7 (by decide) (.inl (by kernel_rfl))
    clear hV hP
    simp only [putL, Act.put, List.setIfInBounds_toArray, List.set_cons_succ, List.set_cons_zero, h7]
    refine wpAnyH_done (by kernel_rfl) ?_ _
    clear h7
    go_wp2_with fail
    go_ret
    exact ⟨rfl, hB⟩
theorem blk_set (m : BitVec 8) : (#[.int .u8 (bd m), .int .u8 0, .int .u8 0, .int .u8 0, .int .u8 0, .int .u8 0, .int .u8 0, .int .u8 0, .int .u8 0, .int .u8 0, .int .u8 0, .int .u8 0, .int .u8 0, .int .u8 0, .int .u8 0, .int .u8 0, .int .u8 0, .int .u8 0, .int .u8 0, .int .u8 0, .int .u8 0, .int .u8 0, .int .u8 0, .int .u8 0, .int .u8 0, .int .u8 0, .int .u8 0, .int .u8 0, .int .u8 0, .int .u8 0, .int .u8 0, .int .u8 0] : Array Value) = bs ((blk 0#8).set 0 m) := by rfl
theorem put_body {r : List (BitVec 8)} (hr : r.length = 30) {m : BitVec 8} (hm : r.getD 0 0#8 = m) : (spl (bs ((blk 0#8).set 0 m)).toList 1 (bytesV (r.drop 1))).toArray = bs (r ++ [0#8, 0#8]) := by
  rw [spl_bs]
  congr 1
  subst hm
  cases r with
  | nil => simp at hr
  | cons x r =>
    have hl : r.length = 29 := by simpa using hr
    unfold spl
    simp only [List.drop_succ_cons, List.drop_zero, hl]
    rfl
theorem put_30 {r : List (BitVec 8)} (hr : r.length = 30) (u x y : BitVec 8) : (bs (r ++ [u, y])).setIfInBounds 30 (.int .u8 (bd x)) = bs (r ++ [x, y]) := by
  rw [set_bs, List.set_append_right _ _ (by omega), hr]; rfl
theorem put_31 {r : List (BitVec 8)} (hr : r.length = 30) (u x y : BitVec 8) : (bs (r ++ [x, u])).setIfInBounds 31 (.int .u8 (bd y)) = bs (r ++ [x, y]) := by
  rw [set_bs, List.set_append_right _ _ (by omega), hr]; rfl
attribute [local go_sem] lowb_hd lowb8_hd
set_option maxRecDepth 20000 in
set_option maxHeartbeats 1600000 in
theorem block_any (r : List (BitVec 8)) (c : BitVec 16) (w : World) (hr : r.length = 30) :
    Calls Try.prog 55 #[.agg (sld r c)] w fun e w' => e = .returned (.agg (bs (r ++ [c.setWidth 8, (c >>> 8).setWidth 8]))) ∧ Below w.heap.size w w' := by
  have HRL := Lib.hid hr
  obtain ⟨m, hm⟩ : ∃ m, r.getD 0 0#8 = m := ⟨_, rfl⟩
  have H0 : Hid ((sld r c)[0]? = some (.int .u8 (bd m))) := Lib.hid (sld_low c (by omega) (by rw [hm]))
  have HT : Hid ((sld r c)[30]? = some (.int .u16 (hd c))) := Lib.hid (sld_top c hr)
  have HCP := Lib.hid (put_body hr hm)
  have HC1 := Lib.hid (put_30 hr 0#8 (c.setWidth 8) 0#8)
  have HC2 := Lib.hid (put_31 hr 0#8 (c.setWidth 8) ((c >>> 8).setWidth 8))
  have HL32 : Hid ((bs (r ++ [c.setWidth 8, (c >>> 8).setWidth 8])).size = 32) := Lib.hid (by rw [size_bs, List.length_append, hr]; rfl)
  have hz := zeros_blk
  have hbm := blk_set m
  clear hr hm
  have HS := St.nil w noF
  go_enter Try.func55, Try.ntmps55
  go_upto_region 2 with (first | ((with_reducible refine wpList_plain ?_ ?_); exact rfl; intro KK hKK; refine wp_st_box HS 110 (.tmp 0) rfl _ rfl (sld r c) (rfl) (fun g1 W1 HSx => hKK _ _ ?_); clear hKK KK HS; have HS : St w noF [⟨g1, 110, sld r c⟩] W1 := HSx; clear HSx) | ((with_reducible refine wpList_plain ?_ ?_); exact rfl; intro KK hKK; refine wp_st_alloc HS 52 (bs (blk 0#8)) rfl (.agg (bs (blk 0#8))) (by kernel_rfl) (rfl) (fun g2 W2 HSx => hKK _ _ ?_); clear hKK KK HS; have HS : St w noF [⟨g1, 110, sld r c⟩, ⟨g2, 52, bs (blk 0#8)⟩] W2 := HSx; clear HSx) | ((with_reducible refine wpList_plain ?_ ?_); exact rfl; intro KK hKK; refine wp_st_get HS 0 0 5 (.tmp 5) rfl rfl rfl (.int .u8 (bd m)) (H0.out) _ Try.underlying5 rfl (hKK _ _ ?_); clear hKK KK) | ((with_reducible refine wpList_plain ?_ ?_); exact rfl; intro KK hKK; refine wp_st_alloc HS 52 (bs (blk 0#8)) rfl (.agg (bs (blk 0#8))) (by kernel_rfl) (rfl) (fun g3 W3 HSx => hKK _ _ ?_); clear hKK KK HS; have HS : St w noF [⟨g1, 110, sld r c⟩, ⟨g2, 52, bs (blk 0#8)⟩, ⟨g3, 52, bs (blk 0#8)⟩] W3 := HSx; clear HSx) | ((with_reducible refine wpList_plain ?_ ?_); exact rfl; intro KK hKK; refine wp_st_store HS 2 0 52 (.tmp 3) (.tmp 7) rfl rfl rfl (.agg ((bs (blk 0#8)).setIfInBounds 0 (.int .u8 (bd m)))) rfl (by rw [show Value.cells (.agg ((bs (blk 0#8)).setIfInBounds 0 (.int .u8 (bd m)))) = (bs (blk 0#8)).setIfInBounds 0 (.int .u8 (bd m)) from rfl, Array.size_setIfInBounds, size_bs, length_blk]; exact size_blk) (by simp [Value.cells]) (by rw [show Value.cells (.agg ((bs (blk 0#8)).setIfInBounds 0 (.int .u8 (bd m)))) = (bs (blk 0#8)).setIfInBounds 0 (.int .u8 (bd m)) from rfl, set_bs]; exact one_bs _) (bs ((blk 0#8).set 0 m)) (spl_agg _ _ _ (set_bs _ _ _) (by rw [Array.size_setIfInBounds])) (fun W4 HSx => hKK _ _ ?_); clear hKK KK HS; have HS : St w noF [⟨g1, 110, sld r c⟩, ⟨g2, 52, bs (blk 0#8)⟩, ⟨g3, 52, bs ((blk 0#8).set 0 m)⟩] W4 := HSx; clear HSx))
  have hF0 : Wl [fun W => St w noF [⟨g1, 110, sld r c⟩, ⟨g2, 52, bs (blk 0#8)⟩, ⟨g3, 52, bs ((blk 0#8).set 0 m)⟩] W, fun W => St w noF [⟨g1, 110, sld r c⟩, ⟨g2, 52, bs (blk 0#8)⟩, ⟨g3, 52, bs (r ++ [0#8, 0#8])⟩] W] 0 W4.drew := HS.drew
  clear HS
  refine wp_region_phs [is (.slice (some ⟨g3, 1, none⟩) 29 31), is (.pointer (some ⟨g1, 0, none⟩)), is (.pointer (some ⟨g1, 1, none⟩)), is (.slice (some ⟨g1, 1, none⟩) 29 29), anyV] [true, true, true, true, true] [(fun W => St w noF [⟨g1, 110, sld r c⟩, ⟨g2, 52, bs (blk 0#8)⟩, ⟨g3, 52, bs ((blk 0#8).set 0 m)⟩] W), (fun W => St w noF [⟨g1, 110, sld r c⟩, ⟨g2, 52, bs (blk 0#8)⟩, ⟨g3, 52, bs (r ++ [0#8, 0#8])⟩] W)] [false, false, false, false, true] [some 0, some 0, some 0, some 0, some 0] [some 8, some 9, some 10, some 11, some 12] 5 1 (fun _ => true) rfl rfl (by kernel_rfl) (by kernel_rfl) (by kernel_rfl) (by kernel_rfl) ?_ ?_ ?_ ?_ ?_ ?_
  · repeat first | exact wok_nil | refine wok_cons (by first | exact fun _ _ h k => h.same k) ?_
  · repeat first | exact vok_nil | refine vok_rig (by first | exact fun _ _ _ h => h) ?_ | refine vok_soft (by first | exact fun _ _ _ h _ => h) ?_
  · exact hF0
  · repeat first | exact all_end (by decide) | refine all_cons (by first | exact rfl | exact ⟨rfl, fun _ _ h => Or.inl h⟩ | exact ⟨rfl, fun _ _ h => Or.inr ⟨h, rfl⟩⟩) ?_
  · refine allp_mild 0 rfl rfl rfl (fun a x W hout hin hP => ?_) ?_
    · have e3 : a.tmps[3]? = some (.pointer (some ⟨g3, 0, none⟩)) := (hout 3 (by kernel_rfl)).trans rfl
      clear hin hout
      intro K Q hK
      go_simp
      exact hK _ _ ⟨Same.refl _, rfl⟩
    refine allp_mild 0 rfl rfl rfl (fun a x W hout hin hP => ?_) ?_
    · have e1 : a.tmps[1]? = some (.pointer (some ⟨g1, 0, none⟩)) := (hout 1 (by kernel_rfl)).trans rfl
      clear hin hout
      intro K Q hK
      go_simp
      exact hK _ _ ⟨Same.refl _, rfl⟩
    refine allp_mild 0 rfl rfl rfl (fun a x W hout hin hP => ?_) ?_
    · have e9 := hin.is 1 9 (by kernel_rfl) (by decide) (by kernel_rfl) (by kernel_rfl) _ rfl
      clear hin hout
      intro K Q hK
      go_simp
      exact hK _ _ ⟨Same.refl _, rfl⟩
    refine allp_mild 0 rfl rfl rfl (fun a x W hout hin hP => ?_) ?_
    · have e10 := hin.is 2 10 (by kernel_rfl) (by decide) (by kernel_rfl) (by kernel_rfl) _ rfl
      clear hin hout
      intro K Q hK
      go_simp
      exact hK _ _ ⟨Same.refl _, rfl⟩
    refine allp_wild 0 rfl rfl rfl (fun a x W hout hin hP => ?_) ?_
    · have e8 := hin.is 0 8 (by kernel_rfl) (by decide) (by kernel_rfl) (by kernel_rfl) _ rfl
      have e11 := hin.is 3 11 (by kernel_rfl) (by decide) (by kernel_rfl) (by kernel_rfl) _ rfl
      clear hin hout
      intro K Q hK
      have sq : Slice W (.slice (some ⟨g1, 1, none⟩) 29 29) (r.drop 1) := sld_tail (hP.row 0 rfl) HRL.out
      refine wp_copy_any (.tmp 8) (.tmp 11) rfl g3 1 29 31 (eval_of_get e8) _ (eval_of_get e11) (r.drop 1) sq 52 _ (hP.row 2 rfl) (by rw [size_bs, List.length_set, length_blk, List.length_drop, HRL.out]; decide) (by rw [List.length_drop, HRL.out]; decide) ?_
      intro W' r5 hg
      rw [HCP.out] at r5
      exact hK _ _ ⟨hP.upd 2 rfl r5 hg, trivial⟩
    exact all_end (by decide)
  · intro x W hP hV
    clear hV
    have HS : St w noF [⟨g1, 110, sld r c⟩, ⟨g2, 52, bs (blk 0#8)⟩, ⟨g3, 52, bs (r ++ [0#8, 0#8])⟩] W := hP
    clear hP
    simp only [putL, Act.put, List.setIfInBounds_toArray, List.set_cons_succ, List.set_cons_zero]
    refine wpAnyH_done (by kernel_rfl) ?_ _
    go_wp2_with (first | ((with_reducible refine wpList_plain ?_ ?_); exact rfl; intro KK hKK; refine wp_st_get HS 0 30 105 (.tmp 13) rfl rfl rfl (.int .u16 (hd c)) (HT.out) _ Try.underlying105 rfl (hKK _ _ ?_); clear hKK KK) | ((with_reducible refine wpList_plain ?_ ?_); exact rfl; intro KK hKK; refine wp_st_put HS 2 30 5 (.tmp 16) (.tmp 15) rfl rfl rfl (.int .u8 (bd (c.setWidth 8))) rfl (by kernel_rfl) rfl rfl (by simp [size_bs, HRL.out]) (bs (r ++ [c.setWidth 8, 0#8])) (HC1.out) (fun W5 HSx => hKK _ _ ?_); clear hKK KK HS; have HS : St w noF [⟨g1, 110, sld r c⟩, ⟨g2, 52, bs (blk 0#8)⟩, ⟨g3, 52, bs (r ++ [c.setWidth 8, 0#8])⟩] W5 := HSx; clear HSx) | ((with_reducible refine wpList_plain ?_ ?_); exact rfl; intro KK hKK; refine wp_st_get HS 0 30 105 (.tmp 17) rfl rfl rfl (.int .u16 (hd c)) (HT.out) _ Try.underlying105 rfl (hKK _ _ ?_); clear hKK KK) | ((with_reducible refine wpList_plain ?_ ?_); exact rfl; intro KK hKK; refine wp_st_put HS 2 31 5 (.tmp 21) (.tmp 20) rfl rfl rfl (.int .u8 (bd ((c >>> 8).setWidth 8))) rfl (by kernel_rfl) rfl rfl (by simp [size_bs, HRL.out]) (bs (r ++ [c.setWidth 8, (c >>> 8).setWidth 8])) (HC2.out) (fun W6 HSx => hKK _ _ ?_); clear hKK KK HS; have HS : St w noF [⟨g1, 110, sld r c⟩, ⟨g2, 52, bs (blk 0#8)⟩, ⟨g3, 52, bs (r ++ [c.setWidth 8, (c >>> 8).setWidth 8])⟩] W6 := HSx; clear HSx) | ((with_reducible refine wpList_plain ?_ ?_); exact rfl; intro KK hKK; refine wp_st_load HS 2 0 52 (.tmp 3) rfl rfl rfl (bs (r ++ [c.setWidth 8, (c >>> 8).setWidth 8])) (slab_whole _) _ Try.underlying52 rfl (by rw [HL32.out]; exact size_blk) (hKK _ _ ?_); clear hKK KK) | ((with_reducible refine wpList_plain ?_ ?_); exact rfl; intro KK hKK; refine wp_st_store HS 1 0 52 (.tmp 2) (.tmp 22) rfl rfl rfl (.agg (bs (r ++ [c.setWidth 8, (c >>> 8).setWidth 8]))) rfl (by rw [show Value.cells (.agg (bs (r ++ [c.setWidth 8, (c >>> 8).setWidth 8]))) = bs (r ++ [c.setWidth 8, (c >>> 8).setWidth 8]) from rfl, HL32.out]; exact size_blk) (by simp [Value.cells, size_bs, HRL.out, length_blk]) (one_bs _) (bs (r ++ [c.setWidth 8, (c >>> 8).setWidth 8])) (spl_agg _ _ _ rfl (by rw [HL32.out]; rfl)) (fun W7 HSx => hKK _ _ ?_); clear hKK KK HS; have HS : St w noF [⟨g1, 110, sld r c⟩, ⟨g2, 52, bs (r ++ [c.setWidth 8, (c >>> 8).setWidth 8])⟩, ⟨g3, 52, bs (r ++ [c.setWidth 8, (c >>> 8).setWidth 8])⟩] W7 := HSx; clear HSx))
    exact bodyPost_ret (v := .agg (bs (r ++ [c.setWidth 8, (c >>> 8).setWidth 8]))) (results_cell_row Try.results55 _ _ g2 52 (bs (r ++ [c.setWidth 8, (c >>> 8).setWidth 8])) (0, 0) _ rfl (HS.row 1 rfl) Try.underlying52 rfl (by rw [HL32.out]; exact size_blk)) rfl ⟨rfl, HS.below⟩
end Go.Proofs.Ytcdcongeogmfkaa

/- A sector's bytes as a sealed sector; the program's sector of a mark and a body. -/
set_option maxRecDepth 4000
namespace Go.Proofs.Ytcdcongeogmfkaa
open Go Go.RowKit
attribute [local go_sem] convb_hd shl8_hd or_hd
theorem size_z31 (r : List (BitVec 8)) (c : BitVec 16) (h : r.length = 30) : (Try.prog.info? 110).map (·.size) = some (sld r c).size := by rw [size_sld31 h]; exact info_sld
theorem both_sld {r p : List (BitVec 8)} (c d : BitVec 16) (h : r.length = 30) (k : p.length = 30) : (sld r c).size = (sld p d).size := by rw [size_sld31 h, size_sld31 k]
theorem sld_put {r : List (BitVec 8)} (hr : r.length = 30) (c d : BitVec 16) : (sld r c).setIfInBounds 30 (.int .u16 (hd d)) = sld r d := by
  rw [← spl_at _ _ _ (by rw [size_sld31 hr]; decide)]; exact sld_set hr c d
set_option maxRecDepth 20000 in
set_option maxHeartbeats 600000 in
theorem fromblock_any (b : List (BitVec 8)) (w : World) (hb : b.length = 32) :
    Calls Try.prog 56 #[.agg (bs b)] w fun e w' => e = .returned (.agg (sld (b.take 30) (tailC b))) ∧ Below w.heap.size w w' := by
  have HBL := Lib.hid hb
  have HT30 : Hid ((b.take 30).length = 30) := Lib.hid (by simp [hb])
  have H0 : Hid ((bs b)[0]? = some (.int .u8 (bd (markOf b)))) := Lib.hid (get_bs b 0 (by omega))
  have H30 : Hid ((bs b)[30]? = some (.int .u8 (bd (b.getD 30 0#8)))) := Lib.hid (get_bs b 30 (by omega))
  have H31 : Hid ((bs b)[31]? = some (.int .u8 (bd (b.getD 31 0#8)))) := Lib.hid (get_bs b 31 (by omega))
  have HCP : Hid ((spl (sld (markOf b :: zer 29) 0#16).toList 1 (bytesV (bodyOf b))).toArray = sld (b.take 30) 0#16) := Lib.hid (by rw [sld_body (by rw [length_bodyOf hb]; exact Nat.le_refl _), take30 hb])
  have HC1 := Lib.hid (sld_put HT30.out 0#16 (tailC b))
  have HTC : Hid (hd (tailC b) = hd ((b.getD 30 0#8).setWidth 16 ||| ((b.getD 31 0#8).setWidth 16) <<< 8)) := Lib.hid rfl
  have ht := HTC.out.symm
  clear hb
  have HS := St.nil w noF
  go_enter Try.func56, Try.ntmps56
  go_upto_region 2 with (first | ((with_reducible refine wpList_plain ?_ ?_); exact rfl; intro KK hKK; refine wp_st_box HS 52 (.tmp 0) rfl _ rfl (bs b) (rfl) (fun g1 W1 HSx => hKK _ _ ?_); clear hKK KK HS; have HS : St w noF [⟨g1, 52, bs b⟩] W1 := HSx; clear HSx) | ((with_reducible refine wpList_plain ?_ ?_); exact rfl; intro KK hKK; refine wp_st_alloc HS 110 (sld (zer 30) 0#16) rfl (.agg (sld (zer 30) 0#16)) (by kernel_rfl) (rfl) (fun g2 W2 HSx => hKK _ _ ?_); clear hKK KK HS; have HS : St w noF [⟨g1, 52, bs b⟩, ⟨g2, 110, sld (zer 30) 0#16⟩] W2 := HSx; clear HSx) | ((with_reducible refine wpList_plain ?_ ?_); exact rfl; intro KK hKK; refine wp_st_get HS 0 0 5 (.tmp 4) rfl rfl rfl (.int .u8 (bd (markOf b))) (H0.out) _ Try.underlying5 rfl (hKK _ _ ?_); clear hKK KK) | ((with_reducible refine wpList_plain ?_ ?_); exact rfl; intro KK hKK; refine wp_st_alloc HS 110 (sld (zer 30) 0#16) rfl (.agg (sld (zer 30) 0#16)) (by kernel_rfl) (rfl) (fun g3 W3 HSx => hKK _ _ ?_); clear hKK KK HS; have HS : St w noF [⟨g1, 52, bs b⟩, ⟨g2, 110, sld (zer 30) 0#16⟩, ⟨g3, 110, sld (zer 30) 0#16⟩] W3 := HSx; clear HSx) | ((with_reducible refine wpList_plain ?_ ?_); exact rfl; intro KK hKK; refine wp_st_store HS 2 0 110 (.tmp 3) (.tmp 7) rfl rfl rfl (.agg #[.int .u8 (bd (markOf b)), .int .u8 0, .int .u8 0, .int .u8 0, .int .u8 0, .int .u8 0, .int .u8 0, .int .u8 0, .int .u8 0, .int .u8 0, .int .u8 0, .int .u8 0, .int .u8 0, .int .u8 0, .int .u8 0, .int .u8 0, .int .u8 0, .int .u8 0, .int .u8 0, .int .u8 0, .int .u8 0, .int .u8 0, .int .u8 0, .int .u8 0, .int .u8 0, .int .u8 0, .int .u8 0, .int .u8 0, .int .u8 0, .int .u8 0, .int .u16 0]) rfl (by exact info_sld) (by exact Nat.le_refl 31) (by exact one_sld ((markOf b) :: zer 29) 0#16) (sld ((markOf b) :: zer 29) 0#16) (spl_agg _ _ _ (sldm _) rfl) (fun W4 HSx => hKK _ _ ?_); clear hKK KK HS; have HS : St w noF [⟨g1, 52, bs b⟩, ⟨g2, 110, sld (zer 30) 0#16⟩, ⟨g3, 110, sld ((markOf b) :: zer 29) 0#16⟩] W4 := HSx; clear HSx))
  have hF0 : Wl [fun W => St w noF [⟨g1, 52, bs b⟩, ⟨g2, 110, sld (zer 30) 0#16⟩, ⟨g3, 110, sld ((markOf b) :: zer 29) 0#16⟩] W, fun W => St w noF [⟨g1, 52, bs b⟩, ⟨g2, 110, sld (zer 30) 0#16⟩, ⟨g3, 110, sld (b.take 30) 0#16⟩] W] 0 W4.drew := HS.drew
  clear HS
  refine wp_region_phs [is (.pointer (some ⟨g3, 0, none⟩)), is (.pointer (some ⟨g3, 1, none⟩)), is (.slice (some ⟨g3, 1, none⟩) 29 29), is (.slice (some ⟨g1, 1, none⟩) 29 31), anyV] [true, true, true, true, true] [(fun W => St w noF [⟨g1, 52, bs b⟩, ⟨g2, 110, sld (zer 30) 0#16⟩, ⟨g3, 110, sld ((markOf b) :: zer 29) 0#16⟩] W), (fun W => St w noF [⟨g1, 52, bs b⟩, ⟨g2, 110, sld (zer 30) 0#16⟩, ⟨g3, 110, sld (b.take 30) 0#16⟩] W)] [false, false, false, false, true] [some 0, some 0, some 0, some 0, some 0] [some 8, some 9, some 10, some 11, some 12] 5 1 (fun _ => true) rfl rfl (by kernel_rfl) (by kernel_rfl) (by kernel_rfl) (by kernel_rfl) ?_ ?_ ?_ ?_ ?_ ?_
  · repeat first | exact wok_nil | refine wok_cons (by first | exact fun _ _ h k => h.same k) ?_
  · repeat first | exact vok_nil | refine vok_rig (by first | exact fun _ _ _ h => h) ?_ | refine vok_soft (by first | exact fun _ _ _ h _ => h) ?_
  · exact hF0
  · repeat first | exact all_end (by decide) | refine all_cons (by first | exact rfl | exact ⟨rfl, fun _ _ h => Or.inl h⟩ | exact ⟨rfl, fun _ _ h => Or.inr ⟨h, rfl⟩⟩) ?_
  · refine allp_mild 0 rfl rfl rfl (fun a x W hout hin hP => ?_) ?_
    · have e3 : a.tmps[3]? = some (.pointer (some ⟨g3, 0, none⟩)) := (hout 3 (by kernel_rfl)).trans rfl
      clear hin hout
      intro K Q hK
      go_simp
      exact hK _ _ ⟨Same.refl _, rfl⟩
    refine allp_mild 0 rfl rfl rfl (fun a x W hout hin hP => ?_) ?_
    · have e8 := hin.is 0 8 (by kernel_rfl) (by decide) (by kernel_rfl) (by kernel_rfl) _ rfl
      clear hin hout
      intro K Q hK
      go_simp
      exact hK _ _ ⟨Same.refl _, rfl⟩
    refine allp_mild 0 rfl rfl rfl (fun a x W hout hin hP => ?_) ?_
    · have e9 := hin.is 1 9 (by kernel_rfl) (by decide) (by kernel_rfl) (by kernel_rfl) _ rfl
      clear hin hout
      intro K Q hK
      go_simp
      exact hK _ _ ⟨Same.refl _, rfl⟩
    refine allp_mild 0 rfl rfl rfl (fun a x W hout hin hP => ?_) ?_
    · have e1 : a.tmps[1]? = some (.pointer (some ⟨g1, 0, none⟩)) := (hout 1 (by kernel_rfl)).trans rfl
      clear hin hout
      intro K Q hK
      go_simp
      exact hK _ _ ⟨Same.refl _, rfl⟩
    refine allp_wild 0 rfl rfl rfl (fun a x W hout hin hP => ?_) ?_
    · have e10 := hin.is 2 10 (by kernel_rfl) (by decide) (by kernel_rfl) (by kernel_rfl) _ rfl
      have e11 := hin.is 3 11 (by kernel_rfl) (by decide) (by kernel_rfl) (by kernel_rfl) _ rfl
      clear hin hout
      intro K Q hK
      have sq : Slice W (.slice (some ⟨g1, 1, none⟩) 29 31) (bodyOf b) := row_piece (hP.row 0 rfl) (by rw [HBL.out]; decide) (by decide)
      refine wp_copy_any (.tmp 10) (.tmp 11) rfl g3 1 29 29 (eval_of_get e10) _ (eval_of_get e11) (bodyOf b) sq 110 _ (hP.row 2 rfl) (by rw [size_sld31 (by rfl), length_bodyOf HBL.out]; decide) (by rw [length_bodyOf HBL.out]; exact Nat.le_refl _) ?_
      intro W' r5 hg
      rw [HCP.out] at r5
      exact hK _ _ ⟨hP.upd 2 rfl r5 hg, trivial⟩
    exact all_end (by decide)
  · intro x W hP hV
    clear hV
    have HS : St w noF [⟨g1, 52, bs b⟩, ⟨g2, 110, sld (zer 30) 0#16⟩, ⟨g3, 110, sld (b.take 30) 0#16⟩] W := hP
    clear hP
    simp only [putL, Act.put, List.setIfInBounds_toArray, List.set_cons_succ, List.set_cons_zero]
    refine wpAnyH_done (by kernel_rfl) ?_ _
    go_wp2_with (first | ((with_reducible refine wpList_plain ?_ ?_); exact rfl; intro KK hKK; refine wp_st_get HS 0 30 5 (.tmp 13) rfl rfl rfl (.int .u8 (bd (b.getD 30 0#8))) (H30.out) _ Try.underlying5 rfl (hKK _ _ ?_); clear hKK KK) | ((with_reducible refine wpList_plain ?_ ?_); exact rfl; intro KK hKK; refine wp_st_get HS 0 31 5 (.tmp 16) rfl rfl rfl (.int .u8 (bd (b.getD 31 0#8))) (H31.out) _ Try.underlying5 rfl (hKK _ _ ?_); clear hKK KK) | ((with_reducible refine wpList_plain ?_ ?_); exact rfl; intro KK hKK; refine wp_st_put HS 2 30 105 (.tmp 21) (.tmp 20) rfl rfl rfl (.int .u16 (hd (tailC b))) rfl (by kernel_rfl) rfl rfl (by rw [size_sld31 HT30.out]; decide) (sld (b.take 30) (tailC b)) (HC1.out) (fun W5 HSx => hKK _ _ ?_); clear hKK KK HS; have HS : St w noF [⟨g1, 52, bs b⟩, ⟨g2, 110, sld (zer 30) 0#16⟩, ⟨g3, 110, sld (b.take 30) (tailC b)⟩] W5 := HSx; clear HSx) | ((with_reducible refine wpList_plain ?_ ?_); exact rfl; intro KK hKK; refine wp_st_load HS 2 0 110 (.tmp 3) rfl rfl rfl (sld (b.take 30) (tailC b)) (slab_whole _) _ Try.underlying110 rfl (size_z31 _ _ HT30.out) (hKK _ _ ?_); clear hKK KK) | ((with_reducible refine wpList_plain ?_ ?_); exact rfl; intro KK hKK; refine wp_st_store HS 1 0 110 (.tmp 2) (.tmp 22) rfl rfl rfl (.agg (sld (b.take 30) (tailC b))) rfl (by exact size_z31 (b.take 30) (tailC b) HT30.out) (by rw [Nat.zero_add]; exact Nat.le_of_eq (Eq.symm (both_sld (r := zer 30) (p := b.take 30) 0#16 (tailC b) rfl HT30.out))) (by first | exact one_bs _ | exact one_sld _ _) (sld (b.take 30) (tailC b)) (spl_agg _ _ _ rfl (both_sld (r := zer 30) (p := b.take 30) 0#16 (tailC b) rfl HT30.out)) (fun W6 HSx => hKK _ _ ?_); clear hKK KK HS; have HS : St w noF [⟨g1, 52, bs b⟩, ⟨g2, 110, sld (b.take 30) (tailC b)⟩, ⟨g3, 110, sld (b.take 30) (tailC b)⟩] W6 := HSx; clear HSx))
    exact bodyPost_ret (v := .agg (sld (b.take 30) (tailC b))) (results_cell_row Try.results56 _ _ g2 110 (sld (b.take 30) (tailC b)) (0, 0) _ rfl (HS.row 1 rfl) Try.underlying110 rfl (size_z31 _ _ HT30.out)) rfl ⟨rfl, HS.below⟩
set_option maxRecDepth 20000 in
set_option maxHeartbeats 600000 in
theorem prgenc_any (m : BitVec 8) (q : List (BitVec 8)) (v : Value) (w : World) (hv : Item w v q) :
    Calls Try.prog 48 #[.int .u8 (bd m), v] w fun e w' => e = .returned (.tuple #[.agg (bs (encB m q)), .int .i64 (encE m q)]) ∧ Below w.heap.size w w' := by
  obtain ⟨A, c, rfl, hS, hA, hm⟩ := hv
  obtain ⟨n, hn⟩ : ∃ n, q.length = n := ⟨_, rfl⟩
  have HN := Lib.hid hn
  have hz := zeros_blk
  have hB : encBad m q = (decide (m = 0#8) || decide (29 < q.length)) := rfl
  have HS := St.nil w noF
  rw [hn] at hB hS hm ⊢
  by_cases h0 : m = 0#8
  · have hbad : encBad m q = true := by rw [hB, decide_eq_true h0]; rfl
    have hq0 : (bd m == 0) = true := by rw [bd_zero_iff, decide_eq_true h0]
    clear hn h0
    have e1 := Lib.hid (encB_bad hbad)
    have e2 := Lib.hid (encE_bad hbad)
    clear hbad hB hA hm hS
    go_enter Try.func48, Try.ntmps48
    go_wp2_with (first | ((with_reducible refine wpList_plain ?_ ?_); exact rfl; intro KK hKK; refine wp_st_alloc HS 52 (bs (blk 0#8)) rfl (.agg (bs (blk 0#8))) (by kernel_rfl) (rfl) (fun g4 W1 HSx => hKK _ _ ?_); clear hKK KK HS; have HS : St w noF [⟨g4, 52, bs (blk 0#8)⟩] W1 := HSx; clear HSx) | ((with_reducible refine wpList_plain ?_ ?_); exact rfl; intro KK hKK; refine wp_st_alloc HS 110 (sld (zer 30) 0#16) rfl (.agg (sld (zer 30) 0#16)) (by kernel_rfl) (rfl) (fun g6 W2 HSx => hKK _ _ ?_); clear hKK KK HS; have HS : St w noF [⟨g4, 52, bs (blk 0#8)⟩, ⟨g6, 110, sld (zer 30) 0#16⟩] W2 := HSx; clear HSx) | ((with_reducible refine wpList_plain ?_ ?_); exact rfl; intro KK hKK; refine wp_st_store HS 1 0 110 (.tmp 6) (.tmp 9) rfl rfl rfl (.agg #[.int .u8 (bd m), .int .u8 0, .int .u8 0, .int .u8 0, .int .u8 0, .int .u8 0, .int .u8 0, .int .u8 0, .int .u8 0, .int .u8 0, .int .u8 0, .int .u8 0, .int .u8 0, .int .u8 0, .int .u8 0, .int .u8 0, .int .u8 0, .int .u8 0, .int .u8 0, .int .u8 0, .int .u8 0, .int .u8 0, .int .u8 0, .int .u8 0, .int .u8 0, .int .u8 0, .int .u8 0, .int .u8 0, .int .u8 0, .int .u8 0, .int .u16 0]) rfl (by exact info_sld) (by exact Nat.le_refl 31) (by exact one_sld (m :: zer 29) 0#16) (sld (m :: zer 29) 0#16) (spl_agg _ _ _ (sldm _) rfl) (fun W3 HSx => hKK _ _ ?_); clear hKK KK HS; have HS : St w noF [⟨g4, 52, bs (blk 0#8)⟩, ⟨g6, 110, sld (m :: zer 29) 0#16⟩] W3 := HSx; clear HSx) | ((with_reducible refine wpList_plain ?_ ?_); exact rfl; intro KK hKK; refine wp_st_store HS 0 0 52 (.tmp 4) (.tmp 17) rfl rfl rfl (.agg (bs (blk 0#8))) rfl (by exact by rw [show Value.cells (.agg (bs (blk 0#8))) = bs (blk 0#8) from rfl, size_bs, length_blk]; exact size_blk) (by rw [Nat.zero_add]; exact Nat.le_of_eq (Eq.symm (rfl))) (by first | exact one_bs _ | exact one_sld _ _) (bs (blk 0#8)) (spl_agg _ _ _ rfl (rfl)) (fun W4 HSx => hKK _ _ ?_); clear hKK KK HS; have HS : St w noF [⟨g4, 52, bs (blk 0#8)⟩, ⟨g6, 110, sld (m :: zer 29) 0#16⟩] W4 := HSx; clear HSx))
    exact bodyPost_ret (v := .tuple #[.agg (bs (blk 0#8)), .int .i64 1]) (results_cell_tmp Try.results48 _ _ g4 52 (bs (blk 0#8)) (0, 0) _ rfl (HS.row 0 rfl) Try.underlying52 rfl (by rw [size_bs, length_blk]; exact size_blk)) rfl ⟨by rw [e1.out, e2.out], HS.below⟩
  by_cases h29 : 29 < n
  · have hbad : encBad m q = true := by rw [hB, decide_eq_true h29, Bool.or_true]
    have hq0 : (bd m == 0) = false := by rw [bd_zero_iff, decide_eq_false h0]
    have hq2 : decide ((29 : Int) < (n : Int)) = true := decide_eq_true (by omega)
    clear hn h0 h29
    have e1 := Lib.hid (encB_bad hbad)
    have e2 := Lib.hid (encE_bad hbad)
    clear hbad hB hA hm hS
    go_enter Try.func48, Try.ntmps48
    go_wp2_with (first | ((with_reducible refine wpList_plain ?_ ?_); exact rfl; intro KK hKK; refine wp_st_alloc HS 52 (bs (blk 0#8)) rfl (.agg (bs (blk 0#8))) (by kernel_rfl) (rfl) (fun g4 W1 HSx => hKK _ _ ?_); clear hKK KK HS; have HS : St w noF [⟨g4, 52, bs (blk 0#8)⟩] W1 := HSx; clear HSx) | ((with_reducible refine wpList_plain ?_ ?_); exact rfl; intro KK hKK; refine wp_st_alloc HS 110 (sld (zer 30) 0#16) rfl (.agg (sld (zer 30) 0#16)) (by kernel_rfl) (rfl) (fun g6 W2 HSx => hKK _ _ ?_); clear hKK KK HS; have HS : St w noF [⟨g4, 52, bs (blk 0#8)⟩, ⟨g6, 110, sld (zer 30) 0#16⟩] W2 := HSx; clear HSx) | ((with_reducible refine wpList_plain ?_ ?_); exact rfl; intro KK hKK; refine wp_st_store HS 1 0 110 (.tmp 6) (.tmp 9) rfl rfl rfl (.agg #[.int .u8 (bd m), .int .u8 0, .int .u8 0, .int .u8 0, .int .u8 0, .int .u8 0, .int .u8 0, .int .u8 0, .int .u8 0, .int .u8 0, .int .u8 0, .int .u8 0, .int .u8 0, .int .u8 0, .int .u8 0, .int .u8 0, .int .u8 0, .int .u8 0, .int .u8 0, .int .u8 0, .int .u8 0, .int .u8 0, .int .u8 0, .int .u8 0, .int .u8 0, .int .u8 0, .int .u8 0, .int .u8 0, .int .u8 0, .int .u8 0, .int .u16 0]) rfl (by exact info_sld) (by exact Nat.le_refl 31) (by exact one_sld (m :: zer 29) 0#16) (sld (m :: zer 29) 0#16) (spl_agg _ _ _ (sldm _) rfl) (fun W3 HSx => hKK _ _ ?_); clear hKK KK HS; have HS : St w noF [⟨g4, 52, bs (blk 0#8)⟩, ⟨g6, 110, sld (m :: zer 29) 0#16⟩] W3 := HSx; clear HSx) | ((with_reducible refine wpList_plain ?_ ?_); exact rfl; intro KK hKK; refine wp_st_store HS 0 0 52 (.tmp 4) (.tmp 17) rfl rfl rfl (.agg (bs (blk 0#8))) rfl (by exact by rw [show Value.cells (.agg (bs (blk 0#8))) = bs (blk 0#8) from rfl, size_bs, length_blk]; exact size_blk) (by rw [Nat.zero_add]; exact Nat.le_of_eq (Eq.symm (rfl))) (by first | exact one_bs _ | exact one_sld _ _) (bs (blk 0#8)) (spl_agg _ _ _ rfl (rfl)) (fun W4 HSx => hKK _ _ ?_); clear hKK KK HS; have HS : St w noF [⟨g4, 52, bs (blk 0#8)⟩, ⟨g6, 110, sld (m :: zer 29) 0#16⟩] W4 := HSx; clear HSx))
    exact bodyPost_ret (v := .tuple #[.agg (bs (blk 0#8)), .int .i64 1]) (results_cell_tmp Try.results48 _ _ g4 52 (bs (blk 0#8)) (0, 0) _ rfl (HS.row 0 rfl) Try.underlying52 rfl (by rw [size_bs, length_blk]; exact size_blk)) rfl ⟨by rw [e1.out, e2.out], HS.below⟩
  have hgood : encBad m q = false := by rw [hB, decide_eq_false h0, decide_eq_false h29]; rfl
  have HEB := Lib.hid (encB_good hgood)
  have HEE := Lib.hid (encE_good hgood)
  have hq29 : q.length ≤ 29 := by omega
  have HP30 : Hid ((pad30 m q).length = 30) := Lib.hid (length_pad30 hq29)
  have HS32 : Hid ((sealedB m q).length = 32) := Lib.hid (length_sealedB hq29)
  have HPUT := Lib.hid (sld_body (m := m) hq29 0#16)
  have HC1 := Lib.hid (sld_put HP30.out 0#16 (crcOf (pad30 m q)))
  have HSD : Hid (pad30 m q ++ [(crcOf (pad30 m q)).setWidth 8, ((crcOf (pad30 m q)) >>> 8).setWidth 8] = sealedB m q) := Lib.hid rfl
  have hq0 : (bd m == 0) = false := by rw [bd_zero_iff, decide_eq_false h0]
  have hq2 : decide ((29 : Int) < (n : Int)) = false := decide_eq_false (by omega)
  have hn29 : n ≤ 29 := by omega
  have HSw := Lib.hid hS
  clear hn h0 h29 hgood hB hA hm hS hq29
  go_enter Try.func48, Try.ntmps48
  go_upto_region 4 with (first | ((with_reducible refine wpList_plain ?_ ?_); exact rfl; intro KK hKK; refine wp_st_alloc HS 52 (bs (blk 0#8)) rfl (.agg (bs (blk 0#8))) (by kernel_rfl) (rfl) (fun g4 W1 HSx => hKK _ _ ?_); clear hKK KK HS; have HS : St w noF [⟨g4, 52, bs (blk 0#8)⟩] W1 := HSx; clear HSx) | ((with_reducible refine wpList_plain ?_ ?_); exact rfl; intro KK hKK; refine wp_st_alloc HS 110 (sld (zer 30) 0#16) rfl (.agg (sld (zer 30) 0#16)) (by kernel_rfl) (rfl) (fun g6 W2 HSx => hKK _ _ ?_); clear hKK KK HS; have HS : St w noF [⟨g4, 52, bs (blk 0#8)⟩, ⟨g6, 110, sld (zer 30) 0#16⟩] W2 := HSx; clear HSx) | ((with_reducible refine wpList_plain ?_ ?_); exact rfl; intro KK hKK; refine wp_st_store HS 1 0 110 (.tmp 6) (.tmp 9) rfl rfl rfl (.agg #[.int .u8 (bd m), .int .u8 0, .int .u8 0, .int .u8 0, .int .u8 0, .int .u8 0, .int .u8 0, .int .u8 0, .int .u8 0, .int .u8 0, .int .u8 0, .int .u8 0, .int .u8 0, .int .u8 0, .int .u8 0, .int .u8 0, .int .u8 0, .int .u8 0, .int .u8 0, .int .u8 0, .int .u8 0, .int .u8 0, .int .u8 0, .int .u8 0, .int .u8 0, .int .u8 0, .int .u8 0, .int .u8 0, .int .u8 0, .int .u8 0, .int .u16 0]) rfl (by exact info_sld) (by exact Nat.le_refl 31) (by exact one_sld (m :: zer 29) 0#16) (sld (m :: zer 29) 0#16) (spl_agg _ _ _ (sldm _) rfl) (fun W3 HSx => hKK _ _ ?_); clear hKK KK HS; have HS : St w noF [⟨g4, 52, bs (blk 0#8)⟩, ⟨g6, 110, sld (m :: zer 29) 0#16⟩] W3 := HSx; clear HSx))
  clear hq0 hq2
  have HS2 := Lib.hid (Slice.below HSw.out HS.below (Nat.le_refl _))
  go_wp2_with (first | (refine wpList_copy_any rfl (.tmp 20) (.tmp 21) rfl g6 1 29 29 rfl (.slice A n c) rfl q HS2.out 110 _ (HS.row 1 rfl) (by rw [size_sld31 (by rfl), HN.out]; omega) (by rw [HN.out]; exact hn29) ?_; intro W4 r6 hg; rw [HPUT.out] at r6; have HSx : St w noF [⟨g4, 52, bs (blk 0#8)⟩, ⟨g6, 110, sld (pad30 m q) 0#16⟩] W4 := HS.upd 1 rfl r6 hg; clear HS HS2 r6 hg; have HS := HSx; clear HSx) | (first | ((with_reducible refine wpList_plain ?_ ?_); exact rfl; intro KK hKK; refine wp_st_load HS 1 0 101 (.tmp 23) rfl rfl rfl (bs (pad30 m q)) (sld_take _ _) _ Try.underlying101 rfl (by rw [size_bs, HP30.out]; exact size_sec) (hKK _ _ ?_); clear hKK KK)))
  refine (right_any (pad30 m q) _ HP30.out).mono ?_
  rintro e W5 ⟨rfl, hb⟩
  have HSx : St w noF [⟨g4, 52, bs (blk 0#8)⟩, ⟨g6, 110, sld (pad30 m q) 0#16⟩] W5 := HS.same hb
  clear HS hb; have HS := HSx; clear HSx
  go_wp2_with (first | ((with_reducible refine wpList_plain ?_ ?_); exact rfl; intro KK hKK; refine wp_st_put HS 1 30 105 (.tmp 26) (.tmp 25) rfl rfl rfl (.int .u16 (hd (crcOf (pad30 m q)))) rfl (by kernel_rfl) rfl rfl (by rw [size_sld31 HP30.out]; decide) (sld (pad30 m q) (crcOf (pad30 m q))) (HC1.out) (fun W6 HSx => hKK _ _ ?_); clear hKK KK HS; have HS : St w noF [⟨g4, 52, bs (blk 0#8)⟩, ⟨g6, 110, sld (pad30 m q) (crcOf (pad30 m q))⟩] W6 := HSx; clear HSx) | ((with_reducible refine wpList_plain ?_ ?_); exact rfl; intro KK hKK; refine wp_st_load HS 1 0 110 (.tmp 6) rfl rfl rfl (sld (pad30 m q) (crcOf (pad30 m q))) (slab_whole _) _ Try.underlying110 rfl (size_z31 _ _ HP30.out) (hKK _ _ ?_); clear hKK KK))
  refine (block_any (pad30 m q) (crcOf (pad30 m q)) _ HP30.out).mono ?_
  rintro e W7 ⟨rfl, hb⟩
  rw [HSD.out]
  have HSx : St w noF [⟨g4, 52, bs (blk 0#8)⟩, ⟨g6, 110, sld (pad30 m q) (crcOf (pad30 m q))⟩] W7 := HS.same hb
  clear HS hb; have HS := HSx; clear HSx
  go_wp2_with (first | ((with_reducible refine wpList_plain ?_ ?_); exact rfl; intro KK hKK; refine wp_st_store HS 0 0 52 (.tmp 4) (.tmp 28) rfl rfl rfl (.agg (bs (sealedB m q))) rfl (by exact by rw [show Value.cells (.agg (bs (sealedB m q))) = bs (sealedB m q) from rfl, size_bs, HS32.out]; exact size_blk) (by rw [Nat.zero_add]; exact Nat.le_of_eq (Eq.symm (show (bs (blk 0#8)).size = (bs (sealedB m q)).size by rw [size_bs, size_bs, HS32.out, length_blk]))) (by first | exact one_bs _ | exact one_sld _ _) (bs (sealedB m q)) (spl_agg _ _ _ rfl (show (bs (blk 0#8)).size = (bs (sealedB m q)).size by rw [size_bs, size_bs, HS32.out, length_blk])) (fun W8 HSx => hKK _ _ ?_); clear hKK KK HS; have HS : St w noF [⟨g4, 52, bs (sealedB m q)⟩, ⟨g6, 110, sld (pad30 m q) (crcOf (pad30 m q))⟩] W8 := HSx; clear HSx))
  exact bodyPost_ret (v := .tuple #[.agg (bs (sealedB m q)), .int .i64 0]) (results_cell_tmp Try.results48 _ _ g4 52 (bs (sealedB m q)) (0, 0) _ rfl (HS.row 0 rfl) Try.underlying52 rfl (by rw [size_bs, HS32.out]; exact size_blk)) rfl ⟨by rw [HEB.out, HEE.out], HS.below⟩
end Go.Proofs.Ytcdcongeogmfkaa

/- The program's mark and body of a sector; its contracts together. -/
set_option maxRecDepth 4000
namespace Go.Proofs.Ytcdcongeogmfkaa
open Go Go.RowKit
theorem zeros_sec : (#[.int .u8 0, .int .u8 0, .int .u8 0, .int .u8 0, .int .u8 0, .int .u8 0, .int .u8 0, .int .u8 0, .int .u8 0, .int .u8 0, .int .u8 0, .int .u8 0, .int .u8 0, .int .u8 0, .int .u8 0, .int .u8 0, .int .u8 0, .int .u8 0, .int .u8 0, .int .u8 0, .int .u8 0, .int .u8 0, .int .u8 0, .int .u8 0, .int .u8 0, .int .u8 0, .int .u8 0, .int .u8 0, .int .u8 0, .int .u8 0] : Array Value) = bs (zer 30) := by rfl
theorem hd_ne (x y : BitVec 16) : (hd x != hd y) = !decide (x = y) := by
  by_cases h : x = y
  · subst h; simp
  · rw [decide_eq_false h]; simp; exact fun e => h (hd_inj e)
set_option maxRecDepth 20000 in
set_option maxHeartbeats 600000 in
theorem prgdec_any (b : List (BitVec 8)) (w : World) (hb : b.length = 32) :
    Calls Try.prog 49 #[.agg (bs b)] w fun e w' => e = .returned (.tuple #[.agg (bs (decR b)), .int .i64 (decE b)]) ∧ Below w.heap.size w w' := by
  have HBL := Lib.hid hb
  have HT30 : Hid ((b.take 30).length = 30) := Lib.hid (by simp [hb])
  have H0 : Hid ((sld (b.take 30) (tailC b))[0]? = some (.int .u8 (bd (markOf b)))) := Lib.hid (sld_low _ (by rw [HT30.out]; decide) (by
    cases b with
    | nil => simp at hb
    | cons x b => rfl))
  have HT : Hid ((sld (b.take 30) (tailC b))[30]? = some (.int .u16 (hd (tailC b)))) := Lib.hid (sld_top _ HT30.out)
  have HZ := Lib.hid zeros_sec
  have hdk := decOk_tail hb
  have HR : Hid (decOk b = true → decR b = b.take 30) := Lib.hid (fun h => by unfold decR; rw [if_pos h])
  have HE : Hid (decOk b = true → decE b = 0) := Lib.hid (fun h => by unfold decE; rw [if_pos h])
  have HFB := Lib.hid (fun W => fromblock_any b W hb)
  clear hb
  have HS := St.nil w noF
  go_enter Try.func49, Try.ntmps49
  go_wp2_with (first | ((with_reducible refine wpList_plain ?_ ?_); exact rfl; intro KK hKK; refine wp_st_box HS 52 (.tmp 0) rfl _ rfl (bs b) (rfl) (fun g1 W1 HSx => hKK _ _ ?_); clear hKK KK HS; have HS : St w noF [⟨g1, 52, bs b⟩] W1 := HSx; clear HSx) | ((with_reducible refine wpList_plain ?_ ?_); exact rfl; intro KK hKK; refine wp_st_alloc HS 101 (bs (zer 30)) rfl (.agg (bs (zer 30))) (by kernel_rfl) (rfl) (fun g2 W2 HSx => hKK _ _ ?_); clear hKK KK HS; have HS : St w noF [⟨g1, 52, bs b⟩, ⟨g2, 101, bs (zer 30)⟩] W2 := HSx; clear HSx) | ((with_reducible refine wpList_plain ?_ ?_); exact rfl; intro KK hKK; refine wp_st_load HS 0 0 52 (.tmp 1) rfl rfl rfl (bs b) (slab_whole _) _ Try.underlying52 rfl (by rw [size_bs, HBL.out]; exact size_blk) (hKK _ _ ?_); clear hKK KK))
  refine (HFB.out _).mono ?_
  rintro e W3 ⟨rfl, hb⟩
  have HSx : St w noF [⟨g1, 52, bs b⟩, ⟨g2, 101, bs (zer 30)⟩] W3 := HS.same hb
  clear HS hb HFB; have HS := HSx; clear HSx
  go_upto_region 2 with (first | ((with_reducible refine wpList_plain ?_ ?_); exact rfl; intro KK hKK; refine wp_st_alloc HS 110 (sld (zer 30) 0#16) rfl (.agg (sld (zer 30) 0#16)) (by kernel_rfl) (rfl) (fun g4 W4 HSx => hKK _ _ ?_); clear hKK KK HS; have HS : St w noF [⟨g1, 52, bs b⟩, ⟨g2, 101, bs (zer 30)⟩, ⟨g4, 110, sld (zer 30) 0#16⟩] W4 := HSx; clear HSx) | ((with_reducible refine wpList_plain ?_ ?_); exact rfl; intro KK hKK; refine wp_st_store HS 2 0 110 (.tmp 4) (.tmp 6) rfl rfl rfl (.agg (sld (b.take 30) (tailC b))) rfl (by exact size_z31 (b.take 30) (tailC b) HT30.out) (by rw [Nat.zero_add]; exact Nat.le_of_eq (Eq.symm (both_sld (r := zer 30) (p := b.take 30) 0#16 (tailC b) rfl HT30.out))) (by first | exact one_bs _ | exact one_sld _ _) (sld (b.take 30) (tailC b)) (spl_agg _ _ _ rfl (both_sld (r := zer 30) (p := b.take 30) 0#16 (tailC b) rfl HT30.out)) (fun W5 HSx => hKK _ _ ?_); clear hKK KK HS; have HS : St w noF [⟨g1, 52, bs b⟩, ⟨g2, 101, bs (zer 30)⟩, ⟨g4, 110, sld (b.take 30) (tailC b)⟩] W5 := HSx; clear HSx))
  have hF0 : Wl [fun W => St w noF [⟨g1, 52, bs b⟩, ⟨g2, 101, bs (zer 30)⟩, ⟨g4, 110, sld (b.take 30) (tailC b)⟩] W] 0 W5.drew := HS.drew
  clear HS
  by_cases hm0 : markOf b = 0#8
  · have HD : Hid (decOk b = false) := Lib.hid (by rw [hdk, decide_eq_false (fun h => h hm0)]; rfl)
    have hq0 : (bd (markOf b) == 0) = true := by rw [bd_zero_iff, decide_eq_true hm0]
    clear hdk hm0
    refine wp_region_phs [is (.pointer (some ⟨g4, 0, none⟩)), is (.pointer (some ⟨g4, 0, none⟩)), is (.int .u8 (bd (markOf b))), is (.bool true), is (.bool true), is undef, is undef, is undef, is undef, is undef, is undef, is (.bool true)] [true, true, true, true, true, true, true, true, true, true, true, true] [(fun W => St w noF [⟨g1, 52, bs b⟩, ⟨g2, 101, bs (zer 30)⟩, ⟨g4, 110, sld (b.take 30) (tailC b)⟩] W)] [false, false, false, false, false, false, false, false, false, false, false, false] [some 0, some 0, some 0, some 0, some 0, some 0, some 0, some 0, some 0, some 0, some 0, some 0] [some 7, some 8, some 9, some 10, some 11, some 12, some 13, some 14, some 15, some 16, some 17, some 18] 12 0 (fun i => !([5, 6, 7, 8, 9, 10] : List Nat).contains i) rfl rfl (by kernel_rfl) (by kernel_rfl) (by kernel_rfl) (by kernel_rfl) ?_ ?_ ?_ ?_ ?_ ?_
    · repeat first | exact wok_nil | refine wok_cons (by first | exact fun _ _ h k => h.same k) ?_
    · repeat first | exact vok_nil | refine vok_rig (by first | exact fun _ _ _ h => h) ?_ | refine vok_soft (by first | exact fun _ _ _ h _ => h) ?_
    · exact hF0
    · repeat first | exact all_end (by decide) | refine all_cons (by first | exact rfl | exact ⟨rfl, fun _ _ h => Or.inl h⟩ | exact ⟨rfl, fun _ _ h => Or.inr ⟨h, rfl⟩⟩) ?_
    · refine allp_mild 0 rfl rfl rfl (fun a x W hout hin hP => ?_) ?_
      · have e4 : a.tmps[4]? = some (.pointer (some ⟨g4, 0, none⟩)) := (hout 4 (by kernel_rfl)).trans rfl
        clear hin hout
        intro K Q hK
        go_simp
        exact hK _ _ ⟨Same.refl _, rfl⟩
      refine allp_mild 0 rfl rfl rfl (fun a x W hout hin hP => ?_) ?_
      · have e7 := hin.is 0 7 (by kernel_rfl) (by decide) (by kernel_rfl) (by kernel_rfl) _ rfl
        clear hin hout
        intro K Q hK
        go_simp
        exact hK _ _ ⟨Same.refl _, rfl⟩
      refine allp_mild 0 rfl rfl rfl (fun a x W hout hin hP => ?_) ?_
      · have e8 := hin.is 1 8 (by kernel_rfl) (by decide) (by kernel_rfl) (by kernel_rfl) _ rfl
        clear hin hout
        intro K Q hK
        exact wp_st_get hP 2 0 5 (.tmp 8) rfl rfl (eval_of_get e8) _ H0.out _ Try.underlying5 rfl (hK _ _ ⟨Same.refl _, rfl⟩)
      refine allp_mild 0 rfl rfl rfl (fun a x W hout hin hP => ?_) ?_
      · have e9 := hin.is 2 9 (by kernel_rfl) (by decide) (by kernel_rfl) (by kernel_rfl) _ rfl
        clear hin hout
        intro K Q hK
        go_simp
        exact hK _ _ ⟨Same.refl _, rfl⟩
      refine allp_mild 0 rfl rfl rfl (fun a x W hout hin hP => ?_) ?_
      · have e10 := hin.is 3 10 (by kernel_rfl) (by decide) (by kernel_rfl) (by kernel_rfl) _ rfl
        exact does_move rfl e10 ⟨Same.refl _, rfl⟩
      refine allp_skip rfl rfl (fun _ => rfl) ?_
      refine allp_skip rfl rfl (fun _ => rfl) ?_
      refine allp_skip rfl rfl (fun _ => rfl) ?_
      refine allp_skip rfl rfl (fun _ => rfl) ?_
      refine allp_skip rfl rfl (fun _ => rfl) ?_
      refine allp_skip rfl rfl (fun _ => rfl) ?_
      refine allp_mild 0 rfl rfl rfl (fun a x W hout hin hP => ?_) ?_
      · have e11 := hin.is 4 11 (by kernel_rfl) (by decide) (by kernel_rfl) (by kernel_rfl) _ rfl
        have e17 := hin.is 10 17 (by kernel_rfl) (by decide) (by kernel_rfl) (by kernel_rfl) _ rfl
        exact does_pick rfl e11 ⟨Same.refl _, rfl⟩
      exact all_end (by decide)
    · intro x W hP hV
      have HS : St w noF [⟨g1, 52, bs b⟩, ⟨g2, 101, bs (zer 30)⟩, ⟨g4, 110, sld (b.take 30) (tailC b)⟩] W := hP
      have h18 : x 11 = .bool true := hV 11 (by decide) (.inl (by kernel_rfl))
      clear hP hV
      simp only [putL, Act.put, List.setIfInBounds_toArray, List.set_cons_succ, List.set_cons_zero, h18]
      refine wpAnyH_done (by kernel_rfl) ?_ _
      clear h18
      have hz := HZ.out
      go_wp2_with (first | ((with_reducible refine wpList_plain ?_ ?_); exact rfl; intro KK hKK; refine wp_st_store HS 1 0 101 (.tmp 2) (.tmp 19) rfl rfl rfl (.agg (bs (zer 30))) rfl (by exact by rw [show Value.cells (.agg (bs (zer 30))) = bs (zer 30) from rfl, size_bs, length_zer]; exact size_sec) (by rw [Nat.zero_add]; exact Nat.le_of_eq (Eq.symm (rfl))) (by first | exact one_bs _ | exact one_sld _ _) (bs (zer 30)) (spl_agg _ _ _ rfl (rfl)) (fun W21 HSx => hKK _ _ ?_); clear hKK KK HS; have HS : St w noF [⟨g1, 52, bs b⟩, ⟨g2, 101, bs (zer 30)⟩, ⟨g4, 110, sld (b.take 30) (tailC b)⟩] W21 := HSx; clear HSx))
      exact bodyPost_ret (v := .tuple #[.agg (bs (zer 30)), .int .i64 11]) (results_cell_tmp Try.results49 _ _ g2 101 (bs (zer 30)) (0, 0) _ rfl (HS.row 1 rfl) Try.underlying101 rfl (by rw [size_bs, length_zer]; exact size_sec)) rfl ⟨by rw [decR_no HD.out, decE_no HD.out], HS.below⟩
  have hq0 : (bd (markOf b) == 0) = false := by rw [bd_zero_iff, decide_eq_false hm0]
  by_cases hc : tailC b = crcOf (b.take 30)
  · have HD : decOk b = true := by rw [hdk, decide_eq_true hm0, decide_eq_true hc]; rfl
    have HRx := Lib.hid (HR.out HD)
    have HEx := Lib.hid (HE.out HD)
    clear HR HE
    have HR := HRx
    have HE := HEx
    have hn : (hd (tailC b) != hd (crcOf (b.take 30))) = false := by rw [hd_ne, decide_eq_true hc]; rfl
    clear HD HRx HEx hdk hm0 hc
    refine wp_region_phs [is (.pointer (some ⟨g4, 0, none⟩)), is (.pointer (some ⟨g4, 0, none⟩)), is (.int .u8 (bd (markOf b))), is (.bool false), is (.bool false), is (.pointer (some ⟨g4, 30, none⟩)), is (.int .u16 (hd (tailC b))), is (.pointer (some ⟨g4, 0, none⟩)), is (.agg (bs (b.take 30))), is (.int .u16 (hd (crcOf (b.take 30)))), is (.bool false), is (.bool false)] [true, true, true, true, true, true, true, true, true, true, true, true] [(fun W => St w noF [⟨g1, 52, bs b⟩, ⟨g2, 101, bs (zer 30)⟩, ⟨g4, 110, sld (b.take 30) (tailC b)⟩] W)] [false, false, false, false, false, false, false, false, false, false, false, false] [some 0, some 0, some 0, some 0, some 0, some 0, some 0, some 0, some 0, some 0, some 0, some 0] [some 7, some 8, some 9, some 10, some 11, some 12, some 13, some 14, some 15, some 16, some 17, some 18] 12 0 (fun _ => true) rfl rfl (by kernel_rfl) (by kernel_rfl) (by kernel_rfl) (by kernel_rfl) ?_ ?_ ?_ ?_ ?_ ?_
    · repeat first | exact wok_nil | refine wok_cons (by first | exact fun _ _ h k => h.same k) ?_
    · repeat first | exact vok_nil | refine vok_rig (by first | exact fun _ _ _ h => h) ?_ | refine vok_soft (by first | exact fun _ _ _ h _ => h) ?_
    · exact hF0
    · repeat first | exact all_end (by decide) | refine all_cons (by first | exact rfl | exact ⟨rfl, fun _ _ h => Or.inl h⟩ | exact ⟨rfl, fun _ _ h => Or.inr ⟨h, rfl⟩⟩) ?_
    · refine allp_mild 0 rfl rfl rfl (fun a x W hout hin hP => ?_) ?_
      · have e4 : a.tmps[4]? = some (.pointer (some ⟨g4, 0, none⟩)) := (hout 4 (by kernel_rfl)).trans rfl
        clear hin hout
        intro K Q hK
        go_simp
        exact hK _ _ ⟨Same.refl _, rfl⟩
      refine allp_mild 0 rfl rfl rfl (fun a x W hout hin hP => ?_) ?_
      · have e7 := hin.is 0 7 (by kernel_rfl) (by decide) (by kernel_rfl) (by kernel_rfl) _ rfl
        clear hin hout
        intro K Q hK
        go_simp
        exact hK _ _ ⟨Same.refl _, rfl⟩
      refine allp_mild 0 rfl rfl rfl (fun a x W hout hin hP => ?_) ?_
      · have e8 := hin.is 1 8 (by kernel_rfl) (by decide) (by kernel_rfl) (by kernel_rfl) _ rfl
        clear hin hout
        intro K Q hK
        exact wp_st_get hP 2 0 5 (.tmp 8) rfl rfl (eval_of_get e8) _ H0.out _ Try.underlying5 rfl (hK _ _ ⟨Same.refl _, rfl⟩)
      refine allp_mild 0 rfl rfl rfl (fun a x W hout hin hP => ?_) ?_
      · have e9 := hin.is 2 9 (by kernel_rfl) (by decide) (by kernel_rfl) (by kernel_rfl) _ rfl
        clear hin hout
        intro K Q hK
        go_simp
        exact hK _ _ ⟨Same.refl _, rfl⟩
      refine allp_mild 0 rfl rfl rfl (fun a x W hout hin hP => ?_) ?_
      · have e10 := hin.is 3 10 (by kernel_rfl) (by decide) (by kernel_rfl) (by kernel_rfl) _ rfl
        exact does_move rfl e10 ⟨Same.refl _, rfl⟩
      refine allp_mild 0 rfl rfl rfl (fun a x W hout hin hP => ?_) ?_
      · have e4 : a.tmps[4]? = some (.pointer (some ⟨g4, 0, none⟩)) := (hout 4 (by kernel_rfl)).trans rfl
        clear hin hout
        intro K Q hK
        go_simp
        exact hK _ _ ⟨Same.refl _, rfl⟩
      refine allp_mild 0 rfl rfl rfl (fun a x W hout hin hP => ?_) ?_
      · have e12 := hin.is 5 12 (by kernel_rfl) (by decide) (by kernel_rfl) (by kernel_rfl) _ rfl
        clear hin hout
        intro K Q hK
        exact wp_st_get hP 2 30 105 (.tmp 12) rfl rfl (eval_of_get e12) _ HT.out _ Try.underlying105 rfl (hK _ _ ⟨Same.refl _, rfl⟩)
      refine allp_mild 0 rfl rfl rfl (fun a x W hout hin hP => ?_) ?_
      · have e4 : a.tmps[4]? = some (.pointer (some ⟨g4, 0, none⟩)) := (hout 4 (by kernel_rfl)).trans rfl
        clear hin hout
        intro K Q hK
        go_simp
        exact hK _ _ ⟨Same.refl _, rfl⟩
      refine allp_mild 0 rfl rfl rfl (fun a x W hout hin hP => ?_) ?_
      · have e14 := hin.is 7 14 (by kernel_rfl) (by decide) (by kernel_rfl) (by kernel_rfl) _ rfl
        clear hin hout
        intro K Q hK
        exact wp_st_load hP 2 0 101 (.tmp 14) rfl rfl (eval_of_get e14) (bs (b.take 30)) (sld_take _ _) _ Try.underlying101 rfl (by rw [size_bs, HT30.out]; exact size_sec) (hK _ _ ⟨Same.refl _, rfl⟩)
      refine allp_mild 0 rfl rfl rfl (fun a x W hout hin hP => ?_) ?_
      · have e15 := hin.is 8 15 (by kernel_rfl) (by decide) (by kernel_rfl) (by kernel_rfl) _ rfl
        have C := right_any (b.take 30) W HT30.out
        clear hP
        clear hin hout
        intro K Q hK
        go_simp
        refine C.mono ?_
        rintro e W' ⟨rfl, hb⟩
        exact hK _ _ ⟨hb, rfl⟩
      refine allp_mild 0 rfl rfl rfl (fun a x W hout hin hP => ?_) ?_
      · have e13 := hin.is 6 13 (by kernel_rfl) (by decide) (by kernel_rfl) (by kernel_rfl) _ rfl
        have e16 := hin.is 9 16 (by kernel_rfl) (by decide) (by kernel_rfl) (by kernel_rfl) _ rfl
        clear hin hout
        intro K Q hK
        go_simp
        exact hK _ _ ⟨Same.refl _, rfl⟩
      refine allp_mild 0 rfl rfl rfl (fun a x W hout hin hP => ?_) ?_
      · have e11 := hin.is 4 11 (by kernel_rfl) (by decide) (by kernel_rfl) (by kernel_rfl) _ rfl
        have e17 := hin.is 10 17 (by kernel_rfl) (by decide) (by kernel_rfl) (by kernel_rfl) _ rfl
        exact does_pick rfl e11 ⟨Same.refl _, eval_of_get e17⟩
      exact all_end (by decide)
    · intro x W hP hV
      have HS : St w noF [⟨g1, 52, bs b⟩, ⟨g2, 101, bs (zer 30)⟩, ⟨g4, 110, sld (b.take 30) (tailC b)⟩] W := hP
      have h18 : x 11 = .bool false := hV 11 (by decide) (.inl (by kernel_rfl))
      clear hP hV
      simp only [putL, Act.put, List.setIfInBounds_toArray, List.set_cons_succ, List.set_cons_zero, h18]
      refine wpAnyH_done (by kernel_rfl) ?_ _
      clear h18
      go_wp2_with (first | ((with_reducible refine wpList_plain ?_ ?_); exact rfl; intro KK hKK; refine wp_st_load HS 2 0 101 (.tmp 20) rfl rfl rfl (bs (b.take 30)) (sld_take _ _) _ Try.underlying101 rfl (by rw [size_bs, HT30.out]; exact size_sec) (hKK _ _ ?_); clear hKK KK) | ((with_reducible refine wpList_plain ?_ ?_); exact rfl; intro KK hKK; refine wp_st_store HS 1 0 101 (.tmp 2) (.tmp 21) rfl rfl rfl (.agg (bs (b.take 30))) rfl (by exact by rw [show Value.cells (.agg (bs (b.take 30))) = bs (b.take 30) from rfl, size_bs, HT30.out]; exact size_sec) (by rw [Nat.zero_add]; exact Nat.le_of_eq (Eq.symm (show (bs (zer 30)).size = (bs (b.take 30)).size by rw [size_bs, size_bs, HT30.out, length_zer]))) (by first | exact one_bs _ | exact one_sld _ _) (bs (b.take 30)) (spl_agg _ _ _ rfl (show (bs (zer 30)).size = (bs (b.take 30)).size by rw [size_bs, size_bs, HT30.out, length_zer])) (fun W21 HSx => hKK _ _ ?_); clear hKK KK HS; have HS : St w noF [⟨g1, 52, bs b⟩, ⟨g2, 101, bs (b.take 30)⟩, ⟨g4, 110, sld (b.take 30) (tailC b)⟩] W21 := HSx; clear HSx))
      exact bodyPost_ret (v := .tuple #[.agg (bs (b.take 30)), .int .i64 0]) (results_cell_tmp Try.results49 _ _ g2 101 (bs (b.take 30)) (0, 0) _ rfl (HS.row 1 rfl) Try.underlying101 rfl (by rw [size_bs, HT30.out]; exact size_sec)) rfl ⟨by rw [HR.out, HE.out], HS.below⟩
  · have HD : Hid (decOk b = false) := Lib.hid (by rw [hdk, decide_eq_false hc, Bool.and_false])
    have hn : (hd (tailC b) != hd (crcOf (b.take 30))) = true := by rw [hd_ne, decide_eq_false hc]; rfl
    clear hdk hm0 hc
    refine wp_region_phs [is (.pointer (some ⟨g4, 0, none⟩)), is (.pointer (some ⟨g4, 0, none⟩)), is (.int .u8 (bd (markOf b))), is (.bool false), is (.bool false), is (.pointer (some ⟨g4, 30, none⟩)), is (.int .u16 (hd (tailC b))), is (.pointer (some ⟨g4, 0, none⟩)), is (.agg (bs (b.take 30))), is (.int .u16 (hd (crcOf (b.take 30)))), is (.bool true), is (.bool true)] [true, true, true, true, true, true, true, true, true, true, true, true] [(fun W => St w noF [⟨g1, 52, bs b⟩, ⟨g2, 101, bs (zer 30)⟩, ⟨g4, 110, sld (b.take 30) (tailC b)⟩] W)] [false, false, false, false, false, false, false, false, false, false, false, false] [some 0, some 0, some 0, some 0, some 0, some 0, some 0, some 0, some 0, some 0, some 0, some 0] [some 7, some 8, some 9, some 10, some 11, some 12, some 13, some 14, some 15, some 16, some 17, some 18] 12 0 (fun _ => true) rfl rfl (by kernel_rfl) (by kernel_rfl) (by kernel_rfl) (by kernel_rfl) ?_ ?_ ?_ ?_ ?_ ?_
    · repeat first | exact wok_nil | refine wok_cons (by first | exact fun _ _ h k => h.same k) ?_
    · repeat first | exact vok_nil | refine vok_rig (by first | exact fun _ _ _ h => h) ?_ | refine vok_soft (by first | exact fun _ _ _ h _ => h) ?_
    · exact hF0
    · repeat first | exact all_end (by decide) | refine all_cons (by first | exact rfl | exact ⟨rfl, fun _ _ h => Or.inl h⟩ | exact ⟨rfl, fun _ _ h => Or.inr ⟨h, rfl⟩⟩) ?_
    · refine allp_mild 0 rfl rfl rfl (fun a x W hout hin hP => ?_) ?_
      · have e4 : a.tmps[4]? = some (.pointer (some ⟨g4, 0, none⟩)) := (hout 4 (by kernel_rfl)).trans rfl
        clear hin hout
        intro K Q hK
        go_simp
        exact hK _ _ ⟨Same.refl _, rfl⟩
      refine allp_mild 0 rfl rfl rfl (fun a x W hout hin hP => ?_) ?_
      · have e7 := hin.is 0 7 (by kernel_rfl) (by decide) (by kernel_rfl) (by kernel_rfl) _ rfl
        clear hin hout
        intro K Q hK
        go_simp
        exact hK _ _ ⟨Same.refl _, rfl⟩
      refine allp_mild 0 rfl rfl rfl (fun a x W hout hin hP => ?_) ?_
      · have e8 := hin.is 1 8 (by kernel_rfl) (by decide) (by kernel_rfl) (by kernel_rfl) _ rfl
        clear hin hout
        intro K Q hK
        exact wp_st_get hP 2 0 5 (.tmp 8) rfl rfl (eval_of_get e8) _ H0.out _ Try.underlying5 rfl (hK _ _ ⟨Same.refl _, rfl⟩)
      refine allp_mild 0 rfl rfl rfl (fun a x W hout hin hP => ?_) ?_
      · have e9 := hin.is 2 9 (by kernel_rfl) (by decide) (by kernel_rfl) (by kernel_rfl) _ rfl
        clear hin hout
        intro K Q hK
        go_simp
        exact hK _ _ ⟨Same.refl _, rfl⟩
      refine allp_mild 0 rfl rfl rfl (fun a x W hout hin hP => ?_) ?_
      · have e10 := hin.is 3 10 (by kernel_rfl) (by decide) (by kernel_rfl) (by kernel_rfl) _ rfl
        exact does_move rfl e10 ⟨Same.refl _, rfl⟩
      refine allp_mild 0 rfl rfl rfl (fun a x W hout hin hP => ?_) ?_
      · have e4 : a.tmps[4]? = some (.pointer (some ⟨g4, 0, none⟩)) := (hout 4 (by kernel_rfl)).trans rfl
        clear hin hout
        intro K Q hK
        go_simp
        exact hK _ _ ⟨Same.refl _, rfl⟩
      refine allp_mild 0 rfl rfl rfl (fun a x W hout hin hP => ?_) ?_
      · have e12 := hin.is 5 12 (by kernel_rfl) (by decide) (by kernel_rfl) (by kernel_rfl) _ rfl
        clear hin hout
        intro K Q hK
        exact wp_st_get hP 2 30 105 (.tmp 12) rfl rfl (eval_of_get e12) _ HT.out _ Try.underlying105 rfl (hK _ _ ⟨Same.refl _, rfl⟩)
      refine allp_mild 0 rfl rfl rfl (fun a x W hout hin hP => ?_) ?_
      · have e4 : a.tmps[4]? = some (.pointer (some ⟨g4, 0, none⟩)) := (hout 4 (by kernel_rfl)).trans rfl
        clear hin hout
        intro K Q hK
        go_simp
        exact hK _ _ ⟨Same.refl _, rfl⟩
      refine allp_mild 0 rfl rfl rfl (fun a x W hout hin hP => ?_) ?_
      · have e14 := hin.is 7 14 (by kernel_rfl) (by decide) (by kernel_rfl) (by kernel_rfl) _ rfl
        clear hin hout
        intro K Q hK
        exact wp_st_load hP 2 0 101 (.tmp 14) rfl rfl (eval_of_get e14) (bs (b.take 30)) (sld_take _ _) _ Try.underlying101 rfl (by rw [size_bs, HT30.out]; exact size_sec) (hK _ _ ⟨Same.refl _, rfl⟩)
      refine allp_mild 0 rfl rfl rfl (fun a x W hout hin hP => ?_) ?_
      · have e15 := hin.is 8 15 (by kernel_rfl) (by decide) (by kernel_rfl) (by kernel_rfl) _ rfl
        have C := right_any (b.take 30) W HT30.out
        clear hP
        clear hin hout
        intro K Q hK
        go_simp
        refine C.mono ?_
        rintro e W' ⟨rfl, hb⟩
        exact hK _ _ ⟨hb, rfl⟩
      refine allp_mild 0 rfl rfl rfl (fun a x W hout hin hP => ?_) ?_
      · have e13 := hin.is 6 13 (by kernel_rfl) (by decide) (by kernel_rfl) (by kernel_rfl) _ rfl
        have e16 := hin.is 9 16 (by kernel_rfl) (by decide) (by kernel_rfl) (by kernel_rfl) _ rfl
        clear hin hout
        intro K Q hK
        go_simp
        exact hK _ _ ⟨Same.refl _, rfl⟩
      refine allp_mild 0 rfl rfl rfl (fun a x W hout hin hP => ?_) ?_
      · have e11 := hin.is 4 11 (by kernel_rfl) (by decide) (by kernel_rfl) (by kernel_rfl) _ rfl
        have e17 := hin.is 10 17 (by kernel_rfl) (by decide) (by kernel_rfl) (by kernel_rfl) _ rfl
        exact does_pick rfl e11 ⟨Same.refl _, eval_of_get e17⟩
      exact all_end (by decide)
    · intro x W hP hV
      have HS : St w noF [⟨g1, 52, bs b⟩, ⟨g2, 101, bs (zer 30)⟩, ⟨g4, 110, sld (b.take 30) (tailC b)⟩] W := hP
      have h18 : x 11 = .bool true := hV 11 (by decide) (.inl (by kernel_rfl))
      clear hP hV
      simp only [putL, Act.put, List.setIfInBounds_toArray, List.set_cons_succ, List.set_cons_zero, h18]
      refine wpAnyH_done (by kernel_rfl) ?_ _
      clear h18
      have hz := HZ.out
      go_wp2_with (first | ((with_reducible refine wpList_plain ?_ ?_); exact rfl; intro KK hKK; refine wp_st_store HS 1 0 101 (.tmp 2) (.tmp 19) rfl rfl rfl (.agg (bs (zer 30))) rfl (by exact by rw [show Value.cells (.agg (bs (zer 30))) = bs (zer 30) from rfl, size_bs, length_zer]; exact size_sec) (by rw [Nat.zero_add]; exact Nat.le_of_eq (Eq.symm (rfl))) (by first | exact one_bs _ | exact one_sld _ _) (bs (zer 30)) (spl_agg _ _ _ rfl (rfl)) (fun W21 HSx => hKK _ _ ?_); clear hKK KK HS; have HS : St w noF [⟨g1, 52, bs b⟩, ⟨g2, 101, bs (zer 30)⟩, ⟨g4, 110, sld (b.take 30) (tailC b)⟩] W21 := HSx; clear HSx))
      exact bodyPost_ret (v := .tuple #[.agg (bs (zer 30)), .int .i64 11]) (results_cell_tmp Try.results49 _ _ g2 101 (bs (zer 30)) (0, 0) _ rfl (HS.row 1 rfl) Try.underlying101 rfl (by rw [size_bs, length_zer]; exact size_sec)) rfl ⟨by rw [decR_no HD.out, decE_no HD.out], HS.below⟩
theorem sealOps : SealOps := ⟨prgenc_any, prgdec_any⟩
end Go.Proofs.Ytcdcongeogmfkaa
