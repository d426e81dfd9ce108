/- The document's bytes with their check behind. -/
import Derived.Test.YtamofhjnpahamaaCopyR
import Derived.Test.YtamofhjnpahamaaCrcRef
import Derived.Test.YtamofhjnpahamaaSealSpec
set_option maxRecDepth 4000
namespace Go.Proofs.Ytamofhjnpahamaa
open Go Go.RowKit
attribute [local go_sem] lowb_hd lowb8_hd
set_option maxHeartbeats 800000 in
theorem refsealed_any (q : List (BitVec 8)) (v : Value) (w : World) (hv : Item w v q) (hq : q.length ≤ 100000) :
    Calls Try.prog 24 #[v] w fun e w' => ∃ v', e = .returned v' ∧ w'.ownsRow w.heap.size 5 1 v' (q ++ crcTail q).length (bytesV (q ++ crcTail q)) ∧ Below w.heap.size w w' := by
  obtain ⟨A, c, rfl, hS, hA, hm⟩ := hv
  have HA := Lib.hid hA
  have hb1 := (Below.refl w.heap.size w).alloc (Nat.le_refl _) (.cells #[.slice A q.length c] 23)
  have C1 := refcheck_any [q] _ _ (parts1 hS) (by simp [maxLen]) (by simpa using hm)
  rw [show ([q] : List (List (BitVec 8))).flatten = q by simp] at C1
  have HT : Hid (crcTail q = [(crcOf q).setWidth 8, ((crcOf q) >>> 8).setWidth 8]) := Lib.hid rfl
  obtain ⟨z, hz⟩ : ∃ z, crcOf q = z := ⟨_, rfl⟩
  rw [hz] at C1 HT
  obtain ⟨n, hn⟩ : ∃ n, q.length = n := ⟨_, rfl⟩
  have HN := Lib.hid hn
  have HQ : Hid (n ≤ 100000) := Lib.hid (by rw [← hn]; exact hq)
  rw [hn] at hb1 hS C1 ⊢
  have HS1 := Lib.hid (Slice.below hS hb1 (Nat.le_refl _))
  clear hS hm hA hz hn hq
  go_enter Try.func24, Try.ntmps24
  go_wp2_with fail
  refine C1.mono ?_
  rintro e w1 ⟨rfl, rfl⟩
  clear C1
  generalize w.alloc (.cells #[.slice A n c] 23) = w1 at *
  have HS2 := Lib.hid (Slice.below HS1.out ((Below.refl w1.heap.size w1).alloc (Nat.le_refl _) (.cells #[] 5)) (Nat.le_refl _))
  go_wp2_with (first | (at_builtin; refine wpList_append_slice rfl (.tmp 7) (.tmp 8) rfl w1.heap.size _ 0 [] rfl (own_empty w1) A n c q rfl HS2.out HA.out (by have := HQ.out; omega) (by simp) ?_; intro v4 w4 own4 hb4; simp only [Nat.zero_add, List.nil_append] at own4; have HO4 := Lib.hid own4; have HB4 := Lib.hid (((Below.refl w1.heap.size w1).alloc (Nat.le_refl _) (.cells #[] 5)).trans hb4); clear own4 hb4; obtain ⟨B2, hB2⟩ : ∃ B2 : List (BitVec 8), B2 = [z.setWidth 8, (z >>> 8).setWidth 8] := ⟨_, rfl⟩; have HB2 := Lib.hid hB2; clear hB2; have HR4 := Lib.hid (row_slice (Row.fresh w4 5 (bs [z.setWidth 8, (z >>> 8).setWidth 8])) (c := 2) (Nat.le_refl _)); have HO5 := Lib.hid (HO4.out.alloc (.cells (bs [z.setWidth 8, (z >>> 8).setWidth 8]) 5)); have HB5 := Lib.hid (HB4.out.alloc HB4.out.size (.cells (bs [z.setWidth 8, (z >>> 8).setWidth 8]) 5))) | (at_builtin; refine wpList_append_slice rfl (.tmp 9) (.tmp 15) rfl w1.heap.size v4 n (bytesV q) rfl HO5.out (some ⟨w4.heap.size, 0, none⟩) 2 2 [z.setWidth 8, (z >>> 8).setWidth 8] rfl HR4.out (fun h => by cases h) (by have := HQ.out; omega) HB5.out.size ?_; intro v6 w6 own6 hb6; have HO6 := Lib.hid own6; have HB6 := Lib.hid (HB5.out.trans hb6); clear own6 hb6))
  go_ret
  refine ⟨v6, rfl, ?_, hb1.trans (HB6.out.mono hb1.size)⟩
  have h6 := own_mono HO6.out hb1.size
  rw [show bytesV q ++ bytesV [z.setWidth 8, (z >>> 8).setWidth 8] = bytesV (q ++ crcTail q) by rw [HT.out]; simp [bytesV]] at h6
  rw [show (q ++ crcTail q).length = n + 2 by rw [List.length_append, HN.out]; rfl]
  exact h6
end Go.Proofs.Ytamofhjnpahamaa
