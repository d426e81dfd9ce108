/- The statement CrcRests: its walk. -/
import Derived.Test.YtcgihbjndnlilaaCrcWakes
namespace Go.Proofs.Ytcgihbjndnlilaa
open Go Go.RowKit
attribute [local go_sem] lowb_hd lowb8_hd
theorem rest_val (c : BitVec 16) : hd (crcMore c [(~~~ c).setWidth 8, ((~~~ c) >>> 8).setWidth 8]) = 61624 := by rw [crc_rest]; rfl
theorem rest_call (y z : BitVec 16) (hz : ~~~y = z) (w : World) : Calls Try.prog 13 #[.int .u16 (hd y), .slice (some ⟨w.heap.size, 0, none⟩) 2 2] (w.alloc (.cells #[.int .u8 (bd (z.setWidth 8)), .int .u8 (bd ((z >>> 8).setWidth 8))] 5))
    fun e w' => e = .returned (.int .u16 61624) ∧ Below w.heap.size w w' := by
  subst hz
  have r := Row.fresh w 5 (bs [(~~~y).setWidth 8, ((~~~y) >>> 8).setWidth 8])
  have hb := (Below.refl w.heap.size w).alloc (Nat.le_refl _) (.cells (bs [(~~~y).setWidth 8, ((~~~y) >>> 8).setWidth 8]) 5)
  refine (more_any y [(~~~y).setWidth 8, ((~~~y) >>> 8).setWidth 8] _ _ (row_slice r (c := 2) (Nat.le_refl _)) (by simp [maxLen])).mono ?_
  rintro e w' ⟨rfl, rfl⟩
  exact ⟨ret_int (rest_val y), hb⟩
set_option maxHeartbeats 800000 in
theorem rests_walk (A : Option Addr) (c : Nat) (q : List (BitVec 8)) (w : World) (hS : Slice w (.slice A q.length c) q) (_ : A = none → c = 0) (hm : q.length ≤ maxLen) :
    Calls Try.prog 6 #[.slice A q.length c] w fun e w' => e = .returned (.bool true) ∧ Below w.heap.size w w' := by
  have HS := Lib.hid hS
  have HM := Lib.hid hm
  unfold maxLen at hm
  clear hS
  by_cases hbig : 3000 < q.length
  · go_enter Try.func6, Try.ntmps6
    go_wp2_with fail
    refine (cwakes_any w).mono ?_
    rintro e w1 ⟨rfl, hb⟩
    go_wp2_with fail
    go_ret
    exact ⟨rfl, hb⟩
  · have C1 := Lib.hid (check_any [q] _ _ (parts1 HS.out) (by simp [maxLen]) (by simpa using HM.out))
    have hb1 := (Below.refl w.heap.size w).alloc (Nat.le_refl _) (.cells #[.slice A q.length c] 26)
    have HS1 := Lib.hid (HS.out.below hb1 (Nat.le_refl _))
    have C2 := Lib.hid (more_any 0xffff#16 q _ _ HS1.out HM.out)
    have e1 : crcOf [q].flatten = ~~~ crcMore 0xffff#16 q := by simp [crcOf]
    rw [e1] at C1
    clear e1
    have HR := Lib.hid (rest_val (crcMore 0xffff#16 q))
    generalize crcMore 0xffff#16 q = y at *
    go_enter Try.func6, Try.ntmps6
    go_wp2_with fail
    refine C1.out.mono ?_
    rintro e w1 ⟨rfl, rfl⟩
    clear C1 HR
    obtain ⟨z, hz⟩ : ∃ z, ~~~y = z := ⟨_, rfl⟩
    have HZ := Lib.hid hz
    rw [hz]
    clear hz HS HS1
    generalize w.alloc (.cells #[.slice A q.length c] 26) = W at *
    go_wp2_with fail
    refine C2.out.mono ?_
    rintro e w1 ⟨rfl, rfl⟩
    clear C2
    go_wp2_with fail
    refine (rest_call y z HZ.out W).mono ?_
    rintro e w1 ⟨rfl, hb2⟩
    go_wp2_with fail
    refine (cwakes_any w1).mono ?_
    rintro e w2 ⟨rfl, hb3⟩
    go_wp2_with fail
    go_ret
    exact ⟨rfl, hb1.trans ((hb2.trans (hb3.mono hb2.size)).mono hb1.size)⟩
end Go.Proofs.Ytcgihbjndnlilaa
