/- The document's answer for one block: the same words. -/
import Derived.Test.YtnfceejmkcohnaaDoorTurn
import Derived.Test.YtnfceejmkcohnaaDoorDig
namespace Go.Proofs.YtnfceejmkcohnaaDoor
open Go Go.RowKit
attribute [local go_sem] xor_wd and_wd or_wd add_wd shr_wd not_wd signed_u32 conv_bd shl24_wd shl16_wd shl8_wd
theorem or_shl (a x : BitVec 32) (m : Nat) : bits .or .u32 (wd a) (wd x * 2 ^ m % 4294967296) = wd (a ||| x <<< m) := by
  rw [← IntKind.wrap_u32', shl_wd, or_wd]
theorem wpList_build_as {P : Program} {ops : Array Oper} {rest : List Oper} {o : Oper} {a : Act} {w : World} {Q : Exit → Act → World → Prop} (hg : o.guard = none) (t : TypeId) (parts : Array (Nat × Operand)) (ho : o.op = .build t parts) (cells : Array Value)
    (hf : P.built t (parts.map fun (i, x) => (i, a.eval x)).toList = some cells) (h : wpList P ops Q rest (a.put o.dst (.agg cells)) w) : wpList P ops Q (o :: rest) a w :=
  wpList_build hg t parts ho (by rw [hf]; rfl) (by rw [hf]; exact h)
theorem ref_right (x : BitVec 32) (k : Int) (w : World) (h0 : 0 < k) (h1 : k < 32) :
    Calls Tryd.prog 28 #[.int .u32 (wd x), .int .u64 k] w fun e w' => e = .returned (.int .u32 (wd (rr x k.toNat))) ∧ w = w' := by
  obtain ⟨n, rfl⟩ := Int.eq_ofNat_of_zero_le (show 0 ≤ k by omega)
  have e1 : Op.shift .shr .u32 (wd x) .u64 (n : Int) = pure (.int .u32 (wd (x >>> n))) := by
    rw [shift_shr _ _ _ _ (by omega) (by simp [IntKind.bits]; omega), Int.toNat_natCast, shr_wd]
  have e2 : Op.shift .shl .u32 (wd x) .u64 (32 - (n : Int)) = pure (.int .u32 (wd (x <<< (32 - n)))) := by
    rw [shift_shl _ _ _ _ (by omega) (by simp [IntKind.bits]; omega), show (32 - (n : Int)).toNat = 32 - n by omega, shl_wd]
  have e3 : IntKind.u64.wrap (32 - (n : Int)) = 32 - (n : Int) := by
    rw [show IntKind.u64.wrap (32 - (n : Int)) = (32 - (n : Int)) % 18446744073709551616 from by simp [IntKind.wrap, IntKind.bits, IntKind.signed]]
    omega
  have er : Hid (rr x ((n : Int)).toNat = x >>> n ||| x <<< (32 - n)) := Lib.hid (by rw [Int.toNat_natCast, rr, BitVec.or_comm])
  go_enter Tryd.func28, Tryd.ntmps28
  go_wp2
  go_ret
  rw [er.out]
  exact ⟨ret_int (or_shl _ _ _), rfl⟩
theorem ref_table (w : World) : Calls Tryd.prog 29 #[] w fun e w' => e = .returned (.agg (ws kk)) ∧ Below w.heap.size w w' := by
  go_enter Tryd.func29, Tryd.ntmps29
  go_wp2_with (first | (refine wpList_build_as rfl _ _ rfl (ws kk) (by kernel_rfl) ?_) | (refine wpList_store_row rfl 58 _ _ rfl w.heap.size (ws kk) rfl rfl 58 _ (Row.fresh _ _ _) size_w (by kernel_rfl) (one_ws _) ?_; rw [World.setRow_alloc_new]))
  exact bodyPost_ret (v := .agg (ws kk)) (results_cell_row Tryd.results29 _ _ w.heap.size 58 (ws kk) (0, 0) _ rfl (Row.fresh _ _ _) Tryd.underlying58 rfl size_w) rfl ⟨rfl, (Below.refl _ _).alloc (Nat.le_refl _) _⟩
theorem ref_start (w : World) : Calls Tryd.prog 25 #[] w fun e w' => e = .returned (.agg (ws [0x6a09e667#32, 0xbb67ae85#32, 0x3c6ef372#32, 0xa54ff53a#32, 0x510e527f#32, 0x9b05688c#32, 0x1f83d9ab#32, 0x5be0cd19#32])) ∧ Below w.heap.size w w' := by
  go_enter Tryd.func25, Tryd.ntmps25
  go_wp2
  refine bodyPost_ret (v := .agg (ws [0x6a09e667#32, 0xbb67ae85#32, 0x3c6ef372#32, 0xa54ff53a#32, 0x510e527f#32, 0x9b05688c#32, 0x1f83d9ab#32, 0x5be0cd19#32])) ?_ rfl ⟨rfl, (Below.refl _ _).alloc (Nat.le_refl _) _⟩
  exact results_cell_row Tryd.results25 _ _ w.heap.size 46 (ws [0x6a09e667#32, 0xbb67ae85#32, 0x3c6ef372#32, 0xa54ff53a#32, 0x510e527f#32, 0x9b05688c#32, 0x1f83d9ab#32, 0x5be0cd19#32]) (0, 0) _ rfl (Row.fresh _ _ _) Tryd.underlying46 rfl size_h
end Go.Proofs.YtnfceejmkcohnaaDoor
