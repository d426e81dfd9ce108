/- The chapter's examples of crc, asked by the statements. -/
import Derived.Test.YtcgihbjndnlilaaCrcMore
import Derived.Test.YtcgihbjndnlilaaLit
namespace Go.Proofs.Ytcgihbjndnlilaa
open Go Go.RowKit
def nine : List (BitVec 8) := [49#8, 50#8, 51#8, 52#8, 53#8, 54#8, 55#8, 56#8, 57#8]
theorem crc_9 : hd (crcOf nine) = 36974 := by decide +kernel
theorem crc_0 : hd (crcOf []) = 0 := by decide +kernel
theorem parts_nil (w : World) : Parts w (.slice none 0 0) [] := ⟨none, 0, rfl, fun h => absurd rfl h⟩
theorem nine_call (w : World) : Calls Try.prog 10 #[.slice (some ⟨w.heap.size + 1, 0, none⟩) 1 1]
    ((w.alloc (.cells #[.int .u8 49, .int .u8 50, .int .u8 51, .int .u8 52, .int .u8 53, .int .u8 54, .int .u8 55, .int .u8 56, .int .u8 57] 5 (9, 10))).alloc (.cells #[.slice (some ⟨w.heap.size, 0, none⟩) 9 9] 26))
    fun e w' => e = .returned (.int .u16 36974) ∧ Below w.heap.size w w' := by
  have h1 : Slice (w.alloc (.cells #[.int .u8 49, .int .u8 50, .int .u8 51, .int .u8 52, .int .u8 53, .int .u8 54, .int .u8 55, .int .u8 56, .int .u8 57] 5 (9, 10))) (.slice (some ⟨w.heap.size, 0, none⟩) 9 9) nine := bytes_slice (q := nine) (t := 5) (fr := (9, 10)) (by rw [heap_alloc_new]; rfl) (by decide)
  have hb := (Below.refl w.heap.size w).alloc (Nat.le_refl _) (.cells #[.int .u8 49, .int .u8 50, .int .u8 51, .int .u8 52, .int .u8 53, .int .u8 54, .int .u8 55, .int .u8 56, .int .u8 57] 5 (9, 10))
  have hs : (w.alloc (.cells #[.int .u8 49, .int .u8 50, .int .u8 51, .int .u8 52, .int .u8 53, .int .u8 54, .int .u8 55, .int .u8 56, .int .u8 57] 5 (9, 10))).heap.size = w.heap.size + 1 := by simp
  generalize w.alloc (.cells #[.int .u8 49, .int .u8 50, .int .u8 51, .int .u8 52, .int .u8 53, .int .u8 54, .int .u8 55, .int .u8 56, .int .u8 57] 5 (9, 10)) = W at *
  have hP := parts1 h1
  rw [hs] at hP
  have hbx := (Below.refl W.heap.size W).alloc (Nat.le_refl _) (.cells #[.slice (some ⟨w.heap.size, 0, none⟩) 9 9] 26)
  refine (check_any [nine] _ _ hP (by decide) (by decide)).mono ?_
  rintro e w' ⟨rfl, rfl⟩
  exact ⟨ret_int crc_9, hb.trans (hbx.mono hb.size)⟩
theorem four_call (w : World) : Calls Try.prog 10 #[.slice (some ⟨w.heap.size + 1 + 1, 0, none⟩) 2 2]
    (((w.alloc (.cells #[.int .u8 49, .int .u8 50, .int .u8 51, .int .u8 52] 5 (4, 5))).alloc (.cells #[.int .u8 53, .int .u8 54, .int .u8 55, .int .u8 56, .int .u8 57] 5 (5, 6))).alloc (.cells #[.slice (some ⟨w.heap.size, 0, none⟩) 4 4, .slice (some ⟨w.heap.size + 1, 0, none⟩) 5 5] 26))
    fun e w' => e = .returned (.int .u16 36974) ∧ Below w.heap.size w w' := by
  have hb1 := (Below.refl w.heap.size w).alloc (Nat.le_refl _) (.cells #[.int .u8 49, .int .u8 50, .int .u8 51, .int .u8 52] 5 (4, 5))
  have h1 : Slice ((w.alloc (.cells #[.int .u8 49, .int .u8 50, .int .u8 51, .int .u8 52] 5 (4, 5))).alloc (.cells #[.int .u8 53, .int .u8 54, .int .u8 55, .int .u8 56, .int .u8 57] 5 (5, 6))) (.slice (some ⟨w.heap.size, 0, none⟩) 4 4) [49#8, 50#8, 51#8, 52#8] := bytes_slice (q := [49#8, 50#8, 51#8, 52#8]) (t := 5) (fr := (4, 5)) (by rw [Below.heap_alloc _ _ _ (by simp), heap_alloc_new]; rfl) (by decide)
  have h2 : Slice ((w.alloc (.cells #[.int .u8 49, .int .u8 50, .int .u8 51, .int .u8 52] 5 (4, 5))).alloc (.cells #[.int .u8 53, .int .u8 54, .int .u8 55, .int .u8 56, .int .u8 57] 5 (5, 6))) (.slice (some ⟨w.heap.size + 1, 0, none⟩) 5 5) [53#8, 54#8, 55#8, 56#8, 57#8] := bytes_slice (q := [53#8, 54#8, 55#8, 56#8, 57#8]) (t := 5) (fr := (5, 6)) (by rw [heap_alloc2_new]; rfl) (by decide)
  have hb := hb1.alloc (by simp) (.cells #[.int .u8 53, .int .u8 54, .int .u8 55, .int .u8 56, .int .u8 57] 5 (5, 6))
  have hs : ((w.alloc (.cells #[.int .u8 49, .int .u8 50, .int .u8 51, .int .u8 52] 5 (4, 5))).alloc (.cells #[.int .u8 53, .int .u8 54, .int .u8 55, .int .u8 56, .int .u8 57] 5 (5, 6))).heap.size = w.heap.size + 1 + 1 := by simp
  clear hb1
  generalize (w.alloc (.cells #[.int .u8 49, .int .u8 50, .int .u8 51, .int .u8 52] 5 (4, 5))).alloc (.cells #[.int .u8 53, .int .u8 54, .int .u8 55, .int .u8 56, .int .u8 57] 5 (5, 6)) = W at *
  have hP := parts2 h1 h2
  rw [hs] at hP
  have hbx := (Below.refl W.heap.size W).alloc (Nat.le_refl _) (.cells #[.slice (some ⟨w.heap.size, 0, none⟩) 4 4, .slice (some ⟨w.heap.size + 1, 0, none⟩) 5 5] 26)
  refine (check_any [[49#8, 50#8, 51#8, 52#8], [53#8, 54#8, 55#8, 56#8, 57#8]] _ _ hP (by decide) (by decide)).mono ?_
  rintro e w' ⟨rfl, rfl⟩
  exact ⟨ret_int crc_9, hb.trans (hbx.mono hb.size)⟩
theorem none_call (w : World) : Calls Try.prog 10 #[.slice none 0 0] w fun e w' => e = .returned (.int .u16 0) ∧ w = w' := by
  refine (check_any [] _ w (parts_nil w) (by decide) (by decide)).mono ?_
  rintro e w' ⟨rfl, rfl⟩
  exact ⟨ret_int crc_0, rfl⟩
theorem nomore_call (w : World) : Calls Try.prog 13 #[.int .u16 65535, .slice none 0 0] w fun e w' => e = .returned (.int .u16 65535) ∧ w = w' := more_any 0xffff#16 [] _ w (slice_nil w) (by decide)
set_option maxHeartbeats 800000 in
theorem cwakes_any (w : World) : Calls Try.prog 9 #[] w fun e w' => e = .returned (.bool true) ∧ Below w.heap.size w w' := by
  have hcv := fun (W : World) (C : Array Value) (n c : Nat) => Lib.run_convert_bytes_const (P := Try.prog) W 26 5 C n c Try.underlying26 Try.underlying5
  have hc2 := conv2
  go_enter Try.func9, Try.ntmps9
  go_wp2_with fail
  refine (nine_call w).mono ?_
  rintro e w1 ⟨rfl, hb1⟩
  go_wp2_with fail
  refine (four_call w1).mono ?_
  rintro e w2 ⟨rfl, hb2⟩
  have hb02 : Below w.heap.size w w2 := hb1.trans (hb2.mono hb1.size)
  clear hcv hc2 hb1 hb2
  go_wp2_with fail
  refine (none_call w2).mono ?_
  rintro e w3 ⟨rfl, rfl⟩
  go_wp2_with fail
  refine (nomore_call w2).mono ?_
  rintro e w3 ⟨rfl, rfl⟩
  go_wp2_with fail
  go_ret
  exact ⟨rfl, hb02⟩
end Go.Proofs.Ytcgihbjndnlilaa
