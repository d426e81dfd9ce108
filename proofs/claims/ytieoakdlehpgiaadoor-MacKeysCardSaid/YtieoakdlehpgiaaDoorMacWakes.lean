/- The chapter's examples of mac, asked by the statements. -/
import Derived.Test.YtieoakdlehpgiaaDoorMac
import Derived.Test.YtieoakdlehpgiaaDoorMacEval
import Derived.Test.YtieoakdlehpgiaaDoorBy
namespace Go.Proofs.YtieoakdlehpgiaaDoor
open Go Go.RowKit
theorem conv3 (w : World) (o o' : Obj) (C : Array Value) (n c : Nat) : (convert 22 22 (.slice (some ⟨w.heap.size + 1 + 1, 0, none⟩) n c)).run Tryd.prog (((w.alloc o).alloc o').alloc (.cells C 5)) = .ok (.slice (some ⟨w.heap.size + 1 + 1, 0, none⟩) n c) (((w.alloc o).alloc o').alloc (.cells C 5 (C.size, C.size + 1))) := by
  have h := Lib.run_convert_bytes_const (P := Tryd.prog) ((w.alloc o).alloc o') 22 5 C n c Tryd.underlying22 Tryd.underlying5
  rw [show ((w.alloc o).alloc o').heap.size = w.heap.size + 1 + 1 by simp] at h
  exact h
theorem parts2 {w : World} {a b : Value} {p q : List (BitVec 8)} (ha : Slice w a p) (hb : Slice w b q) : Parts (w.alloc (.cells #[a, b] 22)) (.slice (some ⟨w.heap.size, 0, none⟩) 2 2) [p, q] := by
  have t := Row.fresh w 22 #[a, b]
  have hx := (Below.refl w.heap.size w).alloc (Nat.le_refl _) (.cells #[a, b] 22)
  refine ⟨_, 2, rfl, fun _ => ⟨w.heap.size, 0, rfl, t.lt, fun k s hs => ?_⟩⟩
  match k, hs with
  | 0, hs => obtain rfl : p = s := by simpa using hs
             exact ⟨a, t.get rfl, ha.below hx (Nat.le_refl _)⟩
  | 1, hs => obtain rfl : q = s := by simpa using hs
             exact ⟨b, t.get rfl, hb.below hx (Nat.le_refl _)⟩
theorem consts3 (w : World) (p q r : List (BitVec 8)) (f g h : Nat × Nat) :
    Slice (((w.alloc (.cells (bs p) 5 f)).alloc (.cells (bs q) 5 g)).alloc (.cells (bs r) 5 h)) (.slice (some ⟨w.heap.size, 0, none⟩) p.length p.length) p ∧
    Slice (((w.alloc (.cells (bs p) 5 f)).alloc (.cells (bs q) 5 g)).alloc (.cells (bs r) 5 h)) (.slice (some ⟨w.heap.size + 1, 0, none⟩) q.length q.length) q ∧
    Slice (((w.alloc (.cells (bs p) 5 f)).alloc (.cells (bs q) 5 g)).alloc (.cells (bs r) 5 h)) (.slice (some ⟨w.heap.size + 1 + 1, 0, none⟩) r.length r.length) r := by
  refine ⟨bytes_slice (t := 5) (fr := f) ?_ (Nat.le_refl _), bytes_slice (t := 5) (fr := g) ?_ (Nat.le_refl _), bytes_slice (t := 5) (fr := h) ?_ (Nat.le_refl _)⟩
  · rw [Below.heap_alloc _ _ _ (by simp; omega), Below.heap_alloc _ _ _ (by simp), heap_alloc_new]
  · rw [Below.heap_alloc _ _ _ (by simp), heap_alloc2_new]
  · have e : w.heap.size + 1 + 1 = ((w.alloc (.cells (bs p) 5 f)).alloc (.cells (bs q) 5 g)).heap.size := by simp
    rw [e, heap_alloc_new]
theorem jefe_call (w : World) (hT : Tab w) : Calls Tryd.prog 8 #[.slice (some ⟨w.heap.size, 0, none⟩) 4 4, .slice (some ⟨w.heap.size + 1 + 1 + 1, 0, none⟩) 2 2]
    ((((w.alloc (.cells (bs jefe) 5 (4, 5))).alloc (.cells (bs want1) 5 (16, 17))).alloc (.cells (bs want2) 5 (12, 13))).alloc (.cells #[.slice (some ⟨w.heap.size + 1, 0, none⟩) 16 16, .slice (some ⟨w.heap.size + 1 + 1, 0, none⟩) 12 12] 22))
    fun e w' => e = .returned (.agg (bs jefeTag)) ∧ Below w.heap.size w w' := by
  obtain ⟨h1, h2, h3⟩ := consts3 w jefe want1 want2 (4, 5) (16, 17) (12, 13)
  have hb := below3 w (.cells (bs jefe) 5 (4, 5)) (.cells (bs want1) 5 (16, 17)) (.cells (bs want2) 5 (12, 13))
  have hs : (((w.alloc (.cells (bs jefe) 5 (4, 5))).alloc (.cells (bs want1) 5 (16, 17))).alloc (.cells (bs want2) 5 (12, 13))).heap.size = w.heap.size + 1 + 1 + 1 := by simp
  generalize ((w.alloc (.cells (bs jefe) 5 (4, 5))).alloc (.cells (bs want1) 5 (16, 17))).alloc (.cells (bs want2) 5 (12, 13)) = W at *
  have hP := parts2 h2 h3
  rw [hs] at hP
  have hbx := (Below.refl W.heap.size W).alloc (Nat.le_refl _) (.cells #[.slice (some ⟨w.heap.size + 1, 0, none⟩) 16 16, .slice (some ⟨w.heap.size + 1 + 1, 0, none⟩) 12 12] 22)
  refine (mac_any jefe [want1, want2] _ _ _ (hT.below (hb.trans (hbx.mono hb.size)) hT.pos) (h1.below hbx (Nat.le_refl _)) (by simp [jefe]) hP (fun n c e => by cases e) (by simp) (by simp [want1, want2])).mono ?_
  rintro e w' ⟨rfl, hb'⟩
  rw [tag_jefe]
  exact ⟨rfl, (hb.trans (hbx.mono hb.size)).trans (hb'.mono (Nat.le_trans hb.size (by simp)))⟩
theorem k_call (w : World) (hT : Tab w) : Calls Tryd.prog 11 #[.slice (some ⟨w.heap.size, 0, none⟩) 1 1] (w.alloc (.cells #[.int .u8 107] 5 (1, 2)))
    fun e w' => e = .returned (.agg (bs (107#8 :: zer 63))) ∧ Below w.heap.size w w' := by
  have hb := (Below.refl w.heap.size w).alloc (Nat.le_refl _) (.cells #[.int .u8 107] 5 (1, 2))
  have hs : Slice (w.alloc (.cells #[.int .u8 107] 5 (1, 2))) (.slice (some ⟨w.heap.size, 0, none⟩) 1 1) [107#8] := bytes_slice (q := [107#8]) (t := 5) (fr := (1, 2)) (by rw [heap_alloc_new]; rfl) (by simp)
  refine (block_any [107#8] _ _ (hT.below hb hT.pos) hs (by simp)).mono ?_
  rintro e w' ⟨rfl, hb'⟩
  exact ⟨rfl, hb.trans (hb'.mono (by simp))⟩
theorem k_call2 (w : World) (o : Obj) (hT : Tab w) : Calls Tryd.prog 11 #[.slice (some ⟨w.heap.size + 1, 0, none⟩) 1 1] ((w.alloc o).alloc (.cells #[.int .u8 107] 5 (1, 2)))
    fun e w' => e = .returned (.agg (bs (107#8 :: zer 63))) ∧ Below w.heap.size w w' := by
  have hb := (Below.refl w.heap.size w).alloc (Nat.le_refl _) o
  have h := k_call (w.alloc o) (hT.below hb hT.pos)
  rw [show (w.alloc o).heap.size = w.heap.size + 1 by simp] at h
  refine h.mono ?_
  rintro e w' ⟨rfl, hb'⟩
  exact ⟨rfl, hb.trans (hb'.mono (by omega))⟩
theorem index_k (w : World) : (Instr.index 31 (.agg (bs (107#8 :: zer 63))) (.int .i64 0)).run Tryd.prog w = .ok (.int .u8 107) w := by kernel_rfl
set_option maxHeartbeats 800000 in
theorem mwakes_any (w : World) (hT : Tab w) : Calls Tryd.prog 7 #[] w fun e w' => e = .returned (.bool true) ∧ Below w.heap.size w w' := by
  have HT := Lib.hid hT
  clear hT
  have hcv := fun (W : World) (C : Array Value) (n c : Nat) => Lib.run_convert_bytes_const (P := Tryd.prog) W 22 5 C n c Tryd.underlying22 Tryd.underlying5
  have hc2 := conv2
  have hc3 := conv3
  go_enter Tryd.func7, Tryd.ntmps7
  go_wp2_with fail
  refine (jefe_call w HT.out).mono ?_
  rintro e w1 ⟨rfl, hb1⟩
  clear hc3
  have ra := Row.fresh w1 27 (bs jefeTag)
  have a0 : (w1.alloc (.cells (bs jefeTag) 27)).cell? ⟨w1.heap.size, 0, none⟩ = some (.int .u8 91) := ra.get rfl
  have a1 : (w1.alloc (.cells (bs jefeTag) 27)).cell? ⟨w1.heap.size, 1, none⟩ = some (.int .u8 220) := ra.get rfl
  have a2 : (w1.alloc (.cells (bs jefeTag) 27)).cell? ⟨w1.heap.size, 2, none⟩ = some (.int .u8 193) := ra.get rfl
  have a3 : (w1.alloc (.cells (bs jefeTag) 27)).cell? ⟨w1.heap.size, 3, none⟩ = some (.int .u8 70) := ra.get rfl
  have a31 : (w1.alloc (.cells (bs jefeTag) 27)).cell? ⟨w1.heap.size, 31, none⟩ = some (.int .u8 67) := ra.get rfl
  clear ra
  have hix := index_k
  go_wp2_with (first | (refine wpList_store_row rfl 27 _ _ rfl w1.heap.size (bs jefeTag) rfl rfl 27 _ (Row.fresh _ _ _) size_d (by kernel_rfl) (one_bs _) ?_; rw [World.setRow_alloc_new]))
  refine (k_call2 w1 _ (HT.out.below hb1 HT.out.pos)).mono ?_
  rintro e w2 ⟨rfl, hb2⟩
  have hb02 : Below w.heap.size w w2 := hb1.trans (hb2.mono hb1.size)
  clear a0 a1 a2 a3 a31 hb1 hb2
  go_wp2_with fail
  go_ret
  exact ⟨rfl, hb02⟩
end Go.Proofs.YtieoakdlehpgiaaDoor
