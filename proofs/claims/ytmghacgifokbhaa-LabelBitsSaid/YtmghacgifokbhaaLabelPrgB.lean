/- The program's label as bytes. -/
import Derived.Test.YtmghacgifokbhaaLabelIf
import Derived.Test.YtmghacgifokbhaaLow
import Derived.Test.YtmghacgifokbhaaSt
set_option maxRecDepth 4000
namespace Go.Proofs.Ytmghacgifokbhaa
open Go Go.RowKit
set_option maxHeartbeats 800000 in
theorem bodyof_any (L : Lab) (w : World) : Calls Try.prog 22 #[.agg (labCells L)] w fun e w' => ∃ v, e = .returned v ∧ Item w' v (labBody L) ∧ Below w.heap.size w w' := by
  have HBD : Hid (labBody L = four L.e ++ four L.s ++ four L.n ++ two L.d ++ two L.l) := Lib.hid (by unfold labBody; rw [four_le, four_le, four_le, two_le, two_le])
  have HLL := Lib.hid (length_labBody L)
  have HS := St.nil w noF
  go_enter Try.func22, Try.ntmps22
  go_upto_region 2 with (first | ((with_reducible refine wpList_plain ?_ ?_); exact rfl; intro KK hKK; refine wp_st_box HS 25 (.tmp 0) rfl _ rfl (labCells L) (rfl) (fun g1 W1 HSx => hKK _ _ ?_); clear hKK KK HS; have HS : St w noF [⟨g1, 25, labCells L⟩] W1 := HSx; clear HSx))
  obtain ⟨B0, hB0⟩ : ∃ B0, W1.heap.size = B0 := ⟨_, rfl⟩
  have HB0 := Lib.hid hB0
  have HSW := Lib.hid HS
  have c0 : W1.cell? ⟨g1, 0, none⟩ = some (.int .u32 (wd L.e)) := (HS.row 0 rfl).get rfl
  have C := applong_any B0 [] L.e (.slice none 0 0) W1 (World.ownsRow_nil _ _ _ _) (Nat.le_of_eq hB0.symm) (by decide)
  have BB : Hid (Below B0 W1 W1) := Lib.hid (Below.refl _ _)
  clear HS hB0
  go_wp2_with fail
  refine C.mono ?_
  rintro e w1 ⟨v1, rfl, h1, b1⟩
  clear C c0
  have BBx := Lib.hid (BB.out.trans b1)
  clear BB b1
  have BB := BBx
  clear BBx
  have HS0 := HSW.out.same (by rw [HB0.out]; exact BB.out)
  have c0 : w1.cell? ⟨g1, 1, none⟩ = some (.int .u32 (wd L.s)) := (HS0.row 0 rfl).get rfl
  have C := applong_any B0 (four L.e) L.s v1 w1 h1 (by rw [← HB0.out]; exact BB.out.size) (by simp [four, two])
  clear h1 HS0
  go_wp2_with fail
  refine C.mono ?_
  rintro e w2 ⟨v2, rfl, h1, b1⟩
  clear C c0
  have BBx := Lib.hid (BB.out.trans b1)
  clear BB b1
  have BB := BBx
  clear BBx
  have HS1 := HSW.out.same (by rw [HB0.out]; exact BB.out)
  have c0 : w2.cell? ⟨g1, 2, none⟩ = some (.int .u32 (wd L.n)) := (HS1.row 0 rfl).get rfl
  have C := applong_any B0 (four L.e ++ four L.s) L.n v2 w2 h1 (by rw [← HB0.out]; exact BB.out.size) (by simp [four, two])
  clear h1 HS1
  go_wp2_with fail
  refine C.mono ?_
  rintro e w3 ⟨v3, rfl, h1, b1⟩
  clear C c0
  have BBx := Lib.hid (BB.out.trans b1)
  clear BB b1
  have BB := BBx
  clear BBx
  have HS2 := HSW.out.same (by rw [HB0.out]; exact BB.out)
  have c0 : w3.cell? ⟨g1, 3, none⟩ = some (.int .u16 (hd L.d)) := (HS2.row 0 rfl).get rfl
  have C := appshort_any B0 (four L.e ++ four L.s ++ four L.n) L.d v3 w3 h1 (by rw [← HB0.out]; exact BB.out.size) (by simp [four, two])
  clear h1 HS2
  go_wp2_with fail
  refine C.mono ?_
  rintro e w4 ⟨v4, rfl, h1, b1⟩
  clear C c0
  have BBx := Lib.hid (BB.out.trans b1)
  clear BB b1
  have BB := BBx
  clear BBx
  have HS3 := HSW.out.same (by rw [HB0.out]; exact BB.out)
  have c0 : w4.cell? ⟨g1, 4, none⟩ = some (.int .u16 (hd L.l)) := (HS3.row 0 rfl).get rfl
  have C := appshort_any B0 (four L.e ++ four L.s ++ four L.n ++ two L.d) L.l v4 w4 h1 (by rw [← HB0.out]; exact BB.out.size) (by simp [four, two])
  clear h1 HS3
  go_wp2_with fail
  refine C.mono ?_
  rintro e w5 ⟨v5, rfl, h1, b1⟩
  clear C c0
  have BBx := Lib.hid (BB.out.trans b1)
  clear BB b1
  have BB := BBx
  clear BBx
  have HO : Hid (w5.ownsRow B0 5 1 v5 (labBody L).length (bytesV (labBody L))) := Lib.hid (by rw [HLL.out, HBD.out]; exact h1)
  clear h1
  go_wp2_with fail
  go_ret
  exact ⟨_, rfl, own_item HO.out (by rw [HLL.out]; decide), HSW.out.below.trans (BB.out.mono (by rw [← HB0.out]; exact HSW.out.below.size))⟩
end Go.Proofs.Ytmghacgifokbhaa
