/- The example of reply's statements. -/
import Derived.Test.YtamofhjnpahamaaRepJoin
import Derived.Test.YtamofhjnpahamaaRepPure
import Derived.Test.YtamofhjnpahamaaMarkB
set_option maxRecDepth 4000
namespace Go.Proofs.Ytamofhjnpahamaa
open Go Go.RowKit
def exL : List Rp := [(258, 7, [97#8, 98#8]), (0, 0, [])]
theorem exr_len : (repB 258 7 [97#8, 98#8]).length = 10 := length_repB _ _ _
theorem exr_may : mayR 258 7 2 = true := by decide +kernel
theorem exr_get : (repB 258 7 [97#8, 98#8]).getD 0 0#8 = 2#8 ∧ (repB 258 7 [97#8, 98#8]).getD 1 0#8 = 1#8 ∧ (repB 258 7 [97#8, 98#8]).getD 4 0#8 = 7#8 ∧ (repB 258 7 [97#8, 98#8]).getD 5 0#8 = 2#8 ∧ (repB 258 7 [97#8, 98#8]).getD 6 0#8 = 97#8 := by decide +kernel
theorem exr_jn : jnE exL = 0 ∧ (jnB exL).length = 18 := by
  have h : exL.all okR = true := by decide +kernel
  unfold jnE jnB
  rw [h]
  refine ⟨rfl, ?_⟩
  show ((exL.map bytR).flatten).length = 18
  unfold exL bytR
  simp [length_repB]
set_option maxHeartbeats 1600000 in
theorem rpwakes_any (w : World) : Calls Try.prog 8 #[] w fun e w' => e = .returned (.bool true) ∧ Below w.heap.size w w' := by
  obtain ⟨B, hB⟩ : ∃ B, repB 258 7 [97#8, 98#8] = B := ⟨_, rfl⟩
  have HBL : Hid (B.length = 10) := Lib.hid (by rw [← hB]; exact exr_len)
  have HGET : Hid (B.getD 0 0#8 = 2#8 ∧ B.getD 1 0#8 = 1#8 ∧ B.getD 4 0#8 = 7#8 ∧ B.getD 5 0#8 = 2#8 ∧ B.getD 6 0#8 = 97#8) := Lib.hid (by rw [← hB]; exact exr_get)
  have HBK := re_back (i := 258) (e := 7) (d := [97#8, 98#8]) exr_may
  have HEN := Lib.hid (fun A c (w : World) (hs : Slice w (.slice A 2 c) [97#8, 98#8]) hA => repenc_good 258 7 A 2 c [97#8, 98#8] rfl w hs hA exr_may)
  have HBD := Lib.hid (fun w => repenc_bad (-1) 0 none 0 0 w (by decide +kernel))
  rw [hB] at HBK HEN
  rw [HBL.out] at HEN
  have HDC : Hid (∀ A cc w, Slice w (.slice A 10 cc) B → Calls Try.prog 15 #[.slice A 10 cc] w fun e w' => ∃ v, e = .returned (.tuple #[.agg (repCells 258 7 v), .int .i64 0]) ∧ w'.ownsRow w.heap.size 5 1 v 2 (bytesV [97#8, 98#8]) ∧ Below w.heap.size w w') := Lib.hid (fun A cc w hs => by
    have := repdec_any A 10 cc B w hs HBL.out (by decide)
    rw [HBK.1, HBK.2.1, HBK.2.2.1, HBK.2.2.2] at this
    exact this)
  clear hB HBK
  have HSL : Hid (Slice (w.alloc (.cells #[.int .u8 97, .int .u8 98] 5 (2, 3))) (.slice (some ⟨w.heap.size, 0, none⟩) 2 2) [97#8, 98#8]) := Lib.hid (slice_mark w 5 (2, 3) [97#8, 98#8] rfl (Nat.le_refl 2))
  have HW0 : Hid (Below w.heap.size w (w.alloc (.cells #[.int .u8 97, .int .u8 98] 5 (2, 3)))) := Lib.hid ((Below.refl _ _).alloc (Nat.le_refl _) _)
  have HG0 : Hid (w.heap.size < (w.alloc (.cells #[.int .u8 97, .int .u8 98] 5 (2, 3))).heap.size) := Lib.hid (by simp)
  have HS := St.nil (w.alloc (.cells #[.int .u8 97, .int .u8 98] 5 (2, 3))) noF
  have kc := fun (w : World) (C : Array Value) (n c : Nat) => Lib.run_convert_bytes_const (P := Try.prog) w 23 5 C n c Try.underlying23 Try.underlying5
  go_enter Try.func8, Try.ntmps8
  go_upto_region 1 with fail
  go_upto_region 2 with (first | ((with_reducible refine wpList_plain ?_ ?_); exact rfl; intro KK hKK; refine wp_st_alloc HS 31 (repCells 0 0 (.slice none 0 0)) rfl (.agg (repCells 0 0 (.slice none 0 0))) (by kernel_rfl) (rfl) (fun g1 W1 HSx => hKK _ _ ?_); clear hKK KK HS; have HS : St (w.alloc (.cells #[.int .u8 97, .int .u8 98] 5 (2, 3))) noF [⟨g1, 31, repCells 0 0 (.slice none 0 0)⟩] W1 := HSx; clear HSx) | ((with_reducible refine wpList_plain ?_ ?_); exact rfl; intro KK hKK; refine wp_st_store HS 0 0 31 (.tmp 1) (.tmp 12) rfl rfl rfl (.agg (repCells 258 7 (.slice (some ⟨w.heap.size, 0, none⟩) 2 2))) rfl (by exact size_rep) (Nat.le_refl _) (rep_one ..) (repCells 258 7 (.slice (some ⟨w.heap.size, 0, none⟩) 2 2)) (by exact spl_agg _ _ _ rfl rfl) (fun W2 HSx => hKK _ _ ?_); clear hKK KK HS; have HS : St (w.alloc (.cells #[.int .u8 97, .int .u8 98] 5 (2, 3))) noF [⟨g1, 31, repCells 258 7 (.slice (some ⟨w.heap.size, 0, none⟩) 2 2)⟩] W2 := HSx; clear HSx))
  clear kc
  obtain ⟨W0, hW0⟩ : ∃ W0, (w.alloc (.cells #[.int .u8 97, .int .u8 98] 5 (2, 3))) = W0 := ⟨_, rfl⟩
  rw [hW0] at HS HSL HW0 HG0
  clear hW0
  obtain ⟨g0, hg0⟩ : ∃ g0, w.heap.size = g0 := ⟨_, rfl⟩
  have HG := Lib.hid hg0
  rw [hg0] at HS HSL HG0
  clear hg0
  have C := HEN.out _ 2 W2 (HSL.out.below HS.below (Nat.le_refl _)) (fun h => by cases h)
  go_wp2_with (first | ((with_reducible refine wpList_plain ?_ ?_); exact rfl; intro KK hKK; refine wp_st_load HS 0 0 31 (.tmp 1) rfl rfl rfl (repCells 258 7 (.slice (some ⟨g0, 0, none⟩) 2 2)) (slab_whole _) _ Try.underlying31 rfl (by exact size_rep) (hKK _ _ ?_); clear hKK KK))
  refine C.mono ?_
  rintro e w1 ⟨v1, rfl, ho, hb1⟩
  have HSx := HS.same hb1
  clear HS hb1 HEN C
  have HS := HSx
  clear HSx
  have hs := own_slice (by rw [HBL.out]; exact ho)
  obtain ⟨A, cc, rfl, hcc⟩ := own_slice_form ho
  obtain ⟨gb, ob, rfl, hba, _⟩ := slice_bat hs (by rw [HBL.out]; decide)
  have HBA := Lib.hid hba
  have C := HDC.out (some ⟨gb, ob, none⟩) cc w1 hs
  clear hs ho hba HDC
  go_upto_region 3 with fail
  go_wp2_with fail
  refine C.mono ?_
  rintro e w2 ⟨v2, rfl, ho2, hb2⟩
  have HSx := HS.same hb2
  have HBAy := Lib.hid (HBA.out.call hb2)
  clear HS hb2 C HBA
  have HS := HSx
  clear HSx
  have hn2 := own_nil ho2
  have HO2 := Lib.hid (own_slice ho2)
  obtain ⟨A2, c2, rfl, _⟩ := own_slice_form ho2
  have HZ2 := Lib.hid HS.below.size
  clear ho2
  have HB2 := Lib.hid (HW0.out.trans (HS.below.mono (by rw [HG.out]; exact Nat.le_of_lt HG0.out)))
  have HW2 := Lib.hid (HS.below)
  have HR1 : Hid (Row w2 g1 31 (repCells 258 7 (.slice (some ⟨g0, 0, none⟩) 2 2))) := Lib.hid (HS.row 0 rfl)
  clear HS
  have HT := St.nil w2 noF
  go_upto_region 4 with (first | ((with_reducible refine wpList_plain ?_ ?_); exact rfl; intro KK hKK; refine wp_st_alloc HT 31 (repCells 0 0 (.slice none 0 0)) rfl (.agg (repCells 0 0 (.slice none 0 0))) (by kernel_rfl) (rfl) (fun g4 W3 HSx => hKK _ _ ?_); clear hKK KK HT; have HT : St w2 noF [⟨g4, 31, repCells 0 0 (.slice none 0 0)⟩] W3 := HSx; clear HSx) | ((with_reducible refine wpList_plain ?_ ?_); exact rfl; intro KK hKK; refine wp_st_store HT 0 0 31 (.tmp 4) (.tmp 21) rfl rfl rfl (.agg (repCells 258 7 (.slice A2 2 c2))) rfl (by exact size_rep) (Nat.le_refl _) (rep_one ..) (repCells 258 7 (.slice A2 2 c2)) (by exact spl_agg _ _ _ rfl rfl) (fun W4 HSx => hKK _ _ ?_); clear hKK KK HT; have HT : St w2 noF [⟨g4, 31, repCells 258 7 (.slice A2 2 c2)⟩] W4 := HSx; clear HSx))
  have HB4 := Lib.hid (HB2.out.trans (HT.below.mono HB2.out.size))
  have HR14 : Hid (Row W4 g1 31 (repCells 258 7 (.slice (some ⟨g0, 0, none⟩) 2 2))) := Lib.hid (HR1.out.call HT.below)
  have HRW4 : Hid (Row W4 g4 31 (repCells 258 7 (.slice A2 2 c2))) := Lib.hid (HT.row 0 rfl)
  have HBA4 : Hid (BAt W4 gb ob B) := Lib.hid (HBAy.out.call HT.below)
  have hsl := HSL.out.below (HW2.out.trans (HT.below.mono HW2.out.size)) (Nat.le_refl _)
  have HRP : RepsAt (W4.alloc (.cells #[.int .i64 258, .int .i64 7, .slice (some ⟨g0, 0, none⟩) 2 2, .int .i64 0, .int .i64 0, .slice none 0 0] 31)) (.slice (some ⟨W4.heap.size, 0, none⟩) exL.length 2) exL := by
    refine reps_row (Row.fresh W4 31 #[.int .i64 258, .int .i64 7, .slice (some ⟨g0, 0, none⟩) 2 2, .int .i64 0, .int .i64 0, .slice none 0 0]) (Nat.le_refl _) (by decide) (fun k x hx => ?_)
    have hb : Below W4.heap.size W4 (W4.alloc (.cells #[.int .i64 258, .int .i64 7, .slice (some ⟨g0, 0, none⟩) 2 2, .int .i64 0, .int .i64 0, .slice none 0 0] 31)) := (Below.refl _ _).alloc (Nat.le_refl _) _
    rcases k with _ | _ | k
    · cases hx
      exact rep_at (hsl.below hb (Nat.le_refl _)) (fun h => by cases h) (by decide) (by decide) (by decide) (by decide) (by decide)
    · cases hx
      exact rep_at ⟨none, 0, rfl, Nat.le_refl _, fun h => absurd rfl h⟩ (fun _ => rfl) (by decide) (by decide) (by decide) (by decide) (by decide)
    · cases hx
  have C := repjoin_any _ _ _ exL _ HRP (by decide)
  rw [exr_jn.1, exr_jn.2] at C
  have HB5 := Lib.hid (HB4.out.alloc HB4.out.size (.cells #[.int .i64 258, .int .i64 7, .slice (some ⟨g0, 0, none⟩) 2 2, .int .i64 0, .int .i64 0, .slice none 0 0] 31))
  have HBN : Hid (Below W4.heap.size W4 (W4.alloc (.cells #[.int .i64 258, .int .i64 7, .slice (some ⟨g0, 0, none⟩) 2 2, .int .i64 0, .int .i64 0, .slice none 0 0] 31))) := Lib.hid ((Below.refl _ _).alloc (Nat.le_refl _) _)
  clear hsl HRP
  clear HT
  go_wp2_with (first | ((with_reducible refine wpList_plain ?_ ?_); exact rfl; intro KK hKK; refine wp_load_mid 31 (.tmp 1) rfl g1 0 rfl [.int .i64 258, .int .i64 7, .slice (some ⟨g0, 0, none⟩) 2 2] _ (HR14.out.slab 0 _ (slab_whole _)) Try.underlying31 rfl (by exact size_rep) (hKK _ _ ?_); clear hKK KK))
  refine C.mono ?_
  rintro e w5 ⟨v5, rfl, ho5, hb5⟩
  have HBN2 := Lib.hid (HBN.out.trans (hb5.mono HBN.out.size))
  have HB6 := Lib.hid (HB5.out.trans (hb5.mono HB5.out.size))
  obtain ⟨A5, c5, rfl, _⟩ := own_slice_form ho5
  clear hb5 C ho5 HB5 HBN
  go_wp2_with fail
  refine (HBD.out w5).mono ?_
  rintro e w6 ⟨rfl, hb6⟩
  have HB7 := Lib.hid (HB6.out.trans (hb6.mono HB6.out.size))
  have hb7 := HBN2.out.trans (hb6.mono HBN2.out.size)
  have HBA := Lib.hid (HBA4.out.call hb7)
  have HR4 := HRW4.out.call hb7
  clear hb6 hb7 HBD HBN2 HB6
  have q0 : w6.cell? ⟨g4, 0, none⟩ = some (.int .i64 258) := HR4.get rfl
  have q1 : w6.cell? ⟨g4, 1, none⟩ = some (.int .i64 7) := HR4.get rfl
  have d0 : w6.cell? ⟨gb, ob, none⟩ = some (.int .u8 2) := by have h := HBA.out.get 0 (by rw [HBL.out]; decide); rw [HGET.out.1] at h; exact h
  have d1 : w6.cell? ⟨gb, ob + 1, none⟩ = some (.int .u8 1) := by have h := HBA.out.get 1 (by rw [HBL.out]; decide); rw [HGET.out.2.1] at h; exact h
  have d4 : w6.cell? ⟨gb, ob + 4, none⟩ = some (.int .u8 7) := by have h := HBA.out.get 4 (by rw [HBL.out]; decide); rw [HGET.out.2.2.1] at h; exact h
  have d5 : w6.cell? ⟨gb, ob + 5, none⟩ = some (.int .u8 2) := by have h := HBA.out.get 5 (by rw [HBL.out]; decide); rw [HGET.out.2.2.2.1] at h; exact h
  have d6 : w6.cell? ⟨gb, ob + 6, none⟩ = some (.int .u8 97) := by have h := HBA.out.get 6 (by rw [HBL.out]; decide); rw [HGET.out.2.2.2.2] at h; exact h
  go_wp2_with fail
  simp only [List.append_eq, List.cons_append, List.nil_append]
  go_wp2_with fail
  go_ret
  exact ⟨rfl, HB7.out⟩
end Go.Proofs.Ytamofhjnpahamaa
