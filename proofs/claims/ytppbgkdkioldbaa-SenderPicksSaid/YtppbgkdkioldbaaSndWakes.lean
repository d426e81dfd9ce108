/- Does the program's sender wake? -/
import Derived.Test.YtppbgkdkioldbaaSndSit
import Derived.Test.YtppbgkdkioldbaaSndPick
set_option maxRecDepth 4000
namespace Go.Proofs.Ytppbgkdkioldbaa
open Go Go.RowKit
def exP3 : Pkt := ⟨2, 1#32, 7#32, [(3, zer 32)]⟩
def exP4 : Pkt := ⟨2, 1#32, 8#32, [(4, zer 32)]⟩
theorem exE1 : sendE snd0 exP3 = 0 := by decide +kernel
theorem exS1 : sendS snd0 exP3 = ⟨exP3, pkt0, 0, false⟩ := by decide +kernel
theorem exE2 : sendE ⟨exP3, pkt0, 0, false⟩ exP4 = 19 := by decide +kernel
theorem exS2 : sendS ⟨exP3, pkt0, 0, false⟩ exP4 = ⟨exP3, pkt0, 0, false⟩ := by decide +kernel
theorem exK1 : OutOk ⟨exP3, pkt0, 0, false⟩ := .inr (by decide +kernel)
theorem exT : touchS ⟨exP3, pkt0, 0, false⟩ [(3, zer 32)] = ⟨exP3, pkt0, 0, true⟩ := by decide +kernel
theorem exM1 : missN ⟨exP3, pkt0, 0, true⟩ = 1 := by decide +kernel
theorem exM2 : missS ⟨exP3, pkt0, 0, true⟩ = ⟨exP3, pkt0, 1, true⟩ := by decide +kernel
theorem exA1 : ackB ⟨exP3, pkt0, 1, true⟩ ⟨3, 1#32, 8#32, []⟩ = false := by decide +kernel
theorem exA2 : ackS ⟨exP3, pkt0, 1, true⟩ ⟨3, 1#32, 8#32, []⟩ = ⟨exP3, pkt0, 1, true⟩ := by decide +kernel
theorem exA3 : ackB ⟨exP3, pkt0, 1, true⟩ ⟨3, 1#32, 7#32, []⟩ = true := by decide +kernel
theorem exA4 : ackS ⟨exP3, pkt0, 1, true⟩ ⟨3, 1#32, 7#32, []⟩ = ⟨pkt0, exP3, 0, false⟩ := by decide +kernel
theorem exQ1 : pickK 3#16 = 1 := by decide +kernel
theorem exQ2 : pickB 3#16 = true := by decide +kernel
theorem exQ3 : pickK 1#16 = 0 := by decide +kernel
theorem exQ4 : pickB 1#16 = true := by decide +kernel
set_option maxHeartbeats 3200000 in
theorem sndwakes_any (w : World) : Calls Try.prog 9 #[] w fun x w' => x = .returned (.bool true) ∧ Below w.heap.size w w' := by
  go_enter Try.func9, Try.ntmps9
  have HSIT := Lib.hid (sit_new w w (Below.refl _ _) #[.int .i64 0, .int .u32 0, .int .u32 0, .slice none 0 0, .int .i64 0, .int .u32 0, .int .u32 0, .slice none 0 0, .int .i64 0, .bool false] rfl)
  go_upto_region 2 with fail
  have C := sync_any 3 7#32 (w.alloc (.cells #[.int .i64 0, .int .u32 0, .int .u32 0, .slice none 0 0, .int .i64 0, .int .u32 0, .int .u32 0, .slice none 0 0, .int .i64 0, .bool false] 32)) (by decide)
  rw [show wd 7#32 = 7 from rfl] at C
  go_wp2_with fail
  refine C.mono ?_
  rintro x w1 ⟨B, m, d, rfl, hp, hb⟩
  have HS1 := Lib.hid (HSIT.out.call hb)
  clear C hb HSIT
  have C := send_sit HS1.out exP3 B m d hp (by decide)
  rw [exE1, exS1] at C
  go_wp2_with fail
  refine C.mono ?_
  rintro x w2 ⟨rfl, hs⟩
  have HS2 := Lib.hid hs
  clear C hs HS1 hp
  have C := sync_any 4 8#32 w2 (by decide)
  rw [show wd 8#32 = 8 from rfl] at C
  go_wp2_with fail
  refine C.mono ?_
  rintro x w3 ⟨B, m, d, rfl, hp, hb⟩
  have HS3 := Lib.hid (HS2.out.call hb)
  clear C hb HS2
  have C := send_sit HS3.out exP4 B m d hp (by decide)
  rw [exE2, exS2] at C
  go_wp2_with fail
  refine C.mono ?_
  rintro x w4 ⟨rfl, hs⟩
  have HS4 := Lib.hid hs
  clear C hs HS3 hp
  have HP := Lib.hid (put_fresh w4 3 (by decide))
  have HS := Lib.hid (HS4.out.call ((Below.refl _ _).alloc (Nat.le_refl _) (.cells #[.int .i64 3, .int .u8 0, .int .u8 0, .int .u8 0, .int .u8 0, .int .u8 0, .int .u8 0, .int .u8 0, .int .u8 0, .int .u8 0, .int .u8 0, .int .u8 0, .int .u8 0, .int .u8 0, .int .u8 0, .int .u8 0, .int .u8 0, .int .u8 0, .int .u8 0, .int .u8 0, .int .u8 0, .int .u8 0, .int .u8 0, .int .u8 0, .int .u8 0, .int .u8 0, .int .u8 0, .int .u8 0, .int .u8 0, .int .u8 0, .int .u8 0, .int .u8 0, .int .u8 0] 61)))
  clear HS4
  have C := touch_sit HS.out [(3, zer 32)] _ 1 1 exK1 HP.out (by decide)
  rw [exT] at C
  go_wp2_with fail
  refine C.mono ?_
  rintro x w5 ⟨rfl, hs⟩
  have HS5 := Lib.hid hs
  clear C hs HS HP
  have C := missed_sit HS5.out (by decide)
  rw [exM1, exM2] at C
  go_wp2_with fail
  refine C.mono ?_
  rintro x w6 ⟨rfl, hs⟩
  have HS6 := Lib.hid hs
  clear C hs HS5 
  have C := acked_sit HS6.out ⟨3, 1#32, 8#32, []⟩ (.slice none 0 0)
  rw [exA1, exA2] at C
  go_wp2_with fail
  refine C.mono ?_
  rintro x w7 ⟨rfl, hs⟩
  have HS7 := Lib.hid hs
  clear C hs HS6 
  have C := acked_sit HS7.out ⟨3, 1#32, 7#32, []⟩ (.slice none 0 0)
  rw [exA3, exA4] at C
  go_wp2_with fail
  refine C.mono ?_
  rintro x w8 ⟨rfl, hs⟩
  have HS8 := Lib.hid hs
  clear C hs HS7 
  have C := out_sit HS8.out (by decide)
  go_wp2_with fail
  refine C.mono ?_
  rintro x w9 ⟨B9, m9, d9, rfl, _, hs⟩
  have HS9 := Lib.hid hs
  clear C hs HS8
  have HT := St.nil w9 noF
  go_upto_region 8 with (first | ((with_reducible refine wpList_plain ?_ ?_); exact rfl; intro KK hKK; refine wp_st_alloc HT 30 (pktA 0 0#32 0#32 (.slice none 0 0)) rfl (.agg (pktA 0 0#32 0#32 (.slice none 0 0))) (by kernel_rfl) (rfl) (fun g9 W61 HSx => hKK _ _ ?_); clear hKK KK HT; have HT : St w9 noF [⟨g9, 30, pktA 0 0#32 0#32 (.slice none 0 0)⟩] W61 := HSx; clear HSx) | ((with_reducible refine wpList_plain ?_ ?_); exact rfl; intro KK hKK; refine wp_st_store HT 0 0 30 (.tmp 9) (.tmp 46) rfl rfl rfl (.agg (pktA 0 0#32 0#32 (.slice B9 m9 d9))) rfl (by exact size_pkt) (Nat.le_refl 4) (pkt_one ..) (pktA 0 0#32 0#32 (.slice B9 m9 d9)) (by exact spl_agg _ _ _ rfl rfl) (fun W62 HSx => hKK _ _ ?_); clear hKK KK HT; have HT : St w9 noF [⟨g9, 30, pktA 0 0#32 0#32 (.slice B9 m9 d9)⟩] W62 := HSx; clear HSx))
  have HS10 := Lib.hid (HS9.out.call HT.below)
  have HR9 := Lib.hid (HT.row 0 rfl)
  clear HT HS9
  clear HR9
  have C := early_sit HS10.out (by decide)
  go_wp2_with fail
  refine C.mono ?_
  rintro x wE ⟨B11, m11, d11, rfl, _, hs⟩
  have HSE := Lib.hid hs
  clear C hs HS10
  have HT := St.nil wE noF
  go_upto_region 9 with (first | ((with_reducible refine wpList_plain ?_ ?_); exact rfl; intro KK hKK; refine wp_st_alloc HT 30 (pktA 0 0#32 0#32 (.slice none 0 0)) rfl (.agg (pktA 0 0#32 0#32 (.slice none 0 0))) (by kernel_rfl) (rfl) (fun g11 W71 HSx => hKK _ _ ?_); clear hKK KK HT; have HT : St wE noF [⟨g11, 30, pktA 0 0#32 0#32 (.slice none 0 0)⟩] W71 := HSx; clear HSx) | ((with_reducible refine wpList_plain ?_ ?_); exact rfl; intro KK hKK; refine wp_st_store HT 0 0 30 (.tmp 11) (.tmp 51) rfl rfl rfl (.agg (pktA 2 1#32 7#32 (.slice B11 m11 d11))) rfl (by exact size_pkt) (Nat.le_refl 4) (pkt_one ..) (pktA 2 1#32 7#32 (.slice B11 m11 d11)) (by exact spl_agg _ _ _ rfl rfl) (fun W72 HSx => hKK _ _ ?_); clear hKK KK HT; have HT : St wE noF [⟨g11, 30, pktA 2 1#32 7#32 (.slice B11 m11 d11)⟩] W72 := HSx; clear HSx))
  have HSF := Lib.hid (HSE.out.call HT.below)
  have c11 : W72.cell? ⟨g11, 2, none⟩ = some (.int .u32 7) := (HT.row 0 rfl).get rfl
  clear HT HSE
  have C1 := pick_any 3#16 W72
  have C2 := pick_any 1#16 W72
  rw [exQ1, exQ2, show hd 3#16 = 3 from rfl] at C1
  rw [exQ3, exQ4, show hd 1#16 = 1 from rfl] at C2
  go_wp2_with fail
  refine C1.mono ?_
  rintro x wG ⟨rfl, rfl⟩
  go_wp2_with fail
  refine C2.mono ?_
  rintro x wG ⟨rfl, rfl⟩
  clear C1 C2
  go_wp2_with fail
  go_ret
  exact ⟨rfl, HSF.out.2.1⟩
end Go.Proofs.Ytppbgkdkioldbaa
