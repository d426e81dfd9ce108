/- Desks and labels compared; the example of desk's statements. -/
import Derived.Test.YtpnndkobaikhfaaDeskPrg
import Derived.Test.YtpnndkobaikhfaaStMore
import Derived.Laws.StructEq
set_option maxRecDepth 4000
namespace Go.Proofs.Ytpnndkobaikhfaa
open Go Go.RowKit

theorem eql_dsk (L M : Dsk) (w : World) : (Op.equalIn 10000 24 (.agg (dskC L)) (.agg (dskC M))).run Try.prog w = .ok (decide (L = M)) w := by
  have hS : Try.prog.underlying 24 = some (.struct (Try.prog.fieldsOf 24)) := by kernel_rfl
  obtain ⟨p1, e1, s1⟩ := L
  obtain ⟨p2, e2, s2⟩ := M
  have e : decide ((⟨p1, e1, s1⟩ : Dsk) = ⟨p2, e2, s2⟩) = (p1 == p2 && (wd e1 == wd e2 && (s1 == s2))) := by
    by_cases h : (⟨p1, e1, s1⟩ : Dsk) = ⟨p2, e2, s2⟩
    · cases h; simp
    · rw [decide_eq_false h]
      symm
      cases hx : (p1 == p2 && (wd e1 == wd e2 && (s1 == s2))) with
      | false => rfl
      | true =>
        simp only [Bool.and_eq_true, beq_iff_eq] at hx
        exact absurd (by rw [hx.1, wd_inj hx.2.1, hx.2.2]) h
  rw [e, show (10000 : Nat) = 9999 + 1 from rfl, run_equalIn_agg w 9999 24 _ _ hS (by kernel_rfl)]
  unfold dskC
  have u1 := Try.underlying22
  have u2 := Try.underlying3
  have u3 := Try.underlying4
  simp only [Program.fieldsOf, Try.underlying24]
  generalize wd e1 = a1
  generalize wd e2 = b1
  go_simp
  by_cases h1 : a1 = b1 <;> by_cases h2 : p1 = p2 <;> by_cases h3 : s1 = s2 <;> simp [h1, h2, h3]

theorem eql_rdsk (L M : Dsk) (w : World) : (Op.equalIn 10000 30 (.agg (dskC L)) (.agg (dskC M))).run Try.prog w = .ok (decide (L = M)) w := by
  have hS : Try.prog.underlying 30 = some (.struct (Try.prog.fieldsOf 30)) := by kernel_rfl
  obtain ⟨p1, e1, s1⟩ := L
  obtain ⟨p2, e2, s2⟩ := M
  have e : decide ((⟨p1, e1, s1⟩ : Dsk) = ⟨p2, e2, s2⟩) = (p1 == p2 && (wd e1 == wd e2 && (s1 == s2))) := by
    by_cases h : (⟨p1, e1, s1⟩ : Dsk) = ⟨p2, e2, s2⟩
    · cases h; simp
    · rw [decide_eq_false h]
      symm
      cases hx : (p1 == p2 && (wd e1 == wd e2 && (s1 == s2))) with
      | false => rfl
      | true =>
        simp only [Bool.and_eq_true, beq_iff_eq] at hx
        exact absurd (by rw [hx.1, wd_inj hx.2.1, hx.2.2]) h
  rw [e, show (10000 : Nat) = 9999 + 1 from rfl, run_equalIn_agg w 9999 30 _ _ hS (by kernel_rfl)]
  unfold dskC
  have u1 := Try.underlying22
  have u2 := Try.underlying3
  have u3 := Try.underlying4
  simp only [Program.fieldsOf, Try.underlying30]
  generalize wd e1 = a1
  generalize wd e2 = b1
  go_simp
  by_cases h1 : a1 = b1 <;> by_cases h2 : p1 = p2 <;> by_cases h3 : s1 = s2 <;> simp [h1, h2, h3]

theorem eql_dlab (L M : DLab) (w : World) : (Op.equalIn 10000 27 (.agg (dlabC L)) (.agg (dlabC M))).run Try.prog w = .ok (decide (L = M)) w := by
  have hS : Try.prog.underlying 27 = some (.struct (Try.prog.fieldsOf 27)) := by kernel_rfl
  have e : decide (L = M) = (wd L.e == wd M.e && (wd L.s == wd M.s && (wd L.n == wd M.n && (hd L.d == hd M.d && hd L.l == hd M.l)))) := by
    by_cases h : L = M
    · subst h; simp
    · rw [decide_eq_false h]
      symm
      cases hx : (wd L.e == wd M.e && (wd L.s == wd M.s && (wd L.n == wd M.n && (hd L.d == hd M.d && hd L.l == hd M.l)))) with
      | false => rfl
      | true =>
        simp only [Bool.and_eq_true, beq_iff_eq] at hx
        refine absurd ?_ h
        cases L; cases M
        simp only at hx
        rw [wd_inj hx.1, wd_inj hx.2.1, wd_inj hx.2.2.1, hd_inj hx.2.2.2.1, hd_inj hx.2.2.2.2]
  rw [e, show (10000 : Nat) = 9999 + 1 from rfl, run_equalIn_agg w 9999 27 _ _ hS (by kernel_rfl)]
  unfold dlabC
  have u1 := Try.underlying22
  have u2 := Try.underlying25
  simp only [Program.fieldsOf, Try.underlying27]
  generalize wd L.e = a1
  generalize wd L.s = a2
  generalize wd L.n = a3
  generalize hd L.d = a4
  generalize hd L.l = a5
  generalize wd M.e = b1
  generalize wd M.s = b2
  generalize wd M.n = b3
  generalize hd M.d = b4
  generalize hd M.l = b5
  go_simp
  by_cases h1 : a1 = b1 <;> by_cases h2 : a2 = b2 <;> by_cases h3 : a3 = b3 <;> by_cases h4 : a4 = b4 <;> by_cases h5 : a5 = b5 <;> simp [h1, h2, h3, h4, h5]

set_option maxHeartbeats 3200000 in
theorem dkwakes_any (w : World) : Calls Try.prog 15 #[] w fun x w' => x = .returned (.bool true) ∧ Below w.heap.size w w' := by
  have HN := Lib.hid (fun w => new_dsk w)
  have HFR := Lib.hid (fun w => fresh_any newD ⟨0#32, 0#32, 0#32, 8#16, 6#16⟩ w)
  have HTU := Lib.hid (fun w => turn_dsk newD 1 6#16 w)
  have HO : Hid (∀ w, Calls Try.prog 7 #[.agg (dskC newD)] w fun x w' => x = .returned (.int .i64 1) ∧ Below w.heap.size w w') := Lib.hid (fun w => other_any newD w)
  have HM0 : Hid (∀ w, Calls Try.prog 9 #[.agg (dskC (newD)), .int .i64 1, .bool true, .bool false] w fun x w' => x = .returned (.int .i64 0) ∧ Below w.heap.size w w') := Lib.hid (fun w => may_any (newD) 1 true false w)
  have HM1 : Hid (∀ w, Calls Try.prog 9 #[.agg (dskC (newD)), .int .i64 0, .bool true, .bool true] w fun x w' => x = .returned (.int .i64 1) ∧ Below w.heap.size w w') := Lib.hid (fun w => may_any (newD) 0 true true w)
  have HM2 : Hid (∀ w, Calls Try.prog 9 #[.agg (dskC (newD)), .int .i64 1, .bool false, .bool true] w fun x w' => x = .returned (.int .i64 20) ∧ Below w.heap.size w w') := Lib.hid (fun w => may_any (newD) 1 false true w)
  have HM3 : Hid (∀ w, Calls Try.prog 9 #[.agg (dskC (turnD newD 1 6#16)), .int .i64 0, .bool true, .bool false] w fun x w' => x = .returned (.int .i64 22) ∧ Below w.heap.size w w') := Lib.hid (fun w => may_any (turnD newD 1 6#16) 0 true false w)
  have HM4 : Hid (∀ w, Calls Try.prog 9 #[.agg (dskC (turnD newD 1 6#16)), .int .i64 0, .bool true, .bool true] w fun x w' => x = .returned (.int .i64 0) ∧ Below w.heap.size w w') := Lib.hid (fun w => may_any (turnD newD 1 6#16) 0 true true w)
  have q1 : ∀ w, (Op.equalIn 10000 27 (.agg (dlabC (freshD newD ⟨0#32, 0#32, 0#32, 8#16, 6#16⟩))) (.agg #[.int .u32 2, .int .u32 0, .int .u32 1, .int .u16 14, .int .u16 0])).run Try.prog w = .ok true w := fun w => eql_dlab (freshD newD ⟨0#32, 0#32, 0#32, 8#16, 6#16⟩) ⟨2#32, 0#32, 1#32, 14#16, 0#16⟩ w
  have q2 : ∀ w, (Op.equalIn 10000 24 (.agg (dskC (turnD newD 1 6#16))) (.agg #[.int .i64 1, .int .u32 2, .bool false])).run Try.prog w = .ok true w := fun w => eql_dsk (turnD newD 1 6#16) ⟨1, 2#32, false⟩ w
  have Q1 := Lib.hid q1
  have Q2 := Lib.hid q2
  clear q1 q2
  go_enter Try.func15, Try.ntmps15
  go_wp2_with fail
  refine (HN.out _).mono ?_
  rintro x w1 ⟨rfl, hb1⟩
  have HB1 := Lib.hid hb1
  clear hb1 HN
  have HS := St.nil w1 noF
  go_upto_region 2 with (first | ((with_reducible refine wpList_plain ?_ ?_); exact rfl; intro KK hKK; refine wp_st_alloc HS 24 (#[.int .i64 0, .int .u32 0, .bool false]) rfl (.agg (#[.int .i64 0, .int .u32 0, .bool false])) (by kernel_rfl) (rfl) (fun g1 W2 HSx => hKK _ _ ?_); clear hKK KK HS; have HS : St w1 noF [⟨g1, 24, #[.int .i64 0, .int .u32 0, .bool false]⟩] W2 := HSx; clear HSx) | ((with_reducible refine wpList_plain ?_ ?_); exact rfl; intro KK hKK; refine wp_st_store HS 0 0 24 (.tmp 1) (.tmp 4) rfl rfl rfl (.agg (dskC newD)) rfl (by exact size_dsk) (Nat.le_refl 3) (by exact one_dsk newD) (dskC newD) (by exact spl_agg _ _ _ rfl rfl) (fun W3 HSx => hKK _ _ ?_); clear hKK KK HS; have HS : St w1 noF [⟨g1, 24, dskC newD⟩] W3 := HSx; clear HSx))
  go_wp2_with (first | ((with_reducible refine wpList_plain ?_ ?_); exact rfl; intro KK hKK; refine wp_st_load HS 0 0 24 (.tmp 1) rfl rfl rfl (dskC newD) (slab_whole _) _ Try.underlying24 rfl (by exact size_dsk) (hKK _ _ ?_); clear hKK KK))
  refine (HFR.out _).mono ?_
  rintro x w2 ⟨rfl, hb⟩
  have HSx := HS.same hb
  clear HS hb
  have HS := HSx
  clear HSx
  go_upto_region 3 with (first | ((with_reducible refine wpList_plain ?_ ?_); exact rfl; intro KK hKK; refine wp_st_alloc HS 27 (#[.int .u32 0, .int .u32 0, .int .u32 0, .int .u16 0, .int .u16 0]) rfl (.agg (#[.int .u32 0, .int .u32 0, .int .u32 0, .int .u16 0, .int .u16 0])) (by kernel_rfl) (rfl) (fun g2 W4 HSx => hKK _ _ ?_); clear hKK KK HS; have HS : St w1 noF [⟨g1, 24, dskC newD⟩, ⟨g2, 27, #[.int .u32 0, .int .u32 0, .int .u32 0, .int .u16 0, .int .u16 0]⟩] W4 := HSx; clear HSx) | ((with_reducible refine wpList_plain ?_ ?_); exact rfl; intro KK hKK; refine wp_st_store HS 1 0 27 (.tmp 2) (.tmp 7) rfl rfl rfl (.agg (dlabC (freshD newD ⟨0#32, 0#32, 0#32, 8#16, 6#16⟩))) rfl (by exact size_dlab) (Nat.le_refl 5) (by exact one_dlab (freshD newD ⟨0#32, 0#32, 0#32, 8#16, 6#16⟩)) (dlabC (freshD newD ⟨0#32, 0#32, 0#32, 8#16, 6#16⟩)) (by exact spl_agg _ _ _ rfl rfl) (fun W5 HSx => hKK _ _ ?_); clear hKK KK HS; have HS : St w1 noF [⟨g1, 24, dskC newD⟩, ⟨g2, 27, dlabC (freshD newD ⟨0#32, 0#32, 0#32, 8#16, 6#16⟩)⟩] W5 := HSx; clear HSx))
  go_wp2_with (first | ((with_reducible refine wpList_plain ?_ ?_); exact rfl; intro KK hKK; refine wp_st_load HS 0 0 24 (.tmp 1) rfl rfl rfl (dskC newD) (slab_whole _) _ Try.underlying24 rfl (by exact size_dsk) (hKK _ _ ?_); clear hKK KK))
  refine (HTU.out _).mono ?_
  rintro x w3 ⟨rfl, hb⟩
  have HSx := HS.same hb
  clear HS hb
  have HS := HSx
  clear HSx
  go_upto_region 4 with (first | ((with_reducible refine wpList_plain ?_ ?_); exact rfl; intro KK hKK; refine wp_st_alloc HS 24 (#[.int .i64 0, .int .u32 0, .bool false]) rfl (.agg (#[.int .i64 0, .int .u32 0, .bool false])) (by kernel_rfl) (rfl) (fun g3 W6 HSx => hKK _ _ ?_); clear hKK KK HS; have HS : St w1 noF [⟨g1, 24, dskC newD⟩, ⟨g2, 27, dlabC (freshD newD ⟨0#32, 0#32, 0#32, 8#16, 6#16⟩)⟩, ⟨g3, 24, #[.int .i64 0, .int .u32 0, .bool false]⟩] W6 := HSx; clear HSx) | ((with_reducible refine wpList_plain ?_ ?_); exact rfl; intro KK hKK; refine wp_st_store HS 2 0 24 (.tmp 3) (.tmp 9) rfl rfl rfl (.agg (dskC (turnD newD 1 6#16))) rfl (by exact size_dsk) (Nat.le_refl 3) (by exact one_dsk (turnD newD 1 6#16)) (dskC (turnD newD 1 6#16)) (by exact spl_agg _ _ _ rfl rfl) (fun W7 HSx => hKK _ _ ?_); clear hKK KK HS; have HS : St w1 noF [⟨g1, 24, dskC newD⟩, ⟨g2, 27, dlabC (freshD newD ⟨0#32, 0#32, 0#32, 8#16, 6#16⟩)⟩, ⟨g3, 24, dskC (turnD newD 1 6#16)⟩] W7 := HSx; clear HSx))
  have c0 : W7.cell? ⟨g1, 0, none⟩ = some (.int .i64 0) := (HS.row 0 rfl).get rfl
  have c1 : W7.cell? ⟨g1, 1, none⟩ = some (.int .u32 1) := (HS.row 0 rfl).get rfl
  have c2 : W7.cell? ⟨g1, 2, none⟩ = some (.bool true) := (HS.row 0 rfl).get rfl
  go_wp2_with (first | ((with_reducible refine wplG_row 24 1 g1 24 (dskC newD) (0, 0) _ ?_ ?_ ?_ Try.underlying24 ?_ ?_ ?_); exact rfl; exact rfl; exact (HS.row 0 rfl); exact rfl; exact size_dsk) | ((with_reducible refine wplG_row 27 2 g2 27 (dlabC (freshD newD ⟨0#32, 0#32, 0#32, 8#16, 6#16⟩)) (0, 0) _ ?_ ?_ ?_ Try.underlying27 ?_ ?_ ?_); exact rfl; exact rfl; exact (HS.row 1 rfl); exact rfl; exact size_dlab) | ((with_reducible refine wplG_row 24 3 g3 24 (dskC (turnD newD 1 6#16)) (0, 0) _ ?_ ?_ ?_ Try.underlying24 ?_ ?_ ?_); exact rfl; exact rfl; exact (HS.row 2 rfl); exact rfl; exact size_dsk))
  clear c0 c1 c2
  refine (HO.out _).mono ?_
  rintro x w4 ⟨rfl, hb⟩
  have HSx := HS.same hb
  clear HS hb
  have HS := HSx
  clear HSx
  go_wp2_with (first | ((with_reducible refine wplG_row 24 1 g1 24 (dskC newD) (0, 0) _ ?_ ?_ ?_ Try.underlying24 ?_ ?_ ?_); exact rfl; exact rfl; exact (HS.row 0 rfl); exact rfl; exact size_dsk) | ((with_reducible refine wplG_row 27 2 g2 27 (dlabC (freshD newD ⟨0#32, 0#32, 0#32, 8#16, 6#16⟩)) (0, 0) _ ?_ ?_ ?_ Try.underlying27 ?_ ?_ ?_); exact rfl; exact rfl; exact (HS.row 1 rfl); exact rfl; exact size_dlab) | ((with_reducible refine wplG_row 24 3 g3 24 (dskC (turnD newD 1 6#16)) (0, 0) _ ?_ ?_ ?_ Try.underlying24 ?_ ?_ ?_); exact rfl; exact rfl; exact (HS.row 2 rfl); exact rfl; exact size_dsk))
  refine (HM0.out _).mono ?_
  rintro x w5 ⟨rfl, hb⟩
  have HSx := HS.same hb
  clear HS hb
  have HS := HSx
  clear HSx
  go_wp2_with (first | ((with_reducible refine wplG_row 24 1 g1 24 (dskC newD) (0, 0) _ ?_ ?_ ?_ Try.underlying24 ?_ ?_ ?_); exact rfl; exact rfl; exact (HS.row 0 rfl); exact rfl; exact size_dsk) | ((with_reducible refine wplG_row 27 2 g2 27 (dlabC (freshD newD ⟨0#32, 0#32, 0#32, 8#16, 6#16⟩)) (0, 0) _ ?_ ?_ ?_ Try.underlying27 ?_ ?_ ?_); exact rfl; exact rfl; exact (HS.row 1 rfl); exact rfl; exact size_dlab) | ((with_reducible refine wplG_row 24 3 g3 24 (dskC (turnD newD 1 6#16)) (0, 0) _ ?_ ?_ ?_ Try.underlying24 ?_ ?_ ?_); exact rfl; exact rfl; exact (HS.row 2 rfl); exact rfl; exact size_dsk))
  refine (HM1.out _).mono ?_
  rintro x w6 ⟨rfl, hb⟩
  have HSx := HS.same hb
  clear HS hb
  have HS := HSx
  clear HSx
  go_wp2_with (first | ((with_reducible refine wplG_row 24 1 g1 24 (dskC newD) (0, 0) _ ?_ ?_ ?_ Try.underlying24 ?_ ?_ ?_); exact rfl; exact rfl; exact (HS.row 0 rfl); exact rfl; exact size_dsk) | ((with_reducible refine wplG_row 27 2 g2 27 (dlabC (freshD newD ⟨0#32, 0#32, 0#32, 8#16, 6#16⟩)) (0, 0) _ ?_ ?_ ?_ Try.underlying27 ?_ ?_ ?_); exact rfl; exact rfl; exact (HS.row 1 rfl); exact rfl; exact size_dlab) | ((with_reducible refine wplG_row 24 3 g3 24 (dskC (turnD newD 1 6#16)) (0, 0) _ ?_ ?_ ?_ Try.underlying24 ?_ ?_ ?_); exact rfl; exact rfl; exact (HS.row 2 rfl); exact rfl; exact size_dsk))
  refine (HM2.out _).mono ?_
  rintro x w7 ⟨rfl, hb⟩
  have HSx := HS.same hb
  clear HS hb
  have HS := HSx
  clear HSx
  have q1 := Q1.out
  have q2 := Q2.out
  go_wp2_with (first | ((with_reducible refine wplG_row 24 1 g1 24 (dskC newD) (0, 0) _ ?_ ?_ ?_ Try.underlying24 ?_ ?_ ?_); exact rfl; exact rfl; exact (HS.row 0 rfl); exact rfl; exact size_dsk) | ((with_reducible refine wplG_row 27 2 g2 27 (dlabC (freshD newD ⟨0#32, 0#32, 0#32, 8#16, 6#16⟩)) (0, 0) _ ?_ ?_ ?_ Try.underlying27 ?_ ?_ ?_); exact rfl; exact rfl; exact (HS.row 1 rfl); exact rfl; exact size_dlab) | ((with_reducible refine wplG_row 24 3 g3 24 (dskC (turnD newD 1 6#16)) (0, 0) _ ?_ ?_ ?_ Try.underlying24 ?_ ?_ ?_); exact rfl; exact rfl; exact (HS.row 2 rfl); exact rfl; exact size_dsk))
  clear q1 q2
  refine (HM3.out _).mono ?_
  rintro x w8 ⟨rfl, hb⟩
  have HSx := HS.same hb
  clear HS hb
  have HS := HSx
  clear HSx
  go_wp2_with (first | ((with_reducible refine wplG_row 24 1 g1 24 (dskC newD) (0, 0) _ ?_ ?_ ?_ Try.underlying24 ?_ ?_ ?_); exact rfl; exact rfl; exact (HS.row 0 rfl); exact rfl; exact size_dsk) | ((with_reducible refine wplG_row 27 2 g2 27 (dlabC (freshD newD ⟨0#32, 0#32, 0#32, 8#16, 6#16⟩)) (0, 0) _ ?_ ?_ ?_ Try.underlying27 ?_ ?_ ?_); exact rfl; exact rfl; exact (HS.row 1 rfl); exact rfl; exact size_dlab) | ((with_reducible refine wplG_row 24 3 g3 24 (dskC (turnD newD 1 6#16)) (0, 0) _ ?_ ?_ ?_ Try.underlying24 ?_ ?_ ?_); exact rfl; exact rfl; exact (HS.row 2 rfl); exact rfl; exact size_dsk))
  refine (HM4.out _).mono ?_
  rintro x w9 ⟨rfl, hb⟩
  have HSx := HS.same hb
  clear HS hb
  have HS := HSx
  clear HSx
  go_wp2_with fail
  go_ret
  exact ⟨rfl, HB1.out.trans (HS.below.mono HB1.out.size)⟩
end Go.Proofs.Ytpnndkobaikhfaa
