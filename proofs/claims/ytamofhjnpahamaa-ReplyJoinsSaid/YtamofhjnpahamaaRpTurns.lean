/- The statement ReplyTurns: its walk. -/
import Derived.Test.YtamofhjnpahamaaRepWakes
import Derived.Test.YtamofhjnpahamaaRepTurn
import Derived.Test.YtamofhjnpahamaaKeepReps
import Derived.Test.YtamofhjnpahamaaMod
import Derived.Test.YtamofhjnpahamaaStMore
set_option maxRecDepth 4000
namespace Go.Proofs.Ytamofhjnpahamaa
open Go Go.RowKit
attribute [local go_sem] xor_bd i64_bd
theorem fairR_one (i e : Int) (d : List (BitVec 8)) : fairR [(i, e, d)] = decide (d.length ≤ 600) := by simp [fairR]
theorem reps_one {w : World} {i e : Int} {A : Option Addr} {n c : Nat} {d : List (BitVec 8)} (h : RepAt w [.int .i64 i, .int .i64 e, .slice A n c] (i, e, d)) : RepsAt (w.alloc (.cells #[.int .i64 i, .int .i64 e, .slice A n c] 31)) (.slice (some ⟨w.heap.size, 0, none⟩) 1 1) [(i, e, d)] :=
  reps_row (l := [(i, e, d)]) (Row.fresh w 31 #[.int .i64 i, .int .i64 e, .slice A n c]) (Nat.le_refl 1) (by show 1 ≤ maxLen; decide) (fun k x hx => by
    rcases k with _ | k
    · cases hx
      exact h.below ((Below.refl w.heap.size w).alloc (Nat.le_refl _) _) (Nat.le_refl _)
    · cases hx)
/- what comes of a byte turned -/
theorem rp_turned {i e : Int} {d : List (BitVec 8)} (h : mayR i e d.length = true) {K : Nat} (hK : K < (repB i e d).length) (y : BitVec 8) : reG ((repB i e d).set K ((repB i e d).getD K 0#8 ^^^ y)) = if y = 0#8 then 0 else 11 := by
  have h1 := rp_turn (rep_back h).2.2.2 K hK y
  unfold reG
  rw [h1]
  by_cases hy : y = 0#8 <;> simp [hy]
theorem rp_cut {i e : Int} {d : List (BitVec 8)} (h : mayR i e d.length = true) : reI ((repB i e d).take ((repB i e d).length - 1)) = 0 ∧ reE ((repB i e d).take ((repB i e d).length - 1)) = 0 ∧ reG ((repB i e d).take ((repB i e d).length - 1)) = 11 ∧ reD ((repB i e d).take ((repB i e d).length - 1)) = [] := by
  have h1 := rp_short (rep_back h).2.2.2
  unfold reI reE reG reD
  rw [h1]
  exact ⟨rfl, rfl, rfl, rfl⟩
set_option maxRecDepth 20000 in
set_option maxHeartbeats 3200000 in
theorem rpturns_walk (i e : Int) (A : Option Addr) (n c : Nat) (d : List (BitVec 8)) (at_ : Int) (y : BitVec 8) (w : World) (hs : Slice w (.slice A n c) d) (hd : d.length = n) (hA : A = none → c = 0) (hn : n ≤ maxLen)
    (i1 : -9223372036854775808 ≤ i) (i2 : i < 9223372036854775808) (e1 : -9223372036854775808 ≤ e) (e2 : e < 9223372036854775808) :
    Calls Try.prog 4 #[.agg (repCells i e (.slice A n c)), .int .i64 at_, .int .u8 (bd y)] w fun e w' => e = .returned (.bool true) ∧ Below w.heap.size w w' := by
  have HRA : Hid (∀ W, Below w.heap.size w W → RepAt W [.int .i64 i, .int .i64 e, .slice A n c] (i, e, d)) := Lib.hid fun W hb => (rep_at hs hA hn i1 i2 e1 e2).below hb (Nat.le_refl _)
  have HF := Lib.hid (fun (W : World) (hb : Below w.heap.size w W) => fairrep_any _ 1 1 [(i, e, d)] _ (reps_one (HRA.out W hb)) (by decide))
  rw [fairR_one, hd] at HF
  have HD := Lib.hid hd
  have HA := Lib.hid hA
  have HSL := Lib.hid hs
  have HI := Lib.hid (And.intro i1 (And.intro i2 (And.intro e1 e2)))
  clear hs hA hn i1 i2 e1 e2 hd
  have HS := St.nil w noF
  by_cases h6 : n ≤ 600
  case neg =>
    rw [decide_eq_false h6] at HF
    go_enter Try.func4, Try.ntmps4
    go_upto_region 1 with (first | ((with_reducible refine wpList_plain ?_ ?_); exact rfl; intro KK hKK; refine wp_st_box HS 31 (.tmp 0) rfl _ rfl (repCells i e (.slice A n c)) (rfl) (fun g1 W1 HSx => hKK _ _ ?_); clear hKK KK HS; have HS : St w noF [⟨g1, 31, repCells i e (.slice A n c)⟩] W1 := HSx; clear HSx))
    have HB1 := Lib.hid HS.below
    have C := HF.out W1 HS.below
    go_wp2_with (first | ((with_reducible refine wpList_plain ?_ ?_); exact rfl; intro KK hKK; refine wp_load_mid 31 (.tmp 3) rfl g1 0 rfl [.int .i64 i, .int .i64 e, .slice A n c] _ ((HS.row 0 rfl).slab 0 _ (slab_whole _)) Try.underlying31 rfl (by exact size_rep) (hKK _ _ ?_); clear hKK KK))
    refine C.mono ?_
    rintro x w2 ⟨rfl, hw⟩
    have hb2 : Below W1.heap.size W1 w2 := by rw [← hw]; exact (Below.refl _ _).alloc (Nat.le_refl _) _
    have HSx := HS.same hb2
    clear HS hb2 C HF HB1 hw
    have HS := HSx
    clear HSx
    go_wp2_with fail
    refine (rpwakes_any w2).mono ?_
    rintro x9 w99 ⟨rfl, hb9⟩
    go_wp2_with fail
    go_ret
    exact ⟨rfl, HS.below.trans (hb9.mono HS.below.size)⟩
  rw [decide_eq_true h6] at HF
  cases hok : mayR i e n with
  | false =>
    have HE := Lib.hid (fun w => repenc_bad i e A n c w hok)
    clear hok
    go_enter Try.func4, Try.ntmps4
    go_upto_region 1 with (first | ((with_reducible refine wpList_plain ?_ ?_); exact rfl; intro KK hKK; refine wp_st_box HS 31 (.tmp 0) rfl _ rfl (repCells i e (.slice A n c)) (rfl) (fun g1 W1 HSx => hKK _ _ ?_); clear hKK KK HS; have HS : St w noF [⟨g1, 31, repCells i e (.slice A n c)⟩] W1 := HSx; clear HSx))
    have HB1 := Lib.hid HS.below
    have C := HF.out W1 HS.below
    go_wp2_with (first | ((with_reducible refine wpList_plain ?_ ?_); exact rfl; intro KK hKK; refine wp_load_mid 31 (.tmp 3) rfl g1 0 rfl [.int .i64 i, .int .i64 e, .slice A n c] _ ((HS.row 0 rfl).slab 0 _ (slab_whole _)) Try.underlying31 rfl (by exact size_rep) (hKK _ _ ?_); clear hKK KK))
    refine C.mono ?_
    rintro x w2 ⟨rfl, hw⟩
    have hb2 : Below W1.heap.size W1 w2 := by rw [← hw]; exact (Below.refl _ _).alloc (Nat.le_refl _) _
    have HSx := HS.same hb2
    clear HS hb2 C HF HB1 hw
    have HS := HSx
    clear HSx
    go_upto_region 3 with fail
    go_wp2_with (first | ((with_reducible refine wpList_plain ?_ ?_); exact rfl; intro KK hKK; refine wp_st_load HS 0 0 31 (.tmp 3) rfl rfl rfl (repCells i e (.slice A n c)) (slab_whole _) _ Try.underlying31 rfl (by exact size_rep) (hKK _ _ ?_); clear hKK KK))
    refine (HE.out _).mono ?_
    rintro x w3 ⟨rfl, hb⟩
    have HSx := HS.same hb
    clear HS hb HE
    go_wp2_with fail
    refine (rpwakes_any w3).mono ?_
    rintro x9 w99 ⟨rfl, hb9⟩
    go_wp2_with fail
    go_ret
    exact ⟨rfl, HSx.below.trans (hb9.mono HSx.below.size)⟩
  | true =>
    have hn5 : n ≤ 255 := (mayR_of hok).2.2.2.2
    have HOK : Hid (mayR i e d.length = true) := Lib.hid (by rw [HD.out]; exact hok)
    have HE := Lib.hid (fun W (hb : Below w.heap.size w W) => repenc_good i e A n c d HD.out W (HSL.out.below hb (Nat.le_refl _)) HA.out hok)
    obtain ⟨B, hB⟩ : ∃ B, repB i e d = B := ⟨_, rfl⟩
    obtain ⟨l, hl⟩ : ∃ l, 8 + n = l := ⟨_, rfl⟩
    have HBL : Hid (B.length = l) := Lib.hid (by rw [← hB, length_repB, HD.out, hl])
    have hl8 : 8 ≤ l := by omega
    have hl263 : l ≤ 263 := by omega
    obtain ⟨K, hK⟩ : ∃ K, modK at_ l = K := ⟨_, rfl⟩
    have HMOD := Lib.hid (fun w => mod_any at_ l w (by omega) (by omega))
    have hKl : K < l := by rw [← hK]; exact modK_lt at_ l (by omega)
    rw [hK] at HMOD
    obtain ⟨C, hC⟩ : ∃ C, B.set K (B.getD K 0#8 ^^^ y) = C := ⟨_, rfl⟩
    have HCL : Hid (C.length = l) := Lib.hid (by rw [← hC, List.length_set, HBL.out])
    have HSC := Lib.hid hC
    have HG3 : Hid (reG C = if y = 0#8 then 0 else 11) := Lib.hid (by
      have := rp_turned HOK.out (K := K) (by rw [hB, HBL.out]; exact hKl) y
      rw [hB, hC] at this
      exact this)
    have HCT := Lib.hid (rp_cut HOK.out)
    have HBK := Lib.hid (re_back HOK.out)
    rw [hB] at HE HCT HBK
    rw [HBL.out] at HE HCT
    have HDB : Hid (∀ A cc w, Slice w (.slice A l cc) B → Calls Try.prog 15 #[.slice A l cc] w fun x w' => ∃ v, x = .returned (.tuple #[.agg (repCells i e v), .int .i64 0]) ∧ w'.ownsRow w.heap.size 5 1 v d.length (bytesV d) ∧ Below w.heap.size w w') := Lib.hid (fun A cc w hs => by
      have := repdec_any A l cc B w hs HBL.out (by omega)
      rw [HBK.out.1, HBK.out.2.1, HBK.out.2.2.1, HBK.out.2.2.2] at this
      exact this)
    have HDC : Hid (∀ A cc w, Slice w (.slice A l cc) C → Calls Try.prog 15 #[.slice A l cc] w fun x w' => ∃ v, x = .returned (.tuple #[.agg (repCells (reI C) (reE C) v), .int .i64 (if y = 0#8 then 0 else 11)]) ∧ w'.ownsRow w.heap.size 5 1 v (reD C).length (bytesV (reD C)) ∧ Below w.heap.size w w') := Lib.hid (fun A cc w hs => by
      have := repdec_any A l cc C w hs HCL.out (by omega)
      rw [HG3.out] at this
      exact this)
    obtain ⟨m, hm⟩ : ∃ m, l - 1 = m := ⟨_, rfl⟩
    have hlm : (l : Int) - 1 = (m : Int) := by omega
    have hml : m + 1 = l := by omega
    rw [hm] at HCT
    have HDT : Hid (∀ A cc w, Slice w (.slice A m cc) (B.take m) → Calls Try.prog 15 #[.slice A m cc] w fun x w' => ∃ A4 c4, x = .returned (.tuple #[.agg (repCells 0 0 (.slice A4 0 c4)), .int .i64 11]) ∧ Below w.heap.size w w') := Lib.hid (fun A cc w hs => by
      have h1 := repdec_any A m cc (B.take m) w hs (by rw [List.length_take, HBL.out]; omega) (by omega)
      rw [HCT.out.1, HCT.out.2.1, HCT.out.2.2.1, HCT.out.2.2.2] at h1
      refine h1.mono ?_
      rintro x w' ⟨v, rfl, ho, hb⟩
      obtain ⟨A4, c4, rfl, _⟩ := own_slice_form ho
      exact ⟨A4, c4, rfl, hb⟩)
    have HML := Lib.hid hml
    obtain ⟨E, hE⟩ : ∃ E : Int, (if y = 0#8 then (0 : Int) else 11) = E := ⟨_, rfl⟩
    rw [hE] at HDC
    have hE0 : (E == 0) = decide (y = 0#8) := by
      rw [← hE]
      by_cases h : y = 0#8
      · rw [if_pos h, decide_eq_true h]; rfl
      · rw [if_neg h, decide_eq_false h]; rfl
    have hby : (bd y == 0) = decide (y = 0#8) := by
      by_cases h : y = 0#8
      · subst h; rfl
      · rw [decide_eq_false h]; exact beq_eq_false_iff_ne.2 fun e => h (bd_inj (by rw [e]; rfl))
    obtain ⟨D, hD⟩ : ∃ D, decide (y = 0#8) = D := ⟨_, rfl⟩
    rw [hD] at hE0 hby
    have HE0 := Lib.hid hE0
    have HBY := Lib.hid hby
    have HLM := Lib.hid hlm
    clear hE hD hE0 hby hm hml hlm
    have hLn : (8 : Int) + (n : Int) = (l : Int) := by omega
    have HLN := Lib.hid hLn
    have HHL := Lib.hid hl
    have HKL := Lib.hid hKl
    generalize reI C = i3 at *
    generalize reE C = e3 at *
    generalize reD C = d3 at *
    clear hok hB hC hK hl HCT HBK HG3 hLn hKl
    go_enter Try.func4, Try.ntmps4
    go_upto_region 1 with (first | ((with_reducible refine wpList_plain ?_ ?_); exact rfl; intro KK hKK; refine wp_st_box HS 31 (.tmp 0) rfl _ rfl (repCells i e (.slice A n c)) (rfl) (fun g1 W1 HSx => hKK _ _ ?_); clear hKK KK HS; have HS : St w noF [⟨g1, 31, repCells i e (.slice A n c)⟩] W1 := HSx; clear HSx))
    have HB1 := Lib.hid HS.below
    have C := HF.out W1 HS.below
    go_wp2_with (first | ((with_reducible refine wpList_plain ?_ ?_); exact rfl; intro KK hKK; refine wp_load_mid 31 (.tmp 3) rfl g1 0 rfl [.int .i64 i, .int .i64 e, .slice A n c] _ ((HS.row 0 rfl).slab 0 _ (slab_whole _)) Try.underlying31 rfl (by exact size_rep) (hKK _ _ ?_); clear hKK KK))
    refine C.mono ?_
    rintro x w2 ⟨rfl, hw⟩
    have hb2 : Below W1.heap.size W1 w2 := by rw [← hw]; exact (Below.refl _ _).alloc (Nat.le_refl _) _
    have HSx := HS.same hb2
    clear HS hb2 C HF HB1 hw
    have HS := HSx
    clear HSx
    go_upto_region 3 with fail
    have C9 := HE.out w2 HS.below
    go_wp2_with (first | ((with_reducible refine wpList_plain ?_ ?_); exact rfl; intro KK hKK; refine wp_st_load HS 0 0 31 (.tmp 3) rfl rfl rfl (repCells i e (.slice A n c)) (slab_whole _) _ Try.underlying31 rfl (by exact size_rep) (hKK _ _ ?_); clear hKK KK))
    refine C9.mono ?_
    rintro x w3 ⟨v1, rfl, ho, hb1⟩
    have HSx := HS.same hb1
    clear HS hb1 HE C9
    have ho' : w3.ownsRow w2.heap.size 5 1 v1 B.length (bytesV B) := by rw [HBL.out]; exact ho
    obtain ⟨gb, cb, curb, rfl, _, hrb, hcb, htb⟩ := own_row ho' (by rw [HBL.out]; omega)
    have HBA : Hid (BAt w3 gb 0 B) := Lib.hid (slice_at (row_pre (q := B) hrb htb hcb) (by rw [HBL.out]; omega))
    rw [HBL.out] at hcb ⊢
    have HCB := Lib.hid hcb
    have HB1 := Lib.hid HSx.below
    have HR1 : Hid (Row w3 g1 31 (repCells i e (.slice A n c))) := Lib.hid (HSx.row 0 rfl)
    have hl0 : ((l : Int) == 0) = false := beq_eq_false_iff_ne.2 (by omega)
    have C9 := HDB.out (some ⟨gb, 0, none⟩) cb w3 (HBA.out.slice HBL.out hcb)
    clear ho ho' hrb hcb htb HSx
    go_upto_region 6 with fail
    clear hl0
    go_wp2_with fail
    refine C9.mono ?_
    rintro x w4 ⟨v2, rfl, ho2, hb⟩
    have HR1x := Lib.hid (HR1.out.call hb)
    have HBAx := Lib.hid (HBA.out.call hb)
    have HB4 := Lib.hid (HB1.out.trans (hb.mono HB1.out.size))
    have hn2 := own_nil ho2
    have hs2 := own_slice ho2
    obtain ⟨A2, c2, rfl, _⟩ := own_slice_form ho2
    rw [HD.out] at hs2 hn2 ⊢
    have HRA2 : Hid (RepAt w4 [.int .i64 i, .int .i64 e, .slice A2 n c2] (i, e, d)) := Lib.hid (rep_at hs2 (fun h => hn2 _ _ (by rw [h])) (by unfold maxLen; omega) HI.out.1 HI.out.2.1 HI.out.2.2.1 HI.out.2.2.2)
    clear ho2 hs2 hn2 hb HR1 HBA HB1 C9 HDB
    have HT := St.nil w4 noF
    go_upto_region 7 with (first | ((with_reducible refine wpList_plain ?_ ?_); exact rfl; intro KK hKK; refine wp_st_alloc HT 31 (repCells 0 0 (.slice none 0 0)) rfl (.agg (repCells 0 0 (.slice none 0 0))) (by kernel_rfl) (rfl) (fun g9 W3 HSx => hKK _ _ ?_); clear hKK KK HT; have HT : St w4 noF [⟨g9, 31, repCells 0 0 (.slice none 0 0)⟩] W3 := HSx; clear HSx) | ((with_reducible refine wpList_plain ?_ ?_); exact rfl; intro KK hKK; refine wp_st_store HT 0 0 31 (.tmp 9) (.tmp 46) rfl rfl rfl (.agg (repCells i e (.slice A2 n c2))) rfl (by exact size_rep) (Nat.le_refl _) (rep_one ..) (repCells i e (.slice A2 n c2)) (by exact spl_agg _ _ _ rfl rfl) (fun W4 HSx => hKK _ _ ?_); clear hKK KK HT; have HT : St w4 noF [⟨g9, 31, repCells i e (.slice A2 n c2)⟩] W4 := HSx; clear HSx))
    have HR9 : Hid (Row W4 g9 31 (repCells i e (.slice A2 n c2))) := Lib.hid (HT.row 0 rfl)
    have HR1 : Hid (Row W4 g1 31 (repCells i e (.slice A n c))) := Lib.hid (HR1x.out.call HT.below)
    have HBA : Hid (BAt W4 gb 0 B) := Lib.hid (HBAx.out.call HT.below)
    have HB5 := Lib.hid (HB4.out.trans (HT.below.mono HB4.out.size))
    have hz1 : (W4.alloc (.cells #[.int .i64 i, .int .i64 e, .slice A2 n c2] 31)).heap.size = W4.heap.size + 1 := by simp
    have HAL : Hid (Below W4.heap.size W4 ((W4.alloc (.cells #[.int .i64 i, .int .i64 e, .slice A2 n c2] 31)).alloc (.cells #[.int .i64 i, .int .i64 e, .slice A n c] 31))) := Lib.hid (((Below.refl _ _).alloc (Nat.le_refl _) _).alloc (by simp) _)
    have CK := keepreps_any [(i, e, d)] [(i, e, d)] (some ⟨W4.heap.size, 0, none⟩) (some ⟨W4.heap.size + 1, 0, none⟩) 1 1 1 1 ((W4.alloc (.cells #[.int .i64 i, .int .i64 e, .slice A2 n c2] 31)).alloc (.cells #[.int .i64 i, .int .i64 e, .slice A n c] 31))
      ((reps_one (HRA2.out.below HT.below (Nat.le_refl _))).below ((Below.refl _ _).alloc (Nat.le_refl _) _) (Nat.le_refl _))
      (by rw [← hz1]; exact reps_one (HRA.out _ (HB5.out.alloc HB5.out.size _))) (by decide) (by decide)
    rw [decide_eq_true rfl] at CK
    clear HT HR1x HBAx HB4 HRA2 hz1
    go_wp2_with (first | ((with_reducible refine wplG_row 31 9 g9 31 #[.int .i64 i, .int .i64 e, .slice A2 n c2] (0, 0) _ ?_ ?_ ?_ Try.underlying31 ?_ ?_ ?_); exact rfl; exact rfl; exact HR9.out; exact rfl; exact size_rep) | ((with_reducible refine wplG_row 31 3 g1 31 #[.int .i64 i, .int .i64 e, .slice A n c] (0, 0) _ ?_ ?_ ?_ Try.underlying31 ?_ ?_ ?_); exact rfl; exact rfl; exact HR1.out.alloc _; exact rfl; exact size_rep))
    refine CK.mono ?_
    rintro x w5 ⟨rfl, hb⟩
    have hb5 := HAL.out.trans (hb.mono HAL.out.size)
    have HR1x := Lib.hid (HR1.out.call hb5)
    have HBAx := Lib.hid (HBA.out.call hb5)
    have HB6 := Lib.hid (HB5.out.trans (hb5.mono HB5.out.size))
    have c12 : w5.cell? ⟨g1, 2, none⟩ = some (.slice A n c) := HR1x.out.get rfl
    have hLn := HLN.out
    clear hb hb5 HR1 HBA HB5 HAL CK HR9
    go_upto_region 9 with fail
    clear c12 hLn
    have hS2 : Slice (w5.alloc (.cells #[] 5)) (.slice (some ⟨gb, 0, none⟩) l cb) B := (HBAx.out.call ((Below.refl w5.heap.size w5).alloc (Nat.le_refl _) _)).slice HBL.out HCB.out
    go_upto_region 10 with (at_builtin; refine wpList_append_slice rfl (.tmp 67) (.tmp 68) rfl w5.heap.size _ 0 [] rfl (own_empty w5) (some ⟨gb, 0, none⟩) l cb B rfl hS2 (fun h => by cases h) (by omega) (by simp) ?_; intro kv w6 own1 hb4; simp only [Nat.zero_add, List.nil_append] at own1; clear hS2)
    have own1' : w6.ownsRow w5.heap.size 5 1 kv B.length (bytesV B) := by rw [HBL.out]; exact own1
    obtain ⟨gc, cc, cur, rfl, hgc, hrc, hcc, htc⟩ := own_row own1' (by rw [HBL.out]; omega)
    have hb14 := ((Below.refl w5.heap.size w5).alloc (Nat.le_refl _) (.cells #[] 5)).trans hb4
    have hcell : w6.cell? ⟨gc, K, none⟩ = some (.int .u8 (bd (B.getD K 0#8))) := row_at hrc htc (m := K) (by rw [HBL.out]; exact HKL.out)
    have hfree := hrc.free K
    have HSL8 : Hid (Slice (w6.setCell ⟨gc, K, none⟩ (.int .u8 (bd (B.getD K 0#8 ^^^ y)))) (.slice (some ⟨gc, 0, none⟩) l cc) C) := Lib.hid (by
      have := slice_set hrc htc hcc (m := K) (by rw [HBL.out]; exact HKL.out) (B.getD K 0#8 ^^^ y)
      rw [HSC.out, HBL.out] at this
      exact this)
    have hb15 := hb14.setCell (p := ⟨gc, K, none⟩) hgc (.int .u8 (bd (B.getD K 0#8 ^^^ y)))
    rw [HBL.out]
    obtain ⟨x0, hx0⟩ : ∃ x0, B.getD K 0#8 = x0 := ⟨_, rfl⟩
    rw [hx0] at hcell HSL8 hb15
    have HCELL := Lib.hid hcell
    have HFREE := Lib.hid hfree
    have HB15 := Lib.hid hb15
    clear own1 own1' hb4 hb14 hrc htc hcc hgc hx0 hcell hfree hb15
    go_wp2_with fail
    refine (HMOD.out w6).mono ?_
    rintro x w7 ⟨rfl, rfl⟩
    have hcell := HCELL.out
    have hfree := HFREE.out
    have hK0 : (0 : Int) ≤ (K : Int) := by omega
    have hK1 : (K : Int) < (l : Int) := by have := HKL.out; omega
    have hK2 : K < l := HKL.out
    clear HMOD
    go_upto_region 11 with fail
    obtain ⟨w8, hw8⟩ : ∃ w8, w6.setCell ⟨gc, K, none⟩ (.int .u8 (bd (x0 ^^^ y))) = w8 := ⟨_, rfl⟩
    rw [hw8] at HSL8 HB15 ⊢
    clear hw8 hcell hfree hK0 hK1 hK2 HCELL HFREE HKL
    have HR1 := Lib.hid (HR1x.out.call HB15.out)
    have HBA := Lib.hid (HBAx.out.call HB15.out)
    have HB8 := Lib.hid (HB6.out.trans (HB15.out.mono HB6.out.size))
    clear HR1x HBAx HB6 HB15
    have CD := HDC.out _ _ w8 HSL8.out
    have HT := St.nil w8 noF
    clear HSL8 HDC HSC HCL
    go_wp2_with fail
    refine CD.mono ?_
    rintro x w9 ⟨v3, rfl, ho3, hb⟩
    obtain ⟨A3, c3, rfl, _⟩ := own_slice_form ho3
    obtain ⟨n3, hn3⟩ : ∃ n3, d3.length = n3 := ⟨_, rfl⟩
    rw [hn3]
    have HTx := HT.same hb
    clear HT hb CD ho3 hn3
    have HT := HTx
    clear HTx
    go_upto_region 12 with (first | ((with_reducible refine wpList_plain ?_ ?_); exact rfl; intro KK hKK; refine wp_st_alloc HT 31 (repCells 0 0 (.slice none 0 0)) rfl (.agg (repCells 0 0 (.slice none 0 0))) (by kernel_rfl) (rfl) (fun g12 W7 HSx => hKK _ _ ?_); clear hKK KK HT; have HT : St w8 noF [⟨g12, 31, repCells 0 0 (.slice none 0 0)⟩] W7 := HSx; clear HSx) | ((with_reducible refine wpList_plain ?_ ?_); exact rfl; intro KK hKK; refine wp_st_store HT 0 0 31 (.tmp 12) (.tmp 83) rfl rfl rfl (.agg (repCells i3 e3 (.slice A3 n3 c3))) rfl (by exact size_rep) (Nat.le_refl _) (rep_one ..) (repCells i3 e3 (.slice A3 n3 c3)) (by exact spl_agg _ _ _ rfl rfl) (fun W8 HSx => hKK _ _ ?_); clear hKK KK HT; have HT : St w8 noF [⟨g12, 31, repCells i3 e3 (.slice A3 n3 c3)⟩] W8 := HSx; clear HSx))
    have hlm := HLM.out
    have hS3 := (HBA.out.take m).call HT.below
    have CN := HDT.out (some ⟨gb, 0, none⟩) cb W8 (hS3.slice (by rw [List.length_take, HBL.out]; have := HML.out; omega) (by have := HCB.out; have := HML.out; omega))
    have k1 : (m : Int) ≤ (cb : Int) := by have := HCB.out; have := HML.out; omega
    have k2 : m ≤ cb := by have := HCB.out; have := HML.out; omega
    clear hS3 HDT
    go_wp2_with fail
    refine CN.mono ?_
    rintro x w10 ⟨A4, c4, rfl, hb⟩
    have HTx := HT.same hb
    clear HT hb CN k1 k2
    have HT := HTx
    clear HTx
    go_upto_region 13 with (first | ((with_reducible refine wpList_plain ?_ ?_); exact rfl; intro KK hKK; refine wp_st_alloc HT 31 (repCells 0 0 (.slice none 0 0)) rfl (.agg (repCells 0 0 (.slice none 0 0))) (by kernel_rfl) (rfl) (fun g14 W9 HSx => hKK _ _ ?_); clear hKK KK HT; have HT : St w8 noF [⟨g12, 31, repCells i3 e3 (.slice A3 n3 c3)⟩, ⟨g14, 31, repCells 0 0 (.slice none 0 0)⟩] W9 := HSx; clear HSx) | ((with_reducible refine wpList_plain ?_ ?_); exact rfl; intro KK hKK; refine wp_st_store HT 1 0 31 (.tmp 14) (.tmp 92) rfl rfl rfl (.agg (repCells 0 0 (.slice A4 0 c4))) rfl (by exact size_rep) (Nat.le_refl _) (rep_one ..) (repCells 0 0 (.slice A4 0 c4)) (by exact spl_agg _ _ _ rfl rfl) (fun W10 HSx => hKK _ _ ?_); clear hKK KK HT; have HT : St w8 noF [⟨g12, 31, repCells i3 e3 (.slice A3 n3 c3)⟩, ⟨g14, 31, repCells 0 0 (.slice A4 0 c4)⟩] W10 := HSx; clear HSx))
    have HB9 := Lib.hid (HB8.out.trans (HT.below.mono HB8.out.size))
    have hE0 := HE0.out
    have hby := HBY.out
    clear HT HB8 hlm
    cases D with
    | true =>
      go_wp2_with fail
      refine (rpwakes_any W10).mono ?_
      rintro x9 w99 ⟨rfl, hb9⟩
      go_wp2_with fail
      go_ret
      exact ⟨rfl, HB9.out.trans (hb9.mono HB9.out.size)⟩
    | false =>
      go_wp2_with fail
      refine (rpwakes_any W10).mono ?_
      rintro x9 w99 ⟨rfl, hb9⟩
      go_wp2_with fail
      go_ret
      exact ⟨rfl, HB9.out.trans (hb9.mono HB9.out.size)⟩
end Go.Proofs.Ytamofhjnpahamaa
