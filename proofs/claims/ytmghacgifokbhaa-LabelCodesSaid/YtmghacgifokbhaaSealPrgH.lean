/- The helpers of the program's seal: the check that a sector ought to have, a sealed sector as bytes, and of bytes. -/
import Derived.Test.YtmghacgifokbhaaSealIf
import Derived.Test.YtmghacgifokbhaaSt
set_option maxRecDepth 4000
namespace Go.Proofs.Ytmghacgifokbhaa
open Go Go.RowKit
def sld (r : List (BitVec 8)) (c : BitVec 16) : Array Value := (bs r).push (.int .u16 (hd c))
theorem size_sld (r : List (BitVec 8)) (c : BitVec 16) : (sld r c).size = r.length + 1 := by simp [sld, size_bs]
theorem one_sld (r : List (BitVec 8)) (c : BitVec 16) : (sld r c).all (·.oneCell') = true := by
  have h := one_bs r
  rw [Array.all_eq_true_iff_forall_mem] at *
  intro v hv
  unfold sld at hv
  rcases Array.mem_push.1 hv with h1 | rfl
  · exact h v h1
  · rfl
theorem sld_toList (r : List (BitVec 8)) (c : BitVec 16) : (sld r c).toList = bytesV r ++ [.int .u16 (hd c)] := by simp [sld, bs_toList]
theorem sld_low {r : List (BitVec 8)} (c : BitVec 16) {i : Nat} (hi : i < r.length) {x : Int} (hx : bd (r.getD i 0#8) = x) : (sld r c)[i]? = some (.int .u8 x) := by
  have e : (bs r)[i]? = some (.int .u8 (bd (r.getD i 0#8))) := get_bs r i hi
  rw [← hx, ← e]
  unfold sld
  rw [Array.getElem?_push_lt (by rw [size_bs]; exact hi), Array.getElem?_eq_getElem (by rw [size_bs]; exact hi)]
theorem sld_top {r : List (BitVec 8)} (c : BitVec 16) (hr : r.length = 30) : (sld r c)[30]? = some (.int .u16 (hd c)) := by
  have e : (bs r).size = 30 := by rw [size_bs, hr]
  unfold sld
  rw [← e, Array.getElem?_push_size]
theorem sld_take (r : List (BitVec 8)) (c : BitVec 16) : ((sld r c).toList.drop 0).take (bs r).size = (bs r).toList := by
  rw [sld_toList, List.drop_zero, bs_toList, List.take_left' (by rw [len_bytesV, size_bs])]
theorem sld_set {r : List (BitVec 8)} (hr : r.length = 30) (c d : BitVec 16) : (spl (sld r c).toList 30 [.int .u16 (hd d)]).toArray = sld r d := by
  apply Array.ext'
  rw [sld_toList, sld_toList]
  unfold spl
  rw [List.take_left' (by rw [len_bytesV, hr]), List.drop_of_length_le (by simp [len_bytesV, hr]), List.append_nil]
theorem zeros_sld : (#[.int .u8 0, .int .u8 0, .int .u8 0, .int .u8 0, .int .u8 0, .int .u8 0, .int .u8 0, .int .u8 0, .int .u8 0, .int .u8 0, .int .u8 0, .int .u8 0, .int .u8 0, .int .u8 0, .int .u8 0, .int .u8 0, .int .u8 0, .int .u8 0, .int .u8 0, .int .u8 0, .int .u8 0, .int .u8 0, .int .u8 0, .int .u8 0, .int .u8 0, .int .u8 0, .int .u8 0, .int .u8 0, .int .u8 0, .int .u8 0, .int .u16 0] : Array Value) = sld (zer 30) 0#16 := by rfl
theorem sldm (m : BitVec 8) : (#[.int .u8 (bd m), .int .u8 0, .int .u8 0, .int .u8 0, .int .u8 0, .int .u8 0, .int .u8 0, .int .u8 0, .int .u8 0, .int .u8 0, .int .u8 0, .int .u8 0, .int .u8 0, .int .u8 0, .int .u8 0, .int .u8 0, .int .u8 0, .int .u8 0, .int .u8 0, .int .u8 0, .int .u8 0, .int .u8 0, .int .u8 0, .int .u8 0, .int .u8 0, .int .u8 0, .int .u8 0, .int .u8 0, .int .u8 0, .int .u8 0, .int .u16 0] : Array Value) = sld (m :: zer 29) 0#16 := by rfl
theorem sld_body {m : BitVec 8} {q : List (BitVec 8)} (hq : q.length ≤ 29) (c : BitVec 16) : (spl (sld (m :: zer 29) c).toList 1 (bytesV q)).toArray = sld (pad30 m q) c := by
  apply Array.ext'
  rw [sld_toList, sld_toList]
  obtain ⟨n, hn⟩ : ∃ n, 29 = q.length + n := ⟨29 - q.length, by omega⟩
  have hz : zer (q.length + n) = zer q.length ++ zer n := by unfold zer; rw [List.replicate_append_replicate]
  unfold spl pad30
  rw [hn, Nat.add_sub_cancel_left, hz]
  simp only [bytesV, List.map_cons, List.map_append, List.length_map, List.cons_append, List.take_succ_cons, List.take_zero, Nat.add_comm 1, List.drop_succ_cons]
  rw [List.append_assoc (List.map _ (zer q.length)), List.drop_left' (by simp [zer])]
  simp [zer]
theorem sld_tail {w : World} {g : Nat} {t : TypeId} {r : List (BitVec 8)} {c : BitVec 16} (h : Row w g t (sld r c)) (hr : r.length = 30) : Slice w (.slice (some ⟨g, 1, none⟩) 29 29) (r.drop 1) := by
  have hl : (r.drop 1).length = 29 := by rw [List.length_drop, hr]
  refine ⟨some ⟨g, 1, none⟩, 29, by rw [hl], by rw [hl]; exact Nat.le_refl _, fun _ => ⟨g, 1, rfl, h.lt, fun j x hx => h.get ?_⟩⟩
  rw [List.getElem?_drop] at hx
  have hj := (List.getElem?_eq_some_iff.1 hx).1
  exact sld_low c hj (by rw [List.getD_eq_getElem?_getD, hx]; rfl)
theorem size_sld31 {r : List (BitVec 8)} (hr : r.length = 30) (c : BitVec 16) : (sld r c).size = 31 := by rw [size_sld, hr]
theorem info_sld : (Try.prog.info? 70).map (·.size) = some 31 := by kernel_rfl
/- the check that stands behind a sector -/
def tailC (b : List (BitVec 8)) : BitVec 16 := (b.getD 30 0#8).setWidth 16 ||| ((b.getD 31 0#8).setWidth 16) <<< 8
theorem halves (c : BitVec 16) (x y : BitVec 8) : (c.setWidth 8 = x ∧ (c >>> 8).setWidth 8 = y) ↔ x.setWidth 16 ||| (y.setWidth 16) <<< 8 = c := by
  constructor
  · rintro ⟨rfl, rfl⟩
    apply BitVec.eq_of_getLsbD_eq
    intro i hi
    simp only [BitVec.getLsbD_or, BitVec.getLsbD_setWidth, BitVec.getLsbD_shiftLeft, BitVec.getLsbD_ushiftRight]
    by_cases h : i < 8
    · simp [h, hi]
    · have h2 : i - 8 < 8 := by omega
      simp [h, hi, h2, show 8 + (i - 8) = i by omega, show i - 8 < 16 by omega]
  · rintro rfl
    constructor
    · apply BitVec.eq_of_getLsbD_eq
      intro i hi
      simp only [BitVec.getLsbD_or, BitVec.getLsbD_setWidth, BitVec.getLsbD_shiftLeft]
      simp [hi, show i < 16 by omega]
    · apply BitVec.eq_of_getLsbD_eq
      intro i hi
      simp only [BitVec.getLsbD_or, BitVec.getLsbD_setWidth, BitVec.getLsbD_shiftLeft, BitVec.getLsbD_ushiftRight]
      simp [hi, show 8 + i < 16 by omega, show i < 16 by omega]
theorem drop30 {b : List (BitVec 8)} (h : b.length = 32) : b.drop 30 = [b.getD 30 0#8, b.getD 31 0#8] := by
  rw [List.drop_eq_getElem_cons (by omega), List.drop_eq_getElem_cons (by omega), List.drop_of_length_le (by omega)]
  simp [List.getD_eq_getElem?_getD, h]
theorem decOk_tail {b : List (BitVec 8)} (h : b.length = 32) : decOk b = (decide (markOf b ≠ 0#8) && decide (tailC b = crcOf (b.take 30))) := by
  rw [decOk_eq h]
  congr 1
  apply decide_eq_decide.2
  rw [drop30 h]
  unfold crcTail tailC
  rw [List.cons.injEq, List.cons.injEq]
  constructor
  · rintro ⟨h1, h2, _⟩; exact (halves _ _ _).1 ⟨h1, h2⟩
  · intro h1
    obtain ⟨h2, h3⟩ := (halves _ _ _).2 h1
    exact ⟨h2, h3, rfl⟩
theorem shl8_hd (x : BitVec 16) : IntKind.u16.wrap (hd x * (256 : Int)) = hd (x <<< 8) := by
  rw [IntKind.wrap_u16]; unfold hd; have := x.isLt; rw [BitVec.toNat_shiftLeft, Nat.shiftLeft_eq]; omega
set_option maxHeartbeats 800000 in
theorem right_any (r : List (BitVec 8)) (w : World) (hr : r.length = 30) :
    Calls Try.prog 26 #[.agg (bs r)] w fun e w' => e = .returned (.int .u16 (hd (crcOf r))) ∧ Below w.heap.size w w' := by
  have HRL := Lib.hid hr
  obtain ⟨m, hm⟩ : ∃ m, r.getD 0 0#8 = m := ⟨_, rfl⟩
  have H0 : Hid ((bs r)[0]? = some (.int .u8 (bd m))) := Lib.hid (by rw [← hm]; exact get_bs r 0 (by omega))
  have HFL : Hid (([[m], r.drop 1] : List (List (BitVec 8))).flatten = r) := Lib.hid (by
    rw [← hm]
    cases r with
    | nil => simp at hr
    | cons x r => simp)
  clear hr hm
  have HS := St.nil w noF
  go_enter Try.func26, Try.ntmps26
  go_upto_region 1 with (first | ((with_reducible refine wpList_plain ?_ ?_); exact rfl; intro KK hKK; refine wp_st_box HS 54 (.tmp 0) rfl _ rfl (bs r) (rfl) (fun g1 W1 HSx => hKK _ _ ?_); clear hKK KK HS; have HS : St w noF [⟨g1, 54, bs r⟩] W1 := HSx; clear HSx))
  have hF0 : Wl [fun W => St w noF [⟨g1, 54, bs r⟩] W] 0 W1.drew := HS.drew
  clear HS
  refine wp_region_phs [is (.pointer (some ⟨g1, 0, none⟩)), is (.int .u8 (bd m)), sl [m], is (.pointer (some ⟨g1, 1, none⟩)), is (.slice (some ⟨g1, 1, none⟩) 29 29), pts [[m], r.drop 1], is (.int .u16 (hd (crcOf r))), is (.int .u16 (hd (crcOf r)))] [true, true, false, true, true, false, true, true] [(fun W => St w noF [⟨g1, 54, bs r⟩] W)] [false, false, false, false, false, false, false, false] [some 0, some 0, some 0, some 0, some 0, some 0, some 0, some 0] [some 3, some 4, some 5, some 6, some 7, some 8, some 9, some 2] 8 0 (fun _ => true) rfl rfl (by kernel_rfl) (by kernel_rfl) (by kernel_rfl) (by kernel_rfl) ?_ ?_ ?_ ?_ ?_ ?_
  · repeat first | exact wok_nil | refine wok_cons (by first | exact fun _ _ h k => h.same k) ?_
  · repeat first | exact vok_nil | refine vok_rig (by first | exact fun _ _ _ h => h) ?_ | refine vok_soft (by first | exact fun _ _ _ h _ => h | exact fun _ _ _ h k => Parts.below h k (Nat.le_refl _) | exact fun _ _ _ h k => Slice.below h k (Nat.le_refl _)) ?_
  · exact hF0
  · repeat first | exact all_end (by decide) | refine all_cons (by first | exact rfl | exact ⟨rfl, fun _ _ h => Or.inl h⟩ | exact ⟨rfl, fun _ _ h => Or.inr ⟨h, rfl⟩⟩) ?_
  · refine allp_mild 0 rfl rfl rfl (fun a x W hout hin hP => ?_) ?_
    · have e1 : a.tmps[1]? = some (.pointer (some ⟨g1, 0, none⟩)) := (hout 1 (by kernel_rfl)).trans rfl
      clear hin hout
      intro K Q hK
      go_simp
      exact hK _ _ ⟨Same.refl _, rfl⟩
    refine allp_mild 0 rfl rfl rfl (fun a x W hout hin hP => ?_) ?_
    · have e3 := hin.is 0 3 (by kernel_rfl) (by decide) (by kernel_rfl) (by kernel_rfl) _ rfl
      clear hin hout
      intro K Q hK
      exact wp_st_get hP 0 0 5 (.tmp 3) rfl rfl (eval_of_get e3) _ (H0.out) _ Try.underlying5 rfl (hK _ _ ⟨Same.refl _, rfl⟩)
    refine allp_mild 0 rfl rfl rfl (fun a x W hout hin hP => ?_) ?_
    · have e4 := hin.is 1 4 (by kernel_rfl) (by decide) (by kernel_rfl) (by kernel_rfl) _ rfl
      clear hin hout
      intro K Q hK
      go_simp
      exact hK _ _ ⟨Same.alloc _ _, row_slice (Row.fresh _ 5 (bs [m])) (Nat.le_refl _)⟩
    refine allp_mild 0 rfl rfl rfl (fun a x W hout hin hP => ?_) ?_
    · have e1 : a.tmps[1]? = some (.pointer (some ⟨g1, 0, none⟩)) := (hout 1 (by kernel_rfl)).trans rfl
      clear hin hout
      intro K Q hK
      go_simp
      exact hK _ _ ⟨Same.refl _, rfl⟩
    refine allp_mild 0 rfl rfl rfl (fun a x W hout hin hP => ?_) ?_
    · have e6 := hin.is 3 6 (by kernel_rfl) (by decide) (by kernel_rfl) (by kernel_rfl) _ rfl
      clear hin hout
      intro K Q hK
      go_simp
      exact hK _ _ ⟨Same.refl _, rfl⟩
    refine allp_mild 0 rfl rfl rfl (fun a x W hout hin hP => ?_) ?_
    · obtain ⟨v5, e5, hv5⟩ := hin.get 2 5 (by kernel_rfl) (by decide) (by kernel_rfl) (.inr ⟨rfl, by kernel_rfl⟩)
      have e7 := hin.is 4 7 (by kernel_rfl) (by decide) (by kernel_rfl) (by kernel_rfl) _ rfl
      have s7 := row_piece (hP.row 0 rfl) (off := 1) (n := 29) (c := 29) (by rw [HRL.out]; decide) (by decide)
      rw [List.take_of_length_le (by rw [List.length_drop, HRL.out]; decide)] at s7
      clear hP
      obtain ⟨A5, c5, rfl, h5⟩ := hv5
      clear hin hout
      intro K Q hK
      go_simp
      exact hK _ _ ⟨Same.alloc _ _, parts2 ⟨A5, c5, rfl, h5⟩ s7⟩
    refine allp_mild 0 rfl rfl rfl (fun a x W hout hin hP => ?_) ?_
    · obtain ⟨v8, e8, hv8⟩ := hin.get 5 8 (by kernel_rfl) (by decide) (by kernel_rfl) (.inr ⟨rfl, by kernel_rfl⟩)
      have C := check_any [[m], r.drop 1] _ W hv8 (by simp [maxLen]) (by simp [maxLen, HRL.out])
      rw [HFL.out] at C
      clear hP
      clear hin hout
      intro K Q hK
      go_simp
      refine C.mono ?_
      rintro e W' ⟨rfl, rfl⟩
      exact hK _ _ ⟨Same.refl _, rfl⟩
    refine allp_mild 0 rfl rfl rfl (fun a x W hout hin hP => ?_) ?_
    · have e9 := hin.is 6 9 (by kernel_rfl) (by decide) (by kernel_rfl) (by kernel_rfl) _ rfl
      exact does_assign rfl e9 ⟨Same.refl _, rfl⟩
    exact all_end (by decide)
  · intro x W hP hV
    have hB : Below w.heap.size w W := St.below hP
    have h7 : x 7 = .int .u16 (hd (crcOf r)) := hV 7 (by decide) (.inl (by kernel_rfl))
    clear hV hP
    simp only [putL, Act.put, List.setIfInBounds_toArray, List.set_cons_succ, List.set_cons_zero, h7]
    refine wpAnyH_done (by kernel_rfl) ?_ _
    clear h7
    go_wp2_with fail
    go_ret
    exact ⟨rfl, hB⟩
theorem blk_set (m : BitVec 8) : (#[.int .u8 (bd m), .int .u8 0, .int .u8 0, .int .u8 0, .int .u8 0, .int .u8 0, .int .u8 0, .int .u8 0, .int .u8 0, .int .u8 0, .int .u8 0, .int .u8 0, .int .u8 0, .int .u8 0, .int .u8 0, .int .u8 0, .int .u8 0, .int .u8 0, .int .u8 0, .int .u8 0, .int .u8 0, .int .u8 0, .int .u8 0, .int .u8 0, .int .u8 0, .int .u8 0, .int .u8 0, .int .u8 0, .int .u8 0, .int .u8 0, .int .u8 0, .int .u8 0] : Array Value) = bs ((blk 0#8).set 0 m) := by rfl
theorem put_body {r : List (BitVec 8)} (hr : r.length = 30) {m : BitVec 8} (hm : r.getD 0 0#8 = m) : (spl (bs ((blk 0#8).set 0 m)).toList 1 (bytesV (r.drop 1))).toArray = bs (r ++ [0#8, 0#8]) := by
  rw [spl_bs]
  congr 1
  subst hm
  cases r with
  | nil => simp at hr
  | cons x r =>
    have hl : r.length = 29 := by simpa using hr
    unfold spl
    simp only [List.drop_succ_cons, List.drop_zero, hl]
    rfl
theorem put_30 {r : List (BitVec 8)} (hr : r.length = 30) (u x y : BitVec 8) : (bs (r ++ [u, y])).setIfInBounds 30 (.int .u8 (bd x)) = bs (r ++ [x, y]) := by
  rw [set_bs, List.set_append_right _ _ (by omega), hr]; rfl
theorem put_31 {r : List (BitVec 8)} (hr : r.length = 30) (u x y : BitVec 8) : (bs (r ++ [x, u])).setIfInBounds 31 (.int .u8 (bd y)) = bs (r ++ [x, y]) := by
  rw [set_bs, List.set_append_right _ _ (by omega), hr]; rfl
attribute [local go_sem] lowb_hd lowb8_hd
set_option maxRecDepth 20000 in
set_option maxHeartbeats 1600000 in
theorem block_any (r : List (BitVec 8)) (c : BitVec 16) (w : World) (hr : r.length = 30) :
    Calls Try.prog 29 #[.agg (sld r c)] w fun e w' => e = .returned (.agg (bs (r ++ [c.setWidth 8, (c >>> 8).setWidth 8]))) ∧ Below w.heap.size w w' := by
  have HRL := Lib.hid hr
  obtain ⟨m, hm⟩ : ∃ m, r.getD 0 0#8 = m := ⟨_, rfl⟩
  have H0 : Hid ((sld r c)[0]? = some (.int .u8 (bd m))) := Lib.hid (sld_low c (by omega) (by rw [hm]))
  have HT : Hid ((sld r c)[30]? = some (.int .u16 (hd c))) := Lib.hid (sld_top c hr)
  have HCP := Lib.hid (put_body hr hm)
  have HC1 := Lib.hid (put_30 hr 0#8 (c.setWidth 8) 0#8)
  have HC2 := Lib.hid (put_31 hr 0#8 (c.setWidth 8) ((c >>> 8).setWidth 8))
  have HL32 : Hid ((bs (r ++ [c.setWidth 8, (c >>> 8).setWidth 8])).size = 32) := Lib.hid (by rw [size_bs, List.length_append, hr]; rfl)
  have hz := zeros_blk
  have hbm := blk_set m
  clear hr hm
  have HS := St.nil w noF
  go_enter Try.func29, Try.ntmps29
  go_upto_region 2 with (first | ((with_reducible refine wpList_plain ?_ ?_); exact rfl; intro KK hKK; refine wp_st_box HS 70 (.tmp 0) rfl _ rfl (sld r c) (rfl) (fun g1 W1 HSx => hKK _ _ ?_); clear hKK KK HS; have HS : St w noF [⟨g1, 70, sld r c⟩] W1 := HSx; clear HSx) | ((with_reducible refine wpList_plain ?_ ?_); exact rfl; intro KK hKK; refine wp_st_alloc HS 27 (bs (blk 0#8)) rfl (.agg (bs (blk 0#8))) (by kernel_rfl) (rfl) (fun g2 W2 HSx => hKK _ _ ?_); clear hKK KK HS; have HS : St w noF [⟨g1, 70, sld r c⟩, ⟨g2, 27, bs (blk 0#8)⟩] W2 := HSx; clear HSx) | ((with_reducible refine wpList_plain ?_ ?_); exact rfl; intro KK hKK; refine wp_st_get HS 0 0 5 (.tmp 5) rfl rfl rfl (.int .u8 (bd m)) (H0.out) _ Try.underlying5 rfl (hKK _ _ ?_); clear hKK KK) | ((with_reducible refine wpList_plain ?_ ?_); exact rfl; intro KK hKK; refine wp_st_alloc HS 27 (bs (blk 0#8)) rfl (.agg (bs (blk 0#8))) (by kernel_rfl) (rfl) (fun g3 W3 HSx => hKK _ _ ?_); clear hKK KK HS; have HS : St w noF [⟨g1, 70, sld r c⟩, ⟨g2, 27, bs (blk 0#8)⟩, ⟨g3, 27, bs (blk 0#8)⟩] W3 := HSx; clear HSx) | ((with_reducible refine wpList_plain ?_ ?_); exact rfl; intro KK hKK; refine wp_st_store HS 2 0 27 (.tmp 3) (.tmp 7) rfl rfl rfl (.agg ((bs (blk 0#8)).setIfInBounds 0 (.int .u8 (bd m)))) rfl (by rw [show Value.cells (.agg ((bs (blk 0#8)).setIfInBounds 0 (.int .u8 (bd m)))) = (bs (blk 0#8)).setIfInBounds 0 (.int .u8 (bd m)) from rfl, Array.size_setIfInBounds, size_bs, length_blk]; exact size_blk) (by simp [Value.cells]) (by rw [show Value.cells (.agg ((bs (blk 0#8)).setIfInBounds 0 (.int .u8 (bd m)))) = (bs (blk 0#8)).setIfInBounds 0 (.int .u8 (bd m)) from rfl, set_bs]; exact one_bs _) (bs ((blk 0#8).set 0 m)) (spl_agg _ _ _ (set_bs _ _ _) (by rw [Array.size_setIfInBounds])) (fun W4 HSx => hKK _ _ ?_); clear hKK KK HS; have HS : St w noF [⟨g1, 70, sld r c⟩, ⟨g2, 27, bs (blk 0#8)⟩, ⟨g3, 27, bs ((blk 0#8).set 0 m)⟩] W4 := HSx; clear HSx))
  have hF0 : Wl [fun W => St w noF [⟨g1, 70, sld r c⟩, ⟨g2, 27, bs (blk 0#8)⟩, ⟨g3, 27, bs ((blk 0#8).set 0 m)⟩] W, fun W => St w noF [⟨g1, 70, sld r c⟩, ⟨g2, 27, bs (blk 0#8)⟩, ⟨g3, 27, bs (r ++ [0#8, 0#8])⟩] W] 0 W4.drew := HS.drew
  clear HS
  refine wp_region_phs [is (.slice (some ⟨g3, 1, none⟩) 29 31), is (.pointer (some ⟨g1, 0, none⟩)), is (.pointer (some ⟨g1, 1, none⟩)), is (.slice (some ⟨g1, 1, none⟩) 29 29), anyV] [true, true, true, true, true] [(fun W => St w noF [⟨g1, 70, sld r c⟩, ⟨g2, 27, bs (blk 0#8)⟩, ⟨g3, 27, bs ((blk 0#8).set 0 m)⟩] W), (fun W => St w noF [⟨g1, 70, sld r c⟩, ⟨g2, 27, bs (blk 0#8)⟩, ⟨g3, 27, bs (r ++ [0#8, 0#8])⟩] W)] [false, false, false, false, true] [some 0, some 0, some 0, some 0, some 0] [some 8, some 9, some 10, some 11, some 12] 5 1 (fun _ => true) rfl rfl (by kernel_rfl) (by kernel_rfl) (by kernel_rfl) (by kernel_rfl) ?_ ?_ ?_ ?_ ?_ ?_
  · repeat first | exact wok_nil | refine wok_cons (by first | exact fun _ _ h k => h.same k) ?_
  · repeat first | exact vok_nil | refine vok_rig (by first | exact fun _ _ _ h => h) ?_ | refine vok_soft (by first | exact fun _ _ _ h _ => h) ?_
  · exact hF0
  · repeat first | exact all_end (by decide) | refine all_cons (by first | exact rfl | exact ⟨rfl, fun _ _ h => Or.inl h⟩ | exact ⟨rfl, fun _ _ h => Or.inr ⟨h, rfl⟩⟩) ?_
  · refine allp_mild 0 rfl rfl rfl (fun a x W hout hin hP => ?_) ?_
    · have e3 : a.tmps[3]? = some (.pointer (some ⟨g3, 0, none⟩)) := (hout 3 (by kernel_rfl)).trans rfl
      clear hin hout
      intro K Q hK
      go_simp
      exact hK _ _ ⟨Same.refl _, rfl⟩
    refine allp_mild 0 rfl rfl rfl (fun a x W hout hin hP => ?_) ?_
    · have e1 : a.tmps[1]? = some (.pointer (some ⟨g1, 0, none⟩)) := (hout 1 (by kernel_rfl)).trans rfl
      clear hin hout
      intro K Q hK
      go_simp
      exact hK _ _ ⟨Same.refl _, rfl⟩
    refine allp_mild 0 rfl rfl rfl (fun a x W hout hin hP => ?_) ?_
    · have e9 := hin.is 1 9 (by kernel_rfl) (by decide) (by kernel_rfl) (by kernel_rfl) _ rfl
      clear hin hout
      intro K Q hK
      go_simp
      exact hK _ _ ⟨Same.refl _, rfl⟩
    refine allp_mild 0 rfl rfl rfl (fun a x W hout hin hP => ?_) ?_
    · have e10 := hin.is 2 10 (by kernel_rfl) (by decide) (by kernel_rfl) (by kernel_rfl) _ rfl
      clear hin hout
      intro K Q hK
      go_simp
      exact hK _ _ ⟨Same.refl _, rfl⟩
    refine allp_wild 0 rfl rfl rfl (fun a x W hout hin hP => ?_) ?_
    · have e8 := hin.is 0 8 (by kernel_rfl) (by decide) (by kernel_rfl) (by kernel_rfl) _ rfl
      have e11 := hin.is 3 11 (by kernel_rfl) (by decide) (by kernel_rfl) (by kernel_rfl) _ rfl
      clear hin hout
      intro K Q hK
      have sq : Slice W (.slice (some ⟨g1, 1, none⟩) 29 29) (r.drop 1) := sld_tail (hP.row 0 rfl) HRL.out
      refine wp_copy_any (.tmp 8) (.tmp 11) rfl g3 1 29 31 (eval_of_get e8) _ (eval_of_get e11) (r.drop 1) sq 27 _ (hP.row 2 rfl) (by rw [size_bs, List.length_set, length_blk, List.length_drop, HRL.out]; decide) (by rw [List.length_drop, HRL.out]; decide) ?_
      intro W' r5 hg
      rw [HCP.out] at r5
      exact hK _ _ ⟨hP.upd 2 rfl r5 hg, trivial⟩
    exact all_end (by decide)
  · intro x W hP hV
    clear hV
    have HS : St w noF [⟨g1, 70, sld r c⟩, ⟨g2, 27, bs (blk 0#8)⟩, ⟨g3, 27, bs (r ++ [0#8, 0#8])⟩] W := hP
    clear hP
    simp only [putL, Act.put, List.setIfInBounds_toArray, List.set_cons_succ, List.set_cons_zero]
    refine wpAnyH_done (by kernel_rfl) ?_ _
    go_wp2_with (first | ((with_reducible refine wpList_plain ?_ ?_); exact rfl; intro KK hKK; refine wp_st_get HS 0 30 23 (.tmp 13) rfl rfl rfl (.int .u16 (hd c)) (HT.out) _ Try.underlying23 rfl (hKK _ _ ?_); clear hKK KK) | ((with_reducible refine wpList_plain ?_ ?_); exact rfl; intro KK hKK; refine wp_st_put HS 2 30 5 (.tmp 16) (.tmp 15) rfl rfl rfl (.int .u8 (bd (c.setWidth 8))) rfl (by kernel_rfl) rfl rfl (by simp [size_bs, HRL.out]) (bs (r ++ [c.setWidth 8, 0#8])) (HC1.out) (fun W5 HSx => hKK _ _ ?_); clear hKK KK HS; have HS : St w noF [⟨g1, 70, sld r c⟩, ⟨g2, 27, bs (blk 0#8)⟩, ⟨g3, 27, bs (r ++ [c.setWidth 8, 0#8])⟩] W5 := HSx; clear HSx) | ((with_reducible refine wpList_plain ?_ ?_); exact rfl; intro KK hKK; refine wp_st_get HS 0 30 23 (.tmp 17) rfl rfl rfl (.int .u16 (hd c)) (HT.out) _ Try.underlying23 rfl (hKK _ _ ?_); clear hKK KK) | ((with_reducible refine wpList_plain ?_ ?_); exact rfl; intro KK hKK; refine wp_st_put HS 2 31 5 (.tmp 21) (.tmp 20) rfl rfl rfl (.int .u8 (bd ((c >>> 8).setWidth 8))) rfl (by kernel_rfl) rfl rfl (by simp [size_bs, HRL.out]) (bs (r ++ [c.setWidth 8, (c >>> 8).setWidth 8])) (HC2.out) (fun W6 HSx => hKK _ _ ?_); clear hKK KK HS; have HS : St w noF [⟨g1, 70, sld r c⟩, ⟨g2, 27, bs (blk 0#8)⟩, ⟨g3, 27, bs (r ++ [c.setWidth 8, (c >>> 8).setWidth 8])⟩] W6 := HSx; clear HSx) | ((with_reducible refine wpList_plain ?_ ?_); exact rfl; intro KK hKK; refine wp_st_load HS 2 0 27 (.tmp 3) rfl rfl rfl (bs (r ++ [c.setWidth 8, (c >>> 8).setWidth 8])) (slab_whole _) _ Try.underlying27 rfl (by rw [HL32.out]; exact size_blk) (hKK _ _ ?_); clear hKK KK) | ((with_reducible refine wpList_plain ?_ ?_); exact rfl; intro KK hKK; refine wp_st_store HS 1 0 27 (.tmp 2) (.tmp 22) rfl rfl rfl (.agg (bs (r ++ [c.setWidth 8, (c >>> 8).setWidth 8]))) rfl (by rw [show Value.cells (.agg (bs (r ++ [c.setWidth 8, (c >>> 8).setWidth 8]))) = bs (r ++ [c.setWidth 8, (c >>> 8).setWidth 8]) from rfl, HL32.out]; exact size_blk) (by simp [Value.cells, size_bs, HRL.out, length_blk]) (one_bs _) (bs (r ++ [c.setWidth 8, (c >>> 8).setWidth 8])) (spl_agg _ _ _ rfl (by rw [HL32.out]; rfl)) (fun W7 HSx => hKK _ _ ?_); clear hKK KK HS; have HS : St w noF [⟨g1, 70, sld r c⟩, ⟨g2, 27, bs (r ++ [c.setWidth 8, (c >>> 8).setWidth 8])⟩, ⟨g3, 27, bs (r ++ [c.setWidth 8, (c >>> 8).setWidth 8])⟩] W7 := HSx; clear HSx))
    exact bodyPost_ret (v := .agg (bs (r ++ [c.setWidth 8, (c >>> 8).setWidth 8]))) (results_cell_row Try.results29 _ _ g2 27 (bs (r ++ [c.setWidth 8, (c >>> 8).setWidth 8])) (0, 0) _ rfl (HS.row 1 rfl) Try.underlying27 rfl (by rw [HL32.out]; exact size_blk)) rfl ⟨rfl, HS.below⟩
end Go.Proofs.Ytmghacgifokbhaa
