/- The statement DeskTurns: its walk. -/
import Derived.Test.YtpnndkobaikhfaaDeskOpen
set_option maxRecDepth 4000
namespace Go.Proofs.Ytpnndkobaikhfaa
open Go Go.RowKit
theorem St.take {w0 w : World} {F : Nat → Prop} {R : List Blk} (h : St w0 F R w) (k : Nat) : St w0 F (R.take k) w := by
  have at_ : ∀ (j : Nat) (b : Blk), (R.take k)[j]? = some b → R[j]? = some b := fun j b hj => by
    have h1 := (List.getElem?_eq_some_iff.1 hj).1
    rw [List.length_take] at h1
    rw [List.getElem?_take_of_lt (by omega)] at hj
    exact hj
  exact ⟨h.chg, fun j b hj => h.rows j b (at_ j b hj), fun i j b c hij hi hj => h.apart i j b c hij (at_ i b hi) (at_ j c hj), fun j b hj => h.own j b (at_ j b hj)⟩
theorem may_right (p o n : Int) (ep : BitVec 32) (sy up fo : Bool) (hp : p = 0 ∨ p = 1) (ho : otherD ⟨p, ep, sy⟩ = o) : mayD ⟨p, ep, sy⟩ n up fo = 0 ↔ n = o ∧ up = true ∧ (sy = true ∨ fo = true) := by
  have ho' : (if p = 0 then (1 : Int) else 0) = o := ho
  show (if (n ≠ 0 ∧ n ≠ 1) ∨ n = p then (1 : Int) else if up = false then 20 else if sy = false ∧ fo = false then 22 else 0) = 0 ↔ _
  have hno : ((n ≠ 0 ∧ n ≠ 1) ∨ n = p) ↔ ¬ n = o := by rcases hp with rfl | rfl <;> simp at ho' <;> omega
  by_cases h : n = o
  · rw [if_neg (fun k => hno.1 k h)]
    cases up <;> cases sy <;> cases fo <;> simp [h]
  · rw [if_pos (hno.2 h)]
    simp [h]
set_option maxRecDepth 20000 in
set_option maxHeartbeats 6400000 in
theorem dkturns_walk (A : Option Addr) (n0 c : Nat) (l : List Askd) (w : World) (hl : AsksAt w (.slice A n0 c) l) (_ : n0 ≤ maxLen) :
    Calls Try.prog 4 #[.slice A n0 c] w fun x w' => x = .returned (.bool true) ∧ Below w.heap.size w w' := by
  have hln := asks_len hl
  have HF := Lib.hid (fun k (hk : k < l.length) => asks_get hl hk)
  have HL := Lib.hid hln
  clear hl hln
  go_enter Try.func4, Try.ntmps4
  by_cases hbig : 100 < n0
  · have hd : decide (100 < (n0 : Int)) = true := decide_eq_true (by omega)
    go_wp2_with fail
    refine (dkwakes_any w).mono ?_
    rintro x w9 ⟨rfl, hb⟩
    go_wp2_with fail
    go_ret
    exact ⟨rfl, hb⟩
  have hd : decide (100 < (n0 : Int)) = false := decide_eq_false (by omega)
  go_upto_region 3 with fail
  clear hd
  go_wp2_with fail
  refine (new_dsk w).mono ?_
  rintro x w1 ⟨rfl, hb⟩
  have HB1 := Lib.hid hb
  clear hb
  have HS := St.nil w1 noF
  go_upto_region 4 with (first | ((with_reducible refine wpList_plain ?_ ?_); exact rfl; intro KK hKK; refine wp_st_alloc HS 24 (#[.int .i64 0, .int .u32 0, .bool false]) rfl (.agg (#[.int .i64 0, .int .u32 0, .bool false])) (by kernel_rfl) (rfl) (fun g3 W1 HSx => hKK _ _ ?_); clear hKK KK HS; have HS : St w1 noF [⟨g3, 24, #[.int .i64 0, .int .u32 0, .bool false]⟩] W1 := HSx; clear HSx) | ((with_reducible refine wpList_plain ?_ ?_); exact rfl; intro KK hKK; refine wp_st_store HS 0 0 24 (.tmp 3) (.tmp 14) rfl rfl rfl (.agg (dskC newD)) rfl (by exact size_dsk) (Nat.le_refl 3) (by exact one_dsk newD) (dskC newD) (by exact spl_agg _ _ _ rfl rfl) (fun W2 HSx => hKK _ _ ?_); clear hKK KK HS; have HS : St w1 noF [⟨g3, 24, dskC newD⟩] W2 := HSx; clear HSx))
  have HSI := Lib.hid HS
  clear HS
  go_wp2_with fail
  go_loopw [4] (fun i wr => ∃ (k : Nat) (D : Dsk), k ≤ n0 ∧ i = .int .i64 k ∧ (D.p = 0 ∨ D.p = 1) ∧ St w1 noF [⟨g3, 24, dskC D⟩] wr) (fun i _ => n0 - (intOf i).toNat)
  case atStart => exact ⟨0, newD, by omega, rfl, .inl rfl, HSI.out⟩
  case round =>
    obtain ⟨k, ⟨p, ep, sy⟩, hk, rfl, hp, HS⟩ := hrel
    have HP : Hid (p = 0 ∨ p = 1) := Lib.hid hp
    clear hp
    by_cases hlt : k < n0
    · obtain ⟨b, o', ⟨n, up, fo, L⟩, hx, rfl, hb, hr⟩ := HF.out k (by rw [HL.out]; exact hlt)
      obtain ⟨O, hO⟩ : ∃ O, o' + k * 8 = O := ⟨_, rfl⟩
      rw [hO] at hr
      have HBw := HB1.out.trans (HS.below.mono HB1.out.size)
      have HR : Hid (wr.rangeAt b O (askdC ⟨n, up, fo, L⟩).toList) := Lib.hid fun j v hv => (HBw.cell (p := ⟨b, O + j, none⟩) hb).trans (hr j v hv)
      obtain ⟨o, ho⟩ : ∃ o, otherD ⟨p, ep, sy⟩ = o := ⟨_, rfl⟩
      have HOE : Hid (∀ s, otherD ⟨p, ep, s⟩ = o) := Lib.hid (fun s => ho)
      have HOO : Hid (∀ s w, Calls Try.prog 7 #[.agg (dskC ⟨p, ep, s⟩)] w fun x w' => x = .returned (.int .i64 o) ∧ Below w.heap.size w w') := Lib.hid (fun s w => by have := other_any ⟨p, ep, s⟩ w; rw [HOE.out s] at this; exact this)
      have hpo : (o = 0 ∨ o = 1) ∧ ∀ e s, otherD ⟨o, e, s⟩ = p := by
        have ho' : (if p = 0 then (1 : Int) else 0) = o := ho
        rcases HP.out with rfl | rfl
        · subst ho'; exact ⟨.inr rfl, fun e s => rfl⟩
        · subst ho'; exact ⟨.inl rfl, fun e s => rfl⟩
      have HPO : Hid (o = 0 ∨ o = 1) := Lib.hid hpo.1
      have HOT2 : Hid (∀ s w, Calls Try.prog 7 #[.agg (dskC ⟨o, ep + 1#32, s⟩)] w fun x w' => x = .returned (.int .i64 p) ∧ Below w.heap.size w w') := Lib.hid (fun s w => by have := other_any ⟨o, ep + 1#32, s⟩ w; rw [hpo.2] at this; exact this)
      clear hx hr HBw hb ho hpo
      by_cases hno : n = o
      · rw [hno] at HR
        clear hno
        cases up
        case false =>
          have HOT : Hid (∀ w, Calls Try.prog 7 #[.agg (dskC ⟨p, ep, sy⟩)] w fun x w' => x = .returned (.int .i64 o) ∧ Below w.heap.size w w') := Lib.hid (fun w => HOO.out _ w)
          obtain ⟨M, hM⟩ : ∃ M, mayD ⟨p, ep, sy⟩ o false fo = M := ⟨_, rfl⟩
          have HM0 : Hid ((M == 0) = false) := Lib.hid (by rw [← hM]; exact beq_eq_false_iff_ne.2 (fun h => by have := (may_right p o o ep sy false fo HP.out (HOE.out _)).1 h; simp at this))
          have HM : Hid (∀ w, Calls Try.prog 9 #[.agg (dskC ⟨p, ep, sy⟩), .int .i64 o, .bool false, .bool fo] w fun x w' => x = .returned (.int .i64 M) ∧ Below w.heap.size w w') := Lib.hid (fun w => by have := may_any ⟨p, ep, sy⟩ o false fo w; rw [hM] at this; exact this)
          clear hM
          go_upto_region 8 with (first | ((with_reducible refine wpList_plain ?_ ?_); exact rfl; intro KK hKK; refine wp_load_mid 29 (.tmp 23) rfl b O rfl (askdC ⟨o, false, fo, L⟩).toList _ HR.out Try.underlying29 rfl (by exact size_asked) (hKK _ _ ?_); clear hKK KK) | ((with_reducible refine wpList_plain ?_ ?_); exact rfl; intro KK hKK; refine wp_st_alloc HS 29 (#[.int .i64 0, .bool false, .bool false, .int .u32 0, .int .u32 0, .int .u32 0, .int .u16 0, .int .u16 0]) rfl (.agg (#[.int .i64 0, .bool false, .bool false, .int .u32 0, .int .u32 0, .int .u32 0, .int .u16 0, .int .u16 0])) (by kernel_rfl) (rfl) (fun g5 W11 HSx => hKK _ _ ?_); clear hKK KK HS; have HS : St w1 noF [⟨g3, 24, dskC ⟨p, ep, sy⟩⟩, ⟨g5, 29, #[.int .i64 0, .bool false, .bool false, .int .u32 0, .int .u32 0, .int .u32 0, .int .u16 0, .int .u16 0]⟩] W11 := HSx; clear HSx) | ((with_reducible refine wpList_plain ?_ ?_); exact rfl; intro KK hKK; refine wp_st_store HS 1 0 29 (.tmp 5) (.tmp 24) rfl rfl rfl (.agg (askdC ⟨o, false, fo, L⟩)) rfl (by exact size_asked) (Nat.le_refl 8) (by exact one_asked ⟨o, false, fo, L⟩) (askdC ⟨o, false, fo, L⟩) (by exact spl_agg _ _ _ rfl rfl) (fun W12 HSx => hKK _ _ ?_); clear hKK KK HS; have HS : St w1 noF [⟨g3, 24, dskC ⟨p, ep, sy⟩⟩, ⟨g5, 29, askdC ⟨o, false, fo, L⟩⟩] W12 := HSx; clear HSx))
          have c50 : W12.cell? ⟨g5, 0, none⟩ = some (.int .i64 o) := (HS.row 1 rfl).get rfl
          have c51 : W12.cell? ⟨g5, 1, none⟩ = some (.bool false) := (HS.row 1 rfl).get rfl
          have c52 : W12.cell? ⟨g5, 2, none⟩ = some (.bool fo) := (HS.row 1 rfl).get rfl
          go_wp2_with (first | ((with_reducible refine wpList_plain ?_ ?_); exact rfl; intro KK hKK; refine wp_st_load HS 0 0 24 (.tmp 3) rfl rfl rfl (dskC ⟨p, ep, sy⟩) (slab_whole _) _ Try.underlying24 rfl (by exact size_dsk) (hKK _ _ ?_); clear hKK KK))
          clear c50 c51 c52
          refine (HM.out _).mono ?_
          rintro x w5 ⟨rfl, hb⟩
          have HSx := HS.same hb
          clear HS hb
          have HS := HSx
          clear HSx
          go_upto_region 9 with fail
          have hF0 : Wl [(fun W => St w1 noF [⟨g3, 24, dskC ⟨p, ep, sy⟩⟩, ⟨g5, 29, askdC ⟨o, false, fo, L⟩⟩] W)] 0 (World.drew _) := HS.drew
          clear HS
          refine wp_region_phs [is (.pointer (some ⟨g5, 0, none⟩)), is (.int .i64 o), is (.agg (dskC ⟨p, ep, sy⟩)), is (.int .i64 o), is (.bool true), is (.bool true), is (.pointer (some ⟨g5, 1, none⟩)), is (.bool false), is (.bool false), is (.bool false), is undef, is undef, is undef, is undef, is undef, is undef, is (.bool false), is (.bool false)] [true, true, true, true, true, true, true, true, true, true, true, true, true, true, true, true, true, true] [(fun W => St w1 noF [⟨g3, 24, dskC ⟨p, ep, sy⟩⟩, ⟨g5, 29, askdC ⟨o, false, fo, L⟩⟩] W)] [false, false, false, false, false, false, false, false, false, false, false, false, false, false, false, false, false, false] [some 0, some 0, some 0, some 0, some 0, some 0, some 0, some 0, some 0, some 0, some 0, some 0, some 0, some 0, some 0, some 0, some 0, some 0] [some 33, some 34, some 35, some 36, some 37, some 38, some 39, some 40, some 41, some 42, some 43, some 44, some 45, some 46, some 47, some 48, some 49, some 7] 18 0 (fun i => !([10, 11, 12, 13, 14, 15] : List Nat).contains i) rfl rfl (by kernel_rfl) (by kernel_rfl) (by kernel_rfl) (by kernel_rfl) ?_ ?_ ?_ ?_ ?_ ?_
          · repeat first | exact wok_nil | refine wok_cons (by first | exact fun _ _ h k => h.same k) ?_
          · repeat first | exact vok_nil | refine vok_rig (by first | exact fun _ _ _ h => h) ?_ | refine vok_soft (by first | exact fun _ _ _ h _ => h) ?_
          · exact hF0
          · repeat first | exact all_end (by decide) | refine all_cons (by first | exact rfl | exact ⟨rfl, fun _ _ h => Or.inl h⟩ | exact ⟨rfl, fun _ _ h => Or.inr ⟨h, rfl⟩⟩) ?_
          · refine allp_mild 0 rfl rfl rfl (fun a x W hout hin hP => ?_) ?_
            · have e5 : a.tmps[5]? = some (.pointer (some ⟨g5, 0, none⟩)) := (hout 5 (by kernel_rfl)).trans rfl
              clear hin hout
              intro K Q hK
              go_simp
              exact hK _ _ ⟨Same.refl _, rfl⟩
            refine allp_mild 0 rfl rfl rfl (fun a x W hout hin hP => ?_) ?_
            · have e33 := hin.is 0 33 (by kernel_rfl) (by decide) (by kernel_rfl) (by kernel_rfl) _ rfl
              have hc : W.cell? ⟨g5, 0, none⟩ = some (.int .i64 o) := (hP.row 1 rfl).get rfl
              clear hP
              clear hin hout
              intro K Q hK
              go_simp
              exact hK _ _ ⟨Same.refl _, rfl⟩
            refine allp_mild 0 rfl rfl rfl (fun a x W hout hin hP => ?_) ?_
            · have e3 : a.tmps[3]? = some (.pointer (some ⟨g3, 0, none⟩)) := (hout 3 (by kernel_rfl)).trans rfl
              have hr := hP.row 0 rfl
              clear hin hout hP
              intro K Q hK
              exact wp_load_row 24 (.tmp 3) rfl g3 (eval_of_get e3) 24 (dskC ⟨p, ep, sy⟩) (0, 0) _ hr Try.underlying24 rfl (by exact size_dsk) (hK _ _ ⟨Same.refl _, rfl⟩)
            refine allp_mild 0 rfl rfl rfl (fun a x W hout hin hP => ?_) ?_
            · have e35 := hin.is 2 35 (by kernel_rfl) (by decide) (by kernel_rfl) (by kernel_rfl) _ rfl
              have C := HOT.out W
              clear hP
              clear hin hout
              intro K Q hK
              go_simp
              refine C.mono ?_
              rintro e W' ⟨rfl, hb⟩
              exact hK _ _ ⟨hb, rfl⟩
            refine allp_mild 0 rfl rfl rfl (fun a x W hout hin hP => ?_) ?_
            · have e34 := hin.is 1 34 (by kernel_rfl) (by decide) (by kernel_rfl) (by kernel_rfl) _ rfl
              have e36 := hin.is 3 36 (by kernel_rfl) (by decide) (by kernel_rfl) (by kernel_rfl) _ rfl
              clear hP
              clear hin hout
              intro K Q hK
              go_simp
              exact hK _ _ ⟨Same.refl _, rfl⟩
            refine allp_mild 0 rfl rfl rfl (fun a x W hout hin hP => ?_) ?_
            · have e37 := hin.is 4 37 (by kernel_rfl) (by decide) (by kernel_rfl) (by kernel_rfl) _ rfl
              exact does_move rfl e37 ⟨Same.refl _, rfl⟩
            refine allp_mild 0 rfl rfl rfl (fun a x W hout hin hP => ?_) ?_
            · have e5 : a.tmps[5]? = some (.pointer (some ⟨g5, 0, none⟩)) := (hout 5 (by kernel_rfl)).trans rfl
              clear hin hout
              intro K Q hK
              go_simp
              exact hK _ _ ⟨Same.refl _, rfl⟩
            refine allp_mild 0 rfl rfl rfl (fun a x W hout hin hP => ?_) ?_
            · have e39 := hin.is 6 39 (by kernel_rfl) (by decide) (by kernel_rfl) (by kernel_rfl) _ rfl
              have hc : W.cell? ⟨g5, 1, none⟩ = some (.bool false) := (hP.row 1 rfl).get rfl
              clear hP
              clear hin hout
              intro K Q hK
              go_simp
              exact hK _ _ ⟨Same.refl _, rfl⟩
            refine allp_mild 0 rfl rfl rfl (fun a x W hout hin hP => ?_) ?_
            · have e38 := hin.is 5 38 (by kernel_rfl) (by decide) (by kernel_rfl) (by kernel_rfl) _ rfl
              have e40 := hin.is 7 40 (by kernel_rfl) (by decide) (by kernel_rfl) (by kernel_rfl) _ rfl
              exact does_pick rfl e38 ⟨Same.refl _, eval_of_get e40⟩
            refine allp_mild 0 rfl rfl rfl (fun a x W hout hin hP => ?_) ?_
            · have e41 := hin.is 8 41 (by kernel_rfl) (by decide) (by kernel_rfl) (by kernel_rfl) _ rfl
              exact does_move rfl e41 ⟨Same.refl _, rfl⟩
            refine allp_skip rfl rfl (fun _ => rfl) ?_
            refine allp_skip rfl rfl (fun _ => rfl) ?_
            refine allp_skip rfl rfl (fun _ => rfl) ?_
            refine allp_skip rfl rfl (fun _ => rfl) ?_
            refine allp_skip rfl rfl (fun _ => rfl) ?_
            refine allp_skip rfl rfl (fun _ => rfl) ?_
            refine allp_mild 0 rfl rfl rfl (fun a x W hout hin hP => ?_) ?_
            · have e42 := hin.is 9 42 (by kernel_rfl) (by decide) (by kernel_rfl) (by kernel_rfl) _ rfl
              have e48 := hin.is 15 48 (by kernel_rfl) (by decide) (by kernel_rfl) (by kernel_rfl) _ rfl
              exact does_pick rfl e42 ⟨Same.refl _, rfl⟩
            refine allp_mild 0 rfl rfl rfl (fun a x W hout hin hP => ?_) ?_
            · have e49 := hin.is 16 49 (by kernel_rfl) (by decide) (by kernel_rfl) (by kernel_rfl) _ rfl
              exact does_assign rfl e49 ⟨Same.refl _, rfl⟩
            exact all_end (by decide)
          · intro x W hP hV
            have HSx := hP
            have h17 : x 17 = .bool false := hV 17 (by decide) (.inl (by kernel_rfl))
            clear hV hP
            have HS := HSx
            clear HSx
            simp only [putL, Act.put, List.setIfInBounds_toArray, List.set_cons_succ, List.set_cons_zero, h17]
            simp only [Nat.zero_add, Nat.reduceAdd]
            refine wpAnyH_done (by kernel_rfl) ?_ _
            clear h17
            have hM0 := HM0.out
            go_wp2_with fail
            exact ⟨⟨k + 1, ⟨p, ep, sy⟩, by omega, by go_num, HP.out, HS.take 1⟩, by simp [intOf]; omega⟩

        cases sy
        case true =>
          obtain ⟨K0, hK0⟩ : ∃ K0, L.d ||| L.l = K0 := ⟨_, rfl⟩
          have HK := Lib.hid hK0
          clear hK0
          have HOT : Hid (∀ w, Calls Try.prog 7 #[.agg (dskC ⟨p, ep, true⟩)] w fun x w' => x = .returned (.int .i64 o) ∧ Below w.heap.size w w') := Lib.hid (fun w => HOO.out _ w)
          have HM : Hid (∀ w, Calls Try.prog 9 #[.agg (dskC ⟨p, ep, true⟩), .int .i64 o, .bool true, .bool fo] w fun x w' => x = .returned (.int .i64 0) ∧ Below w.heap.size w w') := Lib.hid (fun w => by have := may_any ⟨p, ep, true⟩ o true fo w; rw [(may_right p o o ep true true fo HP.out (HOE.out _)).2 (by simp)] at this; exact this)
          have HFR : Hid (∀ w, Calls Try.prog 11 #[.agg (dskC ⟨p, ep, true⟩), .agg (dlabC L)] w fun x w' => x = .returned (.agg (dlabC ⟨ep + 1#32, 0#32, 1#32, K0, 0#16⟩)) ∧ Below w.heap.size w w') := Lib.hid (fun w => by
            have h : freshD ⟨p, ep, true⟩ L = ⟨ep + 1#32, 0#32, 1#32, K0, 0#16⟩ := by rw [← HK.out]; rfl
            have := fresh_any ⟨p, ep, true⟩ L w
            rw [h] at this
            exact this)
          have HTU : Hid (∀ w, Calls Try.prog 13 #[.agg (dskC ⟨p, ep, true⟩), .int .i64 o, .int .u16 (hd K0)] w fun x w' => x = .returned (.agg (dskC ⟨o, ep + 1#32, decide (K0 = 0#16)⟩)) ∧ Below w.heap.size w w') := Lib.hid (fun w => turn_dsk ⟨p, ep, true⟩ o K0 w)
          go_upto_region 8 with (first | ((with_reducible refine wpList_plain ?_ ?_); exact rfl; intro KK hKK; refine wp_load_mid 29 (.tmp 23) rfl b O rfl (askdC ⟨o, true, fo, L⟩).toList _ HR.out Try.underlying29 rfl (by exact size_asked) (hKK _ _ ?_); clear hKK KK) | ((with_reducible refine wpList_plain ?_ ?_); exact rfl; intro KK hKK; refine wp_st_alloc HS 29 (#[.int .i64 0, .bool false, .bool false, .int .u32 0, .int .u32 0, .int .u32 0, .int .u16 0, .int .u16 0]) rfl (.agg (#[.int .i64 0, .bool false, .bool false, .int .u32 0, .int .u32 0, .int .u32 0, .int .u16 0, .int .u16 0])) (by kernel_rfl) (rfl) (fun g5 W11 HSx => hKK _ _ ?_); clear hKK KK HS; have HS : St w1 noF [⟨g3, 24, dskC ⟨p, ep, true⟩⟩, ⟨g5, 29, #[.int .i64 0, .bool false, .bool false, .int .u32 0, .int .u32 0, .int .u32 0, .int .u16 0, .int .u16 0]⟩] W11 := HSx; clear HSx) | ((with_reducible refine wpList_plain ?_ ?_); exact rfl; intro KK hKK; refine wp_st_store HS 1 0 29 (.tmp 5) (.tmp 24) rfl rfl rfl (.agg (askdC ⟨o, true, fo, L⟩)) rfl (by exact size_asked) (Nat.le_refl 8) (by exact one_asked ⟨o, true, fo, L⟩) (askdC ⟨o, true, fo, L⟩) (by exact spl_agg _ _ _ rfl rfl) (fun W12 HSx => hKK _ _ ?_); clear hKK KK HS; have HS : St w1 noF [⟨g3, 24, dskC ⟨p, ep, true⟩⟩, ⟨g5, 29, askdC ⟨o, true, fo, L⟩⟩] W12 := HSx; clear HSx))
          have c50 : W12.cell? ⟨g5, 0, none⟩ = some (.int .i64 o) := (HS.row 1 rfl).get rfl
          have c51 : W12.cell? ⟨g5, 1, none⟩ = some (.bool true) := (HS.row 1 rfl).get rfl
          have c52 : W12.cell? ⟨g5, 2, none⟩ = some (.bool fo) := (HS.row 1 rfl).get rfl
          go_wp2_with (first | ((with_reducible refine wpList_plain ?_ ?_); exact rfl; intro KK hKK; refine wp_st_load HS 0 0 24 (.tmp 3) rfl rfl rfl (dskC ⟨p, ep, true⟩) (slab_whole _) _ Try.underlying24 rfl (by exact size_dsk) (hKK _ _ ?_); clear hKK KK))
          clear c50 c51 c52
          refine (HM.out _).mono ?_
          rintro x w5 ⟨rfl, hb⟩
          have HSx := HS.same hb
          clear HS hb
          have HS := HSx
          clear HSx
          go_upto_region 9 with fail
          have hF0 : Wl [(fun W => St w1 noF [⟨g3, 24, dskC ⟨p, ep, true⟩⟩, ⟨g5, 29, askdC ⟨o, true, fo, L⟩⟩] W)] 0 (World.drew _) := HS.drew
          clear HS
          refine wp_region_phs [is (.pointer (some ⟨g5, 0, none⟩)), is (.int .i64 o), is (.agg (dskC ⟨p, ep, true⟩)), is (.int .i64 o), is (.bool true), is (.bool true), is (.pointer (some ⟨g5, 1, none⟩)), is (.bool true), is (.bool true), is (.bool true), is (.pointer (some ⟨g3, 2, none⟩)), is (.bool true), is (.bool true), is undef, is undef, is (.bool true), is (.bool true), is (.bool true)] [true, true, true, true, true, true, true, true, true, true, true, true, true, true, true, true, true, true] [(fun W => St w1 noF [⟨g3, 24, dskC ⟨p, ep, true⟩⟩, ⟨g5, 29, askdC ⟨o, true, fo, L⟩⟩] W)] [false, false, false, false, false, false, false, false, false, false, false, false, false, false, false, false, false, false] [some 0, some 0, some 0, some 0, some 0, some 0, some 0, some 0, some 0, some 0, some 0, some 0, some 0, some 0, some 0, some 0, some 0, some 0] [some 33, some 34, some 35, some 36, some 37, some 38, some 39, some 40, some 41, some 42, some 43, some 44, some 45, some 46, some 47, some 48, some 49, some 7] 18 0 (fun i => !([13, 14] : List Nat).contains i) rfl rfl (by kernel_rfl) (by kernel_rfl) (by kernel_rfl) (by kernel_rfl) ?_ ?_ ?_ ?_ ?_ ?_
          · repeat first | exact wok_nil | refine wok_cons (by first | exact fun _ _ h k => h.same k) ?_
          · repeat first | exact vok_nil | refine vok_rig (by first | exact fun _ _ _ h => h) ?_ | refine vok_soft (by first | exact fun _ _ _ h _ => h) ?_
          · exact hF0
          · repeat first | exact all_end (by decide) | refine all_cons (by first | exact rfl | exact ⟨rfl, fun _ _ h => Or.inl h⟩ | exact ⟨rfl, fun _ _ h => Or.inr ⟨h, rfl⟩⟩) ?_
          · refine allp_mild 0 rfl rfl rfl (fun a x W hout hin hP => ?_) ?_
            · have e5 : a.tmps[5]? = some (.pointer (some ⟨g5, 0, none⟩)) := (hout 5 (by kernel_rfl)).trans rfl
              clear hin hout
              intro K Q hK
              go_simp
              exact hK _ _ ⟨Same.refl _, rfl⟩
            refine allp_mild 0 rfl rfl rfl (fun a x W hout hin hP => ?_) ?_
            · have e33 := hin.is 0 33 (by kernel_rfl) (by decide) (by kernel_rfl) (by kernel_rfl) _ rfl
              have hc : W.cell? ⟨g5, 0, none⟩ = some (.int .i64 o) := (hP.row 1 rfl).get rfl
              clear hP
              clear hin hout
              intro K Q hK
              go_simp
              exact hK _ _ ⟨Same.refl _, rfl⟩
            refine allp_mild 0 rfl rfl rfl (fun a x W hout hin hP => ?_) ?_
            · have e3 : a.tmps[3]? = some (.pointer (some ⟨g3, 0, none⟩)) := (hout 3 (by kernel_rfl)).trans rfl
              have hr := hP.row 0 rfl
              clear hin hout hP
              intro K Q hK
              exact wp_load_row 24 (.tmp 3) rfl g3 (eval_of_get e3) 24 (dskC ⟨p, ep, true⟩) (0, 0) _ hr Try.underlying24 rfl (by exact size_dsk) (hK _ _ ⟨Same.refl _, rfl⟩)
            refine allp_mild 0 rfl rfl rfl (fun a x W hout hin hP => ?_) ?_
            · have e35 := hin.is 2 35 (by kernel_rfl) (by decide) (by kernel_rfl) (by kernel_rfl) _ rfl
              have C := HOT.out W
              clear hP
              clear hin hout
              intro K Q hK
              go_simp
              refine C.mono ?_
              rintro e W' ⟨rfl, hb⟩
              exact hK _ _ ⟨hb, rfl⟩
            refine allp_mild 0 rfl rfl rfl (fun a x W hout hin hP => ?_) ?_
            · have e34 := hin.is 1 34 (by kernel_rfl) (by decide) (by kernel_rfl) (by kernel_rfl) _ rfl
              have e36 := hin.is 3 36 (by kernel_rfl) (by decide) (by kernel_rfl) (by kernel_rfl) _ rfl
              clear hP
              clear hin hout
              intro K Q hK
              go_simp
              exact hK _ _ ⟨Same.refl _, rfl⟩
            refine allp_mild 0 rfl rfl rfl (fun a x W hout hin hP => ?_) ?_
            · have e37 := hin.is 4 37 (by kernel_rfl) (by decide) (by kernel_rfl) (by kernel_rfl) _ rfl
              exact does_move rfl e37 ⟨Same.refl _, rfl⟩
            refine allp_mild 0 rfl rfl rfl (fun a x W hout hin hP => ?_) ?_
            · have e5 : a.tmps[5]? = some (.pointer (some ⟨g5, 0, none⟩)) := (hout 5 (by kernel_rfl)).trans rfl
              clear hin hout
              intro K Q hK
              go_simp
              exact hK _ _ ⟨Same.refl _, rfl⟩
            refine allp_mild 0 rfl rfl rfl (fun a x W hout hin hP => ?_) ?_
            · have e39 := hin.is 6 39 (by kernel_rfl) (by decide) (by kernel_rfl) (by kernel_rfl) _ rfl
              have hc : W.cell? ⟨g5, 1, none⟩ = some (.bool true) := (hP.row 1 rfl).get rfl
              clear hP
              clear hin hout
              intro K Q hK
              go_simp
              exact hK _ _ ⟨Same.refl _, rfl⟩
            refine allp_mild 0 rfl rfl rfl (fun a x W hout hin hP => ?_) ?_
            · have e38 := hin.is 5 38 (by kernel_rfl) (by decide) (by kernel_rfl) (by kernel_rfl) _ rfl
              have e40 := hin.is 7 40 (by kernel_rfl) (by decide) (by kernel_rfl) (by kernel_rfl) _ rfl
              exact does_pick rfl e38 ⟨Same.refl _, eval_of_get e40⟩
            refine allp_mild 0 rfl rfl rfl (fun a x W hout hin hP => ?_) ?_
            · have e41 := hin.is 8 41 (by kernel_rfl) (by decide) (by kernel_rfl) (by kernel_rfl) _ rfl
              exact does_move rfl e41 ⟨Same.refl _, rfl⟩
            refine allp_mild 0 rfl rfl rfl (fun a x W hout hin hP => ?_) ?_
            · have e3 : a.tmps[3]? = some (.pointer (some ⟨g3, 0, none⟩)) := (hout 3 (by kernel_rfl)).trans rfl
              clear hin hout
              intro K Q hK
              go_simp
              exact hK _ _ ⟨Same.refl _, rfl⟩
            refine allp_mild 0 rfl rfl rfl (fun a x W hout hin hP => ?_) ?_
            · have e43 := hin.is 10 43 (by kernel_rfl) (by decide) (by kernel_rfl) (by kernel_rfl) _ rfl
              have hc : W.cell? ⟨g3, 2, none⟩ = some (.bool true) := (hP.row 0 rfl).get rfl
              clear hP
              clear hin hout
              intro K Q hK
              go_simp
              exact hK _ _ ⟨Same.refl _, rfl⟩
            refine allp_mild 0 rfl rfl rfl (fun a x W hout hin hP => ?_) ?_
            · have e44 := hin.is 11 44 (by kernel_rfl) (by decide) (by kernel_rfl) (by kernel_rfl) _ rfl
              exact does_move rfl e44 ⟨Same.refl _, rfl⟩
            refine allp_skip rfl rfl (fun _ => rfl) ?_
            refine allp_skip rfl rfl (fun _ => rfl) ?_
            refine allp_mild 0 rfl rfl rfl (fun a x W hout hin hP => ?_) ?_
            · have e45 := hin.is 12 45 (by kernel_rfl) (by decide) (by kernel_rfl) (by kernel_rfl) _ rfl
              have e47 := hin.is 14 47 (by kernel_rfl) (by decide) (by kernel_rfl) (by kernel_rfl) _ rfl
              exact does_pick rfl e45 ⟨Same.refl _, rfl⟩
            refine allp_mild 0 rfl rfl rfl (fun a x W hout hin hP => ?_) ?_
            · have e42 := hin.is 9 42 (by kernel_rfl) (by decide) (by kernel_rfl) (by kernel_rfl) _ rfl
              have e48 := hin.is 15 48 (by kernel_rfl) (by decide) (by kernel_rfl) (by kernel_rfl) _ rfl
              exact does_pick rfl e42 ⟨Same.refl _, eval_of_get e48⟩
            refine allp_mild 0 rfl rfl rfl (fun a x W hout hin hP => ?_) ?_
            · have e49 := hin.is 16 49 (by kernel_rfl) (by decide) (by kernel_rfl) (by kernel_rfl) _ rfl
              exact does_assign rfl e49 ⟨Same.refl _, rfl⟩
            exact all_end (by decide)
          · intro x W hP hV
            have HSx := hP
            have h17 : x 17 = .bool true := hV 17 (by decide) (.inl (by kernel_rfl))
            clear hV hP
            have HS := HSx
            clear HSx
            simp only [putL, Act.put, List.setIfInBounds_toArray, List.set_cons_succ, List.set_cons_zero, h17]
            simp only [Nat.zero_add, Nat.reduceAdd]
            refine wpAnyH_done (by kernel_rfl) ?_ _
            clear h17
            go_upto_region 13 with fail
            go_wp2_with (first | ((with_reducible refine wpList_plain ?_ ?_); exact rfl; intro KK hKK; refine wp_st_load HS 0 0 24 (.tmp 3) rfl rfl rfl (dskC ⟨p, ep, true⟩) (slab_whole _) _ Try.underlying24 rfl (by exact size_dsk) (hKK _ _ ?_); clear hKK KK) | ((with_reducible refine wpList_plain ?_ ?_); exact rfl; intro KK hKK; refine wp_load_mid 27 (.tmp 57) rfl g5 3 rfl (dlabC L).toList _ ((HS.row 1 rfl).slab 3 _ rfl) Try.underlying27 rfl (by exact size_dlab) (hKK _ _ ?_); clear hKK KK))
            refine (HFR.out _).mono ?_
            rintro x w6 ⟨rfl, hb⟩
            have HSx := HS.same hb
            clear HS hb
            have HS := HSx
            clear HSx
            go_upto_region 14 with (first | ((with_reducible refine wpList_plain ?_ ?_); exact rfl; intro KK hKK; refine wp_st_alloc HS 27 (#[.int .u32 0, .int .u32 0, .int .u32 0, .int .u16 0, .int .u16 0]) rfl (.agg (#[.int .u32 0, .int .u32 0, .int .u32 0, .int .u16 0, .int .u16 0])) (by kernel_rfl) (rfl) (fun g8 W21 HSx => hKK _ _ ?_); clear hKK KK HS; have HS : St w1 noF [⟨g3, 24, dskC ⟨p, ep, true⟩⟩, ⟨g5, 29, askdC ⟨o, true, fo, L⟩⟩, ⟨g8, 27, #[.int .u32 0, .int .u32 0, .int .u32 0, .int .u16 0, .int .u16 0]⟩] W21 := HSx; clear HSx) | ((with_reducible refine wpList_plain ?_ ?_); exact rfl; intro KK hKK; refine wp_st_store HS 2 0 27 (.tmp 8) (.tmp 59) rfl rfl rfl (.agg (dlabC ⟨ep + 1#32, 0#32, 1#32, K0, 0#16⟩)) rfl (by exact size_dlab) (Nat.le_refl 5) (by exact one_dlab ⟨ep + 1#32, 0#32, 1#32, K0, 0#16⟩) (dlabC ⟨ep + 1#32, 0#32, 1#32, K0, 0#16⟩) (by exact spl_agg _ _ _ rfl rfl) (fun W22 HSx => hKK _ _ ?_); clear hKK KK HS; have HS : St w1 noF [⟨g3, 24, dskC ⟨p, ep, true⟩⟩, ⟨g5, 29, askdC ⟨o, true, fo, L⟩⟩, ⟨g8, 27, dlabC ⟨ep + 1#32, 0#32, 1#32, K0, 0#16⟩⟩] W22 := HSx; clear HSx))
            go_upto_region 15 with (first | ((with_reducible refine wpList_plain ?_ ?_); exact rfl; intro KK hKK; refine wp_st_load HS 0 0 24 (.tmp 3) rfl rfl rfl (dskC ⟨p, ep, true⟩) (slab_whole _) _ Try.underlying24 rfl (by exact size_dsk) (hKK _ _ ?_); clear hKK KK) | ((with_reducible refine wpList_plain ?_ ?_); exact rfl; intro KK hKK; refine wp_st_alloc HS 24 (#[.int .i64 0, .int .u32 0, .bool false]) rfl (.agg (#[.int .i64 0, .int .u32 0, .bool false])) (by kernel_rfl) (rfl) (fun g9 W23 HSx => hKK _ _ ?_); clear hKK KK HS; have HS : St w1 noF [⟨g3, 24, dskC ⟨p, ep, true⟩⟩, ⟨g5, 29, askdC ⟨o, true, fo, L⟩⟩, ⟨g8, 27, dlabC ⟨ep + 1#32, 0#32, 1#32, K0, 0#16⟩⟩, ⟨g9, 24, #[.int .i64 0, .int .u32 0, .bool false]⟩] W23 := HSx; clear HSx) | ((with_reducible refine wpList_plain ?_ ?_); exact rfl; intro KK hKK; refine wp_st_store HS 3 0 24 (.tmp 9) (.tmp 60) rfl rfl rfl (.agg (dskC ⟨p, ep, true⟩)) rfl (by exact size_dsk) (Nat.le_refl 3) (by exact one_dsk ⟨p, ep, true⟩) (dskC ⟨p, ep, true⟩) (by exact spl_agg _ _ _ rfl rfl) (fun W24 HSx => hKK _ _ ?_); clear hKK KK HS; have HS : St w1 noF [⟨g3, 24, dskC ⟨p, ep, true⟩⟩, ⟨g5, 29, askdC ⟨o, true, fo, L⟩⟩, ⟨g8, 27, dlabC ⟨ep + 1#32, 0#32, 1#32, K0, 0#16⟩⟩, ⟨g9, 24, dskC ⟨p, ep, true⟩⟩] W24 := HSx; clear HSx))
            have c50 : W24.cell? ⟨g5, 0, none⟩ = some (.int .i64 o) := (HS.row 1 rfl).get rfl
            have c83 : W24.cell? ⟨g8, 3, none⟩ = some (.int .u16 (hd K0)) := (HS.row 2 rfl).get rfl
            go_wp2_with (first | ((with_reducible refine wpList_plain ?_ ?_); exact rfl; intro KK hKK; refine wp_st_load HS 0 0 24 (.tmp 3) rfl rfl rfl (dskC ⟨p, ep, true⟩) (slab_whole _) _ Try.underlying24 rfl (by exact size_dsk) (hKK _ _ ?_); clear hKK KK))
            clear c50 c83
            refine (HTU.out _).mono ?_
            rintro x w7 ⟨rfl, hb⟩
            have HSx := HS.same hb
            clear HS hb
            have HS := HSx
            clear HSx
            go_upto_region 16 with (first | ((with_reducible refine wpList_plain ?_ ?_); exact rfl; intro KK hKK; refine wp_st_store HS 0 0 24 (.tmp 3) (.tmp 66) rfl rfl rfl (.agg (dskC ⟨o, ep + 1#32, decide (K0 = 0#16)⟩)) rfl (by exact size_dsk) (Nat.le_refl 3) (by exact one_dsk ⟨o, ep + 1#32, decide (K0 = 0#16)⟩) (dskC ⟨o, ep + 1#32, decide (K0 = 0#16)⟩) (by exact spl_agg _ _ _ rfl rfl) (fun W25 HSx => hKK _ _ ?_); clear hKK KK HS; have HS : St w1 noF [⟨g3, 24, dskC ⟨o, ep + 1#32, decide (K0 = 0#16)⟩⟩, ⟨g5, 29, askdC ⟨o, true, fo, L⟩⟩, ⟨g8, 27, dlabC ⟨ep + 1#32, 0#32, 1#32, K0, 0#16⟩⟩, ⟨g9, 24, dskC ⟨p, ep, true⟩⟩] W25 := HSx; clear HSx))
            have hF0 : Wl [(fun W => St w1 noF [⟨g3, 24, dskC ⟨o, ep + 1#32, decide (K0 = 0#16)⟩⟩, ⟨g5, 29, askdC ⟨o, true, fo, L⟩⟩, ⟨g8, 27, dlabC ⟨ep + 1#32, 0#32, 1#32, K0, 0#16⟩⟩, ⟨g9, 24, dskC ⟨p, ep, true⟩⟩] W)] 0 (World.drew _) := HS.drew
            clear HS
            refine wp_region_phs [is (.pointer (some ⟨g3, 0, none⟩)), is (.int .i64 o), is (.pointer (some ⟨g5, 0, none⟩)), is (.int .i64 o), is (.bool false), is (.bool false), is (.pointer (some ⟨g3, 1, none⟩)), is (.int .u32 (wd (ep + 1#32))), is (.pointer (some ⟨g9, 1, none⟩)), is (.int .u32 (wd ep)), is (.int .u32 (wd (ep + 1#32))), is (.bool false), is (.bool false), is (.bool false), is (.pointer (some ⟨g8, 0, none⟩)), is (.int .u32 (wd (ep + 1#32))), is (.pointer (some ⟨g3, 1, none⟩)), is (.int .u32 (wd (ep + 1#32))), is (.bool false), is (.bool false), is (.bool false), is (.pointer (some ⟨g8, 1, none⟩)), is (.int .u32 0), is (.bool false), is (.bool false), is (.bool false), is (.pointer (some ⟨g8, 2, none⟩)), is (.int .u32 1), is (.bool false), is (.bool false), is (.bool false), is (.pointer (some ⟨g3, 2, none⟩)), is (.bool (decide (K0 = 0#16))), is (.pointer (some ⟨g8, 3, none⟩)), is (.int .u16 (hd K0)), is (.bool (decide (K0 = 0#16))), is (.bool false), is (.bool false), is (.bool false), is (.agg (dskC ⟨o, ep + 1#32, decide (K0 = 0#16)⟩)), is (.int .i64 p), is (.pointer (some ⟨g9, 0, none⟩)), is (.int .i64 p), is (.bool false), is (.bool false)] [true, true, true, true, true, true, true, true, true, true, true, true, true, true, true, true, true, true, true, true, true, true, true, true, true, true, true, true, true, true, true, true, true, true, true, true, true, true, true, true, true, true, true, true, true] [(fun W => St w1 noF [⟨g3, 24, dskC ⟨o, ep + 1#32, decide (K0 = 0#16)⟩⟩, ⟨g5, 29, askdC ⟨o, true, fo, L⟩⟩, ⟨g8, 27, dlabC ⟨ep + 1#32, 0#32, 1#32, K0, 0#16⟩⟩, ⟨g9, 24, dskC ⟨p, ep, true⟩⟩] W)] [false, false, false, false, false, false, false, false, false, false, false, false, false, false, false, false, false, false, false, false, false, false, false, false, false, false, false, false, false, false, false, false, false, false, false, false, false, false, false, false, false, false, false, false, false] [some 0, some 0, some 0, some 0, some 0, some 0, some 0, some 0, some 0, some 0, some 0, some 0, some 0, some 0, some 0, some 0, some 0, some 0, some 0, some 0, some 0, some 0, some 0, some 0, some 0, some 0, some 0, some 0, some 0, some 0, some 0, some 0, some 0, some 0, some 0, some 0, some 0, some 0, some 0, some 0, some 0, some 0, some 0, some 0, some 0] [some 67, some 68, some 69, some 70, some 71, some 72, some 73, some 74, some 75, some 76, some 77, some 78, some 79, some 80, some 81, some 82, some 83, some 84, some 85, some 86, some 87, some 88, some 89, some 90, some 91, some 92, some 93, some 94, some 95, some 96, some 97, some 98, some 99, some 100, some 101, some 102, some 103, some 104, some 105, some 106, some 107, some 108, some 109, some 110, some 111] 45 0 (fun _ => true) rfl rfl (by kernel_rfl) (by kernel_rfl) (by kernel_rfl) (by kernel_rfl) ?_ ?_ ?_ ?_ ?_ ?_
            · repeat first | exact wok_nil | refine wok_cons (by first | exact fun _ _ h k => h.same k) ?_
            · repeat first | exact vok_nil | refine vok_rig (by first | exact fun _ _ _ h => h) ?_ | refine vok_soft (by first | exact fun _ _ _ h _ => h) ?_
            · exact hF0
            · repeat first | exact all_end (by decide) | refine all_cons (by first | exact rfl | exact ⟨rfl, fun _ _ h => Or.inl h⟩ | exact ⟨rfl, fun _ _ h => Or.inr ⟨h, rfl⟩⟩) ?_
            · refine allp_mild 0 rfl rfl rfl (fun a x W hout hin hP => ?_) ?_
              · have e3 : a.tmps[3]? = some (.pointer (some ⟨g3, 0, none⟩)) := (hout 3 (by kernel_rfl)).trans rfl
                clear hin hout
                intro K Q hK
                go_simp
                exact hK _ _ ⟨Same.refl _, rfl⟩
              refine allp_mild 0 rfl rfl rfl (fun a x W hout hin hP => ?_) ?_
              · have e67 := hin.is 0 67 (by kernel_rfl) (by decide) (by kernel_rfl) (by kernel_rfl) _ rfl
                have hc : W.cell? ⟨g3, 0, none⟩ = some (.int .i64 o) := (hP.row 0 rfl).get rfl
                clear hP
                clear hin hout
                intro K Q hK
                go_simp
                exact hK _ _ ⟨Same.refl _, rfl⟩
              refine allp_mild 0 rfl rfl rfl (fun a x W hout hin hP => ?_) ?_
              · have e5 : a.tmps[5]? = some (.pointer (some ⟨g5, 0, none⟩)) := (hout 5 (by kernel_rfl)).trans rfl
                clear hin hout
                intro K Q hK
                go_simp
                exact hK _ _ ⟨Same.refl _, rfl⟩
              refine allp_mild 0 rfl rfl rfl (fun a x W hout hin hP => ?_) ?_
              · have e69 := hin.is 2 69 (by kernel_rfl) (by decide) (by kernel_rfl) (by kernel_rfl) _ rfl
                have hc : W.cell? ⟨g5, 0, none⟩ = some (.int .i64 o) := (hP.row 1 rfl).get rfl
                clear hP
                clear hin hout
                intro K Q hK
                go_simp
                exact hK _ _ ⟨Same.refl _, rfl⟩
              refine allp_mild 0 rfl rfl rfl (fun a x W hout hin hP => ?_) ?_
              · have e68 := hin.is 1 68 (by kernel_rfl) (by decide) (by kernel_rfl) (by kernel_rfl) _ rfl
                have e70 := hin.is 3 70 (by kernel_rfl) (by decide) (by kernel_rfl) (by kernel_rfl) _ rfl
                clear hP
                clear hin hout
                intro K Q hK
                go_simp
                exact hK _ _ ⟨Same.refl _, rfl⟩
              refine allp_mild 0 rfl rfl rfl (fun a x W hout hin hP => ?_) ?_
              · have e71 := hin.is 4 71 (by kernel_rfl) (by decide) (by kernel_rfl) (by kernel_rfl) _ rfl
                exact does_move rfl e71 ⟨Same.refl _, rfl⟩
              refine allp_mild 0 rfl rfl rfl (fun a x W hout hin hP => ?_) ?_
              · have e3 : a.tmps[3]? = some (.pointer (some ⟨g3, 0, none⟩)) := (hout 3 (by kernel_rfl)).trans rfl
                clear hin hout
                intro K Q hK
                go_simp
                exact hK _ _ ⟨Same.refl _, rfl⟩
              refine allp_mild 0 rfl rfl rfl (fun a x W hout hin hP => ?_) ?_
              · have e73 := hin.is 6 73 (by kernel_rfl) (by decide) (by kernel_rfl) (by kernel_rfl) _ rfl
                have hc : W.cell? ⟨g3, 1, none⟩ = some (.int .u32 (wd (ep + 1#32))) := (hP.row 0 rfl).get rfl
                clear hP
                clear hin hout
                intro K Q hK
                go_simp
                exact hK _ _ ⟨Same.refl _, rfl⟩
              refine allp_mild 0 rfl rfl rfl (fun a x W hout hin hP => ?_) ?_
              · have e9 : a.tmps[9]? = some (.pointer (some ⟨g9, 0, none⟩)) := (hout 9 (by kernel_rfl)).trans rfl
                clear hin hout
                intro K Q hK
                go_simp
                exact hK _ _ ⟨Same.refl _, rfl⟩
              refine allp_mild 0 rfl rfl rfl (fun a x W hout hin hP => ?_) ?_
              · have e75 := hin.is 8 75 (by kernel_rfl) (by decide) (by kernel_rfl) (by kernel_rfl) _ rfl
                have hc : W.cell? ⟨g9, 1, none⟩ = some (.int .u32 (wd ep)) := (hP.row 3 rfl).get rfl
                clear hP
                clear hin hout
                intro K Q hK
                go_simp
                exact hK _ _ ⟨Same.refl _, rfl⟩
              refine allp_mild 0 rfl rfl rfl (fun a x W hout hin hP => ?_) ?_
              · have e76 := hin.is 9 76 (by kernel_rfl) (by decide) (by kernel_rfl) (by kernel_rfl) _ rfl
                have hw := wd_succ ep
                clear hP
                clear hin hout
                intro K Q hK
                go_simp
                exact hK _ _ ⟨Same.refl _, rfl⟩
              refine allp_mild 0 rfl rfl rfl (fun a x W hout hin hP => ?_) ?_
              · have e74 := hin.is 7 74 (by kernel_rfl) (by decide) (by kernel_rfl) (by kernel_rfl) _ rfl
                have e77 := hin.is 10 77 (by kernel_rfl) (by decide) (by kernel_rfl) (by kernel_rfl) _ rfl
                clear hP
                clear hin hout
                intro K Q hK
                go_simp
                exact hK _ _ ⟨Same.refl _, rfl⟩
              refine allp_mild 0 rfl rfl rfl (fun a x W hout hin hP => ?_) ?_
              · have e72 := hin.is 5 72 (by kernel_rfl) (by decide) (by kernel_rfl) (by kernel_rfl) _ rfl
                have e78 := hin.is 11 78 (by kernel_rfl) (by decide) (by kernel_rfl) (by kernel_rfl) _ rfl
                exact does_pick rfl e72 ⟨Same.refl _, eval_of_get e78⟩
              refine allp_mild 0 rfl rfl rfl (fun a x W hout hin hP => ?_) ?_
              · have e79 := hin.is 12 79 (by kernel_rfl) (by decide) (by kernel_rfl) (by kernel_rfl) _ rfl
                exact does_move rfl e79 ⟨Same.refl _, rfl⟩
              refine allp_mild 0 rfl rfl rfl (fun a x W hout hin hP => ?_) ?_
              · have e8 : a.tmps[8]? = some (.pointer (some ⟨g8, 0, none⟩)) := (hout 8 (by kernel_rfl)).trans rfl
                clear hin hout
                intro K Q hK
                go_simp
                exact hK _ _ ⟨Same.refl _, rfl⟩
              refine allp_mild 0 rfl rfl rfl (fun a x W hout hin hP => ?_) ?_
              · have e81 := hin.is 14 81 (by kernel_rfl) (by decide) (by kernel_rfl) (by kernel_rfl) _ rfl
                have hc : W.cell? ⟨g8, 0, none⟩ = some (.int .u32 (wd (ep + 1#32))) := (hP.row 2 rfl).get rfl
                clear hP
                clear hin hout
                intro K Q hK
                go_simp
                exact hK _ _ ⟨Same.refl _, rfl⟩
              refine allp_mild 0 rfl rfl rfl (fun a x W hout hin hP => ?_) ?_
              · have e3 : a.tmps[3]? = some (.pointer (some ⟨g3, 0, none⟩)) := (hout 3 (by kernel_rfl)).trans rfl
                clear hin hout
                intro K Q hK
                go_simp
                exact hK _ _ ⟨Same.refl _, rfl⟩
              refine allp_mild 0 rfl rfl rfl (fun a x W hout hin hP => ?_) ?_
              · have e83 := hin.is 16 83 (by kernel_rfl) (by decide) (by kernel_rfl) (by kernel_rfl) _ rfl
                have hc : W.cell? ⟨g3, 1, none⟩ = some (.int .u32 (wd (ep + 1#32))) := (hP.row 0 rfl).get rfl
                clear hP
                clear hin hout
                intro K Q hK
                go_simp
                exact hK _ _ ⟨Same.refl _, rfl⟩
              refine allp_mild 0 rfl rfl rfl (fun a x W hout hin hP => ?_) ?_
              · have e82 := hin.is 15 82 (by kernel_rfl) (by decide) (by kernel_rfl) (by kernel_rfl) _ rfl
                have e84 := hin.is 17 84 (by kernel_rfl) (by decide) (by kernel_rfl) (by kernel_rfl) _ rfl
                clear hP
                clear hin hout
                intro K Q hK
                go_simp
                exact hK _ _ ⟨Same.refl _, rfl⟩
              refine allp_mild 0 rfl rfl rfl (fun a x W hout hin hP => ?_) ?_
              · have e80 := hin.is 13 80 (by kernel_rfl) (by decide) (by kernel_rfl) (by kernel_rfl) _ rfl
                have e85 := hin.is 18 85 (by kernel_rfl) (by decide) (by kernel_rfl) (by kernel_rfl) _ rfl
                exact does_pick rfl e80 ⟨Same.refl _, eval_of_get e85⟩
              refine allp_mild 0 rfl rfl rfl (fun a x W hout hin hP => ?_) ?_
              · have e86 := hin.is 19 86 (by kernel_rfl) (by decide) (by kernel_rfl) (by kernel_rfl) _ rfl
                exact does_move rfl e86 ⟨Same.refl _, rfl⟩
              refine allp_mild 0 rfl rfl rfl (fun a x W hout hin hP => ?_) ?_
              · have e8 : a.tmps[8]? = some (.pointer (some ⟨g8, 0, none⟩)) := (hout 8 (by kernel_rfl)).trans rfl
                clear hin hout
                intro K Q hK
                go_simp
                exact hK _ _ ⟨Same.refl _, rfl⟩
              refine allp_mild 0 rfl rfl rfl (fun a x W hout hin hP => ?_) ?_
              · have e88 := hin.is 21 88 (by kernel_rfl) (by decide) (by kernel_rfl) (by kernel_rfl) _ rfl
                have hc : W.cell? ⟨g8, 1, none⟩ = some (.int .u32 0) := (hP.row 2 rfl).get rfl
                clear hP
                clear hin hout
                intro K Q hK
                go_simp
                exact hK _ _ ⟨Same.refl _, rfl⟩
              refine allp_mild 0 rfl rfl rfl (fun a x W hout hin hP => ?_) ?_
              · have e89 := hin.is 22 89 (by kernel_rfl) (by decide) (by kernel_rfl) (by kernel_rfl) _ rfl
                clear hP
                clear hin hout
                intro K Q hK
                go_simp
                exact hK _ _ ⟨Same.refl _, rfl⟩
              refine allp_mild 0 rfl rfl rfl (fun a x W hout hin hP => ?_) ?_
              · have e87 := hin.is 20 87 (by kernel_rfl) (by decide) (by kernel_rfl) (by kernel_rfl) _ rfl
                have e90 := hin.is 23 90 (by kernel_rfl) (by decide) (by kernel_rfl) (by kernel_rfl) _ rfl
                exact does_pick rfl e87 ⟨Same.refl _, eval_of_get e90⟩
              refine allp_mild 0 rfl rfl rfl (fun a x W hout hin hP => ?_) ?_
              · have e91 := hin.is 24 91 (by kernel_rfl) (by decide) (by kernel_rfl) (by kernel_rfl) _ rfl
                exact does_move rfl e91 ⟨Same.refl _, rfl⟩
              refine allp_mild 0 rfl rfl rfl (fun a x W hout hin hP => ?_) ?_
              · have e8 : a.tmps[8]? = some (.pointer (some ⟨g8, 0, none⟩)) := (hout 8 (by kernel_rfl)).trans rfl
                clear hin hout
                intro K Q hK
                go_simp
                exact hK _ _ ⟨Same.refl _, rfl⟩
              refine allp_mild 0 rfl rfl rfl (fun a x W hout hin hP => ?_) ?_
              · have e93 := hin.is 26 93 (by kernel_rfl) (by decide) (by kernel_rfl) (by kernel_rfl) _ rfl
                have hc : W.cell? ⟨g8, 2, none⟩ = some (.int .u32 1) := (hP.row 2 rfl).get rfl
                clear hP
                clear hin hout
                intro K Q hK
                go_simp
                exact hK _ _ ⟨Same.refl _, rfl⟩
              refine allp_mild 0 rfl rfl rfl (fun a x W hout hin hP => ?_) ?_
              · have e94 := hin.is 27 94 (by kernel_rfl) (by decide) (by kernel_rfl) (by kernel_rfl) _ rfl
                clear hP
                clear hin hout
                intro K Q hK
                go_simp
                exact hK _ _ ⟨Same.refl _, rfl⟩
              refine allp_mild 0 rfl rfl rfl (fun a x W hout hin hP => ?_) ?_
              · have e92 := hin.is 25 92 (by kernel_rfl) (by decide) (by kernel_rfl) (by kernel_rfl) _ rfl
                have e95 := hin.is 28 95 (by kernel_rfl) (by decide) (by kernel_rfl) (by kernel_rfl) _ rfl
                exact does_pick rfl e92 ⟨Same.refl _, eval_of_get e95⟩
              refine allp_mild 0 rfl rfl rfl (fun a x W hout hin hP => ?_) ?_
              · have e96 := hin.is 29 96 (by kernel_rfl) (by decide) (by kernel_rfl) (by kernel_rfl) _ rfl
                exact does_move rfl e96 ⟨Same.refl _, rfl⟩
              refine allp_mild 0 rfl rfl rfl (fun a x W hout hin hP => ?_) ?_
              · have e3 : a.tmps[3]? = some (.pointer (some ⟨g3, 0, none⟩)) := (hout 3 (by kernel_rfl)).trans rfl
                clear hin hout
                intro K Q hK
                go_simp
                exact hK _ _ ⟨Same.refl _, rfl⟩
              refine allp_mild 0 rfl rfl rfl (fun a x W hout hin hP => ?_) ?_
              · have e98 := hin.is 31 98 (by kernel_rfl) (by decide) (by kernel_rfl) (by kernel_rfl) _ rfl
                have hc : W.cell? ⟨g3, 2, none⟩ = some (.bool (decide (K0 = 0#16))) := (hP.row 0 rfl).get rfl
                clear hP
                clear hin hout
                intro K Q hK
                go_simp
                exact hK _ _ ⟨Same.refl _, rfl⟩
              refine allp_mild 0 rfl rfl rfl (fun a x W hout hin hP => ?_) ?_
              · have e8 : a.tmps[8]? = some (.pointer (some ⟨g8, 0, none⟩)) := (hout 8 (by kernel_rfl)).trans rfl
                clear hin hout
                intro K Q hK
                go_simp
                exact hK _ _ ⟨Same.refl _, rfl⟩
              refine allp_mild 0 rfl rfl rfl (fun a x W hout hin hP => ?_) ?_
              · have e100 := hin.is 33 100 (by kernel_rfl) (by decide) (by kernel_rfl) (by kernel_rfl) _ rfl
                have hc : W.cell? ⟨g8, 3, none⟩ = some (.int .u16 (hd K0)) := (hP.row 2 rfl).get rfl
                clear hP
                clear hin hout
                intro K Q hK
                go_simp
                exact hK _ _ ⟨Same.refl _, rfl⟩
              refine allp_mild 0 rfl rfl rfl (fun a x W hout hin hP => ?_) ?_
              · have e101 := hin.is 34 101 (by kernel_rfl) (by decide) (by kernel_rfl) (by kernel_rfl) _ rfl
                have hw := hd_zero K0
                clear hP
                clear hin hout
                intro K Q hK
                go_simp
                exact hK _ _ ⟨Same.refl _, rfl⟩
              refine allp_mild 0 rfl rfl rfl (fun a x W hout hin hP => ?_) ?_
              · have e99 := hin.is 32 99 (by kernel_rfl) (by decide) (by kernel_rfl) (by kernel_rfl) _ rfl
                have e102 := hin.is 35 102 (by kernel_rfl) (by decide) (by kernel_rfl) (by kernel_rfl) _ rfl
                clear hP
                clear hin hout
                intro K Q hK
                go_simp
                exact hK _ _ ⟨Same.refl _, rfl⟩
              refine allp_mild 0 rfl rfl rfl (fun a x W hout hin hP => ?_) ?_
              · have e97 := hin.is 30 97 (by kernel_rfl) (by decide) (by kernel_rfl) (by kernel_rfl) _ rfl
                have e103 := hin.is 36 103 (by kernel_rfl) (by decide) (by kernel_rfl) (by kernel_rfl) _ rfl
                exact does_pick rfl e97 ⟨Same.refl _, eval_of_get e103⟩
              refine allp_mild 0 rfl rfl rfl (fun a x W hout hin hP => ?_) ?_
              · have e104 := hin.is 37 104 (by kernel_rfl) (by decide) (by kernel_rfl) (by kernel_rfl) _ rfl
                exact does_move rfl e104 ⟨Same.refl _, rfl⟩
              refine allp_mild 0 rfl rfl rfl (fun a x W hout hin hP => ?_) ?_
              · have e3 : a.tmps[3]? = some (.pointer (some ⟨g3, 0, none⟩)) := (hout 3 (by kernel_rfl)).trans rfl
                have hr := hP.row 0 rfl
                clear hin hout hP
                intro K Q hK
                exact wp_load_row 24 (.tmp 3) rfl g3 (eval_of_get e3) 24 (dskC ⟨o, ep + 1#32, decide (K0 = 0#16)⟩) (0, 0) _ hr Try.underlying24 rfl (by exact size_dsk) (hK _ _ ⟨Same.refl _, rfl⟩)
              refine allp_mild 0 rfl rfl rfl (fun a x W hout hin hP => ?_) ?_
              · have e106 := hin.is 39 106 (by kernel_rfl) (by decide) (by kernel_rfl) (by kernel_rfl) _ rfl
                have C := HOT2.out (decide (K0 = 0#16)) W
                clear hP
                clear hin hout
                intro K Q hK
                go_simp
                refine C.mono ?_
                rintro e W' ⟨rfl, hb⟩
                exact hK _ _ ⟨hb, rfl⟩
              refine allp_mild 0 rfl rfl rfl (fun a x W hout hin hP => ?_) ?_
              · have e9 : a.tmps[9]? = some (.pointer (some ⟨g9, 0, none⟩)) := (hout 9 (by kernel_rfl)).trans rfl
                clear hin hout
                intro K Q hK
                go_simp
                exact hK _ _ ⟨Same.refl _, rfl⟩
              refine allp_mild 0 rfl rfl rfl (fun a x W hout hin hP => ?_) ?_
              · have e108 := hin.is 41 108 (by kernel_rfl) (by decide) (by kernel_rfl) (by kernel_rfl) _ rfl
                have hc : W.cell? ⟨g9, 0, none⟩ = some (.int .i64 p) := (hP.row 3 rfl).get rfl
                clear hP
                clear hin hout
                intro K Q hK
                go_simp
                exact hK _ _ ⟨Same.refl _, rfl⟩
              refine allp_mild 0 rfl rfl rfl (fun a x W hout hin hP => ?_) ?_
              · have e107 := hin.is 40 107 (by kernel_rfl) (by decide) (by kernel_rfl) (by kernel_rfl) _ rfl
                have e109 := hin.is 42 109 (by kernel_rfl) (by decide) (by kernel_rfl) (by kernel_rfl) _ rfl
                clear hP
                clear hin hout
                intro K Q hK
                go_simp
                exact hK _ _ ⟨Same.refl _, rfl⟩
              refine allp_mild 0 rfl rfl rfl (fun a x W hout hin hP => ?_) ?_
              · have e105 := hin.is 38 105 (by kernel_rfl) (by decide) (by kernel_rfl) (by kernel_rfl) _ rfl
                have e110 := hin.is 43 110 (by kernel_rfl) (by decide) (by kernel_rfl) (by kernel_rfl) _ rfl
                exact does_pick rfl e105 ⟨Same.refl _, eval_of_get e110⟩
              exact all_end (by decide)
            · intro x W hP hV
              have HSx : St w1 noF [⟨g3, 24, dskC ⟨o, ep + 1#32, decide (K0 = 0#16)⟩⟩, ⟨g5, 29, askdC ⟨o, true, fo, L⟩⟩, ⟨g8, 27, dlabC ⟨ep + 1#32, 0#32, 1#32, K0, 0#16⟩⟩, ⟨g9, 24, dskC ⟨p, ep, true⟩⟩] W := hP
              have h44 : x 44 = .bool false := hV 44 (by decide) (.inl (by kernel_rfl))
              clear hV hP
              have HS := HSx
              clear HSx
              simp only [putL, Act.put, List.setIfInBounds_toArray, List.set_cons_succ, List.set_cons_zero, h44]
              simp only [Nat.zero_add, Nat.reduceAdd]
              refine wpAnyH_done (by kernel_rfl) ?_ _
              clear h44
              have k92 : W.cell? ⟨g9, 2, none⟩ = some (.bool true) := (HS.row 3 rfl).get rfl
              have k83 : W.cell? ⟨g8, 3, none⟩ = some (.int .u16 (hd K0)) := (HS.row 2 rfl).get rfl
              have k56 : W.cell? ⟨g5, 6, none⟩ = some (.int .u16 (hd L.d)) := (HS.row 1 rfl).get rfl
              have k57 : W.cell? ⟨g5, 7, none⟩ = some (.int .u16 (hd L.l)) := (HS.row 1 rfl).get rfl
              have hor : bits .or .u16 (hd L.d) (hd L.l) = hd K0 := by rw [or_hd, HK.out]
              go_wp2_with fail
              exact ⟨⟨k + 1, ⟨o, ep + 1#32, decide (K0 = 0#16)⟩, by omega, by go_num, HPO.out, HS.take 1⟩, by simp [intOf]; omega⟩

        cases fo
        case false =>
          have HOT : Hid (∀ w, Calls Try.prog 7 #[.agg (dskC ⟨p, ep, false⟩)] w fun x w' => x = .returned (.int .i64 o) ∧ Below w.heap.size w w') := Lib.hid (fun w => HOO.out _ w)
          obtain ⟨M, hM⟩ : ∃ M, mayD ⟨p, ep, false⟩ o true false = M := ⟨_, rfl⟩
          have HM0 : Hid ((M == 0) = false) := Lib.hid (by rw [← hM]; exact beq_eq_false_iff_ne.2 (fun h => by have := (may_right p o o ep false true false HP.out (HOE.out _)).1 h; simp at this))
          have HM : Hid (∀ w, Calls Try.prog 9 #[.agg (dskC ⟨p, ep, false⟩), .int .i64 o, .bool true, .bool false] w fun x w' => x = .returned (.int .i64 M) ∧ Below w.heap.size w w') := Lib.hid (fun w => by have := may_any ⟨p, ep, false⟩ o true false w; rw [hM] at this; exact this)
          clear hM
          go_upto_region 8 with (first | ((with_reducible refine wpList_plain ?_ ?_); exact rfl; intro KK hKK; refine wp_load_mid 29 (.tmp 23) rfl b O rfl (askdC ⟨o, true, false, L⟩).toList _ HR.out Try.underlying29 rfl (by exact size_asked) (hKK _ _ ?_); clear hKK KK) | ((with_reducible refine wpList_plain ?_ ?_); exact rfl; intro KK hKK; refine wp_st_alloc HS 29 (#[.int .i64 0, .bool false, .bool false, .int .u32 0, .int .u32 0, .int .u32 0, .int .u16 0, .int .u16 0]) rfl (.agg (#[.int .i64 0, .bool false, .bool false, .int .u32 0, .int .u32 0, .int .u32 0, .int .u16 0, .int .u16 0])) (by kernel_rfl) (rfl) (fun g5 W11 HSx => hKK _ _ ?_); clear hKK KK HS; have HS : St w1 noF [⟨g3, 24, dskC ⟨p, ep, false⟩⟩, ⟨g5, 29, #[.int .i64 0, .bool false, .bool false, .int .u32 0, .int .u32 0, .int .u32 0, .int .u16 0, .int .u16 0]⟩] W11 := HSx; clear HSx) | ((with_reducible refine wpList_plain ?_ ?_); exact rfl; intro KK hKK; refine wp_st_store HS 1 0 29 (.tmp 5) (.tmp 24) rfl rfl rfl (.agg (askdC ⟨o, true, false, L⟩)) rfl (by exact size_asked) (Nat.le_refl 8) (by exact one_asked ⟨o, true, false, L⟩) (askdC ⟨o, true, false, L⟩) (by exact spl_agg _ _ _ rfl rfl) (fun W12 HSx => hKK _ _ ?_); clear hKK KK HS; have HS : St w1 noF [⟨g3, 24, dskC ⟨p, ep, false⟩⟩, ⟨g5, 29, askdC ⟨o, true, false, L⟩⟩] W12 := HSx; clear HSx))
          have c50 : W12.cell? ⟨g5, 0, none⟩ = some (.int .i64 o) := (HS.row 1 rfl).get rfl
          have c51 : W12.cell? ⟨g5, 1, none⟩ = some (.bool true) := (HS.row 1 rfl).get rfl
          have c52 : W12.cell? ⟨g5, 2, none⟩ = some (.bool false) := (HS.row 1 rfl).get rfl
          go_wp2_with (first | ((with_reducible refine wpList_plain ?_ ?_); exact rfl; intro KK hKK; refine wp_st_load HS 0 0 24 (.tmp 3) rfl rfl rfl (dskC ⟨p, ep, false⟩) (slab_whole _) _ Try.underlying24 rfl (by exact size_dsk) (hKK _ _ ?_); clear hKK KK))
          clear c50 c51 c52
          refine (HM.out _).mono ?_
          rintro x w5 ⟨rfl, hb⟩
          have HSx := HS.same hb
          clear HS hb
          have HS := HSx
          clear HSx
          go_upto_region 9 with fail
          have hF0 : Wl [(fun W => St w1 noF [⟨g3, 24, dskC ⟨p, ep, false⟩⟩, ⟨g5, 29, askdC ⟨o, true, false, L⟩⟩] W)] 0 (World.drew _) := HS.drew
          clear HS
          refine wp_region_phs [is (.pointer (some ⟨g5, 0, none⟩)), is (.int .i64 o), is (.agg (dskC ⟨p, ep, false⟩)), is (.int .i64 o), is (.bool true), is (.bool true), is (.pointer (some ⟨g5, 1, none⟩)), is (.bool true), is (.bool true), is (.bool true), is (.pointer (some ⟨g3, 2, none⟩)), is (.bool false), is (.bool false), is (.pointer (some ⟨g5, 2, none⟩)), is (.bool false), is (.bool false), is (.bool false), is (.bool false)] [true, true, true, true, true, true, true, true, true, true, true, true, true, true, true, true, true, true] [(fun W => St w1 noF [⟨g3, 24, dskC ⟨p, ep, false⟩⟩, ⟨g5, 29, askdC ⟨o, true, false, L⟩⟩] W)] [false, false, false, false, false, false, false, false, false, false, false, false, false, false, false, false, false, false] [some 0, some 0, some 0, some 0, some 0, some 0, some 0, some 0, some 0, some 0, some 0, some 0, some 0, some 0, some 0, some 0, some 0, some 0] [some 33, some 34, some 35, some 36, some 37, some 38, some 39, some 40, some 41, some 42, some 43, some 44, some 45, some 46, some 47, some 48, some 49, some 7] 18 0 (fun _ => true) rfl rfl (by kernel_rfl) (by kernel_rfl) (by kernel_rfl) (by kernel_rfl) ?_ ?_ ?_ ?_ ?_ ?_
          · repeat first | exact wok_nil | refine wok_cons (by first | exact fun _ _ h k => h.same k) ?_
          · repeat first | exact vok_nil | refine vok_rig (by first | exact fun _ _ _ h => h) ?_ | refine vok_soft (by first | exact fun _ _ _ h _ => h) ?_
          · exact hF0
          · repeat first | exact all_end (by decide) | refine all_cons (by first | exact rfl | exact ⟨rfl, fun _ _ h => Or.inl h⟩ | exact ⟨rfl, fun _ _ h => Or.inr ⟨h, rfl⟩⟩) ?_
          · refine allp_mild 0 rfl rfl rfl (fun a x W hout hin hP => ?_) ?_
            · have e5 : a.tmps[5]? = some (.pointer (some ⟨g5, 0, none⟩)) := (hout 5 (by kernel_rfl)).trans rfl
              clear hin hout
              intro K Q hK
              go_simp
              exact hK _ _ ⟨Same.refl _, rfl⟩
            refine allp_mild 0 rfl rfl rfl (fun a x W hout hin hP => ?_) ?_
            · have e33 := hin.is 0 33 (by kernel_rfl) (by decide) (by kernel_rfl) (by kernel_rfl) _ rfl
              have hc : W.cell? ⟨g5, 0, none⟩ = some (.int .i64 o) := (hP.row 1 rfl).get rfl
              clear hP
              clear hin hout
              intro K Q hK
              go_simp
              exact hK _ _ ⟨Same.refl _, rfl⟩
            refine allp_mild 0 rfl rfl rfl (fun a x W hout hin hP => ?_) ?_
            · have e3 : a.tmps[3]? = some (.pointer (some ⟨g3, 0, none⟩)) := (hout 3 (by kernel_rfl)).trans rfl
              have hr := hP.row 0 rfl
              clear hin hout hP
              intro K Q hK
              exact wp_load_row 24 (.tmp 3) rfl g3 (eval_of_get e3) 24 (dskC ⟨p, ep, false⟩) (0, 0) _ hr Try.underlying24 rfl (by exact size_dsk) (hK _ _ ⟨Same.refl _, rfl⟩)
            refine allp_mild 0 rfl rfl rfl (fun a x W hout hin hP => ?_) ?_
            · have e35 := hin.is 2 35 (by kernel_rfl) (by decide) (by kernel_rfl) (by kernel_rfl) _ rfl
              have C := HOT.out W
              clear hP
              clear hin hout
              intro K Q hK
              go_simp
              refine C.mono ?_
              rintro e W' ⟨rfl, hb⟩
              exact hK _ _ ⟨hb, rfl⟩
            refine allp_mild 0 rfl rfl rfl (fun a x W hout hin hP => ?_) ?_
            · have e34 := hin.is 1 34 (by kernel_rfl) (by decide) (by kernel_rfl) (by kernel_rfl) _ rfl
              have e36 := hin.is 3 36 (by kernel_rfl) (by decide) (by kernel_rfl) (by kernel_rfl) _ rfl
              clear hP
              clear hin hout
              intro K Q hK
              go_simp
              exact hK _ _ ⟨Same.refl _, rfl⟩
            refine allp_mild 0 rfl rfl rfl (fun a x W hout hin hP => ?_) ?_
            · have e37 := hin.is 4 37 (by kernel_rfl) (by decide) (by kernel_rfl) (by kernel_rfl) _ rfl
              exact does_move rfl e37 ⟨Same.refl _, rfl⟩
            refine allp_mild 0 rfl rfl rfl (fun a x W hout hin hP => ?_) ?_
            · have e5 : a.tmps[5]? = some (.pointer (some ⟨g5, 0, none⟩)) := (hout 5 (by kernel_rfl)).trans rfl
              clear hin hout
              intro K Q hK
              go_simp
              exact hK _ _ ⟨Same.refl _, rfl⟩
            refine allp_mild 0 rfl rfl rfl (fun a x W hout hin hP => ?_) ?_
            · have e39 := hin.is 6 39 (by kernel_rfl) (by decide) (by kernel_rfl) (by kernel_rfl) _ rfl
              have hc : W.cell? ⟨g5, 1, none⟩ = some (.bool true) := (hP.row 1 rfl).get rfl
              clear hP
              clear hin hout
              intro K Q hK
              go_simp
              exact hK _ _ ⟨Same.refl _, rfl⟩
            refine allp_mild 0 rfl rfl rfl (fun a x W hout hin hP => ?_) ?_
            · have e38 := hin.is 5 38 (by kernel_rfl) (by decide) (by kernel_rfl) (by kernel_rfl) _ rfl
              have e40 := hin.is 7 40 (by kernel_rfl) (by decide) (by kernel_rfl) (by kernel_rfl) _ rfl
              exact does_pick rfl e38 ⟨Same.refl _, eval_of_get e40⟩
            refine allp_mild 0 rfl rfl rfl (fun a x W hout hin hP => ?_) ?_
            · have e41 := hin.is 8 41 (by kernel_rfl) (by decide) (by kernel_rfl) (by kernel_rfl) _ rfl
              exact does_move rfl e41 ⟨Same.refl _, rfl⟩
            refine allp_mild 0 rfl rfl rfl (fun a x W hout hin hP => ?_) ?_
            · have e3 : a.tmps[3]? = some (.pointer (some ⟨g3, 0, none⟩)) := (hout 3 (by kernel_rfl)).trans rfl
              clear hin hout
              intro K Q hK
              go_simp
              exact hK _ _ ⟨Same.refl _, rfl⟩
            refine allp_mild 0 rfl rfl rfl (fun a x W hout hin hP => ?_) ?_
            · have e43 := hin.is 10 43 (by kernel_rfl) (by decide) (by kernel_rfl) (by kernel_rfl) _ rfl
              have hc : W.cell? ⟨g3, 2, none⟩ = some (.bool false) := (hP.row 0 rfl).get rfl
              clear hP
              clear hin hout
              intro K Q hK
              go_simp
              exact hK _ _ ⟨Same.refl _, rfl⟩
            refine allp_mild 0 rfl rfl rfl (fun a x W hout hin hP => ?_) ?_
            · have e44 := hin.is 11 44 (by kernel_rfl) (by decide) (by kernel_rfl) (by kernel_rfl) _ rfl
              exact does_move rfl e44 ⟨Same.refl _, rfl⟩
            refine allp_mild 0 rfl rfl rfl (fun a x W hout hin hP => ?_) ?_
            · have e5 : a.tmps[5]? = some (.pointer (some ⟨g5, 0, none⟩)) := (hout 5 (by kernel_rfl)).trans rfl
              clear hin hout
              intro K Q hK
              go_simp
              exact hK _ _ ⟨Same.refl _, rfl⟩
            refine allp_mild 0 rfl rfl rfl (fun a x W hout hin hP => ?_) ?_
            · have e46 := hin.is 13 46 (by kernel_rfl) (by decide) (by kernel_rfl) (by kernel_rfl) _ rfl
              have hc : W.cell? ⟨g5, 2, none⟩ = some (.bool false) := (hP.row 1 rfl).get rfl
              clear hP
              clear hin hout
              intro K Q hK
              go_simp
              exact hK _ _ ⟨Same.refl _, rfl⟩
            refine allp_mild 0 rfl rfl rfl (fun a x W hout hin hP => ?_) ?_
            · have e45 := hin.is 12 45 (by kernel_rfl) (by decide) (by kernel_rfl) (by kernel_rfl) _ rfl
              have e47 := hin.is 14 47 (by kernel_rfl) (by decide) (by kernel_rfl) (by kernel_rfl) _ rfl
              exact does_pick rfl e45 ⟨Same.refl _, eval_of_get e47⟩
            refine allp_mild 0 rfl rfl rfl (fun a x W hout hin hP => ?_) ?_
            · have e42 := hin.is 9 42 (by kernel_rfl) (by decide) (by kernel_rfl) (by kernel_rfl) _ rfl
              have e48 := hin.is 15 48 (by kernel_rfl) (by decide) (by kernel_rfl) (by kernel_rfl) _ rfl
              exact does_pick rfl e42 ⟨Same.refl _, eval_of_get e48⟩
            refine allp_mild 0 rfl rfl rfl (fun a x W hout hin hP => ?_) ?_
            · have e49 := hin.is 16 49 (by kernel_rfl) (by decide) (by kernel_rfl) (by kernel_rfl) _ rfl
              exact does_assign rfl e49 ⟨Same.refl _, rfl⟩
            exact all_end (by decide)
          · intro x W hP hV
            have HSx := hP
            have h17 : x 17 = .bool false := hV 17 (by decide) (.inl (by kernel_rfl))
            clear hV hP
            have HS := HSx
            clear HSx
            simp only [putL, Act.put, List.setIfInBounds_toArray, List.set_cons_succ, List.set_cons_zero, h17]
            simp only [Nat.zero_add, Nat.reduceAdd]
            refine wpAnyH_done (by kernel_rfl) ?_ _
            clear h17
            have hM0 := HM0.out
            go_wp2_with fail
            exact ⟨⟨k + 1, ⟨p, ep, false⟩, by omega, by go_num, HP.out, HS.take 1⟩, by simp [intOf]; omega⟩

        have HOT : Hid (∀ w, Calls Try.prog 7 #[.agg (dskC ⟨p, ep, false⟩)] w fun x w' => x = .returned (.int .i64 o) ∧ Below w.heap.size w w') := Lib.hid (fun w => HOO.out _ w)
        have HM : Hid (∀ w, Calls Try.prog 9 #[.agg (dskC ⟨p, ep, false⟩), .int .i64 o, .bool true, .bool true] w fun x w' => x = .returned (.int .i64 0) ∧ Below w.heap.size w w') := Lib.hid (fun w => by have := may_any ⟨p, ep, false⟩ o true true w; rw [(may_right p o o ep false true true HP.out (HOE.out _)).2 (by simp)] at this; exact this)
        have HFR : Hid (∀ w, Calls Try.prog 11 #[.agg (dskC ⟨p, ep, false⟩), .agg (dlabC L)] w fun x w' => x = .returned (.agg (dlabC ⟨ep + 1#32, 0#32, 1#32, 4095#16, 0#16⟩)) ∧ Below w.heap.size w w') := Lib.hid (fun w => fresh_any ⟨p, ep, false⟩ L w)
        have HTU : Hid (∀ w, Calls Try.prog 13 #[.agg (dskC ⟨p, ep, false⟩), .int .i64 o, .int .u16 (hd 4095#16)] w fun x w' => x = .returned (.agg (dskC ⟨o, ep + 1#32, decide (4095#16 = 0#16)⟩)) ∧ Below w.heap.size w w') := Lib.hid (fun w => turn_dsk ⟨p, ep, false⟩ o 4095#16 w)
        go_upto_region 8 with (first | ((with_reducible refine wpList_plain ?_ ?_); exact rfl; intro KK hKK; refine wp_load_mid 29 (.tmp 23) rfl b O rfl (askdC ⟨o, true, true, L⟩).toList _ HR.out Try.underlying29 rfl (by exact size_asked) (hKK _ _ ?_); clear hKK KK) | ((with_reducible refine wpList_plain ?_ ?_); exact rfl; intro KK hKK; refine wp_st_alloc HS 29 (#[.int .i64 0, .bool false, .bool false, .int .u32 0, .int .u32 0, .int .u32 0, .int .u16 0, .int .u16 0]) rfl (.agg (#[.int .i64 0, .bool false, .bool false, .int .u32 0, .int .u32 0, .int .u32 0, .int .u16 0, .int .u16 0])) (by kernel_rfl) (rfl) (fun g5 W11 HSx => hKK _ _ ?_); clear hKK KK HS; have HS : St w1 noF [⟨g3, 24, dskC ⟨p, ep, false⟩⟩, ⟨g5, 29, #[.int .i64 0, .bool false, .bool false, .int .u32 0, .int .u32 0, .int .u32 0, .int .u16 0, .int .u16 0]⟩] W11 := HSx; clear HSx) | ((with_reducible refine wpList_plain ?_ ?_); exact rfl; intro KK hKK; refine wp_st_store HS 1 0 29 (.tmp 5) (.tmp 24) rfl rfl rfl (.agg (askdC ⟨o, true, true, L⟩)) rfl (by exact size_asked) (Nat.le_refl 8) (by exact one_asked ⟨o, true, true, L⟩) (askdC ⟨o, true, true, L⟩) (by exact spl_agg _ _ _ rfl rfl) (fun W12 HSx => hKK _ _ ?_); clear hKK KK HS; have HS : St w1 noF [⟨g3, 24, dskC ⟨p, ep, false⟩⟩, ⟨g5, 29, askdC ⟨o, true, true, L⟩⟩] W12 := HSx; clear HSx))
        have c50 : W12.cell? ⟨g5, 0, none⟩ = some (.int .i64 o) := (HS.row 1 rfl).get rfl
        have c51 : W12.cell? ⟨g5, 1, none⟩ = some (.bool true) := (HS.row 1 rfl).get rfl
        have c52 : W12.cell? ⟨g5, 2, none⟩ = some (.bool true) := (HS.row 1 rfl).get rfl
        go_wp2_with (first | ((with_reducible refine wpList_plain ?_ ?_); exact rfl; intro KK hKK; refine wp_st_load HS 0 0 24 (.tmp 3) rfl rfl rfl (dskC ⟨p, ep, false⟩) (slab_whole _) _ Try.underlying24 rfl (by exact size_dsk) (hKK _ _ ?_); clear hKK KK))
        clear c50 c51 c52
        refine (HM.out _).mono ?_
        rintro x w5 ⟨rfl, hb⟩
        have HSx := HS.same hb
        clear HS hb
        have HS := HSx
        clear HSx
        go_upto_region 9 with fail
        have hF0 : Wl [(fun W => St w1 noF [⟨g3, 24, dskC ⟨p, ep, false⟩⟩, ⟨g5, 29, askdC ⟨o, true, true, L⟩⟩] W)] 0 (World.drew _) := HS.drew
        clear HS
        refine wp_region_phs [is (.pointer (some ⟨g5, 0, none⟩)), is (.int .i64 o), is (.agg (dskC ⟨p, ep, false⟩)), is (.int .i64 o), is (.bool true), is (.bool true), is (.pointer (some ⟨g5, 1, none⟩)), is (.bool true), is (.bool true), is (.bool true), is (.pointer (some ⟨g3, 2, none⟩)), is (.bool false), is (.bool false), is (.pointer (some ⟨g5, 2, none⟩)), is (.bool true), is (.bool true), is (.bool true), is (.bool true)] [true, true, true, true, true, true, true, true, true, true, true, true, true, true, true, true, true, true] [(fun W => St w1 noF [⟨g3, 24, dskC ⟨p, ep, false⟩⟩, ⟨g5, 29, askdC ⟨o, true, true, L⟩⟩] W)] [false, false, false, false, false, false, false, false, false, false, false, false, false, false, false, false, false, false] [some 0, some 0, some 0, some 0, some 0, some 0, some 0, some 0, some 0, some 0, some 0, some 0, some 0, some 0, some 0, some 0, some 0, some 0] [some 33, some 34, some 35, some 36, some 37, some 38, some 39, some 40, some 41, some 42, some 43, some 44, some 45, some 46, some 47, some 48, some 49, some 7] 18 0 (fun _ => true) rfl rfl (by kernel_rfl) (by kernel_rfl) (by kernel_rfl) (by kernel_rfl) ?_ ?_ ?_ ?_ ?_ ?_
        · repeat first | exact wok_nil | refine wok_cons (by first | exact fun _ _ h k => h.same k) ?_
        · repeat first | exact vok_nil | refine vok_rig (by first | exact fun _ _ _ h => h) ?_ | refine vok_soft (by first | exact fun _ _ _ h _ => h) ?_
        · exact hF0
        · repeat first | exact all_end (by decide) | refine all_cons (by first | exact rfl | exact ⟨rfl, fun _ _ h => Or.inl h⟩ | exact ⟨rfl, fun _ _ h => Or.inr ⟨h, rfl⟩⟩) ?_
        · refine allp_mild 0 rfl rfl rfl (fun a x W hout hin hP => ?_) ?_
          · have e5 : a.tmps[5]? = some (.pointer (some ⟨g5, 0, none⟩)) := (hout 5 (by kernel_rfl)).trans rfl
            clear hin hout
            intro K Q hK
            go_simp
            exact hK _ _ ⟨Same.refl _, rfl⟩
          refine allp_mild 0 rfl rfl rfl (fun a x W hout hin hP => ?_) ?_
          · have e33 := hin.is 0 33 (by kernel_rfl) (by decide) (by kernel_rfl) (by kernel_rfl) _ rfl
            have hc : W.cell? ⟨g5, 0, none⟩ = some (.int .i64 o) := (hP.row 1 rfl).get rfl
            clear hP
            clear hin hout
            intro K Q hK
            go_simp
            exact hK _ _ ⟨Same.refl _, rfl⟩
          refine allp_mild 0 rfl rfl rfl (fun a x W hout hin hP => ?_) ?_
          · have e3 : a.tmps[3]? = some (.pointer (some ⟨g3, 0, none⟩)) := (hout 3 (by kernel_rfl)).trans rfl
            have hr := hP.row 0 rfl
            clear hin hout hP
            intro K Q hK
            exact wp_load_row 24 (.tmp 3) rfl g3 (eval_of_get e3) 24 (dskC ⟨p, ep, false⟩) (0, 0) _ hr Try.underlying24 rfl (by exact size_dsk) (hK _ _ ⟨Same.refl _, rfl⟩)
          refine allp_mild 0 rfl rfl rfl (fun a x W hout hin hP => ?_) ?_
          · have e35 := hin.is 2 35 (by kernel_rfl) (by decide) (by kernel_rfl) (by kernel_rfl) _ rfl
            have C := HOT.out W
            clear hP
            clear hin hout
            intro K Q hK
            go_simp
            refine C.mono ?_
            rintro e W' ⟨rfl, hb⟩
            exact hK _ _ ⟨hb, rfl⟩
          refine allp_mild 0 rfl rfl rfl (fun a x W hout hin hP => ?_) ?_
          · have e34 := hin.is 1 34 (by kernel_rfl) (by decide) (by kernel_rfl) (by kernel_rfl) _ rfl
            have e36 := hin.is 3 36 (by kernel_rfl) (by decide) (by kernel_rfl) (by kernel_rfl) _ rfl
            clear hP
            clear hin hout
            intro K Q hK
            go_simp
            exact hK _ _ ⟨Same.refl _, rfl⟩
          refine allp_mild 0 rfl rfl rfl (fun a x W hout hin hP => ?_) ?_
          · have e37 := hin.is 4 37 (by kernel_rfl) (by decide) (by kernel_rfl) (by kernel_rfl) _ rfl
            exact does_move rfl e37 ⟨Same.refl _, rfl⟩
          refine allp_mild 0 rfl rfl rfl (fun a x W hout hin hP => ?_) ?_
          · have e5 : a.tmps[5]? = some (.pointer (some ⟨g5, 0, none⟩)) := (hout 5 (by kernel_rfl)).trans rfl
            clear hin hout
            intro K Q hK
            go_simp
            exact hK _ _ ⟨Same.refl _, rfl⟩
          refine allp_mild 0 rfl rfl rfl (fun a x W hout hin hP => ?_) ?_
          · have e39 := hin.is 6 39 (by kernel_rfl) (by decide) (by kernel_rfl) (by kernel_rfl) _ rfl
            have hc : W.cell? ⟨g5, 1, none⟩ = some (.bool true) := (hP.row 1 rfl).get rfl
            clear hP
            clear hin hout
            intro K Q hK
            go_simp
            exact hK _ _ ⟨Same.refl _, rfl⟩
          refine allp_mild 0 rfl rfl rfl (fun a x W hout hin hP => ?_) ?_
          · have e38 := hin.is 5 38 (by kernel_rfl) (by decide) (by kernel_rfl) (by kernel_rfl) _ rfl
            have e40 := hin.is 7 40 (by kernel_rfl) (by decide) (by kernel_rfl) (by kernel_rfl) _ rfl
            exact does_pick rfl e38 ⟨Same.refl _, eval_of_get e40⟩
          refine allp_mild 0 rfl rfl rfl (fun a x W hout hin hP => ?_) ?_
          · have e41 := hin.is 8 41 (by kernel_rfl) (by decide) (by kernel_rfl) (by kernel_rfl) _ rfl
            exact does_move rfl e41 ⟨Same.refl _, rfl⟩
          refine allp_mild 0 rfl rfl rfl (fun a x W hout hin hP => ?_) ?_
          · have e3 : a.tmps[3]? = some (.pointer (some ⟨g3, 0, none⟩)) := (hout 3 (by kernel_rfl)).trans rfl
            clear hin hout
            intro K Q hK
            go_simp
            exact hK _ _ ⟨Same.refl _, rfl⟩
          refine allp_mild 0 rfl rfl rfl (fun a x W hout hin hP => ?_) ?_
          · have e43 := hin.is 10 43 (by kernel_rfl) (by decide) (by kernel_rfl) (by kernel_rfl) _ rfl
            have hc : W.cell? ⟨g3, 2, none⟩ = some (.bool false) := (hP.row 0 rfl).get rfl
            clear hP
            clear hin hout
            intro K Q hK
            go_simp
            exact hK _ _ ⟨Same.refl _, rfl⟩
          refine allp_mild 0 rfl rfl rfl (fun a x W hout hin hP => ?_) ?_
          · have e44 := hin.is 11 44 (by kernel_rfl) (by decide) (by kernel_rfl) (by kernel_rfl) _ rfl
            exact does_move rfl e44 ⟨Same.refl _, rfl⟩
          refine allp_mild 0 rfl rfl rfl (fun a x W hout hin hP => ?_) ?_
          · have e5 : a.tmps[5]? = some (.pointer (some ⟨g5, 0, none⟩)) := (hout 5 (by kernel_rfl)).trans rfl
            clear hin hout
            intro K Q hK
            go_simp
            exact hK _ _ ⟨Same.refl _, rfl⟩
          refine allp_mild 0 rfl rfl rfl (fun a x W hout hin hP => ?_) ?_
          · have e46 := hin.is 13 46 (by kernel_rfl) (by decide) (by kernel_rfl) (by kernel_rfl) _ rfl
            have hc : W.cell? ⟨g5, 2, none⟩ = some (.bool true) := (hP.row 1 rfl).get rfl
            clear hP
            clear hin hout
            intro K Q hK
            go_simp
            exact hK _ _ ⟨Same.refl _, rfl⟩
          refine allp_mild 0 rfl rfl rfl (fun a x W hout hin hP => ?_) ?_
          · have e45 := hin.is 12 45 (by kernel_rfl) (by decide) (by kernel_rfl) (by kernel_rfl) _ rfl
            have e47 := hin.is 14 47 (by kernel_rfl) (by decide) (by kernel_rfl) (by kernel_rfl) _ rfl
            exact does_pick rfl e45 ⟨Same.refl _, eval_of_get e47⟩
          refine allp_mild 0 rfl rfl rfl (fun a x W hout hin hP => ?_) ?_
          · have e42 := hin.is 9 42 (by kernel_rfl) (by decide) (by kernel_rfl) (by kernel_rfl) _ rfl
            have e48 := hin.is 15 48 (by kernel_rfl) (by decide) (by kernel_rfl) (by kernel_rfl) _ rfl
            exact does_pick rfl e42 ⟨Same.refl _, eval_of_get e48⟩
          refine allp_mild 0 rfl rfl rfl (fun a x W hout hin hP => ?_) ?_
          · have e49 := hin.is 16 49 (by kernel_rfl) (by decide) (by kernel_rfl) (by kernel_rfl) _ rfl
            exact does_assign rfl e49 ⟨Same.refl _, rfl⟩
          exact all_end (by decide)
        · intro x W hP hV
          have HSx := hP
          have h17 : x 17 = .bool true := hV 17 (by decide) (.inl (by kernel_rfl))
          clear hV hP
          have HS := HSx
          clear HSx
          simp only [putL, Act.put, List.setIfInBounds_toArray, List.set_cons_succ, List.set_cons_zero, h17]
          simp only [Nat.zero_add, Nat.reduceAdd]
          refine wpAnyH_done (by kernel_rfl) ?_ _
          clear h17
          go_upto_region 13 with fail
          go_wp2_with (first | ((with_reducible refine wpList_plain ?_ ?_); exact rfl; intro KK hKK; refine wp_st_load HS 0 0 24 (.tmp 3) rfl rfl rfl (dskC ⟨p, ep, false⟩) (slab_whole _) _ Try.underlying24 rfl (by exact size_dsk) (hKK _ _ ?_); clear hKK KK) | ((with_reducible refine wpList_plain ?_ ?_); exact rfl; intro KK hKK; refine wp_load_mid 27 (.tmp 57) rfl g5 3 rfl (dlabC L).toList _ ((HS.row 1 rfl).slab 3 _ rfl) Try.underlying27 rfl (by exact size_dlab) (hKK _ _ ?_); clear hKK KK))
          refine (HFR.out _).mono ?_
          rintro x w6 ⟨rfl, hb⟩
          have HSx := HS.same hb
          clear HS hb
          have HS := HSx
          clear HSx
          go_upto_region 14 with (first | ((with_reducible refine wpList_plain ?_ ?_); exact rfl; intro KK hKK; refine wp_st_alloc HS 27 (#[.int .u32 0, .int .u32 0, .int .u32 0, .int .u16 0, .int .u16 0]) rfl (.agg (#[.int .u32 0, .int .u32 0, .int .u32 0, .int .u16 0, .int .u16 0])) (by kernel_rfl) (rfl) (fun g8 W21 HSx => hKK _ _ ?_); clear hKK KK HS; have HS : St w1 noF [⟨g3, 24, dskC ⟨p, ep, false⟩⟩, ⟨g5, 29, askdC ⟨o, true, true, L⟩⟩, ⟨g8, 27, #[.int .u32 0, .int .u32 0, .int .u32 0, .int .u16 0, .int .u16 0]⟩] W21 := HSx; clear HSx) | ((with_reducible refine wpList_plain ?_ ?_); exact rfl; intro KK hKK; refine wp_st_store HS 2 0 27 (.tmp 8) (.tmp 59) rfl rfl rfl (.agg (dlabC ⟨ep + 1#32, 0#32, 1#32, 4095#16, 0#16⟩)) rfl (by exact size_dlab) (Nat.le_refl 5) (by exact one_dlab ⟨ep + 1#32, 0#32, 1#32, 4095#16, 0#16⟩) (dlabC ⟨ep + 1#32, 0#32, 1#32, 4095#16, 0#16⟩) (by exact spl_agg _ _ _ rfl rfl) (fun W22 HSx => hKK _ _ ?_); clear hKK KK HS; have HS : St w1 noF [⟨g3, 24, dskC ⟨p, ep, false⟩⟩, ⟨g5, 29, askdC ⟨o, true, true, L⟩⟩, ⟨g8, 27, dlabC ⟨ep + 1#32, 0#32, 1#32, 4095#16, 0#16⟩⟩] W22 := HSx; clear HSx))
          go_upto_region 15 with (first | ((with_reducible refine wpList_plain ?_ ?_); exact rfl; intro KK hKK; refine wp_st_load HS 0 0 24 (.tmp 3) rfl rfl rfl (dskC ⟨p, ep, false⟩) (slab_whole _) _ Try.underlying24 rfl (by exact size_dsk) (hKK _ _ ?_); clear hKK KK) | ((with_reducible refine wpList_plain ?_ ?_); exact rfl; intro KK hKK; refine wp_st_alloc HS 24 (#[.int .i64 0, .int .u32 0, .bool false]) rfl (.agg (#[.int .i64 0, .int .u32 0, .bool false])) (by kernel_rfl) (rfl) (fun g9 W23 HSx => hKK _ _ ?_); clear hKK KK HS; have HS : St w1 noF [⟨g3, 24, dskC ⟨p, ep, false⟩⟩, ⟨g5, 29, askdC ⟨o, true, true, L⟩⟩, ⟨g8, 27, dlabC ⟨ep + 1#32, 0#32, 1#32, 4095#16, 0#16⟩⟩, ⟨g9, 24, #[.int .i64 0, .int .u32 0, .bool false]⟩] W23 := HSx; clear HSx) | ((with_reducible refine wpList_plain ?_ ?_); exact rfl; intro KK hKK; refine wp_st_store HS 3 0 24 (.tmp 9) (.tmp 60) rfl rfl rfl (.agg (dskC ⟨p, ep, false⟩)) rfl (by exact size_dsk) (Nat.le_refl 3) (by exact one_dsk ⟨p, ep, false⟩) (dskC ⟨p, ep, false⟩) (by exact spl_agg _ _ _ rfl rfl) (fun W24 HSx => hKK _ _ ?_); clear hKK KK HS; have HS : St w1 noF [⟨g3, 24, dskC ⟨p, ep, false⟩⟩, ⟨g5, 29, askdC ⟨o, true, true, L⟩⟩, ⟨g8, 27, dlabC ⟨ep + 1#32, 0#32, 1#32, 4095#16, 0#16⟩⟩, ⟨g9, 24, dskC ⟨p, ep, false⟩⟩] W24 := HSx; clear HSx))
          have c50 : W24.cell? ⟨g5, 0, none⟩ = some (.int .i64 o) := (HS.row 1 rfl).get rfl
          have c83 : W24.cell? ⟨g8, 3, none⟩ = some (.int .u16 (hd 4095#16)) := (HS.row 2 rfl).get rfl
          go_wp2_with (first | ((with_reducible refine wpList_plain ?_ ?_); exact rfl; intro KK hKK; refine wp_st_load HS 0 0 24 (.tmp 3) rfl rfl rfl (dskC ⟨p, ep, false⟩) (slab_whole _) _ Try.underlying24 rfl (by exact size_dsk) (hKK _ _ ?_); clear hKK KK))
          clear c50 c83
          refine (HTU.out _).mono ?_
          rintro x w7 ⟨rfl, hb⟩
          have HSx := HS.same hb
          clear HS hb
          have HS := HSx
          clear HSx
          go_upto_region 16 with (first | ((with_reducible refine wpList_plain ?_ ?_); exact rfl; intro KK hKK; refine wp_st_store HS 0 0 24 (.tmp 3) (.tmp 66) rfl rfl rfl (.agg (dskC ⟨o, ep + 1#32, decide (4095#16 = 0#16)⟩)) rfl (by exact size_dsk) (Nat.le_refl 3) (by exact one_dsk ⟨o, ep + 1#32, decide (4095#16 = 0#16)⟩) (dskC ⟨o, ep + 1#32, decide (4095#16 = 0#16)⟩) (by exact spl_agg _ _ _ rfl rfl) (fun W25 HSx => hKK _ _ ?_); clear hKK KK HS; have HS : St w1 noF [⟨g3, 24, dskC ⟨o, ep + 1#32, decide (4095#16 = 0#16)⟩⟩, ⟨g5, 29, askdC ⟨o, true, true, L⟩⟩, ⟨g8, 27, dlabC ⟨ep + 1#32, 0#32, 1#32, 4095#16, 0#16⟩⟩, ⟨g9, 24, dskC ⟨p, ep, false⟩⟩] W25 := HSx; clear HSx))
          have hF0 : Wl [(fun W => St w1 noF [⟨g3, 24, dskC ⟨o, ep + 1#32, decide (4095#16 = 0#16)⟩⟩, ⟨g5, 29, askdC ⟨o, true, true, L⟩⟩, ⟨g8, 27, dlabC ⟨ep + 1#32, 0#32, 1#32, 4095#16, 0#16⟩⟩, ⟨g9, 24, dskC ⟨p, ep, false⟩⟩] W)] 0 (World.drew _) := HS.drew
          clear HS
          refine wp_region_phs [is (.pointer (some ⟨g3, 0, none⟩)), is (.int .i64 o), is (.pointer (some ⟨g5, 0, none⟩)), is (.int .i64 o), is (.bool false), is (.bool false), is (.pointer (some ⟨g3, 1, none⟩)), is (.int .u32 (wd (ep + 1#32))), is (.pointer (some ⟨g9, 1, none⟩)), is (.int .u32 (wd ep)), is (.int .u32 (wd (ep + 1#32))), is (.bool false), is (.bool false), is (.bool false), is (.pointer (some ⟨g8, 0, none⟩)), is (.int .u32 (wd (ep + 1#32))), is (.pointer (some ⟨g3, 1, none⟩)), is (.int .u32 (wd (ep + 1#32))), is (.bool false), is (.bool false), is (.bool false), is (.pointer (some ⟨g8, 1, none⟩)), is (.int .u32 0), is (.bool false), is (.bool false), is (.bool false), is (.pointer (some ⟨g8, 2, none⟩)), is (.int .u32 1), is (.bool false), is (.bool false), is (.bool false), is (.pointer (some ⟨g3, 2, none⟩)), is (.bool (decide (4095#16 = 0#16))), is (.pointer (some ⟨g8, 3, none⟩)), is (.int .u16 (hd 4095#16)), is (.bool (decide (4095#16 = 0#16))), is (.bool false), is (.bool false), is (.bool false), is (.agg (dskC ⟨o, ep + 1#32, decide (4095#16 = 0#16)⟩)), is (.int .i64 p), is (.pointer (some ⟨g9, 0, none⟩)), is (.int .i64 p), is (.bool false), is (.bool false)] [true, true, true, true, true, true, true, true, true, true, true, true, true, true, true, true, true, true, true, true, true, true, true, true, true, true, true, true, true, true, true, true, true, true, true, true, true, true, true, true, true, true, true, true, true] [(fun W => St w1 noF [⟨g3, 24, dskC ⟨o, ep + 1#32, decide (4095#16 = 0#16)⟩⟩, ⟨g5, 29, askdC ⟨o, true, true, L⟩⟩, ⟨g8, 27, dlabC ⟨ep + 1#32, 0#32, 1#32, 4095#16, 0#16⟩⟩, ⟨g9, 24, dskC ⟨p, ep, false⟩⟩] W)] [false, false, false, false, false, false, false, false, false, false, false, false, false, false, false, false, false, false, false, false, false, false, false, false, false, false, false, false, false, false, false, false, false, false, false, false, false, false, false, false, false, false, false, false, false] [some 0, some 0, some 0, some 0, some 0, some 0, some 0, some 0, some 0, some 0, some 0, some 0, some 0, some 0, some 0, some 0, some 0, some 0, some 0, some 0, some 0, some 0, some 0, some 0, some 0, some 0, some 0, some 0, some 0, some 0, some 0, some 0, some 0, some 0, some 0, some 0, some 0, some 0, some 0, some 0, some 0, some 0, some 0, some 0, some 0] [some 67, some 68, some 69, some 70, some 71, some 72, some 73, some 74, some 75, some 76, some 77, some 78, some 79, some 80, some 81, some 82, some 83, some 84, some 85, some 86, some 87, some 88, some 89, some 90, some 91, some 92, some 93, some 94, some 95, some 96, some 97, some 98, some 99, some 100, some 101, some 102, some 103, some 104, some 105, some 106, some 107, some 108, some 109, some 110, some 111] 45 0 (fun _ => true) rfl rfl (by kernel_rfl) (by kernel_rfl) (by kernel_rfl) (by kernel_rfl) ?_ ?_ ?_ ?_ ?_ ?_
          · repeat first | exact wok_nil | refine wok_cons (by first | exact fun _ _ h k => h.same k) ?_
          · repeat first | exact vok_nil | refine vok_rig (by first | exact fun _ _ _ h => h) ?_ | refine vok_soft (by first | exact fun _ _ _ h _ => h) ?_
          · exact hF0
          · repeat first | exact all_end (by decide) | refine all_cons (by first | exact rfl | exact ⟨rfl, fun _ _ h => Or.inl h⟩ | exact ⟨rfl, fun _ _ h => Or.inr ⟨h, rfl⟩⟩) ?_
          · refine allp_mild 0 rfl rfl rfl (fun a x W hout hin hP => ?_) ?_
            · have e3 : a.tmps[3]? = some (.pointer (some ⟨g3, 0, none⟩)) := (hout 3 (by kernel_rfl)).trans rfl
              clear hin hout
              intro K Q hK
              go_simp
              exact hK _ _ ⟨Same.refl _, rfl⟩
            refine allp_mild 0 rfl rfl rfl (fun a x W hout hin hP => ?_) ?_
            · have e67 := hin.is 0 67 (by kernel_rfl) (by decide) (by kernel_rfl) (by kernel_rfl) _ rfl
              have hc : W.cell? ⟨g3, 0, none⟩ = some (.int .i64 o) := (hP.row 0 rfl).get rfl
              clear hP
              clear hin hout
              intro K Q hK
              go_simp
              exact hK _ _ ⟨Same.refl _, rfl⟩
            refine allp_mild 0 rfl rfl rfl (fun a x W hout hin hP => ?_) ?_
            · have e5 : a.tmps[5]? = some (.pointer (some ⟨g5, 0, none⟩)) := (hout 5 (by kernel_rfl)).trans rfl
              clear hin hout
              intro K Q hK
              go_simp
              exact hK _ _ ⟨Same.refl _, rfl⟩
            refine allp_mild 0 rfl rfl rfl (fun a x W hout hin hP => ?_) ?_
            · have e69 := hin.is 2 69 (by kernel_rfl) (by decide) (by kernel_rfl) (by kernel_rfl) _ rfl
              have hc : W.cell? ⟨g5, 0, none⟩ = some (.int .i64 o) := (hP.row 1 rfl).get rfl
              clear hP
              clear hin hout
              intro K Q hK
              go_simp
              exact hK _ _ ⟨Same.refl _, rfl⟩
            refine allp_mild 0 rfl rfl rfl (fun a x W hout hin hP => ?_) ?_
            · have e68 := hin.is 1 68 (by kernel_rfl) (by decide) (by kernel_rfl) (by kernel_rfl) _ rfl
              have e70 := hin.is 3 70 (by kernel_rfl) (by decide) (by kernel_rfl) (by kernel_rfl) _ rfl
              clear hP
              clear hin hout
              intro K Q hK
              go_simp
              exact hK _ _ ⟨Same.refl _, rfl⟩
            refine allp_mild 0 rfl rfl rfl (fun a x W hout hin hP => ?_) ?_
            · have e71 := hin.is 4 71 (by kernel_rfl) (by decide) (by kernel_rfl) (by kernel_rfl) _ rfl
              exact does_move rfl e71 ⟨Same.refl _, rfl⟩
            refine allp_mild 0 rfl rfl rfl (fun a x W hout hin hP => ?_) ?_
            · have e3 : a.tmps[3]? = some (.pointer (some ⟨g3, 0, none⟩)) := (hout 3 (by kernel_rfl)).trans rfl
              clear hin hout
              intro K Q hK
              go_simp
              exact hK _ _ ⟨Same.refl _, rfl⟩
            refine allp_mild 0 rfl rfl rfl (fun a x W hout hin hP => ?_) ?_
            · have e73 := hin.is 6 73 (by kernel_rfl) (by decide) (by kernel_rfl) (by kernel_rfl) _ rfl
              have hc : W.cell? ⟨g3, 1, none⟩ = some (.int .u32 (wd (ep + 1#32))) := (hP.row 0 rfl).get rfl
              clear hP
              clear hin hout
              intro K Q hK
              go_simp
              exact hK _ _ ⟨Same.refl _, rfl⟩
            refine allp_mild 0 rfl rfl rfl (fun a x W hout hin hP => ?_) ?_
            · have e9 : a.tmps[9]? = some (.pointer (some ⟨g9, 0, none⟩)) := (hout 9 (by kernel_rfl)).trans rfl
              clear hin hout
              intro K Q hK
              go_simp
              exact hK _ _ ⟨Same.refl _, rfl⟩
            refine allp_mild 0 rfl rfl rfl (fun a x W hout hin hP => ?_) ?_
            · have e75 := hin.is 8 75 (by kernel_rfl) (by decide) (by kernel_rfl) (by kernel_rfl) _ rfl
              have hc : W.cell? ⟨g9, 1, none⟩ = some (.int .u32 (wd ep)) := (hP.row 3 rfl).get rfl
              clear hP
              clear hin hout
              intro K Q hK
              go_simp
              exact hK _ _ ⟨Same.refl _, rfl⟩
            refine allp_mild 0 rfl rfl rfl (fun a x W hout hin hP => ?_) ?_
            · have e76 := hin.is 9 76 (by kernel_rfl) (by decide) (by kernel_rfl) (by kernel_rfl) _ rfl
              have hw := wd_succ ep
              clear hP
              clear hin hout
              intro K Q hK
              go_simp
              exact hK _ _ ⟨Same.refl _, rfl⟩
            refine allp_mild 0 rfl rfl rfl (fun a x W hout hin hP => ?_) ?_
            · have e74 := hin.is 7 74 (by kernel_rfl) (by decide) (by kernel_rfl) (by kernel_rfl) _ rfl
              have e77 := hin.is 10 77 (by kernel_rfl) (by decide) (by kernel_rfl) (by kernel_rfl) _ rfl
              clear hP
              clear hin hout
              intro K Q hK
              go_simp
              exact hK _ _ ⟨Same.refl _, rfl⟩
            refine allp_mild 0 rfl rfl rfl (fun a x W hout hin hP => ?_) ?_
            · have e72 := hin.is 5 72 (by kernel_rfl) (by decide) (by kernel_rfl) (by kernel_rfl) _ rfl
              have e78 := hin.is 11 78 (by kernel_rfl) (by decide) (by kernel_rfl) (by kernel_rfl) _ rfl
              exact does_pick rfl e72 ⟨Same.refl _, eval_of_get e78⟩
            refine allp_mild 0 rfl rfl rfl (fun a x W hout hin hP => ?_) ?_
            · have e79 := hin.is 12 79 (by kernel_rfl) (by decide) (by kernel_rfl) (by kernel_rfl) _ rfl
              exact does_move rfl e79 ⟨Same.refl _, rfl⟩
            refine allp_mild 0 rfl rfl rfl (fun a x W hout hin hP => ?_) ?_
            · have e8 : a.tmps[8]? = some (.pointer (some ⟨g8, 0, none⟩)) := (hout 8 (by kernel_rfl)).trans rfl
              clear hin hout
              intro K Q hK
              go_simp
              exact hK _ _ ⟨Same.refl _, rfl⟩
            refine allp_mild 0 rfl rfl rfl (fun a x W hout hin hP => ?_) ?_
            · have e81 := hin.is 14 81 (by kernel_rfl) (by decide) (by kernel_rfl) (by kernel_rfl) _ rfl
              have hc : W.cell? ⟨g8, 0, none⟩ = some (.int .u32 (wd (ep + 1#32))) := (hP.row 2 rfl).get rfl
              clear hP
              clear hin hout
              intro K Q hK
              go_simp
              exact hK _ _ ⟨Same.refl _, rfl⟩
            refine allp_mild 0 rfl rfl rfl (fun a x W hout hin hP => ?_) ?_
            · have e3 : a.tmps[3]? = some (.pointer (some ⟨g3, 0, none⟩)) := (hout 3 (by kernel_rfl)).trans rfl
              clear hin hout
              intro K Q hK
              go_simp
              exact hK _ _ ⟨Same.refl _, rfl⟩
            refine allp_mild 0 rfl rfl rfl (fun a x W hout hin hP => ?_) ?_
            · have e83 := hin.is 16 83 (by kernel_rfl) (by decide) (by kernel_rfl) (by kernel_rfl) _ rfl
              have hc : W.cell? ⟨g3, 1, none⟩ = some (.int .u32 (wd (ep + 1#32))) := (hP.row 0 rfl).get rfl
              clear hP
              clear hin hout
              intro K Q hK
              go_simp
              exact hK _ _ ⟨Same.refl _, rfl⟩
            refine allp_mild 0 rfl rfl rfl (fun a x W hout hin hP => ?_) ?_
            · have e82 := hin.is 15 82 (by kernel_rfl) (by decide) (by kernel_rfl) (by kernel_rfl) _ rfl
              have e84 := hin.is 17 84 (by kernel_rfl) (by decide) (by kernel_rfl) (by kernel_rfl) _ rfl
              clear hP
              clear hin hout
              intro K Q hK
              go_simp
              exact hK _ _ ⟨Same.refl _, rfl⟩
            refine allp_mild 0 rfl rfl rfl (fun a x W hout hin hP => ?_) ?_
            · have e80 := hin.is 13 80 (by kernel_rfl) (by decide) (by kernel_rfl) (by kernel_rfl) _ rfl
              have e85 := hin.is 18 85 (by kernel_rfl) (by decide) (by kernel_rfl) (by kernel_rfl) _ rfl
              exact does_pick rfl e80 ⟨Same.refl _, eval_of_get e85⟩
            refine allp_mild 0 rfl rfl rfl (fun a x W hout hin hP => ?_) ?_
            · have e86 := hin.is 19 86 (by kernel_rfl) (by decide) (by kernel_rfl) (by kernel_rfl) _ rfl
              exact does_move rfl e86 ⟨Same.refl _, rfl⟩
            refine allp_mild 0 rfl rfl rfl (fun a x W hout hin hP => ?_) ?_
            · have e8 : a.tmps[8]? = some (.pointer (some ⟨g8, 0, none⟩)) := (hout 8 (by kernel_rfl)).trans rfl
              clear hin hout
              intro K Q hK
              go_simp
              exact hK _ _ ⟨Same.refl _, rfl⟩
            refine allp_mild 0 rfl rfl rfl (fun a x W hout hin hP => ?_) ?_
            · have e88 := hin.is 21 88 (by kernel_rfl) (by decide) (by kernel_rfl) (by kernel_rfl) _ rfl
              have hc : W.cell? ⟨g8, 1, none⟩ = some (.int .u32 0) := (hP.row 2 rfl).get rfl
              clear hP
              clear hin hout
              intro K Q hK
              go_simp
              exact hK _ _ ⟨Same.refl _, rfl⟩
            refine allp_mild 0 rfl rfl rfl (fun a x W hout hin hP => ?_) ?_
            · have e89 := hin.is 22 89 (by kernel_rfl) (by decide) (by kernel_rfl) (by kernel_rfl) _ rfl
              clear hP
              clear hin hout
              intro K Q hK
              go_simp
              exact hK _ _ ⟨Same.refl _, rfl⟩
            refine allp_mild 0 rfl rfl rfl (fun a x W hout hin hP => ?_) ?_
            · have e87 := hin.is 20 87 (by kernel_rfl) (by decide) (by kernel_rfl) (by kernel_rfl) _ rfl
              have e90 := hin.is 23 90 (by kernel_rfl) (by decide) (by kernel_rfl) (by kernel_rfl) _ rfl
              exact does_pick rfl e87 ⟨Same.refl _, eval_of_get e90⟩
            refine allp_mild 0 rfl rfl rfl (fun a x W hout hin hP => ?_) ?_
            · have e91 := hin.is 24 91 (by kernel_rfl) (by decide) (by kernel_rfl) (by kernel_rfl) _ rfl
              exact does_move rfl e91 ⟨Same.refl _, rfl⟩
            refine allp_mild 0 rfl rfl rfl (fun a x W hout hin hP => ?_) ?_
            · have e8 : a.tmps[8]? = some (.pointer (some ⟨g8, 0, none⟩)) := (hout 8 (by kernel_rfl)).trans rfl
              clear hin hout
              intro K Q hK
              go_simp
              exact hK _ _ ⟨Same.refl _, rfl⟩
            refine allp_mild 0 rfl rfl rfl (fun a x W hout hin hP => ?_) ?_
            · have e93 := hin.is 26 93 (by kernel_rfl) (by decide) (by kernel_rfl) (by kernel_rfl) _ rfl
              have hc : W.cell? ⟨g8, 2, none⟩ = some (.int .u32 1) := (hP.row 2 rfl).get rfl
              clear hP
              clear hin hout
              intro K Q hK
              go_simp
              exact hK _ _ ⟨Same.refl _, rfl⟩
            refine allp_mild 0 rfl rfl rfl (fun a x W hout hin hP => ?_) ?_
            · have e94 := hin.is 27 94 (by kernel_rfl) (by decide) (by kernel_rfl) (by kernel_rfl) _ rfl
              clear hP
              clear hin hout
              intro K Q hK
              go_simp
              exact hK _ _ ⟨Same.refl _, rfl⟩
            refine allp_mild 0 rfl rfl rfl (fun a x W hout hin hP => ?_) ?_
            · have e92 := hin.is 25 92 (by kernel_rfl) (by decide) (by kernel_rfl) (by kernel_rfl) _ rfl
              have e95 := hin.is 28 95 (by kernel_rfl) (by decide) (by kernel_rfl) (by kernel_rfl) _ rfl
              exact does_pick rfl e92 ⟨Same.refl _, eval_of_get e95⟩
            refine allp_mild 0 rfl rfl rfl (fun a x W hout hin hP => ?_) ?_
            · have e96 := hin.is 29 96 (by kernel_rfl) (by decide) (by kernel_rfl) (by kernel_rfl) _ rfl
              exact does_move rfl e96 ⟨Same.refl _, rfl⟩
            refine allp_mild 0 rfl rfl rfl (fun a x W hout hin hP => ?_) ?_
            · have e3 : a.tmps[3]? = some (.pointer (some ⟨g3, 0, none⟩)) := (hout 3 (by kernel_rfl)).trans rfl
              clear hin hout
              intro K Q hK
              go_simp
              exact hK _ _ ⟨Same.refl _, rfl⟩
            refine allp_mild 0 rfl rfl rfl (fun a x W hout hin hP => ?_) ?_
            · have e98 := hin.is 31 98 (by kernel_rfl) (by decide) (by kernel_rfl) (by kernel_rfl) _ rfl
              have hc : W.cell? ⟨g3, 2, none⟩ = some (.bool (decide (4095#16 = 0#16))) := (hP.row 0 rfl).get rfl
              clear hP
              clear hin hout
              intro K Q hK
              go_simp
              exact hK _ _ ⟨Same.refl _, rfl⟩
            refine allp_mild 0 rfl rfl rfl (fun a x W hout hin hP => ?_) ?_
            · have e8 : a.tmps[8]? = some (.pointer (some ⟨g8, 0, none⟩)) := (hout 8 (by kernel_rfl)).trans rfl
              clear hin hout
              intro K Q hK
              go_simp
              exact hK _ _ ⟨Same.refl _, rfl⟩
            refine allp_mild 0 rfl rfl rfl (fun a x W hout hin hP => ?_) ?_
            · have e100 := hin.is 33 100 (by kernel_rfl) (by decide) (by kernel_rfl) (by kernel_rfl) _ rfl
              have hc : W.cell? ⟨g8, 3, none⟩ = some (.int .u16 (hd 4095#16)) := (hP.row 2 rfl).get rfl
              clear hP
              clear hin hout
              intro K Q hK
              go_simp
              exact hK _ _ ⟨Same.refl _, rfl⟩
            refine allp_mild 0 rfl rfl rfl (fun a x W hout hin hP => ?_) ?_
            · have e101 := hin.is 34 101 (by kernel_rfl) (by decide) (by kernel_rfl) (by kernel_rfl) _ rfl
              have hw := hd_zero 4095#16
              clear hP
              clear hin hout
              intro K Q hK
              go_simp
              exact hK _ _ ⟨Same.refl _, rfl⟩
            refine allp_mild 0 rfl rfl rfl (fun a x W hout hin hP => ?_) ?_
            · have e99 := hin.is 32 99 (by kernel_rfl) (by decide) (by kernel_rfl) (by kernel_rfl) _ rfl
              have e102 := hin.is 35 102 (by kernel_rfl) (by decide) (by kernel_rfl) (by kernel_rfl) _ rfl
              clear hP
              clear hin hout
              intro K Q hK
              go_simp
              exact hK _ _ ⟨Same.refl _, rfl⟩
            refine allp_mild 0 rfl rfl rfl (fun a x W hout hin hP => ?_) ?_
            · have e97 := hin.is 30 97 (by kernel_rfl) (by decide) (by kernel_rfl) (by kernel_rfl) _ rfl
              have e103 := hin.is 36 103 (by kernel_rfl) (by decide) (by kernel_rfl) (by kernel_rfl) _ rfl
              exact does_pick rfl e97 ⟨Same.refl _, eval_of_get e103⟩
            refine allp_mild 0 rfl rfl rfl (fun a x W hout hin hP => ?_) ?_
            · have e104 := hin.is 37 104 (by kernel_rfl) (by decide) (by kernel_rfl) (by kernel_rfl) _ rfl
              exact does_move rfl e104 ⟨Same.refl _, rfl⟩
            refine allp_mild 0 rfl rfl rfl (fun a x W hout hin hP => ?_) ?_
            · have e3 : a.tmps[3]? = some (.pointer (some ⟨g3, 0, none⟩)) := (hout 3 (by kernel_rfl)).trans rfl
              have hr := hP.row 0 rfl
              clear hin hout hP
              intro K Q hK
              exact wp_load_row 24 (.tmp 3) rfl g3 (eval_of_get e3) 24 (dskC ⟨o, ep + 1#32, decide (4095#16 = 0#16)⟩) (0, 0) _ hr Try.underlying24 rfl (by exact size_dsk) (hK _ _ ⟨Same.refl _, rfl⟩)
            refine allp_mild 0 rfl rfl rfl (fun a x W hout hin hP => ?_) ?_
            · have e106 := hin.is 39 106 (by kernel_rfl) (by decide) (by kernel_rfl) (by kernel_rfl) _ rfl
              have C := HOT2.out (decide (4095#16 = 0#16)) W
              clear hP
              clear hin hout
              intro K Q hK
              go_simp
              refine C.mono ?_
              rintro e W' ⟨rfl, hb⟩
              exact hK _ _ ⟨hb, rfl⟩
            refine allp_mild 0 rfl rfl rfl (fun a x W hout hin hP => ?_) ?_
            · have e9 : a.tmps[9]? = some (.pointer (some ⟨g9, 0, none⟩)) := (hout 9 (by kernel_rfl)).trans rfl
              clear hin hout
              intro K Q hK
              go_simp
              exact hK _ _ ⟨Same.refl _, rfl⟩
            refine allp_mild 0 rfl rfl rfl (fun a x W hout hin hP => ?_) ?_
            · have e108 := hin.is 41 108 (by kernel_rfl) (by decide) (by kernel_rfl) (by kernel_rfl) _ rfl
              have hc : W.cell? ⟨g9, 0, none⟩ = some (.int .i64 p) := (hP.row 3 rfl).get rfl
              clear hP
              clear hin hout
              intro K Q hK
              go_simp
              exact hK _ _ ⟨Same.refl _, rfl⟩
            refine allp_mild 0 rfl rfl rfl (fun a x W hout hin hP => ?_) ?_
            · have e107 := hin.is 40 107 (by kernel_rfl) (by decide) (by kernel_rfl) (by kernel_rfl) _ rfl
              have e109 := hin.is 42 109 (by kernel_rfl) (by decide) (by kernel_rfl) (by kernel_rfl) _ rfl
              clear hP
              clear hin hout
              intro K Q hK
              go_simp
              exact hK _ _ ⟨Same.refl _, rfl⟩
            refine allp_mild 0 rfl rfl rfl (fun a x W hout hin hP => ?_) ?_
            · have e105 := hin.is 38 105 (by kernel_rfl) (by decide) (by kernel_rfl) (by kernel_rfl) _ rfl
              have e110 := hin.is 43 110 (by kernel_rfl) (by decide) (by kernel_rfl) (by kernel_rfl) _ rfl
              exact does_pick rfl e105 ⟨Same.refl _, eval_of_get e110⟩
            exact all_end (by decide)
          · intro x W hP hV
            have HSx : St w1 noF [⟨g3, 24, dskC ⟨o, ep + 1#32, decide (4095#16 = 0#16)⟩⟩, ⟨g5, 29, askdC ⟨o, true, true, L⟩⟩, ⟨g8, 27, dlabC ⟨ep + 1#32, 0#32, 1#32, 4095#16, 0#16⟩⟩, ⟨g9, 24, dskC ⟨p, ep, false⟩⟩] W := hP
            have h44 : x 44 = .bool false := hV 44 (by decide) (.inl (by kernel_rfl))
            clear hV hP
            have HS := HSx
            clear HSx
            simp only [putL, Act.put, List.setIfInBounds_toArray, List.set_cons_succ, List.set_cons_zero, h44]
            simp only [Nat.zero_add, Nat.reduceAdd]
            refine wpAnyH_done (by kernel_rfl) ?_ _
            clear h44
            have k92 : W.cell? ⟨g9, 2, none⟩ = some (.bool false) := (HS.row 3 rfl).get rfl
            have k83 : W.cell? ⟨g8, 3, none⟩ = some (.int .u16 (hd 4095#16)) := (HS.row 2 rfl).get rfl
            go_wp2_with fail
            exact ⟨⟨k + 1, ⟨o, ep + 1#32, decide (4095#16 = 0#16)⟩, by omega, by go_num, HPO.out, HS.take 1⟩, by simp [intOf]; omega⟩

      · have HNO : Hid ((n == o) = false) := Lib.hid (beq_eq_false_iff_ne.2 hno)
        have HNE := Lib.hid hno
        clear hno
        have HOT : Hid (∀ w, Calls Try.prog 7 #[.agg (dskC ⟨p, ep, sy⟩)] w fun x w' => x = .returned (.int .i64 o) ∧ Below w.heap.size w w') := Lib.hid (fun w => HOO.out _ w)
        obtain ⟨M, hM⟩ : ∃ M, mayD ⟨p, ep, sy⟩ n up fo = M := ⟨_, rfl⟩
        have HM0 : Hid ((M == 0) = false) := Lib.hid (by rw [← hM]; exact beq_eq_false_iff_ne.2 (fun h => by have := (may_right p o n ep sy up fo HP.out (HOE.out _)).1 h; exact HNE.out this.1))
        have HM : Hid (∀ w, Calls Try.prog 9 #[.agg (dskC ⟨p, ep, sy⟩), .int .i64 n, .bool up, .bool fo] w fun x w' => x = .returned (.int .i64 M) ∧ Below w.heap.size w w') := Lib.hid (fun w => by have := may_any ⟨p, ep, sy⟩ n up fo w; rw [hM] at this; exact this)
        clear hM
        go_upto_region 8 with (first | ((with_reducible refine wpList_plain ?_ ?_); exact rfl; intro KK hKK; refine wp_load_mid 29 (.tmp 23) rfl b O rfl (askdC ⟨n, up, fo, L⟩).toList _ HR.out Try.underlying29 rfl (by exact size_asked) (hKK _ _ ?_); clear hKK KK) | ((with_reducible refine wpList_plain ?_ ?_); exact rfl; intro KK hKK; refine wp_st_alloc HS 29 (#[.int .i64 0, .bool false, .bool false, .int .u32 0, .int .u32 0, .int .u32 0, .int .u16 0, .int .u16 0]) rfl (.agg (#[.int .i64 0, .bool false, .bool false, .int .u32 0, .int .u32 0, .int .u32 0, .int .u16 0, .int .u16 0])) (by kernel_rfl) (rfl) (fun g5 W11 HSx => hKK _ _ ?_); clear hKK KK HS; have HS : St w1 noF [⟨g3, 24, dskC ⟨p, ep, sy⟩⟩, ⟨g5, 29, #[.int .i64 0, .bool false, .bool false, .int .u32 0, .int .u32 0, .int .u32 0, .int .u16 0, .int .u16 0]⟩] W11 := HSx; clear HSx) | ((with_reducible refine wpList_plain ?_ ?_); exact rfl; intro KK hKK; refine wp_st_store HS 1 0 29 (.tmp 5) (.tmp 24) rfl rfl rfl (.agg (askdC ⟨n, up, fo, L⟩)) rfl (by exact size_asked) (Nat.le_refl 8) (by exact one_asked ⟨n, up, fo, L⟩) (askdC ⟨n, up, fo, L⟩) (by exact spl_agg _ _ _ rfl rfl) (fun W12 HSx => hKK _ _ ?_); clear hKK KK HS; have HS : St w1 noF [⟨g3, 24, dskC ⟨p, ep, sy⟩⟩, ⟨g5, 29, askdC ⟨n, up, fo, L⟩⟩] W12 := HSx; clear HSx))
        have c50 : W12.cell? ⟨g5, 0, none⟩ = some (.int .i64 n) := (HS.row 1 rfl).get rfl
        have c51 : W12.cell? ⟨g5, 1, none⟩ = some (.bool up) := (HS.row 1 rfl).get rfl
        have c52 : W12.cell? ⟨g5, 2, none⟩ = some (.bool fo) := (HS.row 1 rfl).get rfl
        go_wp2_with (first | ((with_reducible refine wpList_plain ?_ ?_); exact rfl; intro KK hKK; refine wp_st_load HS 0 0 24 (.tmp 3) rfl rfl rfl (dskC ⟨p, ep, sy⟩) (slab_whole _) _ Try.underlying24 rfl (by exact size_dsk) (hKK _ _ ?_); clear hKK KK))
        clear c50 c51 c52
        refine (HM.out _).mono ?_
        rintro x w5 ⟨rfl, hb⟩
        have HSx := HS.same hb
        clear HS hb
        have HS := HSx
        clear HSx
        go_upto_region 9 with fail
        have hF0 : Wl [(fun W => St w1 noF [⟨g3, 24, dskC ⟨p, ep, sy⟩⟩, ⟨g5, 29, askdC ⟨n, up, fo, L⟩⟩] W)] 0 (World.drew _) := HS.drew
        clear HS
        refine wp_region_phs [is (.pointer (some ⟨g5, 0, none⟩)), is (.int .i64 n), is (.agg (dskC ⟨p, ep, sy⟩)), is (.int .i64 o), is (.bool false), is (.bool false), is undef, is undef, is (.bool false), is (.bool false), is undef, is undef, is undef, is undef, is undef, is undef, is (.bool false), is (.bool false)] [true, true, true, true, true, true, true, true, true, true, true, true, true, true, true, true, true, true] [(fun W => St w1 noF [⟨g3, 24, dskC ⟨p, ep, sy⟩⟩, ⟨g5, 29, askdC ⟨n, up, fo, L⟩⟩] W)] [false, false, false, false, false, false, false, false, false, false, false, false, false, false, false, false, false, false] [some 0, some 0, some 0, some 0, some 0, some 0, some 0, some 0, some 0, some 0, some 0, some 0, some 0, some 0, some 0, some 0, some 0, some 0] [some 33, some 34, some 35, some 36, some 37, some 38, some 39, some 40, some 41, some 42, some 43, some 44, some 45, some 46, some 47, some 48, some 49, some 7] 18 0 (fun i => !([6, 7, 10, 11, 12, 13, 14, 15] : List Nat).contains i) rfl rfl (by kernel_rfl) (by kernel_rfl) (by kernel_rfl) (by kernel_rfl) ?_ ?_ ?_ ?_ ?_ ?_
        · repeat first | exact wok_nil | refine wok_cons (by first | exact fun _ _ h k => h.same k) ?_
        · repeat first | exact vok_nil | refine vok_rig (by first | exact fun _ _ _ h => h) ?_ | refine vok_soft (by first | exact fun _ _ _ h _ => h) ?_
        · exact hF0
        · repeat first | exact all_end (by decide) | refine all_cons (by first | exact rfl | exact ⟨rfl, fun _ _ h => Or.inl h⟩ | exact ⟨rfl, fun _ _ h => Or.inr ⟨h, rfl⟩⟩) ?_
        · refine allp_mild 0 rfl rfl rfl (fun a x W hout hin hP => ?_) ?_
          · have e5 : a.tmps[5]? = some (.pointer (some ⟨g5, 0, none⟩)) := (hout 5 (by kernel_rfl)).trans rfl
            clear hin hout
            intro K Q hK
            go_simp
            exact hK _ _ ⟨Same.refl _, rfl⟩
          refine allp_mild 0 rfl rfl rfl (fun a x W hout hin hP => ?_) ?_
          · have e33 := hin.is 0 33 (by kernel_rfl) (by decide) (by kernel_rfl) (by kernel_rfl) _ rfl
            have hc : W.cell? ⟨g5, 0, none⟩ = some (.int .i64 n) := (hP.row 1 rfl).get rfl
            clear hP
            clear hin hout
            intro K Q hK
            go_simp
            exact hK _ _ ⟨Same.refl _, rfl⟩
          refine allp_mild 0 rfl rfl rfl (fun a x W hout hin hP => ?_) ?_
          · have e3 : a.tmps[3]? = some (.pointer (some ⟨g3, 0, none⟩)) := (hout 3 (by kernel_rfl)).trans rfl
            have hr := hP.row 0 rfl
            clear hin hout hP
            intro K Q hK
            exact wp_load_row 24 (.tmp 3) rfl g3 (eval_of_get e3) 24 (dskC ⟨p, ep, sy⟩) (0, 0) _ hr Try.underlying24 rfl (by exact size_dsk) (hK _ _ ⟨Same.refl _, rfl⟩)
          refine allp_mild 0 rfl rfl rfl (fun a x W hout hin hP => ?_) ?_
          · have e35 := hin.is 2 35 (by kernel_rfl) (by decide) (by kernel_rfl) (by kernel_rfl) _ rfl
            have C := HOT.out W
            clear hP
            clear hin hout
            intro K Q hK
            go_simp
            refine C.mono ?_
            rintro e W' ⟨rfl, hb⟩
            exact hK _ _ ⟨hb, rfl⟩
          refine allp_mild 0 rfl rfl rfl (fun a x W hout hin hP => ?_) ?_
          · have e34 := hin.is 1 34 (by kernel_rfl) (by decide) (by kernel_rfl) (by kernel_rfl) _ rfl
            have e36 := hin.is 3 36 (by kernel_rfl) (by decide) (by kernel_rfl) (by kernel_rfl) _ rfl
            have hq := HNO.out
            clear hP
            clear hin hout
            intro K Q hK
            go_simp
            exact hK _ _ ⟨Same.refl _, rfl⟩
          refine allp_mild 0 rfl rfl rfl (fun a x W hout hin hP => ?_) ?_
          · have e37 := hin.is 4 37 (by kernel_rfl) (by decide) (by kernel_rfl) (by kernel_rfl) _ rfl
            exact does_move rfl e37 ⟨Same.refl _, rfl⟩
          refine allp_skip rfl rfl (fun _ => rfl) ?_
          refine allp_skip rfl rfl (fun _ => rfl) ?_
          refine allp_mild 0 rfl rfl rfl (fun a x W hout hin hP => ?_) ?_
          · have e38 := hin.is 5 38 (by kernel_rfl) (by decide) (by kernel_rfl) (by kernel_rfl) _ rfl
            have e40 := hin.is 7 40 (by kernel_rfl) (by decide) (by kernel_rfl) (by kernel_rfl) _ rfl
            exact does_pick rfl e38 ⟨Same.refl _, rfl⟩
          refine allp_mild 0 rfl rfl rfl (fun a x W hout hin hP => ?_) ?_
          · have e41 := hin.is 8 41 (by kernel_rfl) (by decide) (by kernel_rfl) (by kernel_rfl) _ rfl
            exact does_move rfl e41 ⟨Same.refl _, rfl⟩
          refine allp_skip rfl rfl (fun _ => rfl) ?_
          refine allp_skip rfl rfl (fun _ => rfl) ?_
          refine allp_skip rfl rfl (fun _ => rfl) ?_
          refine allp_skip rfl rfl (fun _ => rfl) ?_
          refine allp_skip rfl rfl (fun _ => rfl) ?_
          refine allp_skip rfl rfl (fun _ => rfl) ?_
          refine allp_mild 0 rfl rfl rfl (fun a x W hout hin hP => ?_) ?_
          · have e42 := hin.is 9 42 (by kernel_rfl) (by decide) (by kernel_rfl) (by kernel_rfl) _ rfl
            have e48 := hin.is 15 48 (by kernel_rfl) (by decide) (by kernel_rfl) (by kernel_rfl) _ rfl
            exact does_pick rfl e42 ⟨Same.refl _, rfl⟩
          refine allp_mild 0 rfl rfl rfl (fun a x W hout hin hP => ?_) ?_
          · have e49 := hin.is 16 49 (by kernel_rfl) (by decide) (by kernel_rfl) (by kernel_rfl) _ rfl
            exact does_assign rfl e49 ⟨Same.refl _, rfl⟩
          exact all_end (by decide)
        · intro x W hP hV
          have HSx := hP
          have h17 : x 17 = .bool false := hV 17 (by decide) (.inl (by kernel_rfl))
          clear hV hP
          have HS := HSx
          clear HSx
          simp only [putL, Act.put, List.setIfInBounds_toArray, List.set_cons_succ, List.set_cons_zero, h17]
          simp only [Nat.zero_add, Nat.reduceAdd]
          refine wpAnyH_done (by kernel_rfl) ?_ _
          clear h17
          have hM0 := HM0.out
          go_wp2_with fail
          exact ⟨⟨k + 1, ⟨p, ep, sy⟩, by omega, by go_num, HP.out, HS.take 1⟩, by simp [intOf]; omega⟩

    · obtain rfl : k = n0 := by omega
      have HBw := Lib.hid (HB1.out.trans (HS.below.mono HB1.out.size))
      clear HS
      go_wp2_with fail
      refine (dkwakes_any wr).mono ?_
      rintro x w9 ⟨rfl, hb⟩
      go_wp2_with fail
      go_ret
      exact ⟨rfl, HBw.out.trans (hb.mono HBw.out.size)⟩
end Go.Proofs.Ytpnndkobaikhfaa
