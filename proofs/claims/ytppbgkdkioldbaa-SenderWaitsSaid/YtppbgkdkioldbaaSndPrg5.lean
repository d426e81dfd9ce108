/- The program's sender: Touch, Out, Early. -/
import Derived.Test.YtppbgkdkioldbaaSndPrg4
import Derived.Test.YtppbgkdkioldbaaLabBits
set_option maxRecDepth 4000
namespace Go.Proofs.Ytppbgkdkioldbaa
open Go Go.RowKit
theorem st_then {w0 w w' : World} {F G : Nat → Prop} {R R' : List Blk} (h : St w0 F R w) (k : St w G R' w') (hG : ∀ i, G i → F i ∨ w0.heap.size ≤ i) (ho : ∀ (j : Nat) (r : Blk), R'[j]? = some r → F r.g ∨ w0.heap.size ≤ r.g) : St w0 F R' w' :=
  ⟨h.chg.trans k.chg hG, k.rows, k.apart, ho⟩
theorem puts_one {w : World} {g : Nat} {t : TypeId} {x : Pt} (h : Row w g t (pcell x).toArray) (hx : x.2.length = 32 ∧ -9223372036854775808 ≤ x.1 ∧ x.1 < 9223372036854775808) : PutsAt w (.slice (some ⟨g, 0, none⟩) 1 1) [x] :=
  puts_row (l := [x]) (t := t) (by rw [List.map_singleton, List.flatten_singleton]; exact h) (Nat.le_refl _) (fun y hy => by rw [List.mem_singleton.1 hy]; exact hx)
theorem touch_nil (v : Value) (w : World) : Calls Try.prog 15 #[.pointer none, v] w fun x w' => x = .returned (.tuple #[]) ∧ Below w.heap.size w w' := by
  go_enter Try.func15, Try.ntmps15
  go_wp2_with fail
  exact bodyPost_ret (results_none Try.results15 _ _ _) rfl ⟨rfl, Below.refl _ _⟩
set_option maxRecDepth 20000 in
set_option maxHeartbeats 3200000 in
theorem touch_any (g : Nat) (S : Snd) (l : List Pt) (D : Option Addr) (q f : Nat) (w : World) (h : SndAt w g S) (hok : OutOk S) (hl : PutsAt w (.slice D q f) l) (hln : l.length ≤ 1000000) :
    Calls Try.prog 15 #[.pointer (some ⟨g, 0, none⟩), .slice D q f] w fun x w' => x = .returned (.tuple #[]) ∧ SndAt w' g (touchS S l) ∧ Chg (fun k => k = g) w w' := by
  obtain ⟨A, n, c, B, m, d, hr, hpo, hpp⟩ := h
  have HR := Lib.hid hr
  have HPO := Lib.hid hpo
  have HPP := Lib.hid hpp
  clear hr hpo hpp
  have c0 : w.cell? ⟨g, 0, none⟩ = some (.int .i64 S.o.k) := HR.out.get rfl
  have HL := Lib.hid hl
  have HLN := Lib.hid hln
  clear hl hln
  by_cases h2 : S.o.k = 2
  case neg =>
    have hS : touchS S l = S := by unfold touchS touchB; rw [decide_eq_false h2]; exact if_neg (fun h => by cases h)
    rw [hS]
    have hne : (S.o.k != 2) = true := bne_iff_ne.2 h2
    clear hS h2 hok
    go_enter Try.func15, Try.ntmps15
    go_wp2_with fail
    exact bodyPost_ret (results_none Try.results15 _ _ _) rfl ⟨rfl, ⟨A, n, c, B, m, d, HR.out, HPO.out, HPP.out⟩, Chg.refl _ _⟩
  have hop : opB S.o = true := hok.resolve_left (fun h => by rw [h] at h2; cases h2)
  have hpos := (opB_put hop).1
  have hnl := puts_len HPO.out
  obtain ⟨⟨Y, q0⟩, hx⟩ : ∃ x, S.o.l[0]? = some x := ⟨_, List.getElem?_eq_getElem hpos⟩
  have hT1 : S.o.l.take 1 = [(Y, q0)] := by rw [List.take_one, List.head?_eq_getElem?, hx]; rfl
  obtain ⟨b, o, rfl, hbw, hr, hq, hlo, hhi⟩ := put_at_mem HPO.out hnl hx
  rw [Nat.zero_mul, Nat.add_zero] at hr
  have HRG := Lib.hid hr
  have HQ := Lib.hid hq
  have HYB := Lib.hid (And.intro hlo hhi)
  have HBW := Lib.hid hbw
  have HN1 : Hid (0 < n) := Lib.hid (by omega)
  obtain ⟨X, hX⟩ : ∃ X, bitsOf (l.map (·.1)) = X := ⟨_, rfl⟩
  obtain ⟨Z, hZ⟩ : ∃ Z, bitsOf ([(Y, q0)].map (·.1)) = Z := ⟨_, rfl⟩
  obtain ⟨U, hU⟩ : ∃ U, X &&& Z = U := ⟨_, rfl⟩
  have hB : touchB S l = decide (U ≠ 0#16) := by unfold touchB; rw [decide_eq_true h2, hT1, hX, hZ, hU]; rfl
  have HX := Lib.hid hX
  have HZ := Lib.hid hZ
  have HAND : Hid (bits .and .u16 (hd X) (hd Z) = hd U) := Lib.hid (by rw [and_hd, hU])
  rw [h2] at c0
  clear hx hr hq hlo hhi hbw hX hZ hU hT1 hpos hop hok hnl
  by_cases hu : U = 0#16
  · have hS : touchS S l = S := by unfold touchS; rw [hB, decide_eq_false (by simp [hu])]; exact if_neg (fun h => by cases h)
    rw [hS]
    have HQU : Hid (hd U = 0) := Lib.hid (by rw [hu]; rfl)
    clear hS hB hu h2
    go_enter Try.func15, Try.ntmps15
    go_upto_region 1 with fail
    have hF0 : Wl [(fun W => Below w.heap.size w W)] 0 (World.drew _) := (Below.refl _ _).drew
    clear c0
    refine wp_region_phs [is (.slice D q f), is (.int .u16 (hd X)), is (.pointer (some ⟨g, 0, none⟩)), is (.pointer (some ⟨g, 0, none⟩)), is (.pointer (some ⟨g, 0, none⟩)), is (.pointer (some ⟨g, 3, none⟩)), is (.slice (some ⟨b, o, none⟩) n c), is (.pointer (some ⟨b, o, none⟩)), is (.agg (pcell (Y, q0)).toArray), (fun v W => ∃ g9, v = Value.slice (some ⟨g9, 0, none⟩) 1 1 ∧ PutsAt W v [(Y, q0)]), is (.int .u16 (hd Z)), is (.int .u16 (hd U)), is (.bool false)] [true, true, true, true, true, true, true, true, true, false, true, true, true] [(fun W => Below w.heap.size w W)] [false, false, false, false, false, false, false, false, false, false, false, false, false] [some 0, some 0, some 0, some 0, some 0, some 0, some 0, some 0, some 0, some 0, some 0, some 0, some 0] [some 14, some 15, some 16, some 17, some 18, some 19, some 20, some 21, some 22, some 23, some 24, some 25, some 26] 13 0 (fun _ => true) rfl rfl (by kernel_rfl) (by kernel_rfl) (by kernel_rfl) (by kernel_rfl) ?_ ?_ ?_ ?_ ?_ ?_
    · repeat first | exact wok_nil | refine wok_cons (by first | exact fun _ _ h k => h.trans (k.mono h.size)) ?_
    · repeat first | exact vok_nil | refine vok_rig (by first | exact fun _ _ _ h => h) ?_ | refine vok_soft (by first | exact fun _ _ _ h _ => h | exact fun _ _ _ h k => ⟨h.choose, h.choose_spec.1, h.choose_spec.2.below k (Nat.le_refl _)⟩) ?_
    · exact hF0
    · repeat first | exact all_end (by decide) | refine all_cons (by first | exact rfl | exact ⟨rfl, fun _ _ h => Or.inl h⟩ | exact ⟨rfl, fun _ _ h => Or.inr ⟨h, rfl⟩⟩) ?_
    · refine allp_mild 0 rfl rfl rfl (fun a x_ W hout hin hP => ?_) ?_
      · have e1 : a.tmps[1]? = some (.slice D q f) := (hout 1 (by kernel_rfl)).trans rfl
        exact does_move rfl e1 ⟨Same.refl _, rfl⟩
      refine allp_mild 0 rfl rfl rfl (fun a x_ W hout hin hP => ?_) ?_
      · have e14 := hin.is 0 14 (by kernel_rfl) (by decide) (by kernel_rfl) (by kernel_rfl) _ rfl
        have C := labbits_any l _ W (HL.out.below hP (Nat.le_refl _)) HLN.out
        rw [HX.out] at C
        clear hP
        clear hin hout
        intro K Q hK
        go_simp
        refine C.mono ?_
        rintro e W' ⟨rfl, hb⟩
        exact hK _ _ ⟨hb, rfl⟩
      refine allp_mild 0 rfl rfl rfl (fun a x_ W hout hin hP => ?_) ?_
      · have e0 : a.tmps[0]? = some (.pointer (some ⟨g, 0, none⟩)) := (hout 0 (by kernel_rfl)).trans rfl
        exact does_move rfl e0 ⟨Same.refl _, rfl⟩
      refine allp_mild 0 rfl rfl rfl (fun a x_ W hout hin hP => ?_) ?_
      · have e16 := hin.is 2 16 (by kernel_rfl) (by decide) (by kernel_rfl) (by kernel_rfl) _ rfl
        clear hP
        clear hin hout
        intro K Q hK
        go_simp
        exact hK _ _ ⟨Same.refl _, rfl⟩
      refine allp_mild 0 rfl rfl rfl (fun a x_ W hout hin hP => ?_) ?_
      · have e17 := hin.is 3 17 (by kernel_rfl) (by decide) (by kernel_rfl) (by kernel_rfl) _ rfl
        clear hP
        clear hin hout
        intro K Q hK
        go_simp
        exact hK _ _ ⟨Same.refl _, rfl⟩
      refine allp_mild 0 rfl rfl rfl (fun a x_ W hout hin hP => ?_) ?_
      · have e18 := hin.is 4 18 (by kernel_rfl) (by decide) (by kernel_rfl) (by kernel_rfl) _ rfl
        clear hP
        clear hin hout
        intro K Q hK
        go_simp
        exact hK _ _ ⟨Same.refl _, rfl⟩
      refine allp_mild 0 rfl rfl rfl (fun a x_ W hout hin hP => ?_) ?_
      · have e19 := hin.is 5 19 (by kernel_rfl) (by decide) (by kernel_rfl) (by kernel_rfl) _ rfl
        have hr := HR.out.call hP
        have hc : W.cell? ⟨g, 3, none⟩ = some (.slice (some ⟨b, o, none⟩) n c) := hr.get rfl
        clear hP
        clear hin hout
        intro K Q hK
        go_simp
        exact hK _ _ ⟨Same.refl _, rfl⟩
      refine allp_mild 0 rfl rfl rfl (fun a x_ W hout hin hP => ?_) ?_
      · have e20 := hin.is 6 20 (by kernel_rfl) (by decide) (by kernel_rfl) (by kernel_rfl) _ rfl
        have hn := HN1.out
        clear hP
        clear hin hout
        intro K Q hK
        go_simp
        exact hK _ _ ⟨Same.refl _, rfl⟩
      refine allp_mild 0 rfl rfl rfl (fun a x_ W hout hin hP => ?_) ?_
      · have e21 := hin.is 7 21 (by kernel_rfl) (by decide) (by kernel_rfl) (by kernel_rfl) _ rfl
        clear hin hout
        intro K Q hK
        refine wp_load_mid 61 (.tmp 21) rfl b o (eval_of_get e21) (pcell (Y, q0)) _ (fun j u hu => (hP.cell (p := ⟨b, o + j, none⟩) HBW.out).trans (HRG.out j u hu)) Try.underlying61 rfl (by rw [len_pcell HQ.out]; exact info_put33) (hK _ _ ⟨Same.refl _, rfl⟩)
      refine allp_mild 0 rfl rfl rfl (fun a x_ W hout hin hP => ?_) ?_
      · have e22 := hin.is 8 22 (by kernel_rfl) (by decide) (by kernel_rfl) (by kernel_rfl) _ rfl
        clear hin hout hP
        intro K Q hK
        refine wp_buildOne 28 61 (.tmp 22) rfl (pcell (Y, q0)).toArray _ 33 (eval_of_get e22) Try.underlying28 rfl (by rw [List.size_toArray, len_pcell HQ.out]) (by decide) (by decide) (hK _ _ ⟨Same.alloc _ _, _, rfl, puts_one (Row.fresh _ _ _) ⟨HQ.out, HYB.out⟩⟩)
      refine allp_mild 0 rfl rfl rfl (fun a x_ W hout hin hP => ?_) ?_
      · obtain ⟨v23, e23, hv23⟩ := hin.get 9 23 (by kernel_rfl) (by decide) (by kernel_rfl) (.inr ⟨rfl, by kernel_rfl⟩)
        obtain ⟨g9, rfl, hp9⟩ := hv23
        have C := labbits_any [(Y, q0)] _ W hp9 (Nat.le_of_ble_eq_true rfl)
        rw [HZ.out] at C
        clear hP hp9
        clear hin hout
        intro K Q hK
        go_simp
        refine C.mono ?_
        rintro e W' ⟨rfl, hb⟩
        exact hK _ _ ⟨hb, rfl⟩
      refine allp_mild 0 rfl rfl rfl (fun a x_ W hout hin hP => ?_) ?_
      · have e15 := hin.is 1 15 (by kernel_rfl) (by decide) (by kernel_rfl) (by kernel_rfl) _ rfl
        have e24 := hin.is 10 24 (by kernel_rfl) (by decide) (by kernel_rfl) (by kernel_rfl) _ rfl
        have hand := HAND.out
        clear hP
        clear hin hout
        intro K Q hK
        go_simp
        exact hK _ _ ⟨Same.refl _, rfl⟩
      refine allp_mild 0 rfl rfl rfl (fun a x_ W hout hin hP => ?_) ?_
      · have e25 := hin.is 11 25 (by kernel_rfl) (by decide) (by kernel_rfl) (by kernel_rfl) _ rfl
        have hq := HQU.out
        clear hP
        clear hin hout
        intro K Q hK
        go_simp
        exact hK _ _ ⟨Same.refl _, rfl⟩
      exact all_end (by decide)
    · intro x_ W hP hV
      have h12 : x_ 12 = .bool false := hV 12 (by decide) (.inl (by kernel_rfl))
      have HB := Lib.hid hP
      clear hP hV
      simp only [putL, Act.put, List.setIfInBounds_toArray, List.set_cons_succ, List.set_cons_zero, h12]
      refine wpAnyH_done (by kernel_rfl) ?_ _
      clear h12
      go_wp2_with fail
      go_end0
      exact ⟨rfl, SndAt.call ⟨some ⟨b, o, none⟩, n, c, B, m, d, HR.out, HPO.out, HPP.out⟩ HB.out, Chg.of_below HB.out⟩
  · have hS : touchS S l = ⟨S.o, S.p, S.n, true⟩ := by unfold touchS; rw [hB, decide_eq_true hu]; exact if_pos rfl
    rw [hS]
    have HQU : Hid ((hd U != 0) = true) := Lib.hid (bne_iff_ne.2 fun h => hu (hd_inj (by rw [h]; rfl)))
    clear hS hB hu h2
    go_enter Try.func15, Try.ntmps15
    go_upto_region 1 with fail
    have hF0 : Wl [(fun W => Below w.heap.size w W)] 0 (World.drew _) := (Below.refl _ _).drew
    clear c0
    refine wp_region_phs [is (.slice D q f), is (.int .u16 (hd X)), is (.pointer (some ⟨g, 0, none⟩)), is (.pointer (some ⟨g, 0, none⟩)), is (.pointer (some ⟨g, 0, none⟩)), is (.pointer (some ⟨g, 3, none⟩)), is (.slice (some ⟨b, o, none⟩) n c), is (.pointer (some ⟨b, o, none⟩)), is (.agg (pcell (Y, q0)).toArray), (fun v W => ∃ g9, v = Value.slice (some ⟨g9, 0, none⟩) 1 1 ∧ PutsAt W v [(Y, q0)]), is (.int .u16 (hd Z)), is (.int .u16 (hd U)), is (.bool true)] [true, true, true, true, true, true, true, true, true, false, true, true, true] [(fun W => Below w.heap.size w W)] [false, false, false, false, false, false, false, false, false, false, false, false, false] [some 0, some 0, some 0, some 0, some 0, some 0, some 0, some 0, some 0, some 0, some 0, some 0, some 0] [some 14, some 15, some 16, some 17, some 18, some 19, some 20, some 21, some 22, some 23, some 24, some 25, some 26] 13 0 (fun _ => true) rfl rfl (by kernel_rfl) (by kernel_rfl) (by kernel_rfl) (by kernel_rfl) ?_ ?_ ?_ ?_ ?_ ?_
    · repeat first | exact wok_nil | refine wok_cons (by first | exact fun _ _ h k => h.trans (k.mono h.size)) ?_
    · repeat first | exact vok_nil | refine vok_rig (by first | exact fun _ _ _ h => h) ?_ | refine vok_soft (by first | exact fun _ _ _ h _ => h | exact fun _ _ _ h k => ⟨h.choose, h.choose_spec.1, h.choose_spec.2.below k (Nat.le_refl _)⟩) ?_
    · exact hF0
    · repeat first | exact all_end (by decide) | refine all_cons (by first | exact rfl | exact ⟨rfl, fun _ _ h => Or.inl h⟩ | exact ⟨rfl, fun _ _ h => Or.inr ⟨h, rfl⟩⟩) ?_
    · refine allp_mild 0 rfl rfl rfl (fun a x_ W hout hin hP => ?_) ?_
      · have e1 : a.tmps[1]? = some (.slice D q f) := (hout 1 (by kernel_rfl)).trans rfl
        exact does_move rfl e1 ⟨Same.refl _, rfl⟩
      refine allp_mild 0 rfl rfl rfl (fun a x_ W hout hin hP => ?_) ?_
      · have e14 := hin.is 0 14 (by kernel_rfl) (by decide) (by kernel_rfl) (by kernel_rfl) _ rfl
        have C := labbits_any l _ W (HL.out.below hP (Nat.le_refl _)) HLN.out
        rw [HX.out] at C
        clear hP
        clear hin hout
        intro K Q hK
        go_simp
        refine C.mono ?_
        rintro e W' ⟨rfl, hb⟩
        exact hK _ _ ⟨hb, rfl⟩
      refine allp_mild 0 rfl rfl rfl (fun a x_ W hout hin hP => ?_) ?_
      · have e0 : a.tmps[0]? = some (.pointer (some ⟨g, 0, none⟩)) := (hout 0 (by kernel_rfl)).trans rfl
        exact does_move rfl e0 ⟨Same.refl _, rfl⟩
      refine allp_mild 0 rfl rfl rfl (fun a x_ W hout hin hP => ?_) ?_
      · have e16 := hin.is 2 16 (by kernel_rfl) (by decide) (by kernel_rfl) (by kernel_rfl) _ rfl
        clear hP
        clear hin hout
        intro K Q hK
        go_simp
        exact hK _ _ ⟨Same.refl _, rfl⟩
      refine allp_mild 0 rfl rfl rfl (fun a x_ W hout hin hP => ?_) ?_
      · have e17 := hin.is 3 17 (by kernel_rfl) (by decide) (by kernel_rfl) (by kernel_rfl) _ rfl
        clear hP
        clear hin hout
        intro K Q hK
        go_simp
        exact hK _ _ ⟨Same.refl _, rfl⟩
      refine allp_mild 0 rfl rfl rfl (fun a x_ W hout hin hP => ?_) ?_
      · have e18 := hin.is 4 18 (by kernel_rfl) (by decide) (by kernel_rfl) (by kernel_rfl) _ rfl
        clear hP
        clear hin hout
        intro K Q hK
        go_simp
        exact hK _ _ ⟨Same.refl _, rfl⟩
      refine allp_mild 0 rfl rfl rfl (fun a x_ W hout hin hP => ?_) ?_
      · have e19 := hin.is 5 19 (by kernel_rfl) (by decide) (by kernel_rfl) (by kernel_rfl) _ rfl
        have hr := HR.out.call hP
        have hc : W.cell? ⟨g, 3, none⟩ = some (.slice (some ⟨b, o, none⟩) n c) := hr.get rfl
        clear hP
        clear hin hout
        intro K Q hK
        go_simp
        exact hK _ _ ⟨Same.refl _, rfl⟩
      refine allp_mild 0 rfl rfl rfl (fun a x_ W hout hin hP => ?_) ?_
      · have e20 := hin.is 6 20 (by kernel_rfl) (by decide) (by kernel_rfl) (by kernel_rfl) _ rfl
        have hn := HN1.out
        clear hP
        clear hin hout
        intro K Q hK
        go_simp
        exact hK _ _ ⟨Same.refl _, rfl⟩
      refine allp_mild 0 rfl rfl rfl (fun a x_ W hout hin hP => ?_) ?_
      · have e21 := hin.is 7 21 (by kernel_rfl) (by decide) (by kernel_rfl) (by kernel_rfl) _ rfl
        clear hin hout
        intro K Q hK
        refine wp_load_mid 61 (.tmp 21) rfl b o (eval_of_get e21) (pcell (Y, q0)) _ (fun j u hu => (hP.cell (p := ⟨b, o + j, none⟩) HBW.out).trans (HRG.out j u hu)) Try.underlying61 rfl (by rw [len_pcell HQ.out]; exact info_put33) (hK _ _ ⟨Same.refl _, rfl⟩)
      refine allp_mild 0 rfl rfl rfl (fun a x_ W hout hin hP => ?_) ?_
      · have e22 := hin.is 8 22 (by kernel_rfl) (by decide) (by kernel_rfl) (by kernel_rfl) _ rfl
        clear hin hout hP
        intro K Q hK
        refine wp_buildOne 28 61 (.tmp 22) rfl (pcell (Y, q0)).toArray _ 33 (eval_of_get e22) Try.underlying28 rfl (by rw [List.size_toArray, len_pcell HQ.out]) (by decide) (by decide) (hK _ _ ⟨Same.alloc _ _, _, rfl, puts_one (Row.fresh _ _ _) ⟨HQ.out, HYB.out⟩⟩)
      refine allp_mild 0 rfl rfl rfl (fun a x_ W hout hin hP => ?_) ?_
      · obtain ⟨v23, e23, hv23⟩ := hin.get 9 23 (by kernel_rfl) (by decide) (by kernel_rfl) (.inr ⟨rfl, by kernel_rfl⟩)
        obtain ⟨g9, rfl, hp9⟩ := hv23
        have C := labbits_any [(Y, q0)] _ W hp9 (Nat.le_of_ble_eq_true rfl)
        rw [HZ.out] at C
        clear hP hp9
        clear hin hout
        intro K Q hK
        go_simp
        refine C.mono ?_
        rintro e W' ⟨rfl, hb⟩
        exact hK _ _ ⟨hb, rfl⟩
      refine allp_mild 0 rfl rfl rfl (fun a x_ W hout hin hP => ?_) ?_
      · have e15 := hin.is 1 15 (by kernel_rfl) (by decide) (by kernel_rfl) (by kernel_rfl) _ rfl
        have e24 := hin.is 10 24 (by kernel_rfl) (by decide) (by kernel_rfl) (by kernel_rfl) _ rfl
        have hand := HAND.out
        clear hP
        clear hin hout
        intro K Q hK
        go_simp
        exact hK _ _ ⟨Same.refl _, rfl⟩
      refine allp_mild 0 rfl rfl rfl (fun a x_ W hout hin hP => ?_) ?_
      · have e25 := hin.is 11 25 (by kernel_rfl) (by decide) (by kernel_rfl) (by kernel_rfl) _ rfl
        have hq := HQU.out
        clear hP
        clear hin hout
        intro K Q hK
        go_simp
        exact hK _ _ ⟨Same.refl _, rfl⟩
      exact all_end (by decide)
    · intro x_ W hP hV
      have h12 : x_ 12 = .bool true := hV 12 (by decide) (.inl (by kernel_rfl))
      have HB := Lib.hid hP
      clear hP hV
      simp only [putL, Act.put, List.setIfInBounds_toArray, List.set_cons_succ, List.set_cons_zero, h12]
      refine wpAnyH_done (by kernel_rfl) ?_ _
      clear h12
      have HR9 := Lib.hid (HR.out.call HB.out)
      have HS := st_only HR9.out
      go_wp2_with (first | ((with_reducible refine wpList_plain ?_ ?_); exact rfl; intro KK hKK; refine wp_st_put HS 0 9 4 (.tmp 29) (.const (.bool true)) rfl rfl rfl (.bool true) rfl (by kernel_rfl) rfl rfl (by show 9 < 10; decide) (sndC S.o S.p (.slice (some ⟨b, o, none⟩) n c) (.slice B m d) S.n true) (by exact rfl) (fun W21 HSx => hKK _ _ ?_); clear hKK KK HS; have HS : St W (fun k => k = g) [⟨g, 32, sndC S.o S.p (.slice (some ⟨b, o, none⟩) n c) (.slice B m d) S.n true⟩] W21 := HSx; clear HSx))
      go_end0
      have KF : ∀ y, y = g → y < W.heap.size → ∃ t cs, Row W y t cs ∧ NoU8 cs := fun y hy _ => by subst hy; exact ⟨_, _, HR9.out, nou8_snd _ _ _ _ _ _ _ _ _ _⟩
      exact ⟨rfl, ⟨some ⟨b, o, none⟩, n, c, B, m, d, HS.row 0 rfl, puts_keep (HPO.out.below HB.out (Nat.le_refl _)) HS.chg KF, puts_keep (HPP.out.below HB.out (Nat.le_refl _)) HS.chg KF⟩, (Chg.of_below (F := (fun k => k = g)) HB.out).trans HS.chg (fun i hi => .inl hi)⟩
set_option maxHeartbeats 800000 in
theorem out_nil (w : World) : Calls Try.prog 21 #[.pointer none] w fun x w' => x = .returned (.tuple #[.agg (pktA 0 0#32 0#32 (.slice none 0 0)), .bool false]) ∧ Below w.heap.size w w' := by
  have HS := St.nil w noF
  go_enter Try.func21, Try.ntmps21
  go_upto_region 1 with (first | ((with_reducible refine wpList_plain ?_ ?_); exact rfl; intro KK hKK; refine wp_st_alloc HS 30 (pktA 0 0#32 0#32 (.slice none 0 0)) rfl (.agg (pktA 0 0#32 0#32 (.slice none 0 0))) (by kernel_rfl) (rfl) (fun g2 W1 HSx => hKK _ _ ?_); clear hKK KK HS; have HS : St w noF [⟨g2, 30, pktA 0 0#32 0#32 (.slice none 0 0)⟩] W1 := HSx; clear HSx))
  go_wp2_with (first | ((with_reducible refine wpList_plain ?_ ?_); exact rfl; intro KK hKK; refine wp_st_store HS 0 0 30 (.tmp 2) (.tmp 6) rfl rfl rfl (.agg #[.int .i64 0, .int .u32 0, .int .u32 0, .slice none 0 0]) rfl (by exact size_pkt) (Nat.le_refl 4) (by simp [Value.cells, Value.oneCell']) (pktA 0 0#32 0#32 (.slice none 0 0)) (by exact rfl) (fun W31 HSx => hKK _ _ ?_); clear hKK KK HS; have HS : St w noF [⟨g2, 30, pktA 0 0#32 0#32 (.slice none 0 0)⟩] W31 := HSx; clear HSx))
  refine bodyPost_ret (results_cell_tmp Try.results21 _ _ g2 30 (pktA 0 0#32 0#32 (.slice none 0 0)) (0, 0) _ rfl (HS.row 0 rfl) Try.underlying30 rfl (by exact size_pkt)) rfl ?_
  exact ⟨rfl, HS.below⟩
set_option maxRecDepth 20000 in
set_option maxHeartbeats 1600000 in
theorem out_any (g : Nat) (S : Snd) (w : World) (h : SndAt w g S) (hlo : S.o.l.length ≤ 5) :
    Calls Try.prog 21 #[.pointer (some ⟨g, 0, none⟩)] w fun x w' => ∃ B9 m9 d9, x = .returned (.tuple #[.agg (pktA S.o.k S.o.e S.o.s (.slice B9 m9 d9)), .bool (decide (S.o.k ≠ 0))]) ∧ PutsAt w' (.slice B9 m9 d9) S.o.l ∧ Below w.heap.size w w' := by
  obtain ⟨A, n, c, B, m, d, hr, hpo, hpp⟩ := h
  have HR := Lib.hid hr
  have HPO := Lib.hid hpo
  have HPP := Lib.hid hpp
  clear hr hpo hpp
  have HLO : Hid (n ≤ 1000000) := Lib.hid (by have := puts_len HPO.out; omega)
  clear hlo
  have HS := St.nil w noF
  go_enter Try.func21, Try.ntmps21
  go_upto_region 1 with (first | ((with_reducible refine wpList_plain ?_ ?_); exact rfl; intro KK hKK; refine wp_st_alloc HS 30 (pktA 0 0#32 0#32 (.slice none 0 0)) rfl (.agg (pktA 0 0#32 0#32 (.slice none 0 0))) (by kernel_rfl) (rfl) (fun g2 W1 HSx => hKK _ _ ?_); clear hKK KK HS; have HS : St w noF [⟨g2, 30, pktA 0 0#32 0#32 (.slice none 0 0)⟩] W1 := HSx; clear HSx))
  go_upto_region 3 with fail
  have hF0 : Wl [(fun W => St w noF [⟨g2, 30, pktA 0 0#32 0#32 (.slice none 0 0)⟩] W), (fun W => ∃ B9 m9 d9, St w noF [⟨g2, 30, pktA S.o.k S.o.e S.o.s (.slice B9 m9 d9)⟩] W ∧ PutsAt W (.slice B9 m9 d9) S.o.l)] 0 (World.drew _) := HS.same (Below.refl _ _).drew
  clear HS
  refine wp_region_phs [is (.pointer (some ⟨g, 0, none⟩)), is (.pointer (some ⟨g, 0, none⟩)), is (.pointer (some ⟨g, 0, none⟩)), is (.agg (pktA S.o.k S.o.e S.o.s (.slice A n c))), (fun v W => ∃ B9 m9 d9, v = Value.agg (pktA S.o.k S.o.e S.o.s (.slice B9 m9 d9)) ∧ PutsAt W (.slice B9 m9 d9) S.o.l), is (.pointer (some ⟨g, 0, none⟩)), is (.pointer (some ⟨g, 0, none⟩)), is (.pointer (some ⟨g, 0, none⟩)), is (.agg (pktA S.o.k S.o.e S.o.s (.slice A n c))), is (.bool (decide (S.o.k ≠ 0))), anyV, is (.bool (decide (S.o.k ≠ 0)))] [true, true, true, true, false, true, true, true, true, true, true, true] [(fun W => St w noF [⟨g2, 30, pktA 0 0#32 0#32 (.slice none 0 0)⟩] W), (fun W => ∃ B9 m9 d9, St w noF [⟨g2, 30, pktA S.o.k S.o.e S.o.s (.slice B9 m9 d9)⟩] W ∧ PutsAt W (.slice B9 m9 d9) S.o.l)] [false, false, false, false, false, false, false, false, false, false, true, false] [some 0, some 0, some 0, some 0, some 0, some 0, some 0, some 0, some 0, some 0, some 0, some 1] [some 7, some 8, some 9, some 10, some 11, some 12, some 13, some 14, some 15, some 16, none, some 3] 12 1 (fun _ => true) rfl rfl (by kernel_rfl) (by kernel_rfl) (by kernel_rfl) (by kernel_rfl) ?_ ?_ ?_ ?_ ?_ ?_
  · repeat first | exact wok_nil | refine wok_cons (by first | exact fun _ _ h k => h.same k | exact fun _ _ h k => ⟨h.choose, h.choose_spec.choose, h.choose_spec.choose_spec.choose, h.choose_spec.choose_spec.choose_spec.1.same k, h.choose_spec.choose_spec.choose_spec.2.below k (Nat.le_refl _)⟩) ?_
  · repeat first | exact vok_nil | refine vok_rig (by first | exact fun _ _ _ h => h) ?_ | refine vok_soft (by first | exact fun _ _ _ h _ => h | exact fun _ _ _ h k => ⟨h.choose, h.choose_spec.choose, h.choose_spec.choose_spec.choose, h.choose_spec.choose_spec.choose_spec.1, h.choose_spec.choose_spec.choose_spec.2.below k (Nat.le_refl _)⟩) ?_
  · exact hF0
  · repeat first | exact all_end (by decide) | refine all_cons (by first | exact rfl | exact ⟨rfl, fun _ _ h => Or.inl h⟩ | exact ⟨rfl, fun _ _ h => Or.inr ⟨h, rfl⟩⟩) ?_
  · refine allp_mild 0 rfl rfl rfl (fun a x_ W hout hin hP => ?_) ?_
    · have e0 : a.tmps[0]? = some (.pointer (some ⟨g, 0, none⟩)) := (hout 0 (by kernel_rfl)).trans rfl
      exact does_move rfl e0 ⟨Same.refl _, rfl⟩
    refine allp_mild 0 rfl rfl rfl (fun a x_ W hout hin hP => ?_) ?_
    · have e7 := hin.is 0 7 (by kernel_rfl) (by decide) (by kernel_rfl) (by kernel_rfl) _ rfl
      clear hP
      clear hin hout
      intro K Q hK
      go_simp
      exact hK _ _ ⟨Same.refl _, rfl⟩
    refine allp_mild 0 rfl rfl rfl (fun a x_ W hout hin hP => ?_) ?_
    · have e8 := hin.is 1 8 (by kernel_rfl) (by decide) (by kernel_rfl) (by kernel_rfl) _ rfl
      clear hP
      clear hin hout
      intro K Q hK
      go_simp
      exact hK _ _ ⟨Same.refl _, rfl⟩
    refine allp_mild 0 rfl rfl rfl (fun a x_ W hout hin hP => ?_) ?_
    · have e9 := hin.is 2 9 (by kernel_rfl) (by decide) (by kernel_rfl) (by kernel_rfl) _ rfl
      clear hin hout
      intro K Q hK
      refine wp_load_mid 30 (.tmp 9) rfl g 0 (eval_of_get e9) (pktA S.o.k S.o.e S.o.s (.slice A n c)).toList _ ((HR.out.call hP.below).slab 0 _ rfl) Try.underlying30 rfl (by exact size_pkt) (hK _ _ ⟨Same.refl _, rfl⟩)
    refine allp_mild 0 rfl rfl rfl (fun a x_ W hout hin hP => ?_) ?_
    · have e10 := hin.is 3 10 (by kernel_rfl) (by decide) (by kernel_rfl) (by kernel_rfl) _ rfl
      have C := copied_any S.o.k S.o.e S.o.s _ _ _ S.o.l W (HPO.out.below hP.below (Nat.le_refl _)) HLO.out
      clear hP
      clear hin hout
      intro K Q hK
      go_simp
      refine C.mono ?_
      rintro e W' ⟨B9, m9, d9, rfl, hp9, hb⟩
      exact hK _ _ ⟨hb, B9, m9, d9, rfl, hp9⟩
    refine allp_mild 0 rfl rfl rfl (fun a x_ W hout hin hP => ?_) ?_
    · have e0 : a.tmps[0]? = some (.pointer (some ⟨g, 0, none⟩)) := (hout 0 (by kernel_rfl)).trans rfl
      exact does_move rfl e0 ⟨Same.refl _, rfl⟩
    refine allp_mild 0 rfl rfl rfl (fun a x_ W hout hin hP => ?_) ?_
    · have e12 := hin.is 5 12 (by kernel_rfl) (by decide) (by kernel_rfl) (by kernel_rfl) _ rfl
      clear hP
      clear hin hout
      intro K Q hK
      go_simp
      exact hK _ _ ⟨Same.refl _, rfl⟩
    refine allp_mild 0 rfl rfl rfl (fun a x_ W hout hin hP => ?_) ?_
    · have e13 := hin.is 6 13 (by kernel_rfl) (by decide) (by kernel_rfl) (by kernel_rfl) _ rfl
      clear hP
      clear hin hout
      intro K Q hK
      go_simp
      exact hK _ _ ⟨Same.refl _, rfl⟩
    refine allp_mild 0 rfl rfl rfl (fun a x_ W hout hin hP => ?_) ?_
    · have e14 := hin.is 7 14 (by kernel_rfl) (by decide) (by kernel_rfl) (by kernel_rfl) _ rfl
      clear hin hout
      intro K Q hK
      refine wp_load_mid 30 (.tmp 14) rfl g 0 (eval_of_get e14) (pktA S.o.k S.o.e S.o.s (.slice A n c)).toList _ ((HR.out.call hP.below).slab 0 _ rfl) Try.underlying30 rfl (by exact size_pkt) (hK _ _ ⟨Same.refl _, rfl⟩)
    refine allp_mild 0 rfl rfl rfl (fun a x_ W hout hin hP => ?_) ?_
    · have e15 := hin.is 8 15 (by kernel_rfl) (by decide) (by kernel_rfl) (by kernel_rfl) _ rfl
      have C := is_any S.o.k S.o.e S.o.s (.slice A n c) W
      clear hP
      clear hin hout
      intro K Q hK
      go_simp
      refine C.mono ?_
      rintro e W' ⟨rfl, hb⟩
      exact hK _ _ ⟨hb, rfl⟩
    refine allp_wild 0 rfl rfl rfl (fun a x_ W hout hin hP => ?_) ?_
    · have e2 : a.tmps[2]? = some (.pointer (some ⟨g2, 0, none⟩)) := (hout 2 (by kernel_rfl)).trans rfl
      obtain ⟨v11, e11, hv11⟩ := hin.get 4 11 (by kernel_rfl) (by decide) (by kernel_rfl) (.inr ⟨rfl, by kernel_rfl⟩)
      obtain ⟨B9, m9, d9, rfl, hp9⟩ := hv11
      clear hin hout
      intro K Q hK
      have HS9 := st_again (G := fun k => k = g2) hP (fun k r hk => by match k, hk with | 0, hk => cases hk; rfl)
      exact wp_st_store HS9 0 0 30 (.tmp 2) (.tmp 11) rfl rfl (eval_of_get e2) (.agg (pktA S.o.k S.o.e S.o.s (.slice B9 m9 d9))) (eval_of_get e11) (by exact size_pkt) (Nat.le_refl 4) (pkt_one ..) (pktA S.o.k S.o.e S.o.s (.slice B9 m9 d9)) (by exact spl_agg _ _ _ rfl rfl) (fun W9 HSx => hK _ _ ⟨⟨B9, m9, d9, st_then hP HSx (fun i hi => .inr (by rw [hi]; exact (hP.own 0 _ rfl).resolve_left (fun h => h))) (fun k r hk => by match k, hk with | 0, hk => cases hk; exact (hP.own 0 ⟨g2, 30, pktA 0 0#32 0#32 (.slice none 0 0)⟩ rfl)), puts_keep hp9 HSx.chg (fun y hy _ => by rw [hy]; exact ⟨_, _, hP.row 0 rfl, nou8_pkt _ _ _ _ _ _⟩)⟩, trivial⟩)
    refine allp_mild 1 rfl rfl rfl (fun a x_ W hout hin hP => ?_) ?_
    · have e16 := hin.is 9 16 (by kernel_rfl) (by decide) (by kernel_rfl) (by kernel_rfl) _ rfl
      exact does_assign rfl e16 ⟨Same.refl _, rfl⟩
    exact all_end (by decide)
  · intro x_ W hP hV
    have h11 : x_ 11 = .bool (decide (S.o.k ≠ 0)) := hV 11 (by decide) (.inl (by kernel_rfl))
    obtain ⟨B9, m9, d9, hs9, hp9⟩ := hP
    have HST := Lib.hid hs9
    have HP9 := Lib.hid hp9
    clear hs9 hp9 hV
    simp only [putL, Act.put, List.setIfInBounds_toArray, List.set_cons_succ, List.set_cons_zero, h11]
    refine wpAnyH_done (by kernel_rfl) ?_ _
    clear h11
    go_wp2_with fail
    refine bodyPost_ret (results_cell_tmp Try.results21 _ _ g2 30 (pktA S.o.k S.o.e S.o.s (.slice B9 m9 d9)) (0, 0) _ rfl (HST.out.row 0 rfl) Try.underlying30 rfl (by exact size_pkt)) rfl ?_
    exact ⟨B9, m9, d9, rfl, HP9.out, HST.out.below⟩
set_option maxHeartbeats 800000 in
theorem early_nil (w : World) : Calls Try.prog 22 #[.pointer none] w fun x w' => x = .returned (.tuple #[.agg (pktA 0 0#32 0#32 (.slice none 0 0)), .bool false]) ∧ Below w.heap.size w w' := by
  have HS := St.nil w noF
  go_enter Try.func22, Try.ntmps22
  go_upto_region 1 with (first | ((with_reducible refine wpList_plain ?_ ?_); exact rfl; intro KK hKK; refine wp_st_alloc HS 30 (pktA 0 0#32 0#32 (.slice none 0 0)) rfl (.agg (pktA 0 0#32 0#32 (.slice none 0 0))) (by kernel_rfl) (rfl) (fun g2 W1 HSx => hKK _ _ ?_); clear hKK KK HS; have HS : St w noF [⟨g2, 30, pktA 0 0#32 0#32 (.slice none 0 0)⟩] W1 := HSx; clear HSx))
  go_wp2_with (first | ((with_reducible refine wpList_plain ?_ ?_); exact rfl; intro KK hKK; refine wp_st_store HS 0 0 30 (.tmp 2) (.tmp 6) rfl rfl rfl (.agg #[.int .i64 0, .int .u32 0, .int .u32 0, .slice none 0 0]) rfl (by exact size_pkt) (Nat.le_refl 4) (by simp [Value.cells, Value.oneCell']) (pktA 0 0#32 0#32 (.slice none 0 0)) (by exact rfl) (fun W31 HSx => hKK _ _ ?_); clear hKK KK HS; have HS : St w noF [⟨g2, 30, pktA 0 0#32 0#32 (.slice none 0 0)⟩] W31 := HSx; clear HSx))
  refine bodyPost_ret (results_cell_tmp Try.results22 _ _ g2 30 (pktA 0 0#32 0#32 (.slice none 0 0)) (0, 0) _ rfl (HS.row 0 rfl) Try.underlying30 rfl (by exact size_pkt)) rfl ?_
  exact ⟨rfl, HS.below⟩
set_option maxRecDepth 20000 in
set_option maxHeartbeats 1600000 in
theorem early_any (g : Nat) (S : Snd) (w : World) (h : SndAt w g S) (hlo : S.p.l.length ≤ 5) :
    Calls Try.prog 22 #[.pointer (some ⟨g, 0, none⟩)] w fun x w' => ∃ B9 m9 d9, x = .returned (.tuple #[.agg (pktA S.p.k S.p.e S.p.s (.slice B9 m9 d9)), .bool (decide (S.p.k ≠ 0))]) ∧ PutsAt w' (.slice B9 m9 d9) S.p.l ∧ Below w.heap.size w w' := by
  obtain ⟨A, n, c, B, m, d, hr, hpo, hpp⟩ := h
  have HR := Lib.hid hr
  have HPO := Lib.hid hpo
  have HPP := Lib.hid hpp
  clear hr hpo hpp
  have HLO : Hid (m ≤ 1000000) := Lib.hid (by have := puts_len HPP.out; omega)
  clear hlo
  have HS := St.nil w noF
  go_enter Try.func22, Try.ntmps22
  go_upto_region 1 with (first | ((with_reducible refine wpList_plain ?_ ?_); exact rfl; intro KK hKK; refine wp_st_alloc HS 30 (pktA 0 0#32 0#32 (.slice none 0 0)) rfl (.agg (pktA 0 0#32 0#32 (.slice none 0 0))) (by kernel_rfl) (rfl) (fun g2 W1 HSx => hKK _ _ ?_); clear hKK KK HS; have HS : St w noF [⟨g2, 30, pktA 0 0#32 0#32 (.slice none 0 0)⟩] W1 := HSx; clear HSx))
  go_upto_region 3 with fail
  have hF0 : Wl [(fun W => St w noF [⟨g2, 30, pktA 0 0#32 0#32 (.slice none 0 0)⟩] W), (fun W => ∃ B9 m9 d9, St w noF [⟨g2, 30, pktA S.p.k S.p.e S.p.s (.slice B9 m9 d9)⟩] W ∧ PutsAt W (.slice B9 m9 d9) S.p.l)] 0 (World.drew _) := HS.same (Below.refl _ _).drew
  clear HS
  refine wp_region_phs [is (.pointer (some ⟨g, 0, none⟩)), is (.pointer (some ⟨g, 0, none⟩)), is (.pointer (some ⟨g, 4, none⟩)), is (.agg (pktA S.p.k S.p.e S.p.s (.slice B m d))), (fun v W => ∃ B9 m9 d9, v = Value.agg (pktA S.p.k S.p.e S.p.s (.slice B9 m9 d9)) ∧ PutsAt W (.slice B9 m9 d9) S.p.l), is (.pointer (some ⟨g, 0, none⟩)), is (.pointer (some ⟨g, 0, none⟩)), is (.pointer (some ⟨g, 4, none⟩)), is (.agg (pktA S.p.k S.p.e S.p.s (.slice B m d))), is (.bool (decide (S.p.k ≠ 0))), anyV, is (.bool (decide (S.p.k ≠ 0)))] [true, true, true, true, false, true, true, true, true, true, true, true] [(fun W => St w noF [⟨g2, 30, pktA 0 0#32 0#32 (.slice none 0 0)⟩] W), (fun W => ∃ B9 m9 d9, St w noF [⟨g2, 30, pktA S.p.k S.p.e S.p.s (.slice B9 m9 d9)⟩] W ∧ PutsAt W (.slice B9 m9 d9) S.p.l)] [false, false, false, false, false, false, false, false, false, false, true, false] [some 0, some 0, some 0, some 0, some 0, some 0, some 0, some 0, some 0, some 0, some 0, some 1] [some 7, some 8, some 9, some 10, some 11, some 12, some 13, some 14, some 15, some 16, none, some 3] 12 1 (fun _ => true) rfl rfl (by kernel_rfl) (by kernel_rfl) (by kernel_rfl) (by kernel_rfl) ?_ ?_ ?_ ?_ ?_ ?_
  · repeat first | exact wok_nil | refine wok_cons (by first | exact fun _ _ h k => h.same k | exact fun _ _ h k => ⟨h.choose, h.choose_spec.choose, h.choose_spec.choose_spec.choose, h.choose_spec.choose_spec.choose_spec.1.same k, h.choose_spec.choose_spec.choose_spec.2.below k (Nat.le_refl _)⟩) ?_
  · repeat first | exact vok_nil | refine vok_rig (by first | exact fun _ _ _ h => h) ?_ | refine vok_soft (by first | exact fun _ _ _ h _ => h | exact fun _ _ _ h k => ⟨h.choose, h.choose_spec.choose, h.choose_spec.choose_spec.choose, h.choose_spec.choose_spec.choose_spec.1, h.choose_spec.choose_spec.choose_spec.2.below k (Nat.le_refl _)⟩) ?_
  · exact hF0
  · repeat first | exact all_end (by decide) | refine all_cons (by first | exact rfl | exact ⟨rfl, fun _ _ h => Or.inl h⟩ | exact ⟨rfl, fun _ _ h => Or.inr ⟨h, rfl⟩⟩) ?_
  · refine allp_mild 0 rfl rfl rfl (fun a x_ W hout hin hP => ?_) ?_
    · have e0 : a.tmps[0]? = some (.pointer (some ⟨g, 0, none⟩)) := (hout 0 (by kernel_rfl)).trans rfl
      exact does_move rfl e0 ⟨Same.refl _, rfl⟩
    refine allp_mild 0 rfl rfl rfl (fun a x_ W hout hin hP => ?_) ?_
    · have e7 := hin.is 0 7 (by kernel_rfl) (by decide) (by kernel_rfl) (by kernel_rfl) _ rfl
      clear hP
      clear hin hout
      intro K Q hK
      go_simp
      exact hK _ _ ⟨Same.refl _, rfl⟩
    refine allp_mild 0 rfl rfl rfl (fun a x_ W hout hin hP => ?_) ?_
    · have e8 := hin.is 1 8 (by kernel_rfl) (by decide) (by kernel_rfl) (by kernel_rfl) _ rfl
      clear hP
      clear hin hout
      intro K Q hK
      go_simp
      exact hK _ _ ⟨Same.refl _, rfl⟩
    refine allp_mild 0 rfl rfl rfl (fun a x_ W hout hin hP => ?_) ?_
    · have e9 := hin.is 2 9 (by kernel_rfl) (by decide) (by kernel_rfl) (by kernel_rfl) _ rfl
      clear hin hout
      intro K Q hK
      refine wp_load_mid 30 (.tmp 9) rfl g 4 (eval_of_get e9) (pktA S.p.k S.p.e S.p.s (.slice B m d)).toList _ ((HR.out.call hP.below).slab 4 _ rfl) Try.underlying30 rfl (by exact size_pkt) (hK _ _ ⟨Same.refl _, rfl⟩)
    refine allp_mild 0 rfl rfl rfl (fun a x_ W hout hin hP => ?_) ?_
    · have e10 := hin.is 3 10 (by kernel_rfl) (by decide) (by kernel_rfl) (by kernel_rfl) _ rfl
      have C := copied_any S.p.k S.p.e S.p.s _ _ _ S.p.l W (HPP.out.below hP.below (Nat.le_refl _)) HLO.out
      clear hP
      clear hin hout
      intro K Q hK
      go_simp
      refine C.mono ?_
      rintro e W' ⟨B9, m9, d9, rfl, hp9, hb⟩
      exact hK _ _ ⟨hb, B9, m9, d9, rfl, hp9⟩
    refine allp_mild 0 rfl rfl rfl (fun a x_ W hout hin hP => ?_) ?_
    · have e0 : a.tmps[0]? = some (.pointer (some ⟨g, 0, none⟩)) := (hout 0 (by kernel_rfl)).trans rfl
      exact does_move rfl e0 ⟨Same.refl _, rfl⟩
    refine allp_mild 0 rfl rfl rfl (fun a x_ W hout hin hP => ?_) ?_
    · have e12 := hin.is 5 12 (by kernel_rfl) (by decide) (by kernel_rfl) (by kernel_rfl) _ rfl
      clear hP
      clear hin hout
      intro K Q hK
      go_simp
      exact hK _ _ ⟨Same.refl _, rfl⟩
    refine allp_mild 0 rfl rfl rfl (fun a x_ W hout hin hP => ?_) ?_
    · have e13 := hin.is 6 13 (by kernel_rfl) (by decide) (by kernel_rfl) (by kernel_rfl) _ rfl
      clear hP
      clear hin hout
      intro K Q hK
      go_simp
      exact hK _ _ ⟨Same.refl _, rfl⟩
    refine allp_mild 0 rfl rfl rfl (fun a x_ W hout hin hP => ?_) ?_
    · have e14 := hin.is 7 14 (by kernel_rfl) (by decide) (by kernel_rfl) (by kernel_rfl) _ rfl
      clear hin hout
      intro K Q hK
      refine wp_load_mid 30 (.tmp 14) rfl g 4 (eval_of_get e14) (pktA S.p.k S.p.e S.p.s (.slice B m d)).toList _ ((HR.out.call hP.below).slab 4 _ rfl) Try.underlying30 rfl (by exact size_pkt) (hK _ _ ⟨Same.refl _, rfl⟩)
    refine allp_mild 0 rfl rfl rfl (fun a x_ W hout hin hP => ?_) ?_
    · have e15 := hin.is 8 15 (by kernel_rfl) (by decide) (by kernel_rfl) (by kernel_rfl) _ rfl
      have C := is_any S.p.k S.p.e S.p.s (.slice B m d) W
      clear hP
      clear hin hout
      intro K Q hK
      go_simp
      refine C.mono ?_
      rintro e W' ⟨rfl, hb⟩
      exact hK _ _ ⟨hb, rfl⟩
    refine allp_wild 0 rfl rfl rfl (fun a x_ W hout hin hP => ?_) ?_
    · have e2 : a.tmps[2]? = some (.pointer (some ⟨g2, 0, none⟩)) := (hout 2 (by kernel_rfl)).trans rfl
      obtain ⟨v11, e11, hv11⟩ := hin.get 4 11 (by kernel_rfl) (by decide) (by kernel_rfl) (.inr ⟨rfl, by kernel_rfl⟩)
      obtain ⟨B9, m9, d9, rfl, hp9⟩ := hv11
      clear hin hout
      intro K Q hK
      have HS9 := st_again (G := fun k => k = g2) hP (fun k r hk => by match k, hk with | 0, hk => cases hk; rfl)
      exact wp_st_store HS9 0 0 30 (.tmp 2) (.tmp 11) rfl rfl (eval_of_get e2) (.agg (pktA S.p.k S.p.e S.p.s (.slice B9 m9 d9))) (eval_of_get e11) (by exact size_pkt) (Nat.le_refl 4) (pkt_one ..) (pktA S.p.k S.p.e S.p.s (.slice B9 m9 d9)) (by exact spl_agg _ _ _ rfl rfl) (fun W9 HSx => hK _ _ ⟨⟨B9, m9, d9, st_then hP HSx (fun i hi => .inr (by rw [hi]; exact (hP.own 0 _ rfl).resolve_left (fun h => h))) (fun k r hk => by match k, hk with | 0, hk => cases hk; exact (hP.own 0 ⟨g2, 30, pktA 0 0#32 0#32 (.slice none 0 0)⟩ rfl)), puts_keep hp9 HSx.chg (fun y hy _ => by rw [hy]; exact ⟨_, _, hP.row 0 rfl, nou8_pkt _ _ _ _ _ _⟩)⟩, trivial⟩)
    refine allp_mild 1 rfl rfl rfl (fun a x_ W hout hin hP => ?_) ?_
    · have e16 := hin.is 9 16 (by kernel_rfl) (by decide) (by kernel_rfl) (by kernel_rfl) _ rfl
      exact does_assign rfl e16 ⟨Same.refl _, rfl⟩
    exact all_end (by decide)
  · intro x_ W hP hV
    have h11 : x_ 11 = .bool (decide (S.p.k ≠ 0)) := hV 11 (by decide) (.inl (by kernel_rfl))
    obtain ⟨B9, m9, d9, hs9, hp9⟩ := hP
    have HST := Lib.hid hs9
    have HP9 := Lib.hid hp9
    clear hs9 hp9 hV
    simp only [putL, Act.put, List.setIfInBounds_toArray, List.set_cons_succ, List.set_cons_zero, h11]
    refine wpAnyH_done (by kernel_rfl) ?_ _
    clear h11
    go_wp2_with fail
    refine bodyPost_ret (results_cell_tmp Try.results22 _ _ g2 30 (pktA S.p.k S.p.e S.p.s (.slice B9 m9 d9)) (0, 0) _ rfl (HST.out.row 0 rfl) Try.underlying30 rfl (by exact size_pkt)) rfl ?_
    exact ⟨B9, m9, d9, rfl, HP9.out, HST.out.below⟩
end Go.Proofs.Ytppbgkdkioldbaa
