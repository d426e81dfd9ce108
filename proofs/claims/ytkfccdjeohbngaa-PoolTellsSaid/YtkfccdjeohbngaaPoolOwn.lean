/- The law's own volumes: copies. -/
import Derived.Test.YtkfccdjeohbngaaVolOwn
import Derived.Test.YtkfccdjeohbngaaAppEI
import Derived.Test.YtkfccdjeohbngaaPhA
import Derived.Deep.Cut
set_option maxRecDepth 4000
namespace Go.Proofs.Ytkfccdjeohbngaa
open Go Go.RowKit
theorem own_emptyI (w : World) : (w.alloc (.cells #[] 3)).ownsRow w.heap.size 3 1 (.slice (some ⟨w.heap.size, 0, none⟩) 0 0) 0 [] := ⟨rfl, .inr ⟨w.heap.size, 0, #[], rfl, Nat.le_refl _, heap_alloc_new w _, Nat.le_refl _, by decide, rfl, rfl⟩⟩
theorem ints_bdV {w : World} {A : Option Addr} {n c : Nat} {l : List Int} (h : IntsAt w (.slice A n c) l) : ∀ x ∈ l, -9223372036854775808 ≤ x ∧ x < 9223372036854775808 := fun x hx => by
  obtain ⟨j, hj, e⟩ := List.getElem_of_mem hx
  obtain ⟨_, _, y, h1, _, _, _, h2⟩ := ints_get h hj
  rw [List.getElem?_eq_getElem hj, e] at h1
  cases h1
  exact h2
set_option maxRecDepth 20000 in
set_option maxHeartbeats 1600000 in
theorem ownvols_any (A : Option Addr) (n c : Nat) (l : List Vl) (w : World) (h : VolsAt w (.slice A n c) l) (hn : n ≤ 900000) (hm : ∀ x ∈ l, x.2.length ≤ 1000000) :
    Calls Try.prog 9 #[.slice A n c] w fun e w' => ∃ v, e = .returned v ∧ OV w.heap.size w' v l ∧ Below w.heap.size w w' := by
  have hln := vols_len h
  have HF := Lib.hid (fun k (hk : k < l.length) => vols_get h hk)
  have HL := Lib.hid hln
  have HM := Lib.hid hm
  have HN9 := Lib.hid hn
  clear h hln hm
  go_enter Try.func9, Try.ntmps9
  go_wp2_with fail
  go_loopw [3, 4] (fun v i wr => ∃ k : Nat, k ≤ n ∧ i = .int .i64 k ∧ Below w.heap.size w wr ∧ OV w.heap.size wr v (l.take k)) (fun _ i _ => n - (intOf i).toNat)
  case atStart => exact ⟨0, by omega, rfl, Below.refl _ _, OV.nil _ _⟩
  case round =>
    obtain ⟨k, hk, rfl, hb, hO⟩ := hrel
    obtain ⟨A3, N3, c3, rfl, hN3, _⟩ := OV.form2 hO
    by_cases hlt : k < n
    · obtain ⟨b, o, s0, L, B, m, c1, hx, rfl, hbw, hr, hi, hlm, hs0⟩ := HF.out k (by rw [HL.out]; exact hlt)
      obtain ⟨O, hO'⟩ : ∃ O, o + k * 2 = O := ⟨_, rfl⟩
      rw [hO'] at hr
      have HC0 : Hid (w.cell? ⟨b, O, none⟩ = some (.string s0)) := Lib.hid (hr 0 _ rfl)
      have HC1 : Hid (w.cell? ⟨b, O + 1, none⟩ = some (.slice B m c1)) := Lib.hid (hr 1 _ rfl)
      have HBW := Lib.hid hbw
      have HO := Lib.hid hO'
      have HI := Lib.hid hi
      have HBD := Lib.hid (ints_bdV hi)
      have HLM := Lib.hid hlm
      have HM6 : Hid (m ≤ 1000000) := Lib.hid (by rw [← hlm]; exact HM.out _ (List.mem_of_getElem? hx))
      have HS0 := Lib.hid hs0
      have HTK : Hid (l.take k ++ [(s0, L)] = l.take (k + 1)) := Lib.hid (by rw [List.take_add_one, hx]; rfl)
      have HLK : Hid ((l.take k).length + [(s0, L)].length ≤ 1000000) := Lib.hid (by rw [List.length_take]; show min k l.length + 1 ≤ 1000000; have := HN9.out; omega)
      have hk0 : (0 : Int) ≤ (k : Int) := by omega
      have hk1 : (k : Int) < (n : Int) := by omega
      have HK0 := Lib.hid hk0
      have HK1 := Lib.hid hk1
      clear hx hr hbw hO' hi hlm hs0 hN3
      go_upto_region 5 with fail
      have hF0 : Wl [(fun W => Below w.heap.size w W ∧ OV w.heap.size W (.slice A3 N3 c3) (l.take k)), (fun W => Below w.heap.size w W)] 0 (World.drew _) := ⟨hb.drew, hO.call (Below.refl _ _).drew hb.size⟩
      clear hb hO hk0 hk1
      refine wp_region_phs [is (.slice A3 N3 c3), is (.slice (some ⟨b, o, none⟩) n c), is (.int .i64 (k : Int)), is (.pointer (some ⟨b, O, none⟩)), is (.pointer (some ⟨b, O, none⟩)), is (.string s0), (fun v W => ∃ g, v = Value.slice (some ⟨g, 0, none⟩) 0 0 ∧ W.ownsRow w.heap.size 3 1 v 0 []), is (.slice (some ⟨b, o, none⟩) n c), is (.int .i64 (k : Int)), is (.pointer (some ⟨b, O, none⟩)), is (.pointer (some ⟨b, O + 1, none⟩)), is (.slice B m c1), (fun v W => ∃ A9 c9, v = Value.slice A9 m c9 ∧ W.ownsRow w.heap.size 3 1 (.slice A9 m c9) m (intsV L)), (fun v W => ∃ A9 c9, v = Value.agg #[.string s0, .slice A9 m c9] ∧ W.ownsRow w.heap.size 3 1 (.slice A9 m c9) m (intsV L)), (fun v W => ∃ A9 c9 g, v = Value.slice (some ⟨g, 0, none⟩) 1 1 ∧ Row W g 42 #[.string s0, .slice A9 m c9] ∧ W.ownsRow w.heap.size 3 1 (.slice A9 m c9) m (intsV L)), (fun v W => OV w.heap.size W v (l.take (k + 1)) ∧ w.heap.size ≤ W.heap.size), (fun v W => OV w.heap.size W v (l.take (k + 1)) ∧ w.heap.size ≤ W.heap.size)] [true, true, true, true, true, true, false, true, true, true, true, true, false, false, false, false, false] [(fun W => Below w.heap.size w W ∧ OV w.heap.size W (.slice A3 N3 c3) (l.take k)), (fun W => Below w.heap.size w W)] [false, false, false, false, false, false, false, false, false, false, false, false, false, false, false, true, false] [some 0, some 0, some 0, some 0, some 0, some 0, some 0, some 0, some 0, some 0, some 0, some 0, some 0, some 0, some 0, some 0, some 1] [some 11, some 12, some 13, some 14, some 15, some 16, some 17, some 18, some 19, some 20, some 21, some 22, some 23, some 24, some 25, some 26, some 3] 17 1 (fun _ => true) rfl rfl (by kernel_rfl) (by kernel_rfl) (by kernel_rfl) (by kernel_rfl) ?_ ?_ ?_ ?_ ?_ ?_
      · repeat first | exact wok_nil | refine wok_cons (by first | exact fun _ _ h k => ⟨h.1.trans (k.mono h.1.size), h.2.call k h.1.size⟩ | exact fun _ _ h k => h.trans (k.mono h.size)) ?_
      · repeat first | exact vok_nil | refine vok_rig (by first | exact fun _ _ _ h => h) ?_ | refine vok_soft (by first | exact fun _ _ _ h _ => h | exact fun _ _ _ h k => ⟨h.1.call k h.2, Nat.le_trans h.2 k.size⟩ | exact fun _ _ _ h k => ⟨h.choose, h.choose_spec.1, owns_call h.choose_spec.2 k⟩ | exact fun _ _ _ h k => ⟨h.choose, h.choose_spec.choose, h.choose_spec.choose_spec.1, owns_call h.choose_spec.choose_spec.2 k⟩ | exact fun _ _ _ h k => ⟨h.choose, h.choose_spec.choose, h.choose_spec.choose_spec.choose, h.choose_spec.choose_spec.choose_spec.1, h.choose_spec.choose_spec.choose_spec.2.1.call k, owns_call h.choose_spec.choose_spec.choose_spec.2.2 k⟩) ?_
      · exact hF0
      · repeat first | exact all_end (by decide) | refine all_cons (by first | exact rfl | exact ⟨rfl, fun _ _ h => Or.inl h⟩ | exact ⟨rfl, fun _ _ h => Or.inr ⟨h, rfl⟩⟩) ?_
      · refine allp_mild 0 rfl rfl rfl (fun a x_ W hout hin hP => ?_) ?_
        · have e3 : a.tmps[3]? = some (.slice A3 N3 c3) := (hout 3 (by kernel_rfl)).trans rfl
          exact does_move rfl e3 ⟨Same.refl _, rfl⟩
        refine allp_mild 0 rfl rfl rfl (fun a x_ W hout hin hP => ?_) ?_
        · have e0 : a.tmps[0]? = some (.slice (some ⟨b, o, none⟩) n c) := (hout 0 (by kernel_rfl)).trans rfl
          exact does_move rfl e0 ⟨Same.refl _, rfl⟩
        refine allp_mild 0 rfl rfl rfl (fun a x_ W hout hin hP => ?_) ?_
        · have e4 : a.tmps[4]? = some (.int .i64 (k : Int)) := (hout 4 (by kernel_rfl)).trans rfl
          exact does_move rfl e4 ⟨Same.refl _, rfl⟩
        refine allp_mild 0 rfl rfl rfl (fun a x_ W hout hin hP => ?_) ?_
        · have e12 := hin.is 1 12 (by kernel_rfl) (by decide) (by kernel_rfl) (by kernel_rfl) _ rfl
          have e13 := hin.is 2 13 (by kernel_rfl) (by decide) (by kernel_rfl) (by kernel_rfl) _ rfl
          have hO := HO.out
          have k0 := HK0.out
          have k1 := HK1.out
          clear hP
          clear hin hout
          intro K Q hK
          go_simp
          exact hK _ _ ⟨Same.refl _, rfl⟩
        refine allp_mild 0 rfl rfl rfl (fun a x_ W hout hin hP => ?_) ?_
        · have e14 := hin.is 3 14 (by kernel_rfl) (by decide) (by kernel_rfl) (by kernel_rfl) _ rfl
          clear hP
          clear hin hout
          intro K Q hK
          go_simp
          exact hK _ _ ⟨Same.refl _, rfl⟩
        refine allp_mild 0 rfl rfl rfl (fun a x_ W hout hin hP => ?_) ?_
        · have e15 := hin.is 4 15 (by kernel_rfl) (by decide) (by kernel_rfl) (by kernel_rfl) _ rfl
          have hc : W.cell? ⟨b, O, none⟩ = some (.string s0) := (hP.1.cell (p := ⟨b, O, none⟩) HBW.out).trans HC0.out
          clear hP
          clear hin hout
          intro K Q hK
          go_simp
          exact hK _ _ ⟨Same.refl _, rfl⟩
        refine allp_mild 0 rfl rfl rfl (fun a x_ W hout hin hP => ?_) ?_
        · have hbse := hP.1.size
          clear hP
          clear hin hout
          intro K Q hK
          go_simp
          exact hK _ _ ⟨Same.alloc _ _, _, rfl, own_base (own_emptyI W) hbse⟩
        refine allp_mild 0 rfl rfl rfl (fun a x_ W hout hin hP => ?_) ?_
        · have e0 : a.tmps[0]? = some (.slice (some ⟨b, o, none⟩) n c) := (hout 0 (by kernel_rfl)).trans rfl
          exact does_move rfl e0 ⟨Same.refl _, rfl⟩
        refine allp_mild 0 rfl rfl rfl (fun a x_ W hout hin hP => ?_) ?_
        · have e4 : a.tmps[4]? = some (.int .i64 (k : Int)) := (hout 4 (by kernel_rfl)).trans rfl
          exact does_move rfl e4 ⟨Same.refl _, rfl⟩
        refine allp_mild 0 rfl rfl rfl (fun a x_ W hout hin hP => ?_) ?_
        · have e18 := hin.is 7 18 (by kernel_rfl) (by decide) (by kernel_rfl) (by kernel_rfl) _ rfl
          have e19 := hin.is 8 19 (by kernel_rfl) (by decide) (by kernel_rfl) (by kernel_rfl) _ rfl
          have hO := HO.out
          have k0 := HK0.out
          have k1 := HK1.out
          clear hP
          clear hin hout
          intro K Q hK
          go_simp
          exact hK _ _ ⟨Same.refl _, rfl⟩
        refine allp_mild 0 rfl rfl rfl (fun a x_ W hout hin hP => ?_) ?_
        · have e20 := hin.is 9 20 (by kernel_rfl) (by decide) (by kernel_rfl) (by kernel_rfl) _ rfl
          clear hP
          clear hin hout
          intro K Q hK
          go_simp
          exact hK _ _ ⟨Same.refl _, rfl⟩
        refine allp_mild 0 rfl rfl rfl (fun a x_ W hout hin hP => ?_) ?_
        · have e21 := hin.is 10 21 (by kernel_rfl) (by decide) (by kernel_rfl) (by kernel_rfl) _ rfl
          have hc : W.cell? ⟨b, O + 1, none⟩ = some (.slice B m c1) := (hP.1.cell (p := ⟨b, O + 1, none⟩) HBW.out).trans HC1.out
          clear hP
          clear hin hout
          intro K Q hK
          go_simp
          exact hK _ _ ⟨Same.refl _, rfl⟩
        refine allp_mild 0 rfl rfl rfl (fun a x_ W hout hin hP => ?_) ?_
        · obtain ⟨v17, e17, hv17⟩ := hin.get 6 17 (by kernel_rfl) (by decide) (by kernel_rfl) (.inr ⟨rfl, by kernel_rfl⟩)
          have e22 := hin.is 11 22 (by kernel_rfl) (by decide) (by kernel_rfl) (by kernel_rfl) _ rfl
          have hbse := hP.1.size
          have hI := HI.out.below hP.1 (Nat.le_refl _)
          obtain ⟨ge, rfl, hoe⟩ := hv17
          clear hin hout hP
          intro K Q hK
          refine wp_append_emptyI (.tmp 17) (.tmp 22) rfl w.heap.size ge (eval_of_get e17) hoe B m c1 L (eval_of_get e22) hI HM6.out hbse (fun v9 w9 own9 hb9 => ?_)
          obtain ⟨A9, c9, rfl, _⟩ := own_slice_form own9
          exact hK _ _ ⟨hb9, A9, c9, rfl, own9⟩
        refine allp_mild 0 rfl rfl rfl (fun a x_ W hout hin hP => ?_) ?_
        · have e16 := hin.is 5 16 (by kernel_rfl) (by decide) (by kernel_rfl) (by kernel_rfl) _ rfl
          obtain ⟨v23, e23, hv23⟩ := hin.get 12 23 (by kernel_rfl) (by decide) (by kernel_rfl) (.inr ⟨rfl, by kernel_rfl⟩)
          obtain ⟨A9, c9, rfl, ho⟩ := hv23
          clear hP
          clear hin hout
          intro K Q hK
          go_simp
          exact hK _ _ ⟨Same.refl _, A9, c9, rfl, ho⟩
        refine allp_mild 0 rfl rfl rfl (fun a x_ W hout hin hP => ?_) ?_
        · obtain ⟨v24, e24, hv24⟩ := hin.get 13 24 (by kernel_rfl) (by decide) (by kernel_rfl) (.inr ⟨rfl, by kernel_rfl⟩)
          obtain ⟨A9, c9, rfl, ho⟩ := hv24
          clear hP
          clear hin hout
          intro K Q hK
          go_simp
          exact hK _ _ ⟨Same.alloc _ _, A9, c9, _, rfl, Row.fresh _ _ _, owns_call ho ((Below.refl _ _).alloc (Nat.le_refl _) _)⟩
        refine allp_wild 0 rfl rfl rfl (fun a x_ W hout hin hP => ?_) ?_
        · have e11 := hin.is 0 11 (by kernel_rfl) (by decide) (by kernel_rfl) (by kernel_rfl) _ rfl
          obtain ⟨v25, e25, hv25⟩ := hin.get 14 25 (by kernel_rfl) (by decide) (by kernel_rfl) (.inr ⟨rfl, by kernel_rfl⟩)
          obtain ⟨A9, c9, g, rfl, hrow, ho⟩ := hv25
          clear hin hout
          intro K Q hK
          have hvi : VolsIn w.heap.size W (some ⟨g, 0, none⟩) 1 1 [(s0, L)] := vol_lit (A := A9) (c := c9) (by rw [HLM.out]; exact hrow) (.inr ⟨by rw [HLM.out]; exact ho, HBD.out⟩) HS0.out
          refine wp_append_vols (.tmp 11) (.tmp 25) rfl w.heap.size _ (l.take k) (eval_of_get e11) hP.2 _ 1 1 [(s0, L)] (eval_of_get e25) hvi HLK.out hP.1.size (fun v9 w9 ov9 hb9 => ?_)
          have e9 : l.take k ++ [(s0, L)] = l.take (k + 1) := HTK.out
          rw [e9] at ov9
          exact hK _ _ ⟨hP.1.trans hb9, ov9, (hP.1.trans hb9).size⟩
        refine allp_mild 1 rfl rfl rfl (fun a x_ W hout hin hP => ?_) ?_
        · obtain ⟨v26, e26, hv26⟩ := hin.get 15 26 (by kernel_rfl) (by decide) (by kernel_rfl) (.inr ⟨rfl, by kernel_rfl⟩)
          exact does_assign rfl e26 ⟨Same.refl _, hv26⟩
        exact all_end (by decide)
      · intro x_ W hP hV
        obtain ⟨h0, hs0⟩ := hV 16 (by decide) (.inr (by kernel_rfl))
        have HB9 := Lib.hid hP
        have HO9 := Lib.hid h0
        clear hP hV h0 hs0
        simp only [putL, Act.put, List.setIfInBounds_toArray, List.set_cons_succ, List.set_cons_zero]
        simp only [Nat.zero_add, Nat.reduceAdd]
        refine wpAnyH_done (by kernel_rfl) ?_ _
        go_wp2_with fail
        exact ⟨⟨k + 1, by omega, by go_num, HB9.out, HO9.out⟩, by simp [intOf]; omega⟩
    · obtain rfl : k = n := by omega
      have hT : l.take k = l := List.take_of_length_le (by rw [HL.out]; exact Nat.le_refl _)
      rw [hT] at hO
      have HO := Lib.hid hO
      have HB := Lib.hid hb
      clear hO hb
      go_wp2_with fail
      go_ret
      exact ⟨_, rfl, HO.out, HB.out⟩
end Go.Proofs.Ytkfccdjeohbngaa
