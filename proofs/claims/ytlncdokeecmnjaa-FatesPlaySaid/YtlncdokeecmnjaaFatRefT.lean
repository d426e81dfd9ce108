/- The document's Take and Add. -/
import Derived.Test.YtlncdokeecmnjaaFatRef
set_option maxRecDepth 4000
namespace Go.Proofs.Ytlncdokeecmnjaa
open Go Go.RowKit
theorem size_fatR (n : Int) : (Try.prog.info? 34).map (·.size) = some (fatC n).size := by rw [fatC_size]; exact size_rfat
def RFat (w : World) (g : Nat) (l : List Int) : Prop := ∃ A n c, Row w g 30 #[.slice A n c] ∧ IntsAt w (.slice A n c) l
theorem RFat.call {w w' : World} {g : Nat} {l : List Int} (h : RFat w g l) (hb : Below w.heap.size w w') : RFat w' g l := by
  obtain ⟨A, n, c, h1, h2⟩ := h
  exact ⟨A, n, c, h1.call hb, h2.below hb (Nat.le_refl _)⟩
theorem ints_neT {w : World} {g : Nat} {t : TypeId} {cs : Array Value} {A : Option Addr} {n c : Nat} {l : List Int} (h : IntsAt w (.slice A n c) l) (hr : Row w g t cs) (hs : ∀ k : Nat, ∀ v, cs[k]? = some v → ∀ z, v ≠ .int .i64 z) : ∀ b o, A = some ⟨b, o, none⟩ → l ≠ [] → b ≠ g := by
  rintro b o rfl hl rfl
  obtain ⟨b', o', x, _, e, _, hc, _⟩ := ints_get h (k := 0) (List.length_pos_iff.2 hl)
  injection e with e
  injection e with e1 e2
  subst e1 e2
  rw [hr.cell] at hc
  exact hs _ _ hc x rfl
theorem noint4 : ∀ k : Nat, ∀ v, (#[.bool false, .bool false, .bool false, .bool false] : Array Value)[k]? = some v → ∀ z, v ≠ .int .i64 z := by
  intro k v hv z e
  subst e
  match k with
  | 0 => cases hv
  | 1 => cases hv
  | 2 => cases hv
  | 3 => cases hv
  | k + 4 => simp at hv
theorem ints_chgT {w w' : World} {g : Nat} {A : Option Addr} {n c : Nat} {l : List Int} (h : IntsAt w (.slice A n c) l) (k : Chg (fun k => k = g) w w') (hne : ∀ b o, A = some ⟨b, o, none⟩ → l ≠ [] → b ≠ g) : IntsAt w' (.slice A n c) l := ints_chg (cs := #[]) h k hne rfl
theorem ints_e (w : World) : (w.alloc (.cells #[] 3)).ownsRow w.heap.size 3 1 (.slice (some ⟨w.heap.size, 0, none⟩) 0 0) 0 (intsV []) := ⟨rfl, .inr ⟨w.heap.size, 0, #[], rfl, Nat.le_refl _, heap_alloc_new w _, Nat.le_refl _, by decide, rfl, rfl⟩⟩
set_option maxHeartbeats 1600000 in
theorem rtake_any (g : Nat) (l : List Int) (w : World) (h : RFat w g l) (hl : l.length ≤ 1000) : Calls Try.prog 10 #[.pointer (some ⟨g, 0, none⟩)] w fun e w' => e = .returned (.agg (headC l)) ∧ RFat w' g l.tail ∧ Chg (fun k => k = g) w w' := by
  obtain ⟨A, n, c, hr, hi⟩ := h
  have hln := ints_len hi
  cases l with
  | nil =>
    obtain rfl : n = 0 := hln.symm
    have HI := Lib.hid hi
    have HS := st_one hr
    clear hi hln hr hl
    show Calls Try.prog 10 _ w fun e w' => e = .returned (.agg #[.bool false, .bool false, .bool false, .bool false]) ∧ RFat w' g [] ∧ Chg (fun k => k = g) w w'
    go_enter Try.func10, Try.ntmps10
    go_upto_region 1 with (first | ((with_reducible refine wpList_plain ?_ ?_); exact rfl; intro KK hKK; refine wp_st_alloc HS 34 (#[.bool false, .bool false, .bool false, .bool false]) rfl (.agg (#[.bool false, .bool false, .bool false, .bool false])) (by kernel_rfl) (rfl) (fun g2 W1 HSx => hKK _ _ ?_); clear hKK KK HS; have HS : St w (fun k => k = g) [⟨g, 30, #[.slice A 0 c]⟩, ⟨g2, 34, #[.bool false, .bool false, .bool false, .bool false]⟩] W1 := HSx; clear HSx))
    have c0 : W1.cell? ⟨g, 0, none⟩ = some (.slice A 0 c) := (HS.row 0 rfl).get rfl
    go_wp2_with (first | ((with_reducible refine wpList_plain ?_ ?_); exact rfl; intro KK hKK; refine wp_st_store HS 1 0 34 (.tmp 2) (.tmp 10) rfl rfl rfl (.agg (#[.bool false, .bool false, .bool false, .bool false])) rfl (by exact size_rfat) (Nat.le_refl 4) (by simp [Value.cells, Value.oneCell']) (#[.bool false, .bool false, .bool false, .bool false]) (by exact spl_agg _ _ _ rfl rfl) (fun W2 HSx => hKK _ _ ?_); clear hKK KK HS; have HS : St w (fun k => k = g) [⟨g, 30, #[.slice A 0 c]⟩, ⟨g2, 34, #[.bool false, .bool false, .bool false, .bool false]⟩] W2 := HSx; clear HSx))
    refine bodyPost_ret (results_cell_row Try.results10 _ _ g2 34 (#[.bool false, .bool false, .bool false, .bool false]) (0, 0) _ rfl (HS.row 1 rfl) Try.underlying34 rfl (by exact size_rfat)) rfl ?_
    have hI := HI.out
    exact ⟨rfl, ⟨A, 0, c, HS.row 0 rfl, by obtain ⟨A', c', e1, h2, h3, h4, _⟩ := hI; exact ⟨A', c', e1, h2, h3, h4, fun h => absurd rfl h⟩⟩, HS.chg⟩
  | cons x l =>
    simp only [List.length_cons] at hln hl
    obtain ⟨b, o, x', hx, rfl, hb, hc, hx1, hx2⟩ := ints_get hi (k := 0) (by simp)
    have hx : x = x' := by simpa using hx
    subst hx
    have hcp := (ints_cap hi).1
    obtain ⟨E, hE⟩ : ∃ E : Option Addr, (if c = 1 then some ⟨b, o, none⟩ else some ⟨b, o + 1, none⟩) = E := ⟨_, rfl⟩
    have ht := ints_tail hi
    rw [hE] at ht
    have HT0 := Lib.hid ht
    have HBD := Lib.hid (ints_bd ht)
    have hbg : b ≠ g := ints_neT hi hr sl_noint b o rfl (by simp)
    have HBG := Lib.hid hbg
    have HE := Lib.hid hE
    have HBL := Lib.hid hb
    have HC := Lib.hid (show w.cell? ⟨b, o, none⟩ = some (.int .i64 x) from by simpa using hc)
    have HEE : Hid (∀ b' o', E = some ⟨b', o', none⟩ → l ≠ [] → b' ≠ g) := Lib.hid (fun b' o' e _ => by
      rw [e] at hE
      split at hE <;> (injection hE with hE; injection hE with hE _; rw [← hE]; exact hbg))
    have h0 : ((n : Int) == 0) = false := beq_eq_false_iff_ne.2 (by omega)
    have k1 : (0 : Int) < (n : Int) := by omega
    have k2 : 0 < n := by omega
    have k3 : (1 : Int) ≤ (n : Int) := by omega
    have k4 : (n : Int) ≤ (c : Int) := by omega
    have HKS := Lib.hid (And.intro k1 (And.intro k2 (And.intro k3 k4)))
    have HX2 := Lib.hid hx2
    have HNL : Hid (n - 1 ≤ 1000 ∧ l.length = n - 1) := Lib.hid ⟨by omega, by omega⟩
    have HS := st_one hr
    clear hi hr hc hcp ht hE hb hbg k1 k2 k3 k4 hln hl hx1 hx2
    show Calls Try.prog 10 _ w fun e w' => e = .returned (.agg (fatC x)) ∧ RFat w' g l ∧ Chg (fun k => k = g) w w'
    go_enter Try.func10, Try.ntmps10
    go_upto_region 1 with (first | ((with_reducible refine wpList_plain ?_ ?_); exact rfl; intro KK hKK; refine wp_st_alloc HS 34 (#[.bool false, .bool false, .bool false, .bool false]) rfl (.agg (#[.bool false, .bool false, .bool false, .bool false])) (by kernel_rfl) (rfl) (fun g2 W1 HSx => hKK _ _ ?_); clear hKK KK HS; have HS : St w (fun k => k = g) [⟨g, 30, #[.slice (some ⟨b, o, none⟩) n c]⟩, ⟨g2, 34, #[.bool false, .bool false, .bool false, .bool false]⟩] W1 := HSx; clear HSx))
    have c0 : W1.cell? ⟨g, 0, none⟩ = some (.slice (some ⟨b, o, none⟩) n c) := (HS.row 0 rfl).get rfl
    have cx : W1.cell? ⟨b, o, none⟩ = some (.int .i64 x) := by
      have := HC.out
      unfold World.cell? at this ⊢
      rw [HS.chg.block b HBL.out HBG.out]
      exact this
    have HI1 : Hid (IntsAt W1 (.slice E (n - 1) (c - 1)) l) := Lib.hid (ints_chg (cs := #[]) HT0.out HS.chg (fun b o e hl => HEE.out b o e hl) rfl)
    go_upto_region 3 with fail
    clear h0
    obtain ⟨k1, k2, k3, k4⟩ := HKS.out
    go_upto_region 4 with fail
    have hE := HE.out
    have hal : Below W1.heap.size W1 (W1.alloc (.cells #[] 3)) := (Below.refl _ _).alloc (Nat.le_refl _) _
    have ca : (W1.alloc (.cells #[] 3)).cell? ⟨g, 0, none⟩ = some (.slice (some ⟨b, o, none⟩) n c) := ((HS.row 0 rfl).call hal).get rfl
    have HAL := Lib.hid hal
    have hbs := hal.size
    have hIA := HI1.out.below hal (Nat.le_refl _)
    clear hal
    have hn1 : 0 + (n - 1) ≤ 1000000 := by have := HNL.out.1; omega
    go_upto_region 5 with (first | ((with_reducible refine wpList_plain ?_ ?_); exact rfl; intro KK hKK; refine wp_append_ints (.tmp 18) (.tmp 23) rfl W1.heap.size _ 0 [] rfl (ints_e W1) E (n - 1) (c - 1) l rfl hIA hn1 hbs (fun kv w4 own1 hb4 => hKK _ _ ?_); clear hKK KK; rw [Nat.zero_add, List.nil_append] at own1; obtain ⟨A3, c3, rfl, _⟩ := own_slice_form own1; have HI4 := Lib.hid (ints_own own1 HBD.out); have hb14 := HAL.out.trans hb4; have HSw := HS.same hb14; have HR4 : Hid (Row w4 g 30 #[.slice (some ⟨b, o, none⟩) n c]) := Lib.hid (HSw.row 0 rfl); have HR2 : Hid (Row w4 g2 34 (#[.bool false, .bool false, .bool false, .bool false])) := Lib.hid (HSw.row 1 rfl); have HC4 := Lib.hid HSw.chg; have HGW : Hid (w.heap.size ≤ g2) := Lib.hid ((HSw.own 1 _ rfl).elim (fun e => absurd e (fun e => HSw.apart 0 1 _ _ (by decide) rfl rfl e.symm)) id); have HGG : Hid (g ≠ g2) := Lib.hid (HSw.apart 0 1 _ _ (by decide) rfl rfl); have HNE4 := Lib.hid (ints_neT HI4.out HR4.out sl_noint); have HT := st_one HR4.out; clear own1 hb4 hb14 HSw HS ca hIA hn1 hbs) | ((with_reducible refine wpList_plain ?_ ?_); exact rfl; intro KK hKK; refine wp_st_put HT 0 0 25 (.tmp 26) (.tmp 24) rfl rfl rfl (.slice A3 (n - 1) c3) rfl (by kernel_rfl) rfl rfl (by show 0 < 1; decide) (#[.slice A3 (n - 1) c3]) (by exact rfl) (fun W6 HSx => hKK _ _ ?_); clear hKK KK HT; have HT : St w4 (fun k => k = g) [⟨g, 30, #[.slice A3 (n - 1) c3]⟩] W6 := HSx; clear HSx))
    clear c0 cx k1 k2 k3 k4 hE
    have HC5 := Lib.hid (HC4.out.trans HT.chg (fun i h => .inl h))
    have HI5 := Lib.hid (ints_chg (cs := #[]) HI4.out HT.chg (fun b o e hl => HNE4.out b o e hl) rfl)
    have HR5 : Hid (Row W6 g 30 #[.slice A3 (n - 1) c3]) := Lib.hid (HT.row 0 rfl)
    have HRA : Hid (Row W6 g2 34 (#[.bool false, .bool false, .bool false, .bool false])) := Lib.hid (HR2.out.chg HT.chg (fun e => HGG.out e.symm))
    have CO := rof_any x W6 HX2.out
    clear HT
    go_wp2_with fail
    refine CO.mono ?_
    rintro e w5 ⟨rfl, hb5⟩
    have HC6 := Lib.hid (HC5.out.trans (F' := fun _ => False) (Chg.of_below hb5) (fun _ h => h.elim))
    have HI6 := Lib.hid (HI5.out.below hb5 (Nat.le_refl _))
    have HR6 := Lib.hid (HR5.out.call hb5)
    have HV := st_one (HRA.out.call hb5)
    have HB5 := Lib.hid hb5
    clear CO hb5
    go_wp2_with (first | ((with_reducible refine wpList_plain ?_ ?_); exact rfl; intro KK hKK; refine wp_st_store HV 0 0 34 (.tmp 2) (.tmp 28) rfl rfl rfl (.agg (fatC x)) rfl (by exact size_fatR _) (Nat.le_of_eq (by rw [Nat.zero_add]; exact fatC_size _)) (by exact one_fatC _) (fatC x) (by exact spl_agg _ _ _ rfl (by rw [fatC_size]; rfl)) (fun W11 HSx => hKK _ _ ?_); clear hKK KK HV; have HV : St w5 (fun k => k = g2) [⟨g2, 34, fatC x⟩] W11 := HSx; clear HSx))
    refine bodyPost_ret (results_cell_row Try.results10 _ _ g2 34 (fatC x) (0, 0) _ rfl (HV.row 0 rfl) Try.underlying34 rfl (by exact size_fatR x)) rfl ?_
    have HNE6 := ints_neT HI6.out (HRA.out.call HB5.out) (cs := #[.bool false, .bool false, .bool false, .bool false]) noint4
    exact ⟨rfl, ⟨A3, n - 1, c3, HR6.out.chg HV.chg HGG.out, ints_chgT HI6.out HV.chg (fun b o e hl => HNE6 b o e hl)⟩, HC6.out.trans HV.chg (fun i h => .inr (by rw [h]; exact HGW.out))⟩
theorem addE_c {l l2 : List Int} (h : anyNone l2 = true) : addE l l2 = 1 ∧ addL l l2 = l := by unfold addE addL; rw [h]; exact ⟨rfl, rfl⟩
set_option maxHeartbeats 1600000 in
theorem radd_any (g : Nat) (l : List Int) (A2 : Option Addr) (n2 c2 : Nat) (l2 : List Int) (w : World) (h : RFat w g l) (h2 : IntsAt w (.slice A2 n2 c2) l2) (hn2 : n2 ≤ 1000) (hl : l.length ≤ 64) :
    Calls Try.prog 12 #[.pointer (some ⟨g, 0, none⟩), .slice A2 n2 c2] w fun e w' => e = .returned (.int .i64 (addE l l2)) ∧ RFat w' g (addL l l2) ∧ Chg (fun k => k = g) w w' := by
  have HFAT := Lib.hid h
  obtain ⟨A, n, c, hr, hi⟩ := h
  have hln := ints_len hi
  have hln2 := ints_len h2
  have HF := Lib.hid (fun k (hk : k < l2.length) => ints_get h2 hk)
  obtain ⟨E, hE⟩ : ∃ E, addE l l2 = E := ⟨_, rfl⟩
  obtain ⟨R, hR⟩ : ∃ R, addL l l2 = R := ⟨_, rfl⟩
  have HNO : Hid (∀ (k : Nat) (x : Int), l2[k]? = some x → noneB x = true → E = 1 ∧ R = l) := Lib.hid fun k x hx h => by
    have := addE_c (l := l) (l2 := l2) (by unfold anyNone; exact List.any_eq_true.2 ⟨x, List.mem_of_getElem? hx, h⟩)
    rw [← hE, ← hR]; exact this
  have HALL : Hid ((∀ j < n2, ∀ x, l2[j]? = some x → noneB x = false) → anyNone l2 = false) := Lib.hid fun h => by
    unfold anyNone
    rw [List.any_eq_false]
    intro x hx
    obtain ⟨j, hj, e⟩ := List.getElem_of_mem hx
    have := h j (by omega) x (by rw [List.getElem?_eq_getElem hj, e])
    simp [this]
  have HE := Lib.hid (And.intro hE hR)
  have HL := Lib.hid (And.intro hln hln2)
  have HRW := Lib.hid hr
  have HI := Lib.hid hi
  have HI2 := Lib.hid h2
  have HNL : Hid (n ≤ 64) := Lib.hid (by omega)
  rw [hE, hR]
  clear hr hi h2 hE hR hln hln2 hl
  go_enter Try.func12, Try.ntmps12
  go_wp2_with fail
  go_loopw [5] (fun i wr => ∃ k : Nat, k ≤ n2 ∧ i = .int .i64 k ∧ Hid (∀ j < k, ∀ x, l2[j]? = some x → noneB x = false) ∧ w = wr) (fun i _ => n2 - (intOf i).toNat)
  case atStart => exact ⟨0, by omega, rfl, Lib.hid fun j hj => by omega, rfl⟩
  case round =>
    obtain ⟨k, hk, rfl, hE, rfl⟩ := hrel
    by_cases hlt : k < n2
    · obtain ⟨b, o, x, hx, rfl, hb, hc, _⟩ := HF.out k (by rw [HL.out.2]; exact hlt)
      have HX := Lib.hid hx
      have hk0 : (0 : Int) ≤ (k : Int) := by omega
      have hk1 : (k : Int) < (n2 : Int) := by omega
      obtain ⟨O, hO⟩ : ∃ O, o + k = O := ⟨_, rfl⟩
      rw [hO] at hc
      clear hx
      by_cases hx0 : x < 0
      · have hG := HNO.out k x HX.out (by unfold noneB; rw [decide_eq_true hx0]; rfl)
        have hd : decide (x < 0) = true := decide_eq_true hx0
        have HG := Lib.hid hG
        clear hG hx0
        go_wp2_with fail
        go_ret
        exact ⟨by rw [HG.out.1]; rfl, by rw [HG.out.2]; exact HFAT.out, Chg.refl _ _⟩
      · have hd : decide (x < 0) = false := decide_eq_false hx0
        by_cases hx15 : 15 < x
        · have hG := HNO.out k x HX.out (by unfold noneB; rw [decide_eq_false hx0, decide_eq_true (show 16 ≤ x by omega)]; rfl)
          have HG := Lib.hid hG
          clear hG hx0
          go_wp2_with fail
          go_ret
          exact ⟨by rw [HG.out.1]; rfl, by rw [HG.out.2]; exact HFAT.out, Chg.refl _ _⟩
        · have HNX : Hid (noneB x = false) := Lib.hid (by unfold noneB; rw [decide_eq_false hx0, decide_eq_false (show ¬ 16 ≤ x by omega)]; rfl)
          clear hx0
          go_wp2_with fail
          refine ⟨⟨k + 1, by omega, by go_num, Lib.hid fun j hj y hy => ?_, by first | rfl | trivial⟩, by simp [intOf]; omega⟩
          by_cases hjk : j = k
          · subst hjk
            have := HX.out.symm.trans hy
            injection this with this
            subst this
            exact HNX.out
          · exact hE.out j (by omega) y hy
    · obtain rfl : k = n2 := by omega
      have hnn := HALL.out hE.out
      have c0 : w.cell? ⟨g, 0, none⟩ = some (.slice A n c) := HRW.out.get rfl
      have hw : IntKind.i64.wrap ((n : Int) + (k : Int)) = ((n + k : Nat) : Int) := by have := HNL.out; rw [i64_id _ (by omega) (by omega)]; omega
      by_cases hbig : 64 < n + k
      · have hd : decide (64 < ((n + k : Nat) : Int)) = true := decide_eq_true (by omega)
        have HG : Hid (E = 19 ∧ R = l) := Lib.hid (by
          rw [← HE.out.1, ← HE.out.2]; unfold addE addL; rw [hnn, HL.out.1, HL.out.2]; simp [hbig])
        obtain ⟨N, hN⟩ : ∃ N, n + k = N := ⟨_, rfl⟩
        rw [hN] at hw hd
        clear hnn hN hbig
        go_wp2_with fail
        go_ret
        exact ⟨by rw [HG.out.1]; rfl, by rw [HG.out.2]; exact HFAT.out, Chg.refl _ _⟩
      · have hd : decide (64 < ((n + k : Nat) : Int)) = false := decide_eq_false (by omega)
        have HG : Hid (E = 0 ∧ R = l ++ l2) := Lib.hid (by
          rw [← HE.out.1, ← HE.out.2]; unfold addE addL; rw [hnn, HL.out.1, HL.out.2]; simp [hbig])
        have hNs : n + k ≤ 64 := by omega
        obtain ⟨N, hN⟩ : ∃ N, n + k = N := ⟨_, rfl⟩
        rw [hN] at hw hd hNs
        have HNN := Lib.hid hN
        have HBD := Lib.hid (And.intro (ints_bd HI.out) (ints_bd HI2.out))
        clear hnn hN hbig
        go_upto_region 8 with fail
        clear hw hd
        have hal : Below w.heap.size w (w.alloc (.cells #[] 3)) := (Below.refl _ _).alloc (Nat.le_refl _) _
        have ca : (w.alloc (.cells #[] 3)).cell? ⟨g, 0, none⟩ = some (.slice A n c) := (HRW.out.call hal).get rfl
        have hia := HI.out.below hal (Nat.le_refl _)
        have HAL := Lib.hid hal
        clear hal
        have hn64 := HNL.out
        go_wp2_with (first | ((with_reducible refine wpList_plain ?_ ?_); exact rfl; intro KK hKK; refine wp_append_ints (.tmp 34) (.tmp 38) rfl w.heap.size _ 0 [] rfl (ints_e w) A n c l rfl hia (by omega) HAL.out.size (fun kv w4 own1 hb4 => hKK _ _ ?_); clear hKK KK; have HB4 := Lib.hid (HAL.out.trans hb4); have HO4 := Lib.hid own1; clear own1 hb4 hia ca) | ((with_reducible refine wpList_plain ?_ ?_); exact rfl; intro KK hKK; refine wp_append_ints (.tmp 39) (.tmp 40) rfl w.heap.size _ (0 + n) ([] ++ l) rfl HO4.out A2 k c2 l2 rfl (HI2.out.below HB4.out (Nat.le_refl _)) (by omega) HB4.out.size (fun kv w5 own1 hb5 => hKK _ _ ?_); clear hKK KK; have HB5 := Lib.hid (HB4.out.trans hb5); rw [Nat.zero_add, List.nil_append, HNN.out] at own1; obtain ⟨A3, c3, rfl, _⟩ := own_slice_form own1; have HI5 := Lib.hid (ints_own own1 (fun x hx => (List.mem_append.1 hx).elim (HBD.out.1 x) (HBD.out.2 x))); have HR5 := Lib.hid (HRW.out.call HB5.out); have HNE5 := Lib.hid (ints_neT HI5.out HR5.out sl_noint); have HT := st_one HR5.out; clear own1 hb5 HO4) | ((with_reducible refine wpList_plain ?_ ?_); exact rfl; intro KK hKK; refine wp_st_put HT 0 0 25 (.tmp 43) (.tmp 41) rfl rfl rfl (.slice A3 N c3) rfl (by kernel_rfl) rfl rfl (by show 0 < 1; decide) (#[.slice A3 N c3]) (by exact rfl) (fun W4 HSx => hKK _ _ ?_); clear hKK KK HT; have HT : St w5 (fun k => k = g) [⟨g, 30, #[.slice A3 N c3]⟩] W4 := HSx; clear HSx))
        go_ret
        exact ⟨by rw [HG.out.1]; rfl, by rw [HG.out.2]; exact ⟨A3, N, c3, HT.row 0 rfl, ints_chgT HI5.out HT.chg (fun b o e hl => HNE5.out b o e hl)⟩, (Chg.of_below HB5.out : Chg (fun k => k = g) w _).trans HT.chg (fun i h => .inl h)⟩
end Go.Proofs.Ytlncdokeecmnjaa
