/- Merged: OpsDl OpsGn OpsPure OpsOwn OpsGnR OpsMkR OpsWakes OpTell OpApart. -/
import Derived.Test.YtlfliojadjgplaaDoorMAw1
import Derived.Test.YtlfliojadjgplaaDoorMGen0
import Derived.Test.YtlfliojadjgplaaDoorMDisk0
/- slices.Delete of one volume. -/
set_option maxRecDepth 4000
namespace Go.Proofs.YtlfliojadjgplaaDoor
open Go Go.RowKit
theorem own_takeV {cb : Array Value} {c n i : Nat} {L : List Value} (O : OwnC cb c n 2 L) (h : i ≤ n) : OwnC cb c i 2 (L.take (i * 2)) :=
  ⟨Nat.le_trans h O.le, O.cap, O.size, by rw [List.length_take, O.len]; omega, by rw [← O.take, List.take_take, Nat.min_eq_left (by omega)]⟩
theorem del_cells {w : World} {g c n : Nat} {t : TypeId} {cb : Array Value} {L : List Value} (h : Row w g t cb) (O : OwnC cb c n 2 L) (k : Nat) : ∀ (j : Nat) (u : Value), (L.drop (k * 2))[j]? = some u → w.cell? ((⟨g, 0 + k * 2, none⟩ : Addr).add j) = some u := fun j u hu => by
  rw [List.getElem?_drop] at hu
  have hj : k * 2 + j < L.length := (List.getElem?_eq_some_iff.1 hu).1
  rw [Addr.add_mid, h.cell, Nat.zero_add, ← Array.getElem?_toList]
  rw [← O.take, List.getElem?_take_of_lt (by rw [← O.len]; exact hj)] at hu
  exact hu
theorem own_clr {cb : Array Value} {c n : Nat} {L : List Value} (O : OwnC cb c n 2 L) (h : n + 1 ≤ c) : OwnC (cb.toList.take (0 + n * 2) ++ [Value.string ⟨#[]⟩, .slice none 0 0] ++ cb.toList.drop (0 + n * 2 + 2)).toArray c n 2 L := by
  have hs := O.size
  have ht : (cb.toList.take (0 + n * 2)).length = n * 2 := by rw [List.length_take, Array.length_toList]; omega
  refine ⟨O.le, O.cap, ?_, O.len, ?_⟩
  · rw [List.size_toArray, List.length_append, List.length_append, ht, List.length_drop, Array.length_toList]
    show n * 2 + 2 + (cb.size - (0 + n * 2 + 2)) = c * 2
    omega
  · rw [List.append_assoc, List.take_append_of_le_length (by rw [ht]; exact Nat.le_refl _), List.take_of_length_le (by rw [ht]; exact Nat.le_refl _), Nat.zero_add, O.take]
theorem del_own {cb : Array Value} {c n m : Nat} {L M : List Value} (O : OwnC cb c n 2 L) (h : n = m) (e : L = M) : OwnC cb c m 2 M := by subst h e; exact O
set_option maxHeartbeats 800000 in
theorem delete_st (g M c i : Nat) (cb : Array Value) (L : List Value) (F : Nat → Prop) (w : World) (HS : St w F [⟨g, 56, cb⟩] w) (O : OwnC cb c (M + 1) 2 L) (h1 : ∀ u ∈ L, u.oneCell' = true) (hi : i < M + 1) :
    Calls Tryd.prog 35 #[.slice (some ⟨g, 0, none⟩) (M + 1) c, .int .i64 i, .int .i64 (i + 1)] w fun e w' => ∃ cb', e = .returned (.slice (some ⟨g, 0, none⟩) M c) ∧ OwnC cb' c M 2 (L.take (i * 2) ++ L.drop ((i + 1) * 2)) ∧ St w F [⟨g, 56, cb'⟩] w' := by
  have hNc := O.le
  have hcm := O.cap
  refine enter_en Tryd.func35 rfl Tryd.ntmps35 (Nat.le_of_ble_eq_true rfl) fun a0 (HA0 : En 33 [(0, .slice (some ⟨g, 0, none⟩) (M + 1) c), (1, .int .i64 i), (2, .int .i64 (i + 1))] a0) => ?_
  refine sq_ <| rl_ <| wl_ <| p_ HA0 rfl rfl fun _ H1 => ln_ <| nx <| sq_ <| rl_ <| q_ H1 4 rfl fun _ H2 => wl_ <| i_ H2 rfl (v := .int .i64 (M + 1)) (dd_len rfl (H2.ev 11 rfl) Tryd.underlying33) fun _ H3 => wl_ <| i_ H3 rfl (v := .slice (some ⟨g, 0 + i * 2, none⟩) (i + 1 - i) (M + 1 - i)) (dd_sl3 (l := i) (u := i + 1) (m := M + 1) (sz := 2) rfl (H3.ev 8 rfl) (H3.ev 9 rfl) (H3.ev 10 rfl) (H3.ev 12 rfl) (by kernel_rfl) (by omega) (by omega) (by omega) (by omega) rfl rfl rfl) fun _ H4 => ln_ <| nx <| sq_ <| sq_ <| rl_ <| q_ H4 2 rfl fun _ H5 => wl_ <| i_ H5 rfl (dd_cmp rfl (H5.ev 14 rfl) (H5.ev 15 rfl) (eq_f (show ¬ (i : Int) = i + 1 by omega))) fun _ H6 => ln_ <| nx <| cf_ H6 rfl <| wp_skip <| nx <| sq_ <| rl_ <| wl_ <| p_ H6 rfl rfl fun _ H7 => wl_ <| i_ H7 rfl (v := .int .i64 (M + 1)) (dd_len rfl (H7.ev 18 rfl) Tryd.underlying33) fun _ H8 => ?_
  clear HA0 H1 H2 H3 H4 H5 H6
  refine wl_ <| p_ H8 rfl rfl fun _ H9 => ln_ <| nx <| sq_ <| ?_
  clear H7 H8
  by_cases hc16 : (i + 1 : Int) < c
  ·
   refine wi_ HS [] rfl [0] rfl fun HSh17 hx17 => hp_ H9 0 hx17 rfl rfl rfl fun _ H18 => hp_ H18 1 hx17 rfl rfl rfl fun _ H19 => ht_ H19 2 hx17 rfl rfl (v := .slice (some ⟨g, 0, none⟩) i c) (fun _ _ _ => dd_slh (sz := 2) rfl (H19.ev 20 rfl) (H19.ev 21 rfl) (by kernel_rfl) (by omega) (by omega) rfl) fun _ H20 => hp_ H20 3 hx17 rfl rfl rfl fun _ H21 => hp_ H21 4 hx17 rfl rfl rfl fun _ H22 => ht_ H22 5 hx17 rfl rfl (v := .slice (some ⟨g, 0 + (i + 1) * 2, none⟩) (M + 1 - (i + 1)) (c - (i + 1))) (fun _ _ _ => dd_sll (l := i + 1) (sz := 2) rfl (H22.ev 23 rfl) (H22.ev 24 rfl) (by kernel_rfl) (by omega) (by omega) rfl rfl rfl) fun _ H23 => ?_
   clear HS H9 H18 H19 H20 H21 H22
   refine h1_ 6 rfl <| d_ H23 rfl (R := fun v9 w9 => ∃ cb2 : Array Value, v9 = .slice (some ⟨g, 0, none⟩) M c ∧ (OwnC cb2 c (M) 2 (L.take (i * 2) ++ L.drop ((i + 1) * 2))) ∧ St w F [⟨g, 56, cb2⟩] w9) (dd_appS HSh17 0 rfl (own_takeV O (by omega)) rfl (H23.ev 22 rfl) Tryd.underlying33 (z := .agg #[.string ⟨#[]⟩, .slice none 0 0]) (bytes := 40) (by kernel_rfl) (L.drop ((i + 1) * 2)) (H23.ev 25 rfl) (by rw [List.length_drop, O.len]; omega) (del_cells (HSh17.row 0 rfl) O (i + 1)) (fun u hu => h1 u (List.mem_of_mem_drop hu)) (by omega) (fun cb9 w9 h8 h9 => ⟨cb9, by rw [show i + (M + 1 - (i + 1)) = M by omega], (show i + (M + 1 - (i + 1)) = M by omega) ▸ h8, h9⟩)) ?_
   rintro _ W24 ⟨cb2, rfl, O2, HS24⟩ a24 H24
   clear H23 HSh17
   refine sx_ (sxi HS24 [0] rfl) fun hx25 => hp_ H24 7 hx25 rfl rfl rfl fun _ H26 => ?_
   clear hx17 H24
   refine wpAnyH_done (by kernel_rfl) ?_ _
   clear hx25
   refine nx <| sq_ <| rl_ <| q_ H26 2 rfl fun _ H27 => wl_ <| i_ H27 rfl (v := .int .i64 M) (dd_len rfl (H27.ev 28 rfl) Tryd.underlying33) fun _ H28 => wl_ <| p_ H28 rfl rfl fun _ H29 => wl_ <| i_ H29 rfl (v := .slice (some ⟨g, 0 + (M) * 2, none⟩) 1 (c - (M))) (dd_sllh (l := M) (u := M + 1) (sz := 2) rfl (H29.ev 27 rfl) (H29.ev 29 rfl) (H29.ev 30 rfl) (by kernel_rfl) (by omega) (by omega) (by omega) rfl (by omega) rfl) fun _ H30 => wl_ <| tq rfl (S := [⟨g, 56, (cb2.toList.take (0 + (M) * 2) ++ [Value.string ⟨#[]⟩, .slice none 0 0] ++ cb2.toList.drop (0 + (M) * 2 + 2)).toArray⟩]) (v := .tuple #[]) (fun _ h => dd_clr HS24 0 rfl rfl (H30.ev 31 rfl) (by rw [O2.size]; omega) h) fun _ HS31 => ln_ <| ?_
   clear H26 H27 H28 H29 HS24
   have H32 := H30.sel [0] rfl
   refine nx <| sq_ <| rl_ <| q_ H32 2 rfl fun _ H33 => ln_ <| nx <| wp_ret <| ret_run H33.env0 (res_t Tryd.results35 (H33.get 6 rfl)) <| ?_
   clear H30 H32
   exact ⟨_, rfl, del_own (own_clr O2 (by omega)) rfl (by first | rfl | rw [List.drop_of_length_le (by rw [O.len]; omega)]), HS31⟩
  refine wi_ HS [] rfl [0] rfl fun HSh34 hx34 => hp_ H9 0 hx34 rfl rfl rfl fun _ H35 => hp_ H35 1 hx34 rfl rfl rfl fun _ H36 => ht_ H36 2 hx34 rfl rfl (v := .slice (some ⟨g, 0, none⟩) i c) (fun _ _ _ => dd_slh (sz := 2) rfl (H36.ev 20 rfl) (H36.ev 21 rfl) (by kernel_rfl) (by omega) (by omega) rfl) fun _ H37 => hp_ H37 3 hx34 rfl rfl rfl fun _ H38 => hp_ H38 4 hx34 rfl rfl rfl fun _ H39 => ht_ H39 5 hx34 rfl rfl (v := .slice (some ⟨g, 0, none⟩) 0 0) (fun _ _ _ => dd_slE (l := i + 1) (sz := 2) rfl (H39.ev 23 rfl) (H39.ev 24 rfl) (by kernel_rfl) (by omega) (by omega)) fun _ H40 => ?_
  clear HS H9 H35 H36 H37 H38 H39
  refine h1_ 6 rfl <| d_ H40 rfl (R := fun v9 w9 => ∃ cb2 : Array Value, v9 = .slice (some ⟨g, 0, none⟩) M c ∧ (OwnC cb2 c (M) 2 (L.take (i * 2) ++ [])) ∧ St w F [⟨g, 56, cb2⟩] w9) (dd_appS HSh34 0 rfl (own_takeV O (by omega)) rfl (H40.ev 22 rfl) Tryd.underlying33 (z := .agg #[.string ⟨#[]⟩, .slice none 0 0]) (bytes := 40) (by kernel_rfl) [] (H40.ev 25 rfl) (by simp) (fun j u h9 => by simp at h9) (fun u h9 => by cases h9) (by omega) (fun cb9 w9 h8 h9 => ⟨cb9, by rw [show i + 0 = M by omega], (show i + 0 = M by omega) ▸ h8, h9⟩)) ?_
  rintro _ W41 ⟨cb2, rfl, O2, HS41⟩ a41 H41
  clear H40 HSh34
  refine sx_ (sxi HS41 [0] rfl) fun hx42 => hp_ H41 7 hx42 rfl rfl rfl fun _ H43 => ?_
  clear hx34 H41
  refine wpAnyH_done (by kernel_rfl) ?_ _
  clear hx42
  refine nx <| sq_ <| rl_ <| q_ H43 2 rfl fun _ H44 => wl_ <| i_ H44 rfl (v := .int .i64 M) (dd_len rfl (H44.ev 28 rfl) Tryd.underlying33) fun _ H45 => wl_ <| p_ H45 rfl rfl fun _ H46 => wl_ <| i_ H46 rfl (v := .slice (some ⟨g, 0 + (M) * 2, none⟩) 1 (c - (M))) (dd_sllh (l := M) (u := M + 1) (sz := 2) rfl (H46.ev 27 rfl) (H46.ev 29 rfl) (H46.ev 30 rfl) (by kernel_rfl) (by omega) (by omega) (by omega) rfl (by omega) rfl) fun _ H47 => wl_ <| tq rfl (S := [⟨g, 56, (cb2.toList.take (0 + (M) * 2) ++ [Value.string ⟨#[]⟩, .slice none 0 0] ++ cb2.toList.drop (0 + (M) * 2 + 2)).toArray⟩]) (v := .tuple #[]) (fun _ h => dd_clr HS41 0 rfl rfl (H47.ev 31 rfl) (by rw [O2.size]; omega) h) fun _ HS48 => ln_ <| ?_
  clear H43 H44 H45 H46 HS41
  have H49 := H47.sel [0] rfl
  refine nx <| sq_ <| rl_ <| q_ H49 2 rfl fun _ H50 => ln_ <| nx <| wp_ret <| ret_run H50.env0 (res_t Tryd.results35 (H50.get 6 rfl)) <| ?_
  clear H47 H49
  exact ⟨_, rfl, del_own (own_clr O2 (by omega)) rfl (by first | rfl | rw [List.drop_of_length_le (by rw [O.len]; omega)]), HS48⟩
end Go.Proofs.YtlfliojadjgplaaDoor

/- The program's Gone. -/
set_option maxRecDepth 4000
namespace Go.Proofs.YtlfliojadjgplaaDoor
open Go Go.RowKit
theorem ov_open {B : Nat} {W : World} {v : Value} {l : List Vl} (h : OV B W v l) (hl : 0 < l.length) : ∃ g c cb vs, v = .slice (some ⟨g, 0, none⟩) l.length c ∧ B ≤ g ∧ Row W g 56 cb ∧ OwnC cb c l.length 2 vs.flatten ∧ CellsV B W vs l := by
  obtain ⟨vs, h1, h2⟩ := h
  obtain ⟨g, c, cb, e, hb, hr, O⟩ := ownc_pos h1 hl
  exact ⟨g, c, cb, vs, e, hb, hr, O, h2⟩
theorem st_row {W : World} {g : Nat} {t : TypeId} {cs : Array Value} (h : Row W g t cs) : St W (inS [⟨g, t, cs⟩]) [⟨g, t, cs⟩] W :=
  ⟨Chg.refl _ _, fun k r hk => by
    match k, hk with
    | 0, hk => cases hk; exact h, fun i j r s hij hi hj => by
    match i, hi, j, hj with
    | 0, _, 0, _ => exact absurd rfl hij, fun k r hk => .inl ⟨r, List.mem_of_getElem? hk, rfl⟩⟩
theorem st_del {w W W2 : World} {g : Nat} {t : TypeId} {cs : Array Value} {S : List Blk} (h : St w noF [] W) (k : St W (inS [⟨g, t, cs⟩]) S W2) (hg : w.heap.size ≤ g) : St w noF [] W2 := by
  refine (St.nil w noF).same ⟨k.chg.os.trans h.chg.os, k.chg.tape.trans h.chg.tape, k.chg.output.trans h.chg.output, Nat.le_trans h.chg.size k.chg.size, fun j hj => ?_⟩
  refine (k.chg.block j (Nat.lt_of_lt_of_le hj h.chg.size) fun ⟨r, h1, h2⟩ => ?_).trans (h.chg.block j hj fun e => e)
  rw [List.mem_singleton] at h1
  subst h1
  have h2 : g = j := h2
  omega
theorem chg_noF {w w' : World} (h : Chg noF w w') : Below w.heap.size w w' := ⟨h.os, h.tape, h.output, h.size, fun k hk => h.block k hk fun e => e⟩
theorem flat_erase : ∀ (vs : List (List Value)) (i : Nat), (∀ c ∈ vs, c.length = 2) → i < vs.length → (vs.eraseIdx i).flatten = vs.flatten.take (i * 2) ++ vs.flatten.drop ((i + 1) * 2)
  | [], i, _, h => absurd h (Nat.not_lt_zero _)
  | v :: vs, 0, h, _ => by
    have hv := h v (List.mem_cons_self ..)
    simp only [List.eraseIdx_zero, List.tail_cons, List.flatten_cons, Nat.zero_mul, List.take_zero, List.nil_append]
    rw [List.drop_append_of_le_length (by omega), List.drop_of_length_le (by omega), List.nil_append]
  | v :: vs, i + 1, h, hi => by
    have hv := h v (List.mem_cons_self ..)
    have ih := flat_erase vs i (fun c hc => h c (List.mem_cons_of_mem _ hc)) (Nat.lt_of_succ_lt_succ hi)
    have t1 : (v ++ vs.flatten).take ((i + 1) * 2) = v ++ vs.flatten.take (i * 2) := by rw [show (i + 1) * 2 = v.length + i * 2 by omega, List.take_length_add_append]
    have t2 : (v ++ vs.flatten).drop ((i + 1 + 1) * 2) = vs.flatten.drop ((i + 1) * 2) := by rw [show (i + 1 + 1) * 2 = v.length + (i + 1) * 2 by omega, List.drop_length_add_append]
    rw [List.eraseIdx_cons_succ, List.flatten_cons, ih, List.flatten_cons, t1, t2, List.append_assoc]
theorem ov_del {B : Nat} {W W2 : World} {l : List Vl} {vs : List (List Value)} {g c M i : Nat} {cb cb2 : Array Value} (hcv : CellsV B W vs l) (hr : Row W g 56 cb) (hB : B ≤ g) (hBW : B ≤ W.heap.size) (k : St W (inS [⟨g, 56, cb⟩]) [⟨g, 56, cb2⟩] W2)
    (O : OwnC cb2 c M 2 (vs.flatten.take (i * 2) ++ vs.flatten.drop ((i + 1) * 2))) (hi : i < l.length) : OV B W2 (.slice (some ⟨g, 0, none⟩) M c) (l.eraseIdx i) := by
  have hin : ∀ j, inS [⟨g, 56, cb⟩] j → j = g := fun j ⟨r, h2, h3⟩ => by
    rw [List.mem_singleton] at h2
    subst h2; exact h3.symm
  have hbl : Below B W W2 := ⟨k.chg.os, k.chg.tape, k.chg.output, k.chg.size, fun j hj => k.chg.block j (Nat.lt_of_lt_of_le hj hBW) fun hF => by have := hin j hF; omega⟩
  have hf := flat_erase vs i hcv.2.1 (by rw [hcv.1]; exact hi)
  have hl : (vs.eraseIdx i).length = (l.eraseIdx i).length := by rw [List.length_eraseIdx, List.length_eraseIdx, hcv.1]
  have h2 : ∀ d ∈ vs.eraseIdx i, d.length = 2 := fun d hd => hcv.2.1 d (List.mem_of_mem_eraseIdx hd)
  have hM : (l.eraseIdx i).length = M := by
    have h3 := O.len
    rw [← hf, flat_length (sz := 2) _ h2, hl] at h3; omega
  refine ⟨vs.eraseIdx i, by rw [hM, hf]; exact ownc_to (k.row 0 rfl) O hB, hl, h2, fun j x hx => ?_⟩
  rw [List.getElem?_eraseIdx] at hx
  have key : ∀ j', l[j']? = some x → ∃ A cc, vs[j']? = some [Value.string x.1, Value.slice A x.2.length cc] ∧ InV B W2 A cc x.2 ∧ x.1.size ≤ maxLen := fun j' hx' => by
    obtain ⟨A, cc, h3, h4, h5⟩ := hcv.2.2 j' x hx'
    refine ⟨A, cc, h3, ?_, h5⟩
    rcases h4 with ⟨w1, k1, k2, k3⟩ | ⟨k1, k2⟩
    · exact .inl ⟨w1, k1, k2.trans hbl, k3⟩
    · refine .inr ⟨own_chg k1 k.chg fun b hb hF => ?_, k2⟩
      have e := hin b hF
      subst e
      obtain ⟨_, h6 | ⟨g2, cap, cur, e2, _, h7, _⟩⟩ := k1
      · rw [h6.1] at hb; cases hb
      · rw [e2] at hb
        injection hb with hb
        have hb : g2 = b := hb
        subst hb
        rw [hr] at h7
        injection h7 with h7
        injection h7 with _ h7 _
        exact absurd h7 (by decide)
  rw [List.getElem?_eraseIdx]
  by_cases hj : j < i
  · rw [if_pos hj] at hx ⊢; exact key j hx
  · rw [if_neg hj] at hx ⊢; exact key (j + 1) hx
theorem vol_erase (l : List Tv) (i : Nat) : (volL l).eraseIdx i = volL (l.eraseIdx i) := by
  refine List.ext_getElem? fun j => ?_
  unfold volL
  simp only [List.getElem?_map, List.getElem?_eraseIdx]
  split <;> rfl
theorem goneL_is {l : List Tv} {q : List (BitVec 8)} {i : Nat} (h : findI q l = (i : Int)) : goneL l q = l.eraseIdx i := by unfold goneL; rw [h]; rfl
theorem goneL_small (qb q : List (BitVec 8)) : ∀ x ∈ goneL (decLT qb) q, x.2.length ≤ 1000000 := fun x hx => decLT_small qb x (List.mem_of_mem_eraseIdx hx)
section
variable {l : List Tv} {q : List (BitVec 8)}
theorem gone_E1 (h : findI q l < 0) : goneE l q = 16 := if_pos h
theorem gone_E0 (h : ¬ findI q l < 0) : goneE l q = 0 := if_neg h
theorem gone_P1 (h : findI q l < 0) : goneP l q = [] := if_pos h
theorem gone_P0 (h : ¬ findI q l < 0) : goneP l q = [(0, encT (goneL l q))] := if_neg h
end
set_option maxHeartbeats 1600000 in
theorem gone_any (qb q : List (BitVec 8)) (w : World) (hqb : qb.length = 32) : Calls Tryd.prog 18 #[.agg (bs qb), .string (strB q)] w fun e w' => ∃ v, e = .returned (.tuple #[v, .int .i64 (goneE (decLT qb) q)]) ∧ w'.ownsRow w.heap.size 51 33 v (goneP (decLT qb) q).length ((goneP (decLT qb) q).map pcell).flatten ∧ Below w.heap.size w w' := by
  have HS := St.nil w noF
  refine enter_en Tryd.func18 rfl Tryd.ntmps18 (Nat.le_of_ble_eq_true rfl) fun a0 (HA0 : En 21 [(0, .agg (bs qb)), (1, .string (strB q))] a0) => ?_
  refine sq_ <| rl_ <| wl_ <| n_ HA0 rfl (fun _ h => dd_box HS rfl (HA0.ev 0 rfl) (cs := (bs qb)) rfl h) fun _ W1 HS1 _ H1 => q_ H1 2 rfl fun _ H2 => ln_ <| nx <| sq_ <| rl_ <| ?_
  clear HS HA0 H1
  have hS1 := HS1
  refine wl_ <| i_ H2 rfl (v := .agg (bs qb)) (dd_load HS1 0 0 rfl rfl (H2.ev 2 rfl) (slab_whole _) Tryd.underlying23 rfl (by rw [show (bs qb).size = 32 from ((size_bs _).trans hqb)]; kernel_rfl)) fun _ H3 => ?_
  clear H2
  refine wl_ <| d_ H3 rfl (R := fun v w9 => ∃ A5 N5 C5 Bb5, v = .slice A5 N5 C5 ∧ ((volL (decLT qb)).length = N5 ∧ N5 ≤ 3) ∧ (W1.heap.size ≤ Bb5 ∧ Bb5 ≤ w9.heap.size) ∧ (OV Bb5 w9 (.slice A5 N5 C5) (volL (decLT qb))) ∧ Below W1.heap.size W1 w9) (dc_ Tryd.func11 rfl (args1 (H3.ev 8 rfl)) (volumes_any qb W1 hqb) (fun _ w9 ⟨v9, B9, he, h4, h5, ho, hb⟩ => by obtain ⟨A9, n9, c9, rfl, h1, _⟩ := OV.form2 ho; exact ⟨_, he, A9, n9, c9, B9, rfl, ⟨h1, by rw [← h1, len_volL]; exact decLT_len _⟩, ⟨h4, h5⟩, ho, hb⟩)) ?_
  rintro _ W4 ⟨A5, N5, C5, Bb5, rfl, hNd5, hBb5, hov5, hb4⟩ a4 H4
  have HS4 := HS1.same hb4
  clear H3
  have hln5 : (decLT qb).length = N5 := by rw [← len_volL]; exact hNd5.1
  have HBs6 : Below w.heap.size w W4 := HS4.below
  have HR6_0 := fun (W9 : World) (hb9 : Below W4.heap.size W4 W9) => (HS4.row 0 rfl).call hb9
  have HSb6 := St.nil W4 noF
  clear HS4
  have HVd5 := fun (W9 : World) (hb9 : Below W4.heap.size W4 W9) => ((hov5.vols (Nat.le_trans (Nat.le_of_eq hNd5.1) (Nat.le_trans hNd5.2 (by decide)))).below hb9 (Nat.le_refl _))
  clear HS1 hb4
  refine wl_ <| p_ H4 rfl rfl fun _ H7 => ln_ <| nx <| sq_ <| rl_ <| q_ H7 2 rfl fun _ H8 => ?_
  clear H4 H7
  have hfi10 := findI_is q (decLT qb)
  refine wl_ <| c_ H8 rfl HSb6 (dcs Tryd.func25 rfl (args2 (H8.ev 10 rfl) (H8.ev 11 rfl)) (find_any _ _ _ q (decLT qb) W4 (HVd5 _ HSb6.below) (Nat.le_trans hNd5.2 (by decide))) (.int .i64 (findI q (decLT qb)))) fun W9 HS9 _ H9 => wl_ <| p_ H9 rfl rfl fun _ H11 => ln_ <| nx <| sq_ <| sq_ <| rl_ <| wl_ <| p_ H11 rfl rfl fun _ H12 => ?_
  clear H8 HSb6 H9 H11
  by_cases hc14 : (findI q (decLT qb) : Int) < 0
  ·
   refine wl_ <| i_ H12 rfl (dd_cmp rfl (H12.ev 13 rfl) rfl (lt_t hc14)) fun _ H15 => ln_ <| nx <| ct_ H15 rfl <| sq_ <| rl_ <| q_ H15 2 rfl fun _ H16 => ln_ <| nx <| wp_ret <| tr <| ret_run H16.env0 (res_tt Tryd.results18 (H16.get 4 rfl) (H16.get 5 rfl)) <| ?_
   clear H12 H15
   exact ⟨_, by rw [gone_E1 hc14], by rw [gone_P1 hc14]; exact World.ownsRow_nil _ _ _ _, (HBs6.trans (HS9.below.mono HBs6.size))⟩
  refine wl_ <| i_ H12 rfl (dd_cmp rfl (H12.ev 13 rfl) rfl (lt_f hc14)) fun _ H17 => ln_ <| nx <| cf_ H17 rfl <| wp_skip <| nx <| sq_ <| rl_ <| q_ H17 3 rfl fun _ H18 => wl_ <| i_ H18 rfl (v := .int .i64 ((findI q (decLT qb)) + 1)) (dd_ari rfl (H18.ev 17 rfl) rfl rfl (i64_of (by first | omega | (have := bd_lo; omega)) (by omega))) fun _ H19 => ?_
  clear H12 H17 H18
  obtain ⟨i, hi⟩ : ∃ i : Nat, findI q (decLT qb) = (i : Int) := ⟨(findI q (decLT qb)).toNat, by omega⟩
  obtain ⟨M, hM⟩ : ∃ M, N5 = M + 1 := ⟨N5 - 1, by omega⟩
  obtain ⟨gd, cd, cbd, vsd, hvd, hBd, hrd, Od, hcd⟩ := ov_open (hov5.call HS9.below hBb5.2) (show 0 < (volL (decLT qb)).length by rw [len_volL]; omega)
  rw [show (volL (decLT qb)).length = M + 1 by rw [len_volL]; omega] at hvd Od
  have hBW := Nat.le_trans hBb5.2 HS9.below.size
  have hfi := (HS9).first HBs6
  refine wl_ <| d_ H19 rfl (R := fun v9 w9 => v9 = .slice (some ⟨gd, 0, none⟩) M cd ∧ (OV Bb5 w9 (.slice (some ⟨gd, 0, none⟩) M cd) ((volL (decLT qb)).eraseIdx i)) ∧ St w noF [] w9) (dc_ Tryd.func35 rfl (args3 (((H19.ev 15 rfl)).trans hvd) (((H19.ev 16 rfl)).trans (by rw [hi])) (((H19.ev 18 rfl)).trans (by rw [hi]))) (delete_st gd M cd i cbd vsd.flatten _ W9 (st_row hrd) Od (one_volV hcd) (by omega)) (fun _ w9 ⟨cb9, he, hO, hS⟩ => ⟨_, he, rfl, (ov_del hcd hrd hBd hBW hS hO (show i < (volL (decLT qb)).length by rw [len_volL]; omega) : OV Bb5 w9 (.slice (some ⟨gd, 0, none⟩) M cd) ((volL (decLT qb)).eraseIdx i)), st_del hfi hS (Nat.le_trans hS1.below.size (Nat.le_trans hBb5.1 hBd))⟩)) ?_
  rintro _ W20 ⟨rfl, hovd, HS20⟩ a20 H20
  clear H19 HS9
  have hvg : VolsAt W20 (.slice (some ⟨gd, 0, none⟩) M cd) (volL (goneL (decLT qb) q)) := by rw [goneL_is hi]; rw [vol_erase] at hovd; exact hovd.vols (by rw [len_volL, List.length_eraseIdx, if_pos (by omega)]; exact Nat.le_trans (Nat.le_trans (Nat.sub_le _ _) (decLT_len qb)) (by decide))
  have hng := HS20.below
  refine wl_ <| d_ H20 rfl (R := fun v9 w9 => ∃ gp : Nat, ∃ cp : Nat, ∃ cbp : Array Value, v9 = .slice (some ⟨gp, 0, none⟩) 1 cp ∧ (OwnC cbp cp 1 33 ((([(0, encT (goneL (decLT qb) q))] : List Pt).map pcell).flatten)) ∧ St w noF [⟨gp, 51, cbp⟩] w9) (dc_ Tryd.func31 rfl (args2 (H20.ev 19 rfl) rfl) (withtable_nil _ _ _ (goneL (decLT qb) q) noF W20 (fun W9 h9 => hvg.below (chg_noF h9) (Nat.le_refl _)) (by omega) (goneL_small _ _)) (fun _ w9 ⟨g9, c9, cb9, he, hO, hS⟩ => ⟨_, he, g9, c9, cb9, rfl, hO, hS.first hng⟩)) ?_
  rintro _ W21 ⟨gp, cp, cbp, rfl, Op, HS21⟩ a21 H21
  clear H20 HS20
  refine q_ H21 2 rfl fun _ H22 => ln_ <| ?_
  clear H21
  have H23 := H22.sel [4, 5] rfl
  refine nx <| wp_ret <| ret_run H23.env0 (res_tt Tryd.results18 (H23.get 4 rfl) (H23.get 5 rfl)) <| ?_
  clear H22
  exact ⟨_, by rw [gone_E0 hc14], own_puts (gone_P0 hc14) (by rw [gone_P0 hc14]; rfl) (ownc_to (HS21.row 0 rfl) Op (st_fresh2 HS21 0 rfl)), HS21.below⟩
end Go.Proofs.YtlfliojadjgplaaDoor

/- A volume made, one gone: what the table is then, plainly. No function of the program is named here. -/
set_option maxRecDepth 4000
namespace Go.Proofs.YtlfliojadjgplaaDoor
open Go Go.RowKit
section
variable {l : List Tv} {q : List (BitVec 8)} {n : Int}
theorem make_of0 (h : makeE l q n = 0) : mayE l q n = 0 ∧ takeE (usedV (volL l)) n = 0 := by
  by_cases hM : mayE l q n = 0
  · exact ⟨hM, (make_E1 hM).symm.trans h⟩
  · exact absurd h (make_ne2 hM)
theorem make_T (h : makeE l q n = 0) : ((takeT l n).length : Int) = n ∧ 1 ≤ n ∧ n ≤ 4 := by
  obtain ⟨h1, h2⟩ := make_of0 h
  obtain ⟨_, _, h3, h4, _⟩ := may_of0 h1
  exact ⟨take_len h2 h3 h4, h3, h4⟩
theorem free_nodup (u : BitVec 16) : (freeL u).Nodup := by
  unfold freeL
  have h : ((List.range 12).filter fun b => !u.getLsbD b).Nodup := List.nodup_range.sublist (List.filter_sublist ..)
  exact List.Pairwise.map _ (fun a b hab he => hab (Int.ofNat.inj he)) h
theorem take_sub (u : BitVec 16) (n : Int) : (takeV u n).Sublist (freeL u) := by
  unfold takeV
  split
  · exact List.nil_sublist _
  · exact List.take_sublist _ _
theorem take_okF (h : goodT l = true) (n : Int) : okF (flatB l ++ takeT l n) := by
  have hF := (free_okF l).1 (decide_eq_true (goodT_parts h).2.2)
  have hs := take_sub (usedV (volL l)) n
  have key : ∀ x ∈ takeT l n, (1 ≤ x ∧ x < 12) ∧ x ∉ flatB l := fun x hx => by
    have hx2 := hs.subset hx
    unfold freeL at hx2
    obtain ⟨b, hb, rfl⟩ := List.mem_map.1 hx2
    obtain ⟨h1, h2⟩ := List.mem_filter.1 hb
    have hb12 := List.mem_range.1 h1
    rw [usedV_get l b hb12] at h2
    simp only [Bool.not_eq_true', Bool.or_eq_false_iff, decide_eq_false_iff_not] at h2
    exact ⟨⟨by show (1 : Int) ≤ (b : Int); omega, by show (b : Int) < 12; omega⟩, h2.2⟩
  refine ⟨List.nodup_append.2 ⟨hF.1, (free_nodup _).sublist hs, fun a ha b hb => ?_⟩, fun x hx => ?_⟩
  · rintro rfl
    exact (key a hb).2 ha
  · rcases List.mem_append.1 hx with hx | hx
    · exact hF.2 x hx
    · exact (key x hx).1
theorem flatB_snoc (l : List Tv) (q : List (BitVec 8)) (L : List Int) : flatB (l ++ [(q, L)]) = flatB l ++ L := by unfold flatB; simp
theorem find_left {l m : List Tv} {q : List (BitVec 8)} {i : Nat} (h : findI q l = (i : Int)) : findI q (l ++ m) = (i : Int) := by
  rcases findI_is q l with h1 | ⟨_, h1⟩
  · omega
  have hi : i < l.length := by omega
  unfold findI at h ⊢
  cases hf : findT q l with
  | none => rw [hf] at h; simp only at h; omega
  | some k =>
    rw [hf] at h
    have hk : k = i := by simp only at h; omega
    subst hk
    unfold findT at hf ⊢
    rw [List.findIdx?_append, hf]
    rfl
theorem find_right {l : List Tv} {q : List (BitVec 8)} {L : List Int} (h : findI q l < 0) : findI q (l ++ [(q, L)]) = (l.length : Int) := by
  have hno : ∀ j, j < l.length → ∀ x, (l ++ [(q, L)])[j]? = some x → x.1 ≠ q := fun j hj x hx e => by
    rw [List.getElem?_append_left hj] at hx
    unfold findI at h
    cases hf : findT q l with
    | some k => rw [hf] at h; simp only at h; omega
    | none =>
      unfold findT at hf
      rw [List.findIdx?_eq_none_iff] at hf
      have := hf x (List.mem_of_getElem? hx)
      simp [e] at this
  exact findI_some (p := q) (L := L) (by rw [List.getElem?_append_right (Nat.le_refl _), Nat.sub_self]; rfl) rfl hno
theorem make_good (h : goodT l = true) (hm : makeE l q n = 0) : goodT (makeL l q n) = true := by
  obtain ⟨h1, h2⟩ := make_of0 hm
  obtain ⟨hg, hf, h3, h4, hl⟩ := may_of0 h1
  obtain ⟨hT, _, _⟩ := make_T hm
  obtain ⟨_, hok, _⟩ := goodT_parts h
  have hlen : (makeL l q n).length = l.length + 1 := by unfold makeL; simp
  refine goodT_is (by omega) (fun j hj x hx => ?_) ((free_okF _).2 (by unfold makeL; rw [flatB_snoc]; exact take_okF h n))
  unfold makeL at hx ⊢
  by_cases hjl : j < l.length
  · rw [List.getElem?_append_left hjl] at hx
    obtain ⟨k1, k2, k3, k4⟩ := okT_parts (hok j x hx)
    exact okT_of k1 (find_left k2) k3 k4
  · obtain rfl : j = l.length := by omega
    rw [List.getElem?_append_right (Nat.le_refl _), Nat.sub_self] at hx
    cases hx
    exact okT_of hg (find_right (show findI q l < 0 by omega)) (by show 1 ≤ (takeT l n).length; omega) (by show (takeT l n).length ≤ 4; omega)
theorem make_find (hm : makeE l q n = 0) : findI q (makeL l q n) = (l.length : Int) := by
  obtain ⟨_, hf, _⟩ := may_of0 (make_of0 hm).1
  exact find_right (by omega)
theorem make_goneL (hm : makeE l q n = 0) : goneL (makeL l q n) q = l := by
  rw [goneL_is (make_find hm)]
  unfold makeL
  rw [List.eraseIdx_append_of_length_le (Nat.le_refl _), Nat.sub_self]
  simp
theorem make_gone (hm : makeE l q n = 0) : goneE (makeL l q n) q = 0 ∧ goneP (makeL l q n) q = [(0, encT l)] := by
  have hf := make_find hm
  have hn : ¬ findI q (makeL l q n) < 0 := by omega
  exact ⟨gone_E0 hn, by rw [gone_P0 hn, make_goneL hm]⟩
/- the writes of a volume made are good, as writes -/
theorem take_pos (n : Int) : ∀ x ∈ takeT l n, 1 ≤ x ∧ x < 12 := fun x hx => by
  have hx2 := (take_sub (usedV (volL l)) n).subset hx
  unfold freeL at hx2
  obtain ⟨b, hb, rfl⟩ := List.mem_map.1 hx2
  obtain ⟨h1, h2⟩ := List.mem_filter.1 hb
  have hb12 := List.mem_range.1 h1
  rw [usedV_get l b hb12] at h2
  simp only [Bool.not_eq_true', Bool.or_eq_false_iff, decide_eq_false_iff_not] at h2
  exact ⟨by show (1 : Int) ≤ (b : Int); omega, by show (b : Int) < 12; omega⟩
theorem make_goodB (hm : makeE l q n = 0) : goodB ((makeP l q n).map (·.1)) = true := by
  obtain ⟨hT, h1, h4⟩ := make_T hm
  have e : (makeP l q n).map (·.1) = takeT l n ++ [0] := by
    rw [make_P hm, List.map_append, List.map_map]
    show (takeT l n).map (fun b => b) ++ [0] = _
    rw [List.map_id']
  rw [e]
  have hb : ∀ x ∈ takeT l n, 1 ≤ x ∧ x < 12 := take_pos n
  have hnd : (takeT l n ++ [0]).Nodup := List.nodup_append.2 ⟨(free_nodup _).sublist (take_sub _ _), by simp, fun a ha b hb2 => by
    obtain rfl := List.mem_singleton.1 hb2
    have := hb a ha
    omega⟩
  have hlen : (takeT l n ++ [0]).length = (takeT l n).length + 1 := by simp
  unfold goodB
  rw [Bool.and_eq_true, Bool.and_eq_true, decide_eq_true_eq, decide_eq_true_eq, decide_eq_true_eq]
  refine ⟨fun k hk => ?_, by omega, by omega⟩
  have hm9 : ∀ x ∈ takeT l n ++ [0], 0 ≤ x ∧ x < 12 := fun x hx => by
    rcases List.mem_append.1 hx with hx | hx
    · have := hb x hx; omega
    · obtain rfl := List.mem_singleton.1 hx; decide
  have hk2 : (takeT l n ++ [0]).getD k 0 ∈ takeT l n ++ [0] := by
    rw [List.getD_eq_getElem?_getD, List.getElem?_eq_getElem hk]; exact List.getElem_mem hk
  refine ⟨(hm9 _ hk2).1, (hm9 _ hk2).2, fun i hi e => ?_⟩
  rw [List.getD_eq_getElem?_getD, List.getD_eq_getElem?_getD, List.getElem?_eq_getElem hk, List.getElem?_eq_getElem (by omega)] at e
  exact List.pairwise_iff_getElem.1 hnd i k (by omega) hk hi e
end
end Go.Proofs.YtlfliojadjgplaaDoor

/- Volumes of one's own, cell by cell. -/
set_option maxRecDepth 4000
namespace Go.Proofs.YtlfliojadjgplaaDoor
open Go Go.RowKit
end Go.Proofs.YtlfliojadjgplaaDoor

/- The document's Gone. -/
set_option maxRecDepth 4000
namespace Go.Proofs.YtlfliojadjgplaaDoor
open Go Go.RowKit
end Go.Proofs.YtlfliojadjgplaaDoor

/- The document's Make. -/
set_option maxRecDepth 4000
namespace Go.Proofs.YtlfliojadjgplaaDoor
open Go Go.RowKit
end Go.Proofs.YtlfliojadjgplaaDoor

/- The examples of the chapter, asked by the statements. -/
set_option maxRecDepth 4000
namespace Go.Proofs.YtlfliojadjgplaaDoor
open Go Go.RowKit
theorem pt_nil : ∀ x ∈ ([] : List Pt), x.2.length = 32 := fun x h => by cases h
theorem pt_cons {x : Pt} {l : List Pt} (h : x.2.length = 32) (t : ∀ y ∈ l, y.2.length = 32) : ∀ y ∈ x :: l, y.2.length = 32 := fun y hy => by
  rcases List.mem_cons.1 hy with rfl | hy
  · exact h
  · exact t y hy
theorem put_at {cb : Array Value} {c n : Nat} {P : List Pt} (O : OwnC cb c n 33 (P.map pcell).flatten) {z : Int} {d : List (BitVec 8)} (k : Nat) (h : P[k]? = some (z, d)) (hP : ∀ x ∈ P, x.2.length = 32) : cb[k * 33]? = some (.int .i64 z) := by
  have hk : k < P.length := (List.getElem?_eq_some_iff.1 h).1
  have h1 := flat_get (sz := 33) (P.map pcell) (fun c hc => by obtain ⟨x, hx, rfl⟩ := List.mem_map.1 hc; exact len_pcell (hP x hx)) k 0 (pcell (z, d)) (by rw [List.getElem?_map, h]; rfl) (by decide)
  have hl := O.len
  rw [len_puts hP] at hl
  rw [← O.take, List.getElem?_take_of_lt (by omega), Array.getElem?_toList] at h1
  exact h1
theorem put_dat {cb : Array Value} {c n : Nat} {P : List Pt} (O : OwnC cb c n 33 (P.map pcell).flatten) {z : Int} {d : List (BitVec 8)} (k : Nat) (h : P[k]? = some (z, d)) (hd : d.length = 32) (hP : ∀ x ∈ P, x.2.length = 32) : (cb.toList.drop (k * 33 + 1)).take (bs d).size = (bs d).toList := by
  have hk : k < P.length := (List.getElem?_eq_some_iff.1 h).1
  have hl := O.len
  rw [len_puts hP] at hl
  have hs := O.size
  have hle := O.le
  refine List.ext_getElem? fun j => ?_
  rw [size_bs, hd, bs_toList]
  by_cases hj : j < 32
  · have h1 := flat_get (sz := 33) (P.map pcell) (fun c hc => by obtain ⟨x, hx, rfl⟩ := List.mem_map.1 hc; exact len_pcell (hP x hx)) k (j + 1) (pcell (z, d)) (by rw [List.getElem?_map, h]; rfl) (by omega)
    rw [← O.take, List.getElem?_take_of_lt (by omega)] at h1
    rw [List.getElem?_take_of_lt hj, List.getElem?_drop, show k * 33 + 1 + j = k * 33 + (j + 1) by omega, h1]
    rfl
  · rw [List.getElem?_eq_none (by rw [List.length_take]; omega), List.getElem?_eq_none (by rw [len_bytesV]; omega)]
theorem wo_good : goodT [([97#8, 98#8], [1, 2])] = true := by decide +kernel
theorem wo_dec : decLT (encT [([97#8, 98#8], [1, 2])]) = [([97#8, 98#8], [1, 2])] := (tab_back wo_good).1
theorem wo_E1 : makeE (decLT (zer 32)) [97#8, 98#8] 2 = 0 := by rw [wk_z2]; decide +kernel
theorem wo_T : takeT [] 2 = [1, 2] := by decide +kernel
theorem wo_P1 : makeP (decLT (zer 32)) [97#8, 98#8] 2 = ([(1, zer 32), (2, zer 32), (0, encT [([97#8, 98#8], [1, 2])])] : List Pt) := by
  rw [make_P wo_E1, wk_z2]
  unfold makeL
  rw [wo_T]; rfl
theorem wo_E2 : makeE (decLT (encT [([97#8, 98#8], [1, 2])])) [97#8, 98#8] 1 = 16 := by rw [wo_dec]; decide +kernel
theorem wo_E3 : placeE (decLT (encT [([97#8, 98#8], [1, 2])])) [97#8, 98#8] 1 = 0 := by rw [wo_dec]; decide +kernel
theorem wo_P3 : writeP (decLT (encT [([97#8, 98#8], [1, 2])])) [97#8, 98#8] 1 (blk 7#8) = [(2, blk 7#8)] := by
  rw [write_yes wo_E3, wo_dec, show placeI [([97#8, 98#8], [1, 2])] [97#8, 98#8] 1 = 2 by decide +kernel]
theorem wo_E4 : placeE (decLT (encT [([97#8, 98#8], [1, 2])])) [97#8, 98#8] 2 = 17 := by rw [wo_dec]; decide +kernel
theorem wo_f : findI [97#8, 98#8] [([97#8, 98#8], [1, 2])] = 0 := by decide +kernel
theorem wo_E5 : goneE (decLT (encT [([97#8, 98#8], [1, 2])])) [97#8, 98#8] = 0 := by rw [wo_dec]; decide +kernel
theorem wo_P5 : goneP (decLT (encT [([97#8, 98#8], [1, 2])])) [97#8, 98#8] = [(0, encT [])] := by
  rw [wo_dec, gone_P0 (by rw [wo_f]; decide)]
  unfold goneL
  rw [wo_f]; rfl
theorem wo_I6 : placeI (decLT (encT [([97#8, 98#8], [1, 2])])) [97#8, 98#8] 0 = 1 := by rw [wo_dec]; decide +kernel
theorem wo_E6 : placeE (decLT (encT [([97#8, 98#8], [1, 2])])) [97#8, 98#8] 0 = 0 := by rw [wo_dec]; decide +kernel
theorem wo_V0 : (decLT (encT [])).length = 0 := by rw [(tab_back (show goodT [] = true by decide +kernel)).1]; rfl
theorem wo_V1 : (decLT (encT [([97#8, 98#8], [1, 2])])).length = 1 := by rw [wo_dec]; rfl
set_option maxHeartbeats 1600000 in
theorem opwakes_any (w : World) : Calls Tryd.prog 7 #[] w fun e w' => e = .returned (.bool true) ∧ Below w.heap.size w w' := by
  have HS := St.nil w noF
  have hP1 := wo_P1
  have hE2 := wo_E2
  have hE3 := wo_E3
  have hP3 := wo_P3
  have hE4 := wo_E4
  have hE5 := wo_E5
  have hP5 := wo_P5
  have hI6 := wo_I6
  have hE6 := wo_E6
  have hV0 := wo_V0
  have hV1 := wo_V1
  have hl1 : (encT [([97#8, 98#8], [1, 2])]).length = 32 := length_encT _
  have hl0 : (encT []).length = 32 := length_encT _
  have hz0 : (zer 32).length = 32 := length_zer 32
  have hf7 : (blk 7#8).length = 32 := length_blk _
  obtain ⟨t1, ht1⟩ : ∃ t, (encT [([97#8, 98#8], [1, 2])]) = t := ⟨_, rfl⟩
  obtain ⟨t0, ht0⟩ : ∃ t, encT [] = t := ⟨_, rfl⟩
  obtain ⟨f7, hF7⟩ : ∃ t, blk 7#8 = t := ⟨_, rfl⟩
  rw [ht1] at hP1 hE2 hE3 hP3 hE4 hE5 hP5 hI6 hE6 hV1 hl1
  rw [ht0] at hP5 hV0 hl0
  rw [hF7] at hP3 hf7
  have hP1 : ∃ z0, z0 = zer 32 ∧ makeP (decLT (zer 32)) [97#8, 98#8] 2 = ([(1, z0), (2, z0), (0, t1)] : List Pt) := ⟨zer 32, rfl, hP1⟩
  obtain ⟨z0, hz, hP1⟩ := hP1
  rw [← hz] at hz0
  clear ht1 ht0 hz
  refine enter_en Tryd.func7 rfl Tryd.ntmps7 (Nat.le_of_ble_eq_true rfl) fun a0 (HA0 : En 132 [] a0) => ?_
  refine sq_ <| rl_ <| wl_ <| p_ HA0 rfl rfl fun _ H1 => ln_ <| nx <| sq_ <| rl_ <| wl_ <| i_ H1 rfl (v := .agg (bs (zer 32))) (dd_bldk rfl (ps := []) (pr0) (cs := bs (zer 32)) (by kernel_rfl)) fun _ H2 => ?_
  clear HA0 H1
  refine wl_ <| d_ H2 rfl (R := fun v w9 => ∃ gp4 cp4 cbp4, v = .tuple #[.slice (some ⟨gp4, 0, none⟩) 3 cp4, .int .i64 0] ∧ (w.heap.size ≤ gp4) ∧ (Row w9 gp4 51 cbp4) ∧ (OwnC cbp4 cp4 3 33 (((([(1, z0), (2, z0), (0, t1)] : List Pt)).map pcell).flatten)) ∧ Below w.heap.size w w9) (dc_ Tryd.func16 rfl (args3 (H2.ev 15 rfl) rfl rfl) (make_any (zer 32) [97#8, 98#8] 2 w (length_zer 32) (by decide)) (fun _ w9 ⟨v9, he, ho, hb⟩ => by rw [wo_E1] at he; rw [hP1] at ho; obtain ⟨g9, c9, cb9, rfl, h1, h2, h3⟩ := ownc_pos ho (Nat.succ_pos _); exact ⟨_, he, g9, c9, cb9, rfl, h1, h2, h3, hb⟩)) ?_
  rintro _ W3 ⟨gp4, cp4, cbp4, rfl, hg4, hr4, Op4, hb3⟩ a3 H3
  have HS3 := HS.same hb3
  clear H2
  have HS3j : St w noF [⟨gp4, 51, cbp4⟩] W3 := HS.joins hb3 hr4 hg4
  clear HS3 hr4 hg4
  clear HS hb3
  refine wl_ <| p_ H3 rfl rfl fun _ H5 => wl_ <| i_ H5 rfl (v := .slice (some ⟨gp4, 0, none⟩) 3 cp4) (dd_ext rfl (H5.ev 14 rfl) rfl) fun _ H6 => wl_ <| i_ H6 rfl (v := .int .i64 0) (dd_ext rfl (H6.ev 14 rfl) rfl) fun _ H7 => q_ H7 2 rfl fun _ H8 => ln_ <| nx <| sq_ <| sq_ <| rl_ <| wl_ <| p_ H8 rfl rfl fun _ H9 => wl_ <| i_ H9 rfl (dd_cmp rfl (H9.ev 19 rfl) rfl (ne_f (by decide))) fun _ H10 => wl_ <| p_ H10 rfl rfl fun _ H11 => wl_ <| ig H11 (wg_ H11 rfl rfl rfl rfl) rfl (dd_mv rfl (H11.ev 1 rfl)) fun _ H12 => ?_
  clear H3 H5 H6 H7 H8 H9 H10
  refine wl_ <| ig H12 (wg_ H12 rfl rfl rfl rfl) rfl (v := .int .i64 3) (dd_len rfl (H12.ev 22 rfl) Tryd.underlying35) fun _ H13 => wl_ <| ig H13 (wg_ H13 rfl rfl rfl rfl) rfl (dd_cmp rfl (H13.ev 23 rfl) rfl (ne_f (by decide))) fun _ H14 => q_ H14 2 rfl fun _ H15 => wl_ <| ig H15 (wg_ H15 rfl rfl rfl rfl) rfl (dd_mv rfl (H15.ev 1 rfl)) fun _ H16 => wl_ <| ig H16 (wg_ H16 rfl rfl rfl rfl) rfl (xS 33 0 rfl (H16.ev 27 rfl) rfl) fun _ H17 => wl_ <| ig H17 (wg_ H17 rfl rfl rfl rfl) rfl (xf 0 0 rfl (H17.ev 28 rfl)) fun _ H18 => wl_ <| ig H18 (wg_ H18 rfl rfl rfl rfl) rfl (dd_get HS3j 0 0 rfl rfl (H18.ev 29 rfl) (put_at Op4 0 rfl (pt_cons hz0 (pt_cons hz0 (pt_cons hl1 pt_nil)))) Tryd.underlying3 rfl) fun _ H19 => wl_ <| ig H19 (wg_ H19 rfl rfl rfl rfl) rfl (dd_cmp rfl (H19.ev 30 rfl) rfl (ne_f (by decide))) fun _ H20 => ?_
  clear H11 H12 H13 H14 H15 H16 H17 H18
  refine q_ H20 2 rfl fun _ H21 => wl_ <| ig H21 (wg_ H21 rfl rfl rfl rfl) rfl (dd_mv rfl (H21.ev 1 rfl)) fun _ H22 => wl_ <| ig H22 (wg_ H22 rfl rfl rfl rfl) rfl (xS 33 33 rfl (H22.ev 34 rfl) rfl) fun _ H23 => wl_ <| ig H23 (wg_ H23 rfl rfl rfl rfl) rfl (xf 0 33 rfl (H23.ev 35 rfl)) fun _ H24 => wl_ <| ig H24 (wg_ H24 rfl rfl rfl rfl) rfl (dd_get HS3j 0 33 rfl rfl (H24.ev 36 rfl) (put_at Op4 1 rfl (pt_cons hz0 (pt_cons hz0 (pt_cons hl1 pt_nil)))) Tryd.underlying3 rfl) fun _ H25 => wl_ <| ig H25 (wg_ H25 rfl rfl rfl rfl) rfl (dd_cmp rfl (H25.ev 37 rfl) rfl (ne_f (by decide))) fun _ H26 => q_ H26 2 rfl fun _ H27 => wl_ <| ig H27 (wg_ H27 rfl rfl rfl rfl) rfl (dd_mv rfl (H27.ev 1 rfl)) fun _ H28 => ?_
  clear H19 H20 H21 H22 H23 H24 H25 H26
  refine wl_ <| ig H28 (wg_ H28 rfl rfl rfl rfl) rfl (xS 33 66 rfl (H28.ev 41 rfl) rfl) fun _ H29 => wl_ <| ig H29 (wg_ H29 rfl rfl rfl rfl) rfl (xf 0 66 rfl (H29.ev 42 rfl)) fun _ H30 => wl_ <| ig H30 (wg_ H30 rfl rfl rfl rfl) rfl (dd_get HS3j 0 66 rfl rfl (H30.ev 43 rfl) (put_at Op4 2 rfl (pt_cons hz0 (pt_cons hz0 (pt_cons hl1 pt_nil)))) Tryd.underlying3 rfl) fun _ H31 => wl_ <| ig H31 (wg_ H31 rfl rfl rfl rfl) rfl (dd_cmp rfl (H31.ev 44 rfl) rfl (ne_f (by decide))) fun _ H32 => wl_ <| p_ H32 rfl rfl fun _ H33 => ln_ <| ?_
  clear H27 H28 H29 H30 H31 H32
  have H34 := H33.sel [1, 46] rfl
  refine nx <| cf_ H34 rfl <| wp_skip <| nx <| sq_ <| rl_ <| wl_ <| p_ H34 rfl rfl fun _ H35 => wl_ <| i_ H35 rfl (xS 33 66 rfl (H35.ev 47 rfl) rfl) fun _ H36 => wl_ <| i_ H36 rfl (xf 1 67 rfl (H36.ev 48 rfl)) fun _ H37 => wl_ <| i_ H37 rfl (v := .agg (bs t1)) (dd_load HS3j 0 67 rfl rfl (H37.ev 49 rfl) (put_dat Op4 2 rfl hl1 (pt_cons hz0 (pt_cons hz0 (pt_cons hl1 pt_nil)))) Tryd.underlying23 rfl (by rw [show (bs t1).size = 32 from ((size_bs _).trans hl1)]; kernel_rfl)) fun _ H38 => wl_ <| n_ H38 rfl (fun _ h => dd_new HS3j (bs (zer 32)) rfl (z := .agg (bs (zer 32))) (by kernel_rfl) rfl h) fun g3 _ HS39 _ H39 => wl_ <| t_ rfl (fun _ h => dd_setrow HS39 1 rfl rfl (H39.ev 3 rfl) (H39.ev 50 rfl) (by kernel_rfl) (((size_bs _).trans hl1) : (bs t1).size = 32) (((size_bs _).trans (length_zer 32)) : (bs (zer 32)).size = 32) (one_bs _) h) fun W40 HS40 => ln_ <| nx <| sq_ <| ?_
  clear H33 H34 H35 H36 H37 HS3j H38 HS39
  refine wi_ HS40 [1] rfl [1, 0] rfl fun HSh41 hx41 => ht_ H39 0 hx41 rfl rfl (v := .agg (bs t1)) (fun _ _ HS9 => dd_load HS9 0 0 rfl rfl (H39.ev 3 rfl) (slab_whole _) Tryd.underlying23 rfl (by rw [show (bs t1).size = 32 from ((size_bs _).trans hl1)]; kernel_rfl)) fun _ H42 => h1_ 1 rfl <| c_ H42 rfl HSh41 (v := .agg (bs f7)) (dc_ Tryd.func24 rfl (args1 rfl) (fill_any 7#8 W40.drew) (fun _ w9 h9 => ⟨_, h9.1, by rw [hF7], h9.2⟩)) fun W43 HS43 _ H43 => sx_ (sxi HS43 [1, 0] rfl) fun hx44 => ?_
  clear HS40 H39 H42 HSh41 hx41
  refine h1_ 2 rfl <| d_ H43 rfl (R := fun v w9 => ∃ gp46 cp46 cbp46, v = .tuple #[.slice (some ⟨gp46, 0, none⟩) 1 cp46, .int .i64 0] ∧ (W43.heap.size ≤ gp46) ∧ (Row w9 gp46 51 cbp46) ∧ (OwnC cbp46 cp46 1 33 (((([(2, f7)] : List Pt)).map pcell).flatten)) ∧ Below W43.heap.size W43 w9) (dc_ Tryd.func13 rfl (args4 (H43.ev 52 rfl) rfl rfl (H43.ev 53 rfl)) (write_any t1 [97#8, 98#8] f7 1 W43 hl1 hf7) (fun _ w9 ⟨v9, he, ho, hb⟩ => by rw [hE3] at he; rw [hP3] at ho; obtain ⟨g9, c9, cb9, rfl, h1, h2, h3⟩ := ownc_pos ho (Nat.succ_pos _); exact ⟨_, he, g9, c9, cb9, rfl, h1, h2, h3, hb⟩)) ?_
  rintro _ W45 ⟨gp46, cp46, cbp46, rfl, hg46, hr46, Op46, hb45⟩ a45 H45
  have HS45 := HS43.same hb45
  clear H43
  have HS45j : St w noF [⟨gp4, 51, cbp4⟩, ⟨g3, 23, bs t1⟩, ⟨gp46, 51, cbp46⟩] W45 := HS43.joins hb45 hr46 hg46
  clear HS45 hr46 hg46
  clear HS43 hb45
  refine sx_ (sxi HS45j [1, 0, 2] rfl) fun hx47 => hp_ H45 3 hx47 rfl rfl rfl fun _ H48 => ht_ H48 4 hx47 rfl rfl (v := .slice (some ⟨gp46, 0, none⟩) 1 cp46) (fun _ _ _ => dd_ext rfl (H48.ev 51 rfl) rfl) fun _ H49 => ht_ H49 5 hx47 rfl rfl (v := .int .i64 0) (fun _ _ _ => dd_ext rfl (H49.ev 51 rfl) rfl) fun _ H50 => hp_ H50 6 hx47 rfl rfl rfl fun _ H51 => hp_ H51 7 hx47 rfl rfl rfl fun _ H52 => ?_
  clear hx44 H45 H48 H49 H50 H51
  refine wpAnyH_done (by kernel_rfl) ?_ _
  clear hx47
  refine nx <| sq_ <| ?_
  refine wi_ HS45j [1] rfl [1, 0, 2] rfl fun HSh53 hx53 => ht_ H52 0 hx53 rfl rfl (v := .agg (bs t1)) (fun _ _ HS9 => dd_load HS9 0 0 rfl rfl (H52.ev 3 rfl) (slab_whole _) Tryd.underlying23 rfl (by rw [show (bs t1).size = 32 from ((size_bs _).trans hl1)]; kernel_rfl)) fun _ H54 => h1_ 1 rfl <| c_ H54 rfl HSh53 (v := .agg (bs f7)) (dc_ Tryd.func24 rfl (args1 rfl) (fill_any 7#8 W45.drew) (fun _ w9 h9 => ⟨_, h9.1, by rw [hF7], h9.2⟩)) fun W55 HS55 _ H55 => sx_ (sxi HS55 [1, 0, 2] rfl) fun hx56 => ?_
  clear HS45j H52 H54 HSh53 hx53
  refine h1_ 2 rfl <| d_ H55 rfl (R := fun v w9 => ∃ vp58, v = .tuple #[vp58, .int .i64 17] ∧ Below W55.heap.size W55 w9) (dc_ Tryd.func13 rfl (args4 (H55.ev 58 rfl) rfl rfl (H55.ev 59 rfl)) (write_any t1 [97#8, 98#8] f7 2 W55 hl1 hf7) (fun _ w9 ⟨v9, he, _, hb⟩ => by rw [hE4] at he; exact ⟨_, he, v9, rfl, hb⟩)) ?_
  rintro _ W57 ⟨vp58, rfl, hb57⟩ a57 H57
  have HS57 := HS55.same hb57
  clear H55
  clear HS55 hb57
  refine sx_ (sxi HS57 [1, 0, 2] rfl) fun hx59 => hp_ H57 3 hx59 rfl rfl rfl fun _ H60 => ht_ H60 4 hx59 rfl rfl (v := vp58) (fun _ _ _ => dd_ext rfl (H60.ev 57 rfl) rfl) fun _ H61 => ht_ H61 5 hx59 rfl rfl (v := .int .i64 17) (fun _ _ _ => dd_ext rfl (H61.ev 57 rfl) rfl) fun _ H62 => hp_ H62 6 hx59 rfl rfl rfl fun _ H63 => hp_ H63 7 hx59 rfl rfl rfl fun _ H64 => ?_
  clear hx56 H57 H60 H61 H62 H63
  refine wpAnyH_done (by kernel_rfl) ?_ _
  clear hx59
  refine nx <| sq_ <| rl_ <| wl_ <| i_ H64 rfl (v := .agg (bs t1)) (dd_load HS57 1 0 rfl rfl (H64.ev 3 rfl) (slab_whole _) Tryd.underlying23 rfl (by rw [show (bs t1).size = 32 from ((size_bs _).trans hl1)]; kernel_rfl)) fun _ H65 => ?_
  clear H64
  refine wl_ <| d_ H65 rfl (R := fun v w9 => ∃ gp67 cp67 cbp67, v = .tuple #[.slice (some ⟨gp67, 0, none⟩) 1 cp67, .int .i64 0] ∧ (W57.heap.size ≤ gp67) ∧ (Row w9 gp67 51 cbp67) ∧ (OwnC cbp67 cp67 1 33 (((([(0, t0)] : List Pt)).map pcell).flatten)) ∧ Below W57.heap.size W57 w9) (dc_ Tryd.func18 rfl (args2 (H65.ev 64 rfl) rfl) (gone_any t1 [97#8, 98#8] W57 hl1) (fun _ w9 ⟨v9, he, ho, hb⟩ => by rw [hE5] at he; rw [hP5] at ho; obtain ⟨g9, c9, cb9, rfl, h1, h2, h3⟩ := ownc_pos ho (Nat.succ_pos _); exact ⟨_, he, g9, c9, cb9, rfl, h1, h2, h3, hb⟩)) ?_
  rintro _ W66 ⟨gp67, cp67, cbp67, rfl, hg67, hr67, Op67, hb66⟩ a66 H66
  have HS66 := HS57.same hb66
  clear H65
  have HS66j : St w noF [⟨gp4, 51, cbp4⟩, ⟨g3, 23, bs t1⟩, ⟨gp46, 51, cbp46⟩, ⟨gp67, 51, cbp67⟩] W66 := HS57.joins hb66 hr67 hg67
  clear HS66 hr67 hg67
  clear HS57 hb66
  refine wl_ <| p_ H66 rfl rfl fun _ H68 => wl_ <| i_ H68 rfl (v := .slice (some ⟨gp67, 0, none⟩) 1 cp67) (dd_ext rfl (H68.ev 63 rfl) rfl) fun _ H69 => wl_ <| i_ H69 rfl (v := .int .i64 0) (dd_ext rfl (H69.ev 63 rfl) rfl) fun _ H70 => q_ H70 2 rfl fun _ H71 => ln_ <| ?_
  clear H66 H68 H69 H70
  have H72 := H71.sel [3, 4, 5, 7, 8, 9] rfl
  refine nx <| sq_ <| rl_ <| wl_ <| i_ H72 rfl (v := .agg (bs t1)) (dd_load HS66j 1 0 rfl rfl (H72.ev 3 rfl) (slab_whole _) Tryd.underlying23 rfl (by rw [show (bs t1).size = 32 from ((size_bs _).trans hl1)]; kernel_rfl)) fun _ H73 => ?_
  clear H71 H72
  refine wl_ <| d_ H73 rfl (R := fun v w9 => ∃ vp75, v = .tuple #[vp75, .int .i64 16] ∧ Below W66.heap.size W66 w9) (dc_ Tryd.func16 rfl (args3 (H73.ev 69 rfl) rfl rfl) (make_any t1 [97#8, 98#8] 1 W66 hl1 (by decide)) (fun _ w9 ⟨v9, he, _, hb⟩ => by rw [hE2] at he; exact ⟨_, he, v9, rfl, hb⟩)) ?_
  rintro _ W74 ⟨vp75, rfl, hb74⟩ a74 H74
  have HS74 := HS66j.same hb74
  clear H73
  clear HS66j hb74
  refine wl_ <| p_ H74 rfl rfl fun _ H76 => wl_ <| i_ H76 rfl (v := vp75) (dd_ext rfl (H76.ev 68 rfl) rfl) fun _ H77 => wl_ <| i_ H77 rfl (v := .int .i64 16) (dd_ext rfl (H77.ev 68 rfl) rfl) fun _ H78 => q_ H78 2 rfl fun _ H79 => ln_ <| nx <| sq_ <| rl_ <| wl_ <| i_ H79 rfl (v := .agg (bs t1)) (dd_load HS74 1 0 rfl rfl (H79.ev 3 rfl) (slab_whole _) Tryd.underlying23 rfl (by rw [show (bs t1).size = 32 from ((size_bs _).trans hl1)]; kernel_rfl)) fun _ H80 => wl_ <| c_ H80 rfl HS74 (v := .tuple #[.int .i64 1, .int .i64 0]) (dc_ Tryd.func8 rfl (args3 (H80.ev 74 rfl) rfl rfl) (place_any t1 [97#8, 98#8] 0 W74 hl1) (fun _ w9 h9 => ⟨_, h9.1, by rw [hI6, hE6], h9.2⟩)) fun W81 HS81 _ H81 => wl_ <| p_ H81 rfl rfl fun _ H82 => wl_ <| i_ H82 rfl (v := .int .i64 1) (dd_ext rfl (H82.ev 73 rfl) rfl) fun _ H83 => ?_
  clear H74 H76 H77 H78 H79 H80 HS74 H81
  refine wl_ <| i_ H83 rfl (v := .int .i64 0) (dd_ext rfl (H83.ev 73 rfl) rfl) fun _ H84 => q_ H84 2 rfl fun _ H85 => ln_ <| nx <| sq_ <| rl_ <| wl_ <| p_ H85 rfl rfl fun _ H86 => wl_ <| i_ H86 rfl (dd_cmp rfl (H86.ev 78 rfl) rfl (eq_t (by decide))) fun _ H87 => wl_ <| p_ H87 rfl rfl fun _ H88 => wl_ <| ig H88 (wg_ H88 rfl rfl rfl rfl) rfl (dd_mv rfl (H88.ev 4 rfl)) fun _ H89 => wl_ <| ig H89 (wg_ H89 rfl rfl rfl rfl) rfl (v := .int .i64 1) (dd_len rfl (H89.ev 81 rfl) Tryd.underlying35) fun _ H90 => wl_ <| ig H90 (wg_ H90 rfl rfl rfl rfl) rfl (dd_cmp rfl (H90.ev 82 rfl) rfl (eq_t (by decide))) fun _ H91 => ?_
  clear H82 H83 H84 H85 H86 H87 H88 H89
  refine q_ H91 2 rfl fun _ H92 => wl_ <| ig H92 (wg_ H92 rfl rfl rfl rfl) rfl (dd_mv rfl (H92.ev 4 rfl)) fun _ H93 => wl_ <| ig H93 (wg_ H93 rfl rfl rfl rfl) rfl (xS 33 0 rfl (H93.ev 86 rfl) rfl) fun _ H94 => wl_ <| ig H94 (wg_ H94 rfl rfl rfl rfl) rfl (xf 0 0 rfl (H94.ev 87 rfl)) fun _ H95 => wl_ <| ig H95 (wg_ H95 rfl rfl rfl rfl) rfl (dd_get HS81 2 0 rfl rfl (H95.ev 88 rfl) (put_at Op46 0 rfl (pt_cons hf7 pt_nil)) Tryd.underlying3 rfl) fun _ H96 => wl_ <| ig H96 (wg_ H96 rfl rfl rfl rfl) rfl (dd_cmp rfl (H96.ev 89 rfl) rfl (eq_t (by decide))) fun _ H97 => q_ H97 2 rfl fun _ H98 => wl_ <| ig H98 (wg_ H98 rfl rfl rfl rfl) rfl (dd_mv rfl (H98.ev 7 rfl)) fun _ H99 => ?_
  clear H90 H91 H92 H93 H94 H95 H96 H97
  refine wl_ <| ig H99 (wg_ H99 rfl rfl rfl rfl) rfl (dd_cmp rfl (H99.ev 93 rfl) rfl (eq_t (by decide))) fun _ H100 => q_ H100 2 rfl fun _ H101 => wl_ <| ig H101 (wg_ H101 rfl rfl rfl rfl) rfl (dd_mv rfl (H101.ev 9 rfl)) fun _ H102 => wl_ <| ig H102 (wg_ H102 rfl rfl rfl rfl) rfl (dd_cmp rfl (H102.ev 97 rfl) rfl (eq_t (by decide))) fun _ H103 => q_ H103 2 rfl fun _ H104 => wl_ <| ig H104 (wg_ H104 rfl rfl rfl rfl) rfl (dd_mv rfl (H104.ev 8 rfl)) fun _ H105 => wl_ <| ig H105 (wg_ H105 rfl rfl rfl rfl) rfl (v := .int .i64 1) (dd_len rfl (H105.ev 101 rfl) Tryd.underlying35) fun _ H106 => wl_ <| ig H106 (wg_ H106 rfl rfl rfl rfl) rfl (dd_cmp rfl (H106.ev 102 rfl) rfl (eq_t (by decide))) fun _ H107 => ?_
  clear H98 H99 H100 H101 H102 H103 H104 H105
  refine q_ H107 2 rfl fun _ H108 => wl_ <| ig H108 (wg_ H108 rfl rfl rfl rfl) rfl (dd_mv rfl (H108.ev 8 rfl)) fun _ H109 => wl_ <| ig H109 (wg_ H109 rfl rfl rfl rfl) rfl (xS 33 0 rfl (H109.ev 106 rfl) rfl) fun _ H110 => wl_ <| ig H110 (wg_ H110 rfl rfl rfl rfl) rfl (xf 1 1 rfl (H110.ev 107 rfl)) fun _ H111 => wl_ <| ig H111 (wg_ H111 rfl rfl rfl rfl) rfl (v := .agg (bs t0)) (dd_load HS81 3 1 rfl rfl (H111.ev 108 rfl) (put_dat Op67 0 rfl hl0 (pt_cons hl0 pt_nil)) Tryd.underlying23 rfl (by rw [show (bs t0).size = 32 from ((size_bs _).trans hl0)]; kernel_rfl)) fun _ H112 => ?_
  clear H106 H107 H108 H109 H110 H111
  refine wl_ <| dr_ H112 (wg_ H112 rfl rfl rfl rfl) rfl (R := fun v w9 => ∃ Av114 Cv114, v = .slice Av114 0 Cv114 ∧ Below W81.heap.size W81 w9) (dc_ Tryd.func11 rfl (args1 (H112.ev 109 rfl)) (volumes_any t0 W81 hl0) (fun _ w9 ⟨v9, B9, he, _, _, ho, hb⟩ => by obtain ⟨A9, n9, c9, rfl, h1, _⟩ := OV.form2 ho; rw [len_volL, hV0] at h1; obtain rfl : n9 = 0 := h1.symm; exact ⟨_, he, A9, c9, rfl, hb⟩)) ?_
  rintro _ W113 ⟨Av114, Cv114, rfl, hb113⟩ a113 H113
  have HS113 := HS81.same hb113
  clear H112
  clear HS81 hb113
  refine wl_ <| ig H113 (wg_ H113 rfl rfl rfl rfl) rfl (v := .int .i64 0) (dd_len rfl (H113.ev 110 rfl) Tryd.underlying33) fun _ H115 => wl_ <| ig H115 (wg_ H115 rfl rfl rfl rfl) rfl (dd_cmp rfl (H115.ev 111 rfl) rfl (eq_t (by decide))) fun _ H116 => q_ H116 2 rfl fun _ H117 => wl_ <| ig H117 (wg_ H117 rfl rfl rfl rfl) rfl (dd_mv rfl (H117.ev 11 rfl)) fun _ H118 => wl_ <| ig H118 (wg_ H118 rfl rfl rfl rfl) rfl (dd_cmp rfl (H118.ev 115 rfl) rfl (eq_t (by decide))) fun _ H119 => q_ H119 2 rfl fun _ H120 => wl_ <| ig H120 (wg_ H120 rfl rfl rfl rfl) rfl (dd_mv rfl (H120.ev 13 rfl)) fun _ H121 => wl_ <| ig H121 (wg_ H121 rfl rfl rfl rfl) rfl (dd_cmp rfl (H121.ev 119 rfl) rfl (eq_t (by decide))) fun _ H122 => ?_
  clear H113 H115 H116 H117 H118 H119 H120
  refine q_ H122 2 rfl fun _ H123 => wl_ <| ig H123 (wg_ H123 rfl rfl rfl rfl) rfl (dd_mv rfl (H123.ev 12 rfl)) fun _ H124 => wl_ <| ig H124 (wg_ H124 rfl rfl rfl rfl) rfl (dd_cmp rfl (H124.ev 123 rfl) rfl (eq_t (by decide))) fun _ H125 => q_ H125 2 rfl fun _ H126 => wl_ <| ig H126 (wg_ H126 rfl rfl rfl rfl) rfl (v := .agg (bs t1)) (dd_load HS113 1 0 rfl rfl (H126.ev 3 rfl) (slab_whole _) Tryd.underlying23 rfl (by rw [show (bs t1).size = 32 from ((size_bs _).trans hl1)]; kernel_rfl)) fun _ H127 => ?_
  clear H121 H122 H123 H124 H125 H126
  refine wl_ <| dr_ H127 (wg_ H127 rfl rfl rfl rfl) rfl (R := fun v w9 => ∃ Av129 Cv129, v = .slice Av129 1 Cv129 ∧ Below W113.heap.size W113 w9) (dc_ Tryd.func11 rfl (args1 (H127.ev 127 rfl)) (volumes_any t1 W113 hl1) (fun _ w9 ⟨v9, B9, he, _, _, ho, hb⟩ => by obtain ⟨A9, n9, c9, rfl, h1, _⟩ := OV.form2 ho; rw [len_volL, hV1] at h1; obtain rfl : n9 = 1 := h1.symm; exact ⟨_, he, A9, c9, rfl, hb⟩)) ?_
  rintro _ W128 ⟨Av129, Cv129, rfl, hb128⟩ a128 H128
  have HS128 := HS113.same hb128
  clear H127
  clear HS113 hb128
  refine wl_ <| ig H128 (wg_ H128 rfl rfl rfl rfl) rfl (v := .int .i64 1) (dd_len rfl (H128.ev 128 rfl) Tryd.underlying33) fun _ H130 => wl_ <| ig H130 (wg_ H130 rfl rfl rfl rfl) rfl (dd_cmp rfl (H130.ev 129 rfl) rfl (eq_t (by decide))) fun _ H131 => q_ H131 2 rfl fun _ H132 => ln_ <| ?_
  clear H128 H130 H131
  have H133 := H132.sel [0] rfl
  refine nx <| wp_ret <| ret_run H133.env0 (res_t Tryd.results7 (H133.get 0 rfl)) <| ?_
  clear H132
  exact ⟨rfl, HS128.below⟩
end Go.Proofs.YtlfliojadjgplaaDoor

/- The statement OpsTell: its walk. -/
set_option maxRecDepth 4000
namespace Go.Proofs.YtlfliojadjgplaaDoor
open Go Go.RowKit
theorem make_bnd (l : List Tv) (q : List (BitVec 8)) (n : Int) : ∀ y ∈ makeP l q n, y.2.length = 32 ∧ -9223372036854775808 ≤ y.1 ∧ y.1 < 9223372036854775808 := fun y hy => by
  unfold makeP at hy
  split at hy
  · rcases List.mem_append.1 hy with hy | hy
    · obtain ⟨b, hb, rfl⟩ := List.mem_map.1 hy
      exact ⟨length_zer 32, take_i64 l n b hb⟩
    · rw [List.mem_singleton] at hy
      subst hy
      exact ⟨length_encT _, by show (-9223372036854775808 : Int) ≤ 0; decide, by show (0 : Int) < 9223372036854775808; decide⟩
  · cases hy
end Go.Proofs.YtlfliojadjgplaaDoor

/- The statement OpsApart: its walk. -/
set_option maxRecDepth 4000
namespace Go.Proofs.YtlfliojadjgplaaDoor
open Go Go.RowKit
theorem rgoodt_big (A : Option Addr) (n c : Nat) (l : List Tv) (w : World) (hl : l.length = n) (h3 : (3 : Int) < n) : Calls Tryd.prog 20 #[.slice A n c] w fun e w' => e = .returned (.bool (goodT l)) ∧ Below w.heap.size w w' := by
  have HS := St.nil w noF
  refine enter_en Tryd.func20 rfl Tryd.ntmps20 (Nat.le_of_ble_eq_true rfl) fun a0 (HA0 : En 71 [(0, .slice A n c)] a0) => ?_
  refine sq_ <| rl_ <| wl_ <| p_ HA0 rfl rfl fun _ H1 => ln_ <| nx <| sq_ <| sq_ <| rl_ <| wl_ <| p_ H1 rfl rfl fun _ H2 => wl_ <| i_ H2 rfl (v := .int .i64 n) (dd_len rfl (H2.ev 8 rfl) Tryd.underlying33) fun _ H3 => wl_ <| i_ H3 rfl (dd_cmp rfl (H3.ev 9 rfl) rfl (gt_t h3)) fun _ H4 => ln_ <| nx <| ct_ H4 rfl <| sq_ <| rl_ <| wl_ <| p_ H4 rfl rfl fun _ H5 => ln_ <| nx <| wp_ret <| tr <| ret_run H5.env0 (res_t Tryd.results20 (H5.get 2 rfl)) <| ?_
  clear HA0 H1 H2 H3 H4
  exact ⟨by rw [goodT_long (by omega)], HS.below⟩
theorem rgoodt_all (A : Option Addr) (n c : Nat) (l : List Tv) (w : World) (hv : VolsAt w (.slice A n c) (volL l)) : Calls Tryd.prog 20 #[.slice A n c] w fun e w' => e = .returned (.bool (goodT l)) ∧ Below w.heap.size w w' := by
  by_cases h : n ≤ 1000000
  · exact rgoodt_any A n c l w hv h
  · exact rgoodt_big A n c l w (by rw [← len_volL]; exact vols_len hv) (by omega)
theorem ap_small {l : List Tv} (h : goodT l = true) : l.length ≤ 3 ∧ ∀ x ∈ l, x.2.length ≤ 1000000 := by
  obtain ⟨h1, h2, _⟩ := goodT_parts h
  refine ⟨h1, fun x hx => ?_⟩
  obtain ⟨j, hj⟩ := List.getElem?_of_mem hx
  have := h2 j x hj
  unfold okT at this
  simp only [Bool.and_eq_true, decide_eq_true_eq] at this
  omega
section
variable {l : List Tv} {i j x y : Nat} {p q d : List (BitVec 8)} {L M : List Int}
end
end Go.Proofs.YtlfliojadjgplaaDoor
