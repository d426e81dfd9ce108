/- Merged: AskCodes TokOpen AskOpen. -/
import Derived.Test.YtobklbfcnbmnmaaDoorMLabel3
import Derived.Test.YtobklbfcnbmnmaaDoorMGen1
import Derived.Test.YtobklbfcnbmnmaaDoorMLabel0
/- The statement AskCodes: its walk. -/
set_option maxRecDepth 4000
namespace Go.Proofs.YtobklbfcnbmnmaaDoor
open Go Go.RowKit
theorem rdec_short (A : Option Addr) (n cc : Nat) (q : List (BitVec 8)) (w : World) (hl : q.length = n) (k54 : n ≠ 54) (k86 : n ≠ 86) :
    Calls Tryd.prog 11 #[.slice A n cc] w fun x w' => x = .returned (.tuple #[.agg (askC (decA q)), .int .i64 (decF q)]) ∧ Below w.heap.size w w' := by
  have HS := St.nil w noF
  have hd := adec_len (q := q) (by omega)
  have h54 : ¬ (n : Int) = 54 := by omega
  have h86 : ¬ (n : Int) = 86 := by omega
  refine enter_env Tryd.func11 rfl Tryd.ntmps11 (Nat.le_of_ble_eq_true rfl) (fun a0 (HA0 : Env 79 [(0, .slice A n cc)] a0) => ?_)
  refine wp_seq ?_
  refine wp_region_lit ?_
  refine wl_does HA0 [0] (R := fun v w9 => ∃ g2, v = .pointer (some ⟨g2, 0, none⟩) ∧ St w noF [⟨g2, 31, catA [[.int .i64 0], [.int .i64 0], [.string (⟨#[]⟩)], [.int .i64 0], [.int .u32 0], [.int .u32 0], bytesV (zer 32), [.string (⟨#[]⟩)], [.int .i64 0], bytesV (zer 32)]⟩] w9) (want_n rfl) (dd_new HS (catA [[.int .i64 0], [.int .i64 0], [.string (⟨#[]⟩)], [.int .i64 0], [.int .u32 0], [.int .u32 0], bytesV (zer 32), [.string (⟨#[]⟩)], [.int .i64 0], bytesV (zer 32)]) rfl (z := .agg (catA [[.int .i64 0], [.int .i64 0], [.string (⟨#[]⟩)], [.int .i64 0], [.int .u32 0], [.int .u32 0], bytesV (zer 32), [.string (⟨#[]⟩)], [.int .i64 0], bytesV (zer 32)])) (by kernel_rfl) rfl (fun g9 w9 h9 => ⟨g9, rfl, h9⟩)) rfl ?_
  rintro _ W1 ⟨g2, rfl, HS1⟩ a1 (HA1 : Env 79 [(2, .pointer (some ⟨g2, 0, none⟩)), (0, .slice A n cc)] a1)
  clear HA0 a0 HS
  refine wl_is HA1 [0, 1] (v := .int .i64 0) (want_n rfl) (dd_rn (dd_as rfl rfl) ⟨rfl, rfl⟩) rfl (fun a2 (HA2 : Env 79 [(3, .int .i64 0), (2, .pointer (some ⟨g2, 0, none⟩)), (0, .slice A n cc)] a2) => ?_)
  clear HA1 a1
  refine wpList_nil ?_
  refine nx ?_
  refine wp_seq ?_
  refine wp_seq ?_
  refine wp_region_lit ?_
  refine wl_is HA2 [1, 2] (v := .slice A n cc) (want_n rfl) (dd_rn (dd_mv rfl (HA2.ev 2 rfl)) ⟨rfl, rfl⟩) rfl (fun a3 (HA3 : Env 79 [(10, .slice A n cc), (2, .pointer (some ⟨g2, 0, none⟩)), (0, .slice A n cc)] a3) => ?_)
  clear HA2 a2
  refine wl_is HA3 [1, 2] (v := .int .i64 n) (want_n rfl) (dd_rn (dd_len rfl (HA3.ev 0 rfl) Tryd.underlying32) ⟨rfl, rfl⟩) rfl (fun a4 (HA4 : Env 79 [(11, .int .i64 n), (2, .pointer (some ⟨g2, 0, none⟩)), (0, .slice A n cc)] a4) => ?_)
  clear HA3 a3
  refine wl_is HA4 [1, 2] (v := .bool true) (want_n rfl) (dd_rn (dd_cmp rfl (HA4.ev 0 rfl) rfl (ne_t h54)) ⟨rfl, rfl⟩) rfl (fun a5 (HA5 : Env 79 [(12, .bool true), (2, .pointer (some ⟨g2, 0, none⟩)), (0, .slice A n cc)] a5) => ?_)
  clear HA4 a4
  refine wl_is HA5 [1, 2] (v := .bool true) (want_n rfl) (dd_rn (dd_mv rfl (HA5.ev 0 rfl)) ⟨rfl, rfl⟩) rfl (fun a6 (HA6 : Env 79 [(13, .bool true), (2, .pointer (some ⟨g2, 0, none⟩)), (0, .slice A n cc)] a6) => ?_)
  clear HA5 a5
  refine wl_is HA6 [0, 1, 2] (v := .slice A n cc) (want_g rfl (t := 13) rfl (HA6.get 0 rfl) rfl) (dd_rn (dd_mv rfl (HA6.ev 2 rfl)) ⟨rfl, rfl⟩) rfl (fun a7 (HA7 : Env 79 [(14, .slice A n cc), (13, .bool true), (2, .pointer (some ⟨g2, 0, none⟩)), (0, .slice A n cc)] a7) => ?_)
  clear HA6 a6
  refine wl_is HA7 [1, 2, 3] (v := .int .i64 n) (want_g rfl (t := 13) rfl (HA7.get 1 rfl) rfl) (dd_rn (dd_len rfl (HA7.ev 0 rfl) Tryd.underlying32) ⟨rfl, rfl⟩) rfl (fun a8 (HA8 : Env 79 [(15, .int .i64 n), (13, .bool true), (2, .pointer (some ⟨g2, 0, none⟩)), (0, .slice A n cc)] a8) => ?_)
  clear HA7 a7
  refine wl_is HA8 [1, 2, 3] (v := .bool true) (want_g rfl (t := 13) rfl (HA8.get 1 rfl) rfl) (dd_rn (dd_cmp rfl (HA8.ev 0 rfl) rfl (ne_t h86)) ⟨rfl, rfl⟩) rfl (fun a9 (HA9 : Env 79 [(16, .bool true), (13, .bool true), (2, .pointer (some ⟨g2, 0, none⟩)), (0, .slice A n cc)] a9) => ?_)
  clear HA8 a8
  refine wl_is HA9 [2, 3] (v := .bool true) (want_n rfl) (dd_rn (dd_pickT rfl (HA9.ev 1 rfl) (HA9.ev 0 rfl)) ⟨rfl, rfl⟩) rfl (fun a10 (HA10 : Env 79 [(17, .bool true), (2, .pointer (some ⟨g2, 0, none⟩)), (0, .slice A n cc)] a10) => ?_)
  clear HA9 a9
  refine wpList_nil ?_
  refine nx ?_
  refine wp_cond_true (HA10.ev 0 rfl) ?_
  refine wp_seq ?_
  refine wp_region_lit ?_
  refine wl_is HA10 [1] (v := .agg (catA [[.int .i64 0], (catA [[.int .i64 0], [.string (⟨#[]⟩)], [.int .i64 0], [.int .u32 0], [.int .u32 0], bytesV (zer 32)]).toList, [.string (⟨#[]⟩)], [.int .i64 0], bytesV (zer 32)])) (want_n rfl) (dd_rn (dd_bld rfl (ps := []) (pr0) (Lz := [[.int .i64 0], (catA [[.int .i64 0], [.string (⟨#[]⟩)], [.int .i64 0], [.int .u32 0], [.int .u32 0], bytesV (zer 32)]).toList, [.string (⟨#[]⟩)], [.int .i64 0], bytesV (zer 32)]) (by kernel_rfl) (lens_cons rfl (lens_cons ((Array.length_toList).trans (cat_size (lens_cons rfl (lens_cons rfl (lens_cons rfl (lens_cons rfl (lens_cons rfl (lens_cons (len_bv (length_zer 32)) (lens_nil))))))))) (lens_cons rfl (lens_cons rfl (lens_cons (len_bv (length_zer 32)) (lens_nil)))))) (fit_nil) (cs := catA [[.int .i64 0], (catA [[.int .i64 0], [.string (⟨#[]⟩)], [.int .i64 0], [.int .u32 0], [.int .u32 0], bytesV (zer 32)]).toList, [.string (⟨#[]⟩)], [.int .i64 0], bytesV (zer 32)]) rfl) ⟨rfl, rfl⟩) rfl (fun a11 (HA11 : Env 79 [(18, .agg (catA [[.int .i64 0], (catA [[.int .i64 0], [.string (⟨#[]⟩)], [.int .i64 0], [.int .u32 0], [.int .u32 0], bytesV (zer 32)]).toList, [.string (⟨#[]⟩)], [.int .i64 0], bytesV (zer 32)])), (2, .pointer (some ⟨g2, 0, none⟩))] a11) => ?_)
  clear HA10 a10
  refine wl_does HA11 [1] (R := fun v9 w9 => St w noF [⟨g2, 31, catA [[.int .i64 0], (catA [[.int .i64 0], [.string (⟨#[]⟩)], [.int .i64 0], [.int .u32 0], [.int .u32 0], bytesV (zer 32)]).toList, [.string (⟨#[]⟩)], [.int .i64 0], bytesV (zer 32)]⟩] w9) (want_n rfl) (dd_setrow HS1 0 rfl rfl (HA11.ev 1 rfl) (HA11.ev 0 rfl) (by kernel_rfl) ((cat_size (lens_cons rfl (lens_cons ((Array.length_toList).trans (cat_size (lens_cons rfl (lens_cons rfl (lens_cons rfl (lens_cons rfl (lens_cons rfl (lens_cons (len_bv (length_zer 32)) (lens_nil))))))))) (lens_cons rfl (lens_cons rfl (lens_cons (len_bv (length_zer 32)) (lens_nil))))))) : (catA [[.int .i64 0], (catA [[.int .i64 0], [.string (⟨#[]⟩)], [.int .i64 0], [.int .u32 0], [.int .u32 0], bytesV (zer 32)]).toList, [.string (⟨#[]⟩)], [.int .i64 0], bytesV (zer 32)]).size = 72) ((cat_size (lens_cons rfl (lens_cons rfl (lens_cons rfl (lens_cons rfl (lens_cons rfl (lens_cons rfl (lens_cons (len_bv (length_zer 32)) (lens_cons rfl (lens_cons rfl (lens_cons (len_bv (length_zer 32)) (lens_nil)))))))))))) : (catA [[.int .i64 0], [.int .i64 0], [.string (⟨#[]⟩)], [.int .i64 0], [.int .u32 0], [.int .u32 0], bytesV (zer 32), [.string (⟨#[]⟩)], [.int .i64 0], bytesV (zer 32)]).size = 72) (cat_one (ones_cons (ones_c rfl) (ones_cons (all_one (cat_one (ones_cons (ones_c rfl) (ones_cons (ones_c rfl) (ones_cons (ones_c rfl) (ones_cons (ones_c rfl) (ones_cons (ones_c rfl) (ones_cons (one_bytesV _) (ones_nil))))))))) (ones_cons (ones_c rfl) (ones_cons (ones_c rfl) (ones_cons (one_bytesV _) (ones_nil))))))) (fun w9 h9 => h9)) rfl ?_
  rintro _ W12 HS12 a12 (HA12 : Env 79 [(2, .pointer (some ⟨g2, 0, none⟩))] a12)
  clear HA11 a11 HS1
  refine wl_is HA12 [0] (v := .int .i64 11) (want_n rfl) (dd_rn (dd_as rfl rfl) ⟨rfl, rfl⟩) rfl (fun a13 (HA13 : Env 79 [(3, .int .i64 11), (2, .pointer (some ⟨g2, 0, none⟩))] a13) => ?_)
  clear HA12 a12
  refine wpList_nil ?_
  refine nx ?_
  refine wp_ret ?_
  refine tr ?_
  refine ret_run HA13 (res_ct Tryd.results11 (HA13.get 1 rfl) (HS12.row 0 rfl) Tryd.underlying31 rfl (by rw [show (catA [[.int .i64 0], (catA [[.int .i64 0], [.string (⟨#[]⟩)], [.int .i64 0], [.int .u32 0], [.int .u32 0], bytesV (zer 32)]).toList, [.string (⟨#[]⟩)], [.int .i64 0], bytesV (zer 32)]).size = 72 from (cat_size (lens_cons rfl (lens_cons ((Array.length_toList).trans (cat_size (lens_cons rfl (lens_cons rfl (lens_cons rfl (lens_cons rfl (lens_cons rfl (lens_cons (len_bv (length_zer 32)) (lens_nil))))))))) (lens_cons rfl (lens_cons rfl (lens_cons (len_bv (length_zer 32)) (lens_nil)))))))]; kernel_rfl) (HA13.get 0 rfl)) ?_
  exact ⟨by rw [hd.1, hd.2]; first | rw [ask_zcat] | rw [ask_zcat2], HS12.below⟩
theorem rdec_any (A : Option Addr) (n cc : Nat) (q : List (BitVec 8)) (w : World) (hl : q.length = n) (hs : Slice w (.slice A n cc) q) :
    Calls Tryd.prog 11 #[.slice A n cc] w fun x w' => x = .returned (.tuple #[.agg (askC (decA q)), .int .i64 (decF q)]) ∧ Below w.heap.size w w' := by
  by_cases h54 : n = 54
  · subst h54
    obtain ⟨g, o, rfl, hB, hc⟩ := slice_bat hs (by omega)
    exact rdec54 g o cc q w hB hl (by omega)
  by_cases h86 : n = 86
  · subst h86
    obtain ⟨g, o, rfl, hB, hc⟩ := slice_bat hs (by omega)
    exact rdec86 g o cc q w hB hl (by omega)
  exact rdec_short A n cc q w hl h54 h86
theorem ok_decA (q : List (BitVec 8)) : (decA q).Ok := by
  unfold decA
  split
  · rename_i h
    have h1 : q.length = 54 ∨ q.length = 86 := by
      unfold askOk at h
      simp only [Bool.and_eq_true, Bool.or_eq_true, decide_eq_true_eq] at h
      exact h.1
    rcases h1 with h1 | h1
    · exact ok_askQ (N := 54) h1
    · exact ok_askQ (N := 86) h1
  · exact ok_zero 0 0
set_option maxHeartbeats 1600000 in
theorem askcodes_walk (X : Asq) (A : Option Addr) (cq : Nat) (q : List (BitVec 8)) (w : World) (HOK : X.Ok) (hQ0 : Slice w (.slice A q.length cq) q) (hA : A = none → cq = 0) (_ : q.length ≤ maxLen) :
    Calls Tryd.prog 3 #[.agg (askC X), .slice A q.length cq] w fun x w' => x = .returned (.bool true) ∧ Below w.heap.size w w' := by
  have HS := St.nil w noF
  obtain ⟨nq, hnq⟩ : ∃ nq, q.length = nq := ⟨_, rfl⟩
  rw [hnq] at hQ0 ⊢
  have hQ := hQ0
  have HOKD := ok_decA q
  obtain ⟨nE, HNE⟩ : ∃ nE, (encA X).length = nE := ⟨_, rfl⟩
  have HNP : 0 < nE := by rw [← HNE]; unfold encA; simp [two]
  refine enter_env Tryd.func3 rfl Tryd.ntmps3 (Nat.le_of_ble_eq_true rfl) (fun a0 (HA0 : Env 65 [(0, .agg (askC X)), (1, .slice A nq cq)] a0) => ?_)
  refine wp_seq ?_
  refine wp_region_lit ?_
  refine wl_does HA0 [1] (R := fun v w9 => ∃ g2, v = .pointer (some ⟨g2, 0, none⟩) ∧ St w noF [⟨g2, 31, askC X⟩] w9) (want_n rfl) (dd_box HS rfl (HA0.ev 0 rfl) (cs := (askC X)) rfl (fun g9 w9 h9 => ⟨g9, rfl, h9⟩)) rfl ?_
  rintro _ W1 ⟨g2, rfl, HS1⟩ a1 (HA1 : Env 65 [(2, .pointer (some ⟨g2, 0, none⟩)), (1, .slice A nq cq)] a1)
  clear HA0 a0 HS
  refine wl_is HA1 [0, 1] (v := .bool false) (want_n rfl) (dd_rn (dd_as rfl rfl) ⟨rfl, rfl⟩) rfl (fun a2 (HA2 : Env 65 [(4, .bool false), (2, .pointer (some ⟨g2, 0, none⟩)), (1, .slice A nq cq)] a2) => ?_)
  clear HA1 a1
  refine wpList_nil ?_
  refine nx ?_
  refine wp_seq ?_
  refine wp_seq ?_
  refine wp_region_lit ?_
  refine wl_is HA2 [1, 2] (v := .agg (askC X)) (want_n rfl) (dd_rn (dd_load HS1 0 0 rfl rfl (HA2.ev 1 rfl) (slab_whole _) Tryd.underlying31 rfl (by rw [show (askC X).size = 72 from (size_askC HOK)]; kernel_rfl)) ⟨rfl, rfl⟩) rfl (fun a3 (HA3 : Env 65 [(13, .agg (askC X)), (2, .pointer (some ⟨g2, 0, none⟩)), (1, .slice A nq cq)] a3) => ?_)
  clear HA2 a2
  cases hb5 : (decide (X.c.n.length ≤ 100) && decide (X.v.length ≤ 100))
  case false =>
    refine wl_does HA3 [1, 2] (R := fun v w9 => v = .bool false ∧ Below W1.heap.size W1 w9) (want_n rfl) (dd_call Tryd.func6 (by kernel_rfl) (by kernel_rfl) rfl (args1 (HA3.ev 0 rfl)) (asmall_any X W1 HOK) (fun _ w9 h9 => ⟨_, h9.1, by rw [hb5], h9.2⟩)) rfl ?_
    rintro _ W6 ⟨rfl, hb6⟩ a6 (HA6 : Env 65 [(14, .bool false), (2, .pointer (some ⟨g2, 0, none⟩)), (1, .slice A nq cq)] a6)
    have HS6 := HS1.same hb6
    clear HA3 a3
    clear HS1 hb6
    refine wl_is HA6 [1, 2] (v := .bool true) (want_n rfl) (dd_rn (dd_nt rfl (HA6.ev 0 rfl) rfl) ⟨rfl, rfl⟩) rfl (fun a7 (HA7 : Env 65 [(15, .bool true), (2, .pointer (some ⟨g2, 0, none⟩)), (1, .slice A nq cq)] a7) => ?_)
    clear HA6 a6
    refine wl_is HA7 [1, 2] (v := .bool true) (want_n rfl) (dd_rn (dd_mv rfl (HA7.ev 0 rfl)) ⟨rfl, rfl⟩) rfl (fun a8 (HA8 : Env 65 [(16, .bool true), (2, .pointer (some ⟨g2, 0, none⟩)), (1, .slice A nq cq)] a8) => ?_)
    clear HA7 a7
    refine wl_skip HA8 [0, 1, 2] (want_g rfl (t := 16) rfl (HA8.get 0 rfl) rfl) rfl (fun a9 (HA9 : Env 65 [(17, undef), (16, .bool true), (2, .pointer (some ⟨g2, 0, none⟩)), (1, .slice A nq cq)] a9) => ?_)
    clear HA8 a8
    refine wl_skip HA9 [1, 2, 3] (want_g rfl (t := 16) rfl (HA9.get 1 rfl) rfl) rfl (fun a10 (HA10 : Env 65 [(18, undef), (16, .bool true), (2, .pointer (some ⟨g2, 0, none⟩)), (1, .slice A nq cq)] a10) => ?_)
    clear HA9 a9
    refine wl_skip HA10 [1, 2, 3] (want_g rfl (t := 16) rfl (HA10.get 1 rfl) rfl) rfl (fun a11 (HA11 : Env 65 [(19, undef), (16, .bool true), (2, .pointer (some ⟨g2, 0, none⟩)), (1, .slice A nq cq)] a11) => ?_)
    clear HA10 a10
    refine wl_is HA11 [2, 3] (v := .bool true) (want_n rfl) (dd_rn (dd_pickT rfl (HA11.ev 1 rfl) rfl) ⟨rfl, rfl⟩) rfl (fun a12 (HA12 : Env 65 [(20, .bool true), (2, .pointer (some ⟨g2, 0, none⟩)), (1, .slice A nq cq)] a12) => ?_)
    clear HA11 a11
    refine wpList_nil ?_
    refine nx ?_
    refine wp_cond_true (HA12.ev 0 rfl) ?_
    refine wp_seq ?_
    refine wp_region_lit ?_
    refine wl_does HA12 [] (R := fun v w9 => v = .bool true ∧ Below W6.heap.size W6 w9) (want_n rfl) (dd_call Tryd.func7 (by kernel_rfl) (by kernel_rfl) rfl (args0 ) (askwakes_any W6) (fun _ w9 h9 => ⟨_, h9.1, rfl, h9.2⟩)) rfl ?_
    rintro _ W13 ⟨rfl, hb13⟩ a13 (HA13 : Env 65 [(21, .bool true)] a13)
    have HS13 := HS6.same hb13
    clear HA12 a12
    clear HS6 hb13
    refine wl_is HA13 [] (v := .bool true) (want_n rfl) (dd_rn (dd_as rfl (HA13.ev 0 rfl)) ⟨rfl, rfl⟩) rfl (fun a14 (HA14 : Env 65 [(4, .bool true)] a14) => ?_)
    clear HA13 a13
    refine wpList_nil ?_
    refine nx ?_
    refine wp_ret ?_
    refine tr ?_
    refine ret_run HA14 (res_t Tryd.results3 (HA14.get 0 rfl)) ?_
    exact ⟨rfl, HS13.below⟩
  case true =>
    refine wl_does HA3 [1, 2] (R := fun v w9 => v = .bool true ∧ Below W1.heap.size W1 w9) (want_n rfl) (dd_call Tryd.func6 (by kernel_rfl) (by kernel_rfl) rfl (args1 (HA3.ev 0 rfl)) (asmall_any X W1 HOK) (fun _ w9 h9 => ⟨_, h9.1, by rw [hb5], h9.2⟩)) rfl ?_
    rintro _ W15 ⟨rfl, hb15⟩ a15 (HA15 : Env 65 [(14, .bool true), (2, .pointer (some ⟨g2, 0, none⟩)), (1, .slice A nq cq)] a15)
    have HS15 := HS1.same hb15
    clear HA3 a3
    clear HS1 hb15
    refine wl_is HA15 [1, 2] (v := .bool false) (want_n rfl) (dd_rn (dd_nt rfl (HA15.ev 0 rfl) rfl) ⟨rfl, rfl⟩) rfl (fun a16 (HA16 : Env 65 [(15, .bool false), (2, .pointer (some ⟨g2, 0, none⟩)), (1, .slice A nq cq)] a16) => ?_)
    clear HA15 a15
    refine wl_is HA16 [1, 2] (v := .bool false) (want_n rfl) (dd_rn (dd_mv rfl (HA16.ev 0 rfl)) ⟨rfl, rfl⟩) rfl (fun a17 (HA17 : Env 65 [(16, .bool false), (2, .pointer (some ⟨g2, 0, none⟩)), (1, .slice A nq cq)] a17) => ?_)
    clear HA16 a16
    refine wl_is HA17 [0, 1, 2] (v := .slice A nq cq) (want_g rfl (t := 16) rfl (HA17.get 0 rfl) rfl) (dd_rn (dd_mv rfl (HA17.ev 2 rfl)) ⟨rfl, rfl⟩) rfl (fun a18 (HA18 : Env 65 [(17, .slice A nq cq), (16, .bool false), (2, .pointer (some ⟨g2, 0, none⟩)), (1, .slice A nq cq)] a18) => ?_)
    clear HA17 a17
    refine wl_is HA18 [1, 2, 3] (v := .int .i64 nq) (want_g rfl (t := 16) rfl (HA18.get 1 rfl) rfl) (dd_rn (dd_len rfl (HA18.ev 0 rfl) Tryd.underlying32) ⟨rfl, rfl⟩) rfl (fun a19 (HA19 : Env 65 [(18, .int .i64 nq), (16, .bool false), (2, .pointer (some ⟨g2, 0, none⟩)), (1, .slice A nq cq)] a19) => ?_)
    clear HA18 a18
    by_cases hc21 : (500 : Int) < nq
    · skip
      refine wl_is HA19 [1, 2, 3] (v := .bool true) (want_g rfl (t := 16) rfl (HA19.get 1 rfl) rfl) (dd_rn (dd_cmp rfl (HA19.ev 0 rfl) rfl (gt_t hc21)) ⟨rfl, rfl⟩) rfl (fun a22 (HA22 : Env 65 [(19, .bool true), (16, .bool false), (2, .pointer (some ⟨g2, 0, none⟩)), (1, .slice A nq cq)] a22) => ?_)
      clear HA19 a19
      refine wl_is HA22 [2, 3] (v := .bool true) (want_n rfl) (dd_rn (dd_pickF rfl (HA22.ev 1 rfl) (HA22.ev 0 rfl)) ⟨rfl, rfl⟩) rfl (fun a23 (HA23 : Env 65 [(20, .bool true), (2, .pointer (some ⟨g2, 0, none⟩)), (1, .slice A nq cq)] a23) => ?_)
      clear HA22 a22
      refine wpList_nil ?_
      refine nx ?_
      refine wp_cond_true (HA23.ev 0 rfl) ?_
      refine wp_seq ?_
      refine wp_region_lit ?_
      refine wl_does HA23 [] (R := fun v w9 => v = .bool true ∧ Below W15.heap.size W15 w9) (want_n rfl) (dd_call Tryd.func7 (by kernel_rfl) (by kernel_rfl) rfl (args0 ) (askwakes_any W15) (fun _ w9 h9 => ⟨_, h9.1, rfl, h9.2⟩)) rfl ?_
      rintro _ W24 ⟨rfl, hb24⟩ a24 (HA24 : Env 65 [(21, .bool true)] a24)
      have HS24 := HS15.same hb24
      clear HA23 a23
      clear HS15 hb24
      refine wl_is HA24 [] (v := .bool true) (want_n rfl) (dd_rn (dd_as rfl (HA24.ev 0 rfl)) ⟨rfl, rfl⟩) rfl (fun a25 (HA25 : Env 65 [(4, .bool true)] a25) => ?_)
      clear HA24 a24
      refine wpList_nil ?_
      refine nx ?_
      refine wp_ret ?_
      refine tr ?_
      refine ret_run HA25 (res_t Tryd.results3 (HA25.get 0 rfl)) ?_
      exact ⟨rfl, HS24.below⟩
    · skip
      refine wl_is HA19 [1, 2, 3] (v := .bool false) (want_g rfl (t := 16) rfl (HA19.get 1 rfl) rfl) (dd_rn (dd_cmp rfl (HA19.ev 0 rfl) rfl (gt_f hc21)) ⟨rfl, rfl⟩) rfl (fun a26 (HA26 : Env 65 [(19, .bool false), (16, .bool false), (2, .pointer (some ⟨g2, 0, none⟩)), (1, .slice A nq cq)] a26) => ?_)
      clear HA19 a19
      refine wl_is HA26 [2, 3] (v := .bool false) (want_n rfl) (dd_rn (dd_pickF rfl (HA26.ev 1 rfl) (HA26.ev 0 rfl)) ⟨rfl, rfl⟩) rfl (fun a27 (HA27 : Env 65 [(20, .bool false), (2, .pointer (some ⟨g2, 0, none⟩)), (1, .slice A nq cq)] a27) => ?_)
      clear HA26 a26
      refine wpList_nil ?_
      refine nx ?_
      refine wp_cond_false (HA27.ev 0 rfl) ?_
      refine wp_skip ?_
      refine nx ?_
      refine wp_seq ?_
      refine wp_region_lit ?_
      refine wl_is HA27 [1, 2] (v := .agg (askC X)) (want_n rfl) (dd_rn (dd_load HS15 0 0 rfl rfl (HA27.ev 1 rfl) (slab_whole _) Tryd.underlying31 rfl (by rw [show (askC X).size = 72 from (size_askC HOK)]; kernel_rfl)) ⟨rfl, rfl⟩) rfl (fun a28 (HA28 : Env 65 [(23, .agg (askC X)), (2, .pointer (some ⟨g2, 0, none⟩)), (1, .slice A nq cq)] a28) => ?_)
      clear HA27 a27
      cases hb30 : mayA X
      case false =>
        refine wl_does HA28 [1, 2] (R := fun v w9 => v = .tuple #[.slice none 0 0, .int .i64 11] ∧ Below W15.heap.size W15 w9) (want_n rfl) (dd_call Tryd.func8 (by kernel_rfl) (by kernel_rfl) rfl (args1 (HA28.ev 0 rfl)) (askenc_bad X W15 HOK hb30) (fun _ w9 h9 => ⟨_, h9.1, rfl, h9.2⟩)) rfl ?_
        rintro _ W31 ⟨rfl, hb31⟩ a31 (HA31 : Env 65 [(24, .tuple #[.slice none 0 0, .int .i64 11]), (2, .pointer (some ⟨g2, 0, none⟩)), (1, .slice A nq cq)] a31)
        have HS31 := HS15.same hb31
        clear HA28 a28
        clear HS15 hb31
        refine wl_is HA31 [1, 2] (v := .tuple #[.slice none 0 0, .int .i64 11]) (want_n rfl) (dd_rn (dd_mv rfl (HA31.ev 0 rfl)) ⟨rfl, rfl⟩) rfl (fun a32 (HA32 : Env 65 [(22, .tuple #[.slice none 0 0, .int .i64 11]), (2, .pointer (some ⟨g2, 0, none⟩)), (1, .slice A nq cq)] a32) => ?_)
        clear HA31 a31
        refine wl_is HA32 [0, 1, 2] (v := .slice none 0 0) (want_n rfl) (dd_rn (dd_ext rfl (HA32.ev 0 rfl) rfl) ⟨rfl, rfl⟩) rfl (fun a33 (HA33 : Env 65 [(25, .slice none 0 0), (22, .tuple #[.slice none 0 0, .int .i64 11]), (2, .pointer (some ⟨g2, 0, none⟩)), (1, .slice A nq cq)] a33) => ?_)
        clear HA32 a32
        refine wl_is HA33 [0, 2, 3] (v := .int .i64 11) (want_n rfl) (dd_rn (dd_ext rfl (HA33.ev 1 rfl) rfl) ⟨rfl, rfl⟩) rfl (fun a34 (HA34 : Env 65 [(26, .int .i64 11), (25, .slice none 0 0), (2, .pointer (some ⟨g2, 0, none⟩)), (1, .slice A nq cq)] a34) => ?_)
        clear HA33 a33
        refine wl_is HA34 [0, 2, 3] (v := .slice none 0 0) (want_n rfl) (dd_rn (dd_as rfl (HA34.ev 1 rfl)) ⟨rfl, rfl⟩) rfl (fun a35 (HA35 : Env 65 [(5, .slice none 0 0), (26, .int .i64 11), (2, .pointer (some ⟨g2, 0, none⟩)), (1, .slice A nq cq)] a35) => ?_)
        clear HA34 a34
        refine wl_is HA35 [0, 2, 3] (v := .int .i64 11) (want_n rfl) (dd_rn (dd_as rfl (HA35.ev 1 rfl)) ⟨rfl, rfl⟩) rfl (fun a36 (HA36 : Env 65 [(6, .int .i64 11), (5, .slice none 0 0), (2, .pointer (some ⟨g2, 0, none⟩)), (1, .slice A nq cq)] a36) => ?_)
        clear HA35 a35
        refine wpList_nil ?_
        refine nx ?_
        refine wp_seq ?_
        refine wp_region_lit ?_
        refine wl_is HA36 [0, 1, 3] (v := .agg (askC X)) (want_n rfl) (dd_rn (dd_load HS31 0 0 rfl rfl (HA36.ev 2 rfl) (slab_whole _) Tryd.underlying31 rfl (by rw [show (askC X).size = 72 from (size_askC HOK)]; kernel_rfl)) ⟨rfl, rfl⟩) rfl (fun a37 (HA37 : Env 65 [(28, .agg (askC X)), (6, .int .i64 11), (5, .slice none 0 0), (1, .slice A nq cq)] a37) => ?_)
        clear HA36 a36
        refine wl_does HA37 [1, 2, 3] (R := fun v w9 => v = .tuple #[.slice none 0 0, .int .i64 11] ∧ Below W31.heap.size W31 w9) (want_n rfl) (dd_call Tryd.func9 (by kernel_rfl) (by kernel_rfl) rfl (args1 (HA37.ev 0 rfl)) (rask_bad X _ W31 HOK hb30 rfl) (fun _ w9 h9 => ⟨_, h9.1, rfl, h9.2⟩)) rfl ?_
        rintro _ W38 ⟨rfl, hb38⟩ a38 (HA38 : Env 65 [(29, .tuple #[.slice none 0 0, .int .i64 11]), (6, .int .i64 11), (5, .slice none 0 0), (1, .slice A nq cq)] a38)
        have HS38 := HS31.same hb38
        clear HA37 a37
        clear HS31 hb38
        refine wl_is HA38 [1, 2, 3] (v := .tuple #[.slice none 0 0, .int .i64 11]) (want_n rfl) (dd_rn (dd_mv rfl (HA38.ev 0 rfl)) ⟨rfl, rfl⟩) rfl (fun a39 (HA39 : Env 65 [(27, .tuple #[.slice none 0 0, .int .i64 11]), (6, .int .i64 11), (5, .slice none 0 0), (1, .slice A nq cq)] a39) => ?_)
        clear HA38 a38
        refine wl_is HA39 [0, 1, 2, 3] (v := .slice none 0 0) (want_n rfl) (dd_rn (dd_ext rfl (HA39.ev 0 rfl) rfl) ⟨rfl, rfl⟩) rfl (fun a40 (HA40 : Env 65 [(30, .slice none 0 0), (27, .tuple #[.slice none 0 0, .int .i64 11]), (6, .int .i64 11), (5, .slice none 0 0), (1, .slice A nq cq)] a40) => ?_)
        clear HA39 a39
        refine wl_is HA40 [0, 2, 3, 4] (v := .int .i64 11) (want_n rfl) (dd_rn (dd_ext rfl (HA40.ev 1 rfl) rfl) ⟨rfl, rfl⟩) rfl (fun a41 (HA41 : Env 65 [(31, .int .i64 11), (30, .slice none 0 0), (6, .int .i64 11), (5, .slice none 0 0), (1, .slice A nq cq)] a41) => ?_)
        clear HA40 a40
        refine wl_is HA41 [0, 2, 3, 4] (v := .slice none 0 0) (want_n rfl) (dd_rn (dd_as rfl (HA41.ev 1 rfl)) ⟨rfl, rfl⟩) rfl (fun a42 (HA42 : Env 65 [(7, .slice none 0 0), (31, .int .i64 11), (6, .int .i64 11), (5, .slice none 0 0), (1, .slice A nq cq)] a42) => ?_)
        clear HA41 a41
        refine wl_is HA42 [0, 2, 3, 4] (v := .int .i64 11) (want_n rfl) (dd_rn (dd_as rfl (HA42.ev 1 rfl)) ⟨rfl, rfl⟩) rfl (fun a43 (HA43 : Env 65 [(8, .int .i64 11), (7, .slice none 0 0), (6, .int .i64 11), (5, .slice none 0 0), (1, .slice A nq cq)] a43) => ?_)
        clear HA42 a42
        refine wpList_nil ?_
        refine nx ?_
        refine wp_seq ?_
        refine wp_region_lit ?_
        refine wl_does HA43 [0, 1, 2, 3, 4] (R := fun v w9 => ∃ g33, v = .slice (some ⟨g33, 0, none⟩) 0 0 ∧ St w noF [⟨g2, 31, askC X⟩, ⟨g33, 5, #[]⟩] w9) (want_n rfl) (dd_lit0 HS38 rfl rfl Tryd.underlying32 (sz := 1) (by kernel_rfl) (fun g9 w9 h9 => ⟨g9, rfl, h9⟩)) rfl ?_
        rintro _ W44 ⟨g33, rfl, HS44⟩ a44 (HA44 : Env 65 [(33, .slice (some ⟨g33, 0, none⟩) 0 0), (8, .int .i64 11), (7, .slice none 0 0), (6, .int .i64 11), (5, .slice none 0 0), (1, .slice A nq cq)] a44)
        clear HA43 a43 HS38
        refine wl_is HA44 [0, 1, 2, 3, 4, 5] (v := .slice A nq cq) (want_n rfl) (dd_rn (dd_mv rfl (HA44.ev 5 rfl)) ⟨rfl, rfl⟩) rfl (fun a45 (HA45 : Env 65 [(34, .slice A nq cq), (33, .slice (some ⟨g33, 0, none⟩) 0 0), (8, .int .i64 11), (7, .slice none 0 0), (6, .int .i64 11), (5, .slice none 0 0), (1, .slice A nq cq)] a45) => ?_)
        clear HA44 a44
        refine wl_does HA45 [2, 3, 4, 5, 6] (R := fun v w9 => ∃ g35_47 c35_47 cb35_47, v = .slice (some ⟨g35_47, 0, none⟩) nq c35_47 ∧ OwnC cb35_47 c35_47 nq 1 (bytesV (q)) ∧ St w noF [⟨g2, 31, askC X⟩, ⟨g35_47, 5, cb35_47⟩] w9) (want_n rfl) (dd_appB HS44 1 rfl ownc_nil rfl (HA45.ev 1 rfl) (HA45.ev 0 rfl) (hQ.below HS44.below (Nat.le_refl _)) hA (Nat.zero_add _) (List.nil_append _) (by unfold maxLen; omega) (by omega) (fun g9 c9 cb9 w9 o9 h9 => ⟨g9, c9, cb9, rfl, o9, h9⟩)) rfl ?_
        rintro _ W46 ⟨g35_47, c35_47, cb35_47, rfl, O35_47, HS46⟩ a46 (HA46 : Env 65 [(35, .slice (some ⟨g35_47, 0, none⟩) nq c35_47), (8, .int .i64 11), (7, .slice none 0 0), (6, .int .i64 11), (5, .slice none 0 0), (1, .slice A nq cq)] a46)
        clear HA45 a45 HS44
        refine wl_does HA46 [1, 2, 3, 4, 5] (R := fun v w9 => v = .tuple #[.agg (askC (decA q)), .int .i64 (decF q)] ∧ Below W46.heap.size W46 w9) (want_n rfl) (dd_call Tryd.func10 (by kernel_rfl) (by kernel_rfl) rfl (args1 (HA46.ev 0 rfl)) (askdec_any _ _ _ q W46 hnq (slice_own (HS46.row 1 rfl) O35_47 hnq)) (fun _ w9 h9 => ⟨_, h9.1, rfl, h9.2⟩)) rfl ?_
        rintro _ W48 ⟨rfl, hb48⟩ a48 (HA48 : Env 65 [(36, .tuple #[.agg (askC (decA q)), .int .i64 (decF q)]), (8, .int .i64 11), (7, .slice none 0 0), (6, .int .i64 11), (5, .slice none 0 0), (1, .slice A nq cq)] a48)
        have HS48 := HS46.same hb48
        clear HA46 a46
        clear HS46 hb48
        refine wl_is HA48 [1, 2, 3, 4, 5] (v := .tuple #[.agg (askC (decA q)), .int .i64 (decF q)]) (want_n rfl) (dd_rn (dd_mv rfl (HA48.ev 0 rfl)) ⟨rfl, rfl⟩) rfl (fun a49 (HA49 : Env 65 [(32, .tuple #[.agg (askC (decA q)), .int .i64 (decF q)]), (8, .int .i64 11), (7, .slice none 0 0), (6, .int .i64 11), (5, .slice none 0 0), (1, .slice A nq cq)] a49) => ?_)
        clear HA48 a48
        refine wl_is HA49 [0, 1, 2, 3, 4, 5] (v := .agg (askC (decA q))) (want_n rfl) (dd_rn (dd_ext rfl (HA49.ev 0 rfl) rfl) ⟨rfl, rfl⟩) rfl (fun a50 (HA50 : Env 65 [(37, .agg (askC (decA q))), (32, .tuple #[.agg (askC (decA q)), .int .i64 (decF q)]), (8, .int .i64 11), (7, .slice none 0 0), (6, .int .i64 11), (5, .slice none 0 0), (1, .slice A nq cq)] a50) => ?_)
        clear HA49 a49
        refine wl_is HA50 [0, 2, 3, 4, 5, 6] (v := .int .i64 (decF q)) (want_n rfl) (dd_rn (dd_ext rfl (HA50.ev 1 rfl) rfl) ⟨rfl, rfl⟩) rfl (fun a51 (HA51 : Env 65 [(38, .int .i64 (decF q)), (37, .agg (askC (decA q))), (8, .int .i64 11), (7, .slice none 0 0), (6, .int .i64 11), (5, .slice none 0 0), (1, .slice A nq cq)] a51) => ?_)
        clear HA50 a50
        refine wl_does HA51 [0, 1, 2, 3, 4, 5, 6] (R := fun v w9 => ∃ g9, v = .pointer (some ⟨g9, 0, none⟩) ∧ St w noF [⟨g2, 31, askC X⟩, ⟨g35_47, 5, cb35_47⟩, ⟨g9, 31, catA [[.int .i64 0], [.int .i64 0], [.string (⟨#[]⟩)], [.int .i64 0], [.int .u32 0], [.int .u32 0], bytesV (zer 32), [.string (⟨#[]⟩)], [.int .i64 0], bytesV (zer 32)]⟩] w9) (want_n rfl) (dd_new HS48 (catA [[.int .i64 0], [.int .i64 0], [.string (⟨#[]⟩)], [.int .i64 0], [.int .u32 0], [.int .u32 0], bytesV (zer 32), [.string (⟨#[]⟩)], [.int .i64 0], bytesV (zer 32)]) rfl (z := .agg (catA [[.int .i64 0], [.int .i64 0], [.string (⟨#[]⟩)], [.int .i64 0], [.int .u32 0], [.int .u32 0], bytesV (zer 32), [.string (⟨#[]⟩)], [.int .i64 0], bytesV (zer 32)])) (by kernel_rfl) rfl (fun g9 w9 h9 => ⟨g9, rfl, h9⟩)) rfl ?_
        rintro _ W52 ⟨g9, rfl, HS52⟩ a52 (HA52 : Env 65 [(9, .pointer (some ⟨g9, 0, none⟩)), (38, .int .i64 (decF q)), (37, .agg (askC (decA q))), (8, .int .i64 11), (7, .slice none 0 0), (6, .int .i64 11), (5, .slice none 0 0), (1, .slice A nq cq)] a52)
        clear HA51 a51 HS48
        refine wl_does HA52 [0, 1, 3, 4, 5, 6, 7] (R := fun v9 w9 => St w noF [⟨g2, 31, askC X⟩, ⟨g35_47, 5, cb35_47⟩, ⟨g9, 31, askC (decA q)⟩] w9) (want_n rfl) (dd_setrow HS52 2 rfl rfl (HA52.ev 0 rfl) (HA52.ev 2 rfl) (by kernel_rfl) ((size_askC HOKD) : (askC (decA q)).size = 72) ((cat_size (lens_cons rfl (lens_cons rfl (lens_cons rfl (lens_cons rfl (lens_cons rfl (lens_cons rfl (lens_cons (len_bv (length_zer 32)) (lens_cons rfl (lens_cons rfl (lens_cons (len_bv (length_zer 32)) (lens_nil)))))))))))) : (catA [[.int .i64 0], [.int .i64 0], [.string (⟨#[]⟩)], [.int .i64 0], [.int .u32 0], [.int .u32 0], bytesV (zer 32), [.string (⟨#[]⟩)], [.int .i64 0], bytesV (zer 32)]).size = 72) (one_ask _) (fun w9 h9 => h9)) rfl ?_
        rintro _ W53 HS53 a53 (HA53 : Env 65 [(9, .pointer (some ⟨g9, 0, none⟩)), (38, .int .i64 (decF q)), (8, .int .i64 11), (7, .slice none 0 0), (6, .int .i64 11), (5, .slice none 0 0), (1, .slice A nq cq)] a53)
        clear HA52 a52 HS52
        refine wl_is HA53 [0, 2, 3, 4, 5, 6] (v := .int .i64 (decF q)) (want_n rfl) (dd_rn (dd_as rfl (HA53.ev 1 rfl)) ⟨rfl, rfl⟩) rfl (fun a54 (HA54 : Env 65 [(10, .int .i64 (decF q)), (9, .pointer (some ⟨g9, 0, none⟩)), (8, .int .i64 11), (7, .slice none 0 0), (6, .int .i64 11), (5, .slice none 0 0), (1, .slice A nq cq)] a54) => ?_)
        clear HA53 a53
        refine wpList_nil ?_
        refine nx ?_
        refine wp_seq ?_
        refine wp_region_lit ?_
        refine wl_is HA54 [0, 1, 2, 3, 4, 5] (v := .slice A nq cq) (want_n rfl) (dd_rn (dd_mv rfl (HA54.ev 6 rfl)) ⟨rfl, rfl⟩) rfl (fun a55 (HA55 : Env 65 [(40, .slice A nq cq), (10, .int .i64 (decF q)), (9, .pointer (some ⟨g9, 0, none⟩)), (8, .int .i64 11), (7, .slice none 0 0), (6, .int .i64 11), (5, .slice none 0 0)] a55) => ?_)
        clear HA54 a54
        refine wl_does HA55 [1, 2, 3, 4, 5, 6] (R := fun v w9 => v = .tuple #[.agg (askC (decA q)), .int .i64 (decF q)] ∧ Below W53.heap.size W53 w9) (want_n rfl) (dd_call Tryd.func11 (by kernel_rfl) (by kernel_rfl) rfl (args1 (HA55.ev 0 rfl)) (rdec_any _ _ _ q W53 hnq (hQ.below HS53.below (Nat.le_refl _))) (fun _ w9 h9 => ⟨_, h9.1, rfl, h9.2⟩)) rfl ?_
        rintro _ W56 ⟨rfl, hb56⟩ a56 (HA56 : Env 65 [(41, .tuple #[.agg (askC (decA q)), .int .i64 (decF q)]), (10, .int .i64 (decF q)), (9, .pointer (some ⟨g9, 0, none⟩)), (8, .int .i64 11), (7, .slice none 0 0), (6, .int .i64 11), (5, .slice none 0 0)] a56)
        have HS56 := HS53.same hb56
        clear HA55 a55
        clear HS53 hb56
        refine wl_is HA56 [1, 2, 3, 4, 5, 6] (v := .tuple #[.agg (askC (decA q)), .int .i64 (decF q)]) (want_n rfl) (dd_rn (dd_mv rfl (HA56.ev 0 rfl)) ⟨rfl, rfl⟩) rfl (fun a57 (HA57 : Env 65 [(39, .tuple #[.agg (askC (decA q)), .int .i64 (decF q)]), (10, .int .i64 (decF q)), (9, .pointer (some ⟨g9, 0, none⟩)), (8, .int .i64 11), (7, .slice none 0 0), (6, .int .i64 11), (5, .slice none 0 0)] a57) => ?_)
        clear HA56 a56
        refine wl_is HA57 [0, 1, 2, 3, 4, 5, 6] (v := .agg (askC (decA q))) (want_n rfl) (dd_rn (dd_ext rfl (HA57.ev 0 rfl) rfl) ⟨rfl, rfl⟩) rfl (fun a58 (HA58 : Env 65 [(42, .agg (askC (decA q))), (39, .tuple #[.agg (askC (decA q)), .int .i64 (decF q)]), (10, .int .i64 (decF q)), (9, .pointer (some ⟨g9, 0, none⟩)), (8, .int .i64 11), (7, .slice none 0 0), (6, .int .i64 11), (5, .slice none 0 0)] a58) => ?_)
        clear HA57 a57
        refine wl_is HA58 [0, 2, 3, 4, 5, 6, 7] (v := .int .i64 (decF q)) (want_n rfl) (dd_rn (dd_ext rfl (HA58.ev 1 rfl) rfl) ⟨rfl, rfl⟩) rfl (fun a59 (HA59 : Env 65 [(43, .int .i64 (decF q)), (42, .agg (askC (decA q))), (10, .int .i64 (decF q)), (9, .pointer (some ⟨g9, 0, none⟩)), (8, .int .i64 11), (7, .slice none 0 0), (6, .int .i64 11), (5, .slice none 0 0)] a59) => ?_)
        clear HA58 a58
        refine wl_does HA59 [0, 1, 2, 3, 4, 5, 6, 7] (R := fun v w9 => ∃ g11, v = .pointer (some ⟨g11, 0, none⟩) ∧ St w noF [⟨g2, 31, askC X⟩, ⟨g35_47, 5, cb35_47⟩, ⟨g9, 31, askC (decA q)⟩, ⟨g11, 31, catA [[.int .i64 0], [.int .i64 0], [.string (⟨#[]⟩)], [.int .i64 0], [.int .u32 0], [.int .u32 0], bytesV (zer 32), [.string (⟨#[]⟩)], [.int .i64 0], bytesV (zer 32)]⟩] w9) (want_n rfl) (dd_new HS56 (catA [[.int .i64 0], [.int .i64 0], [.string (⟨#[]⟩)], [.int .i64 0], [.int .u32 0], [.int .u32 0], bytesV (zer 32), [.string (⟨#[]⟩)], [.int .i64 0], bytesV (zer 32)]) rfl (z := .agg (catA [[.int .i64 0], [.int .i64 0], [.string (⟨#[]⟩)], [.int .i64 0], [.int .u32 0], [.int .u32 0], bytesV (zer 32), [.string (⟨#[]⟩)], [.int .i64 0], bytesV (zer 32)])) (by kernel_rfl) rfl (fun g9 w9 h9 => ⟨g9, rfl, h9⟩)) rfl ?_
        rintro _ W60 ⟨g11, rfl, HS60⟩ a60 (HA60 : Env 65 [(11, .pointer (some ⟨g11, 0, none⟩)), (43, .int .i64 (decF q)), (42, .agg (askC (decA q))), (10, .int .i64 (decF q)), (9, .pointer (some ⟨g9, 0, none⟩)), (8, .int .i64 11), (7, .slice none 0 0), (6, .int .i64 11), (5, .slice none 0 0)] a60)
        clear HA59 a59 HS56
        refine wl_does HA60 [0, 1, 3, 4, 5, 6, 7, 8] (R := fun v9 w9 => St w noF [⟨g2, 31, askC X⟩, ⟨g35_47, 5, cb35_47⟩, ⟨g9, 31, askC (decA q)⟩, ⟨g11, 31, askC (decA q)⟩] w9) (want_n rfl) (dd_setrow HS60 3 rfl rfl (HA60.ev 0 rfl) (HA60.ev 2 rfl) (by kernel_rfl) ((size_askC HOKD) : (askC (decA q)).size = 72) ((cat_size (lens_cons rfl (lens_cons rfl (lens_cons rfl (lens_cons rfl (lens_cons rfl (lens_cons rfl (lens_cons (len_bv (length_zer 32)) (lens_cons rfl (lens_cons rfl (lens_cons (len_bv (length_zer 32)) (lens_nil)))))))))))) : (catA [[.int .i64 0], [.int .i64 0], [.string (⟨#[]⟩)], [.int .i64 0], [.int .u32 0], [.int .u32 0], bytesV (zer 32), [.string (⟨#[]⟩)], [.int .i64 0], bytesV (zer 32)]).size = 72) (one_ask _) (fun w9 h9 => h9)) rfl ?_
        rintro _ W61 HS61 a61 (HA61 : Env 65 [(11, .pointer (some ⟨g11, 0, none⟩)), (43, .int .i64 (decF q)), (10, .int .i64 (decF q)), (9, .pointer (some ⟨g9, 0, none⟩)), (8, .int .i64 11), (7, .slice none 0 0), (6, .int .i64 11), (5, .slice none 0 0)] a61)
        clear HA60 a60 HS60
        refine wl_is HA61 [0, 2, 3, 4, 5, 6, 7] (v := .int .i64 (decF q)) (want_n rfl) (dd_rn (dd_as rfl (HA61.ev 1 rfl)) ⟨rfl, rfl⟩) rfl (fun a62 (HA62 : Env 65 [(12, .int .i64 (decF q)), (11, .pointer (some ⟨g11, 0, none⟩)), (10, .int .i64 (decF q)), (9, .pointer (some ⟨g9, 0, none⟩)), (8, .int .i64 11), (7, .slice none 0 0), (6, .int .i64 11), (5, .slice none 0 0)] a62) => ?_)
        clear HA61 a61
        refine wpList_nil ?_
        refine nx ?_
        refine wp_seq ?_
        refine wp_region_lit ?_
        refine wl_is HA62 [0, 1, 2, 3, 4, 5, 6] (v := .slice none 0 0) (want_n rfl) (dd_rn (dd_mv rfl (HA62.ev 7 rfl)) ⟨rfl, rfl⟩) rfl (fun a63 (HA63 : Env 65 [(44, .slice none 0 0), (12, .int .i64 (decF q)), (11, .pointer (some ⟨g11, 0, none⟩)), (10, .int .i64 (decF q)), (9, .pointer (some ⟨g9, 0, none⟩)), (8, .int .i64 11), (7, .slice none 0 0), (6, .int .i64 11)] a63) => ?_)
        clear HA62 a62
        refine wl_is HA63 [0, 1, 2, 3, 4, 5, 7] (v := .slice none 0 0) (want_n rfl) (dd_rn (dd_mv rfl (HA63.ev 6 rfl)) ⟨rfl, rfl⟩) rfl (fun a64 (HA64 : Env 65 [(45, .slice none 0 0), (44, .slice none 0 0), (12, .int .i64 (decF q)), (11, .pointer (some ⟨g11, 0, none⟩)), (10, .int .i64 (decF q)), (9, .pointer (some ⟨g9, 0, none⟩)), (8, .int .i64 11), (6, .int .i64 11)] a64) => ?_)
        clear HA63 a63
        refine wl_is HA64 [2, 3, 4, 5, 6, 7] (v := .bool true) (want_n rfl) (dd_call Tryd.func12 (by kernel_rfl) (by kernel_rfl) rfl (args2 (HA64.ev 1 rfl) (HA64.ev 0 rfl)) (keepb_any _ _ _ _ W61 (slice_nil0 _) (slice_nil0 _)) (fun _ w9 h9 => ⟨_, h9.1, by rw [decide_eq_true rfl], h9.2.symm⟩)) rfl (fun a65 (HA65 : Env 65 [(46, .bool true), (12, .int .i64 (decF q)), (11, .pointer (some ⟨g11, 0, none⟩)), (10, .int .i64 (decF q)), (9, .pointer (some ⟨g9, 0, none⟩)), (8, .int .i64 11), (6, .int .i64 11)] a65) => ?_)
        clear HA64 a64
        refine wl_is HA65 [1, 2, 3, 4, 5, 6] (v := .bool true) (want_n rfl) (dd_rn (dd_mv rfl (HA65.ev 0 rfl)) ⟨rfl, rfl⟩) rfl (fun a66 (HA66 : Env 65 [(47, .bool true), (12, .int .i64 (decF q)), (11, .pointer (some ⟨g11, 0, none⟩)), (10, .int .i64 (decF q)), (9, .pointer (some ⟨g9, 0, none⟩)), (8, .int .i64 11), (6, .int .i64 11)] a66) => ?_)
        clear HA65 a65
        refine wl_is HA66 [0, 1, 2, 3, 4, 5] (v := .int .i64 11) (want_g rfl (t := 47) rfl (HA66.get 0 rfl) rfl) (dd_rn (dd_mv rfl (HA66.ev 6 rfl)) ⟨rfl, rfl⟩) rfl (fun a67 (HA67 : Env 65 [(48, .int .i64 11), (47, .bool true), (12, .int .i64 (decF q)), (11, .pointer (some ⟨g11, 0, none⟩)), (10, .int .i64 (decF q)), (9, .pointer (some ⟨g9, 0, none⟩)), (8, .int .i64 11)] a67) => ?_)
        clear HA66 a66
        refine wl_is HA67 [0, 1, 2, 3, 4, 5] (v := .int .i64 11) (want_g rfl (t := 47) rfl (HA67.get 1 rfl) rfl) (dd_rn (dd_mv rfl (HA67.ev 6 rfl)) ⟨rfl, rfl⟩) rfl (fun a68 (HA68 : Env 65 [(49, .int .i64 11), (48, .int .i64 11), (47, .bool true), (12, .int .i64 (decF q)), (11, .pointer (some ⟨g11, 0, none⟩)), (10, .int .i64 (decF q)), (9, .pointer (some ⟨g9, 0, none⟩))] a68) => ?_)
        clear HA67 a67
        refine wl_is HA68 [2, 3, 4, 5, 6] (v := .bool true) (want_g rfl (t := 47) rfl (HA68.get 2 rfl) rfl) (dd_rn (dd_cmp rfl (HA68.ev 1 rfl) (HA68.ev 0 rfl) (eq_t (by decide))) ⟨rfl, rfl⟩) rfl (fun a69 (HA69 : Env 65 [(50, .bool true), (47, .bool true), (12, .int .i64 (decF q)), (11, .pointer (some ⟨g11, 0, none⟩)), (10, .int .i64 (decF q)), (9, .pointer (some ⟨g9, 0, none⟩))] a69) => ?_)
        clear HA68 a68
        refine wl_is HA69 [2, 3, 4, 5] (v := .bool true) (want_n rfl) (dd_rn (dd_pickT rfl (HA69.ev 1 rfl) (HA69.ev 0 rfl)) ⟨rfl, rfl⟩) rfl (fun a70 (HA70 : Env 65 [(51, .bool true), (12, .int .i64 (decF q)), (11, .pointer (some ⟨g11, 0, none⟩)), (10, .int .i64 (decF q)), (9, .pointer (some ⟨g9, 0, none⟩))] a70) => ?_)
        clear HA69 a69
        refine wl_is HA70 [1, 2, 3, 4] (v := .bool true) (want_n rfl) (dd_rn (dd_mv rfl (HA70.ev 0 rfl)) ⟨rfl, rfl⟩) rfl (fun a71 (HA71 : Env 65 [(52, .bool true), (12, .int .i64 (decF q)), (11, .pointer (some ⟨g11, 0, none⟩)), (10, .int .i64 (decF q)), (9, .pointer (some ⟨g9, 0, none⟩))] a71) => ?_)
        clear HA70 a70
        refine wl_is HA71 [0, 1, 2, 3] (v := .agg (askC (decA q))) (want_g rfl (t := 52) rfl (HA71.get 0 rfl) rfl) (dd_rn (dd_load HS61 2 0 rfl rfl (HA71.ev 4 rfl) (slab_whole _) Tryd.underlying31 rfl (by rw [show (askC (decA q)).size = 72 from (size_askC HOKD)]; kernel_rfl)) ⟨rfl, rfl⟩) rfl (fun a72 (HA72 : Env 65 [(53, .agg (askC (decA q))), (52, .bool true), (12, .int .i64 (decF q)), (11, .pointer (some ⟨g11, 0, none⟩)), (10, .int .i64 (decF q))] a72) => ?_)
        clear HA71 a71
        refine wl_is HA72 [0, 1, 2, 4] (v := .agg (askC (decA q))) (want_g rfl (t := 52) rfl (HA72.get 1 rfl) rfl) (dd_rn (dd_load HS61 3 0 rfl rfl (HA72.ev 3 rfl) (slab_whole _) Tryd.underlying31 rfl (by rw [show (askC (decA q)).size = 72 from (size_askC HOKD)]; kernel_rfl)) ⟨rfl, rfl⟩) rfl (fun a73 (HA73 : Env 65 [(54, .agg (askC (decA q))), (53, .agg (askC (decA q))), (52, .bool true), (12, .int .i64 (decF q)), (10, .int .i64 (decF q))] a73) => ?_)
        clear HA72 a72
        refine wl_is HA73 [2, 3, 4] (v := .bool true) (want_g rfl (t := 52) rfl (HA73.get 2 rfl) rfl) (dd_rn (dd_eqa (b := true) rfl (HA73.ev 1 rfl) (HA73.ev 0 rfl) (by kernel_rfl) (fun w => by have h9 := eql_ask (decA q) (decA q) HOKD HOKD w; rw [decide_eq_true rfl] at h9; exact h9)) ⟨rfl, rfl⟩) rfl (fun a74 (HA74 : Env 65 [(55, .bool true), (52, .bool true), (12, .int .i64 (decF q)), (10, .int .i64 (decF q))] a74) => ?_)
        clear HA73 a73
        refine wl_is HA74 [2, 3] (v := .bool true) (want_n rfl) (dd_rn (dd_pickT rfl (HA74.ev 1 rfl) (HA74.ev 0 rfl)) ⟨rfl, rfl⟩) rfl (fun a75 (HA75 : Env 65 [(56, .bool true), (12, .int .i64 (decF q)), (10, .int .i64 (decF q))] a75) => ?_)
        clear HA74 a74
        refine wl_is HA75 [1, 2] (v := .bool true) (want_n rfl) (dd_rn (dd_mv rfl (HA75.ev 0 rfl)) ⟨rfl, rfl⟩) rfl (fun a76 (HA76 : Env 65 [(57, .bool true), (12, .int .i64 (decF q)), (10, .int .i64 (decF q))] a76) => ?_)
        clear HA75 a75
        refine wl_is HA76 [0, 1] (v := .int .i64 (decF q)) (want_g rfl (t := 57) rfl (HA76.get 0 rfl) rfl) (dd_rn (dd_mv rfl (HA76.ev 2 rfl)) ⟨rfl, rfl⟩) rfl (fun a77 (HA77 : Env 65 [(58, .int .i64 (decF q)), (57, .bool true), (12, .int .i64 (decF q))] a77) => ?_)
        clear HA76 a76
        refine wl_is HA77 [0, 1] (v := .int .i64 (decF q)) (want_g rfl (t := 57) rfl (HA77.get 1 rfl) rfl) (dd_rn (dd_mv rfl (HA77.ev 2 rfl)) ⟨rfl, rfl⟩) rfl (fun a78 (HA78 : Env 65 [(59, .int .i64 (decF q)), (58, .int .i64 (decF q)), (57, .bool true)] a78) => ?_)
        clear HA77 a77
        refine wl_is HA78 [2] (v := .bool true) (want_g rfl (t := 57) rfl (HA78.get 2 rfl) rfl) (dd_rn (dd_cmp rfl (HA78.ev 1 rfl) (HA78.ev 0 rfl) (eq_t rfl)) ⟨rfl, rfl⟩) rfl (fun a79 (HA79 : Env 65 [(60, .bool true), (57, .bool true)] a79) => ?_)
        clear HA78 a78
        refine wl_is HA79 [] (v := .bool true) (want_n rfl) (dd_rn (dd_pickT rfl (HA79.ev 1 rfl) (HA79.ev 0 rfl)) ⟨rfl, rfl⟩) rfl (fun a80 (HA80 : Env 65 [(61, .bool true)] a80) => ?_)
        clear HA79 a79
        refine wl_is HA80 [] (v := .bool true) (want_n rfl) (dd_rn (dd_mv rfl (HA80.ev 0 rfl)) ⟨rfl, rfl⟩) rfl (fun a81 (HA81 : Env 65 [(62, .bool true)] a81) => ?_)
        clear HA80 a80
        refine wl_does HA81 [0] (R := fun v w9 => v = .bool true ∧ Below W61.heap.size W61 w9) (want_g rfl (t := 62) rfl (HA81.get 0 rfl) rfl) (dd_call Tryd.func7 (by kernel_rfl) (by kernel_rfl) rfl (args0 ) (askwakes_any W61) (fun _ w9 h9 => ⟨_, h9.1, rfl, h9.2⟩)) rfl ?_
        rintro _ W82 ⟨rfl, hb82⟩ a82 (HA82 : Env 65 [(63, .bool true), (62, .bool true)] a82)
        have HS82 := HS61.same hb82
        clear HA81 a81
        clear HS61 hb82
        refine wl_is HA82 [] (v := .bool true) (want_n rfl) (dd_rn (dd_pickT rfl (HA82.ev 1 rfl) (HA82.ev 0 rfl)) ⟨rfl, rfl⟩) rfl (fun a83 (HA83 : Env 65 [(64, .bool true)] a83) => ?_)
        clear HA82 a82
        refine wl_is HA83 [] (v := .bool true) (want_n rfl) (dd_rn (dd_as rfl (HA83.ev 0 rfl)) ⟨rfl, rfl⟩) rfl (fun a84 (HA84 : Env 65 [(4, .bool true)] a84) => ?_)
        clear HA83 a83
        refine wpList_nil ?_
        refine nx ?_
        refine wp_ret ?_
        refine ret_run HA84 (res_t Tryd.results3 (HA84.get 0 rfl)) ?_
        exact ⟨rfl, HS82.below⟩
      case true =>
        refine wl_does HA28 [1, 2] (R := fun v w9 => ∃ gt86 ct86 cbt86, v = .tuple #[.slice (some ⟨gt86, 0, none⟩) nE ct86, .int .i64 0] ∧ W15.heap.size ≤ gt86 ∧ Row w9 gt86 5 cbt86 ∧ OwnC cbt86 ct86 nE 1 (bytesV (encA X)) ∧ Below W15.heap.size W15 w9) (want_n rfl) (dd_call Tryd.func8 (by kernel_rfl) (by kernel_rfl) rfl (args1 (HA28.ev 0 rfl)) (askenc_good X W15 HOK hb30) (fun _ w9 ⟨v9, he, ho, hb⟩ => by rw [HNE] at ho; obtain ⟨g9, c9, cb9, rfl, h1, h2, h3⟩ := ownc_pos ho HNP; exact ⟨_, he, g9, c9, cb9, rfl, h1, h2, h3, hb⟩)) rfl ?_
        rintro _ W85 ⟨gt86, ct86, cbt86, rfl, hg86, hr86, Ot86, hb85⟩ a85 (HA85 : Env 65 [(24, .tuple #[.slice (some ⟨gt86, 0, none⟩) nE ct86, .int .i64 0]), (2, .pointer (some ⟨g2, 0, none⟩)), (1, .slice A nq cq)] a85)
        have HS85 := HS15.same hb85
        clear HA28 a28
        have HS85j : St w noF [⟨g2, 31, askC X⟩, ⟨gt86, 5, cbt86⟩] W85 := HS15.joins hb85 hr86 hg86
        clear HS85 hr86 hg86
        clear HS15 hb85
        refine wl_is HA85 [1, 2] (v := .tuple #[.slice (some ⟨gt86, 0, none⟩) nE ct86, .int .i64 0]) (want_n rfl) (dd_rn (dd_mv rfl (HA85.ev 0 rfl)) ⟨rfl, rfl⟩) rfl (fun a87 (HA87 : Env 65 [(22, .tuple #[.slice (some ⟨gt86, 0, none⟩) nE ct86, .int .i64 0]), (2, .pointer (some ⟨g2, 0, none⟩)), (1, .slice A nq cq)] a87) => ?_)
        clear HA85 a85
        refine wl_is HA87 [0, 1, 2] (v := .slice (some ⟨gt86, 0, none⟩) nE ct86) (want_n rfl) (dd_rn (dd_ext rfl (HA87.ev 0 rfl) rfl) ⟨rfl, rfl⟩) rfl (fun a88 (HA88 : Env 65 [(25, .slice (some ⟨gt86, 0, none⟩) nE ct86), (22, .tuple #[.slice (some ⟨gt86, 0, none⟩) nE ct86, .int .i64 0]), (2, .pointer (some ⟨g2, 0, none⟩)), (1, .slice A nq cq)] a88) => ?_)
        clear HA87 a87
        refine wl_is HA88 [0, 2, 3] (v := .int .i64 0) (want_n rfl) (dd_rn (dd_ext rfl (HA88.ev 1 rfl) rfl) ⟨rfl, rfl⟩) rfl (fun a89 (HA89 : Env 65 [(26, .int .i64 0), (25, .slice (some ⟨gt86, 0, none⟩) nE ct86), (2, .pointer (some ⟨g2, 0, none⟩)), (1, .slice A nq cq)] a89) => ?_)
        clear HA88 a88
        refine wl_is HA89 [0, 2, 3] (v := .slice (some ⟨gt86, 0, none⟩) nE ct86) (want_n rfl) (dd_rn (dd_as rfl (HA89.ev 1 rfl)) ⟨rfl, rfl⟩) rfl (fun a90 (HA90 : Env 65 [(5, .slice (some ⟨gt86, 0, none⟩) nE ct86), (26, .int .i64 0), (2, .pointer (some ⟨g2, 0, none⟩)), (1, .slice A nq cq)] a90) => ?_)
        clear HA89 a89
        refine wl_is HA90 [0, 2, 3] (v := .int .i64 0) (want_n rfl) (dd_rn (dd_as rfl (HA90.ev 1 rfl)) ⟨rfl, rfl⟩) rfl (fun a91 (HA91 : Env 65 [(6, .int .i64 0), (5, .slice (some ⟨gt86, 0, none⟩) nE ct86), (2, .pointer (some ⟨g2, 0, none⟩)), (1, .slice A nq cq)] a91) => ?_)
        clear HA90 a90
        refine wpList_nil ?_
        refine nx ?_
        refine wp_seq ?_
        refine wp_region_lit ?_
        refine wl_is HA91 [0, 1, 3] (v := .agg (askC X)) (want_n rfl) (dd_rn (dd_load HS85j 0 0 rfl rfl (HA91.ev 2 rfl) (slab_whole _) Tryd.underlying31 rfl (by rw [show (askC X).size = 72 from (size_askC HOK)]; kernel_rfl)) ⟨rfl, rfl⟩) rfl (fun a92 (HA92 : Env 65 [(28, .agg (askC X)), (6, .int .i64 0), (5, .slice (some ⟨gt86, 0, none⟩) nE ct86), (1, .slice A nq cq)] a92) => ?_)
        clear HA91 a91
        refine wl_does HA92 [1, 2, 3] (R := fun v w9 => ∃ gt94 ct94 cbt94, v = .tuple #[.slice (some ⟨gt94, 0, none⟩) nE ct94, .int .i64 0] ∧ W85.heap.size ≤ gt94 ∧ Row w9 gt94 5 cbt94 ∧ OwnC cbt94 ct94 nE 1 (bytesV (encA X)) ∧ Below W85.heap.size W85 w9) (want_n rfl) (dd_call Tryd.func9 (by kernel_rfl) (by kernel_rfl) rfl (args1 (HA92.ev 0 rfl)) (rask_good X _ W85 HOK hb30 rfl) (fun _ w9 ⟨v9, he, ho, hb⟩ => by rw [HNE] at ho; obtain ⟨g9, c9, cb9, rfl, h1, h2, h3⟩ := ownc_pos ho HNP; exact ⟨_, he, g9, c9, cb9, rfl, h1, h2, h3, hb⟩)) rfl ?_
        rintro _ W93 ⟨gt94, ct94, cbt94, rfl, hg94, hr94, Ot94, hb93⟩ a93 (HA93 : Env 65 [(29, .tuple #[.slice (some ⟨gt94, 0, none⟩) nE ct94, .int .i64 0]), (6, .int .i64 0), (5, .slice (some ⟨gt86, 0, none⟩) nE ct86), (1, .slice A nq cq)] a93)
        have HS93 := HS85j.same hb93
        clear HA92 a92
        have HS93j : St w noF [⟨g2, 31, askC X⟩, ⟨gt86, 5, cbt86⟩, ⟨gt94, 5, cbt94⟩] W93 := HS85j.joins hb93 hr94 hg94
        clear HS93 hr94 hg94
        clear HS85j hb93
        refine wl_is HA93 [1, 2, 3] (v := .tuple #[.slice (some ⟨gt94, 0, none⟩) nE ct94, .int .i64 0]) (want_n rfl) (dd_rn (dd_mv rfl (HA93.ev 0 rfl)) ⟨rfl, rfl⟩) rfl (fun a95 (HA95 : Env 65 [(27, .tuple #[.slice (some ⟨gt94, 0, none⟩) nE ct94, .int .i64 0]), (6, .int .i64 0), (5, .slice (some ⟨gt86, 0, none⟩) nE ct86), (1, .slice A nq cq)] a95) => ?_)
        clear HA93 a93
        refine wl_is HA95 [0, 1, 2, 3] (v := .slice (some ⟨gt94, 0, none⟩) nE ct94) (want_n rfl) (dd_rn (dd_ext rfl (HA95.ev 0 rfl) rfl) ⟨rfl, rfl⟩) rfl (fun a96 (HA96 : Env 65 [(30, .slice (some ⟨gt94, 0, none⟩) nE ct94), (27, .tuple #[.slice (some ⟨gt94, 0, none⟩) nE ct94, .int .i64 0]), (6, .int .i64 0), (5, .slice (some ⟨gt86, 0, none⟩) nE ct86), (1, .slice A nq cq)] a96) => ?_)
        clear HA95 a95
        refine wl_is HA96 [0, 2, 3, 4] (v := .int .i64 0) (want_n rfl) (dd_rn (dd_ext rfl (HA96.ev 1 rfl) rfl) ⟨rfl, rfl⟩) rfl (fun a97 (HA97 : Env 65 [(31, .int .i64 0), (30, .slice (some ⟨gt94, 0, none⟩) nE ct94), (6, .int .i64 0), (5, .slice (some ⟨gt86, 0, none⟩) nE ct86), (1, .slice A nq cq)] a97) => ?_)
        clear HA96 a96
        refine wl_is HA97 [0, 2, 3, 4] (v := .slice (some ⟨gt94, 0, none⟩) nE ct94) (want_n rfl) (dd_rn (dd_as rfl (HA97.ev 1 rfl)) ⟨rfl, rfl⟩) rfl (fun a98 (HA98 : Env 65 [(7, .slice (some ⟨gt94, 0, none⟩) nE ct94), (31, .int .i64 0), (6, .int .i64 0), (5, .slice (some ⟨gt86, 0, none⟩) nE ct86), (1, .slice A nq cq)] a98) => ?_)
        clear HA97 a97
        refine wl_is HA98 [0, 2, 3, 4] (v := .int .i64 0) (want_n rfl) (dd_rn (dd_as rfl (HA98.ev 1 rfl)) ⟨rfl, rfl⟩) rfl (fun a99 (HA99 : Env 65 [(8, .int .i64 0), (7, .slice (some ⟨gt94, 0, none⟩) nE ct94), (6, .int .i64 0), (5, .slice (some ⟨gt86, 0, none⟩) nE ct86), (1, .slice A nq cq)] a99) => ?_)
        clear HA98 a98
        refine wpList_nil ?_
        refine nx ?_
        refine wp_seq ?_
        refine wp_region_lit ?_
        refine wl_does HA99 [0, 1, 2, 3, 4] (R := fun v w9 => ∃ g33, v = .slice (some ⟨g33, 0, none⟩) 0 0 ∧ St w noF [⟨g2, 31, askC X⟩, ⟨gt86, 5, cbt86⟩, ⟨gt94, 5, cbt94⟩, ⟨g33, 5, #[]⟩] w9) (want_n rfl) (dd_lit0 HS93j rfl rfl Tryd.underlying32 (sz := 1) (by kernel_rfl) (fun g9 w9 h9 => ⟨g9, rfl, h9⟩)) rfl ?_
        rintro _ W100 ⟨g33, rfl, HS100⟩ a100 (HA100 : Env 65 [(33, .slice (some ⟨g33, 0, none⟩) 0 0), (8, .int .i64 0), (7, .slice (some ⟨gt94, 0, none⟩) nE ct94), (6, .int .i64 0), (5, .slice (some ⟨gt86, 0, none⟩) nE ct86), (1, .slice A nq cq)] a100)
        clear HA99 a99 HS93j
        refine wl_is HA100 [0, 1, 2, 3, 4, 5] (v := .slice A nq cq) (want_n rfl) (dd_rn (dd_mv rfl (HA100.ev 5 rfl)) ⟨rfl, rfl⟩) rfl (fun a101 (HA101 : Env 65 [(34, .slice A nq cq), (33, .slice (some ⟨g33, 0, none⟩) 0 0), (8, .int .i64 0), (7, .slice (some ⟨gt94, 0, none⟩) nE ct94), (6, .int .i64 0), (5, .slice (some ⟨gt86, 0, none⟩) nE ct86), (1, .slice A nq cq)] a101) => ?_)
        clear HA100 a100
        refine wl_does HA101 [2, 3, 4, 5, 6] (R := fun v w9 => ∃ g35_103 c35_103 cb35_103, v = .slice (some ⟨g35_103, 0, none⟩) nq c35_103 ∧ OwnC cb35_103 c35_103 nq 1 (bytesV (q)) ∧ St w noF [⟨g2, 31, askC X⟩, ⟨gt86, 5, cbt86⟩, ⟨gt94, 5, cbt94⟩, ⟨g35_103, 5, cb35_103⟩] w9) (want_n rfl) (dd_appB HS100 3 rfl ownc_nil rfl (HA101.ev 1 rfl) (HA101.ev 0 rfl) (hQ.below HS100.below (Nat.le_refl _)) hA (Nat.zero_add _) (List.nil_append _) (by unfold maxLen; omega) (by omega) (fun g9 c9 cb9 w9 o9 h9 => ⟨g9, c9, cb9, rfl, o9, h9⟩)) rfl ?_
        rintro _ W102 ⟨g35_103, c35_103, cb35_103, rfl, O35_103, HS102⟩ a102 (HA102 : Env 65 [(35, .slice (some ⟨g35_103, 0, none⟩) nq c35_103), (8, .int .i64 0), (7, .slice (some ⟨gt94, 0, none⟩) nE ct94), (6, .int .i64 0), (5, .slice (some ⟨gt86, 0, none⟩) nE ct86), (1, .slice A nq cq)] a102)
        clear HA101 a101 HS100
        refine wl_does HA102 [1, 2, 3, 4, 5] (R := fun v w9 => v = .tuple #[.agg (askC (decA q)), .int .i64 (decF q)] ∧ Below W102.heap.size W102 w9) (want_n rfl) (dd_call Tryd.func10 (by kernel_rfl) (by kernel_rfl) rfl (args1 (HA102.ev 0 rfl)) (askdec_any _ _ _ q W102 hnq (slice_own (HS102.row 3 rfl) O35_103 hnq)) (fun _ w9 h9 => ⟨_, h9.1, rfl, h9.2⟩)) rfl ?_
        rintro _ W104 ⟨rfl, hb104⟩ a104 (HA104 : Env 65 [(36, .tuple #[.agg (askC (decA q)), .int .i64 (decF q)]), (8, .int .i64 0), (7, .slice (some ⟨gt94, 0, none⟩) nE ct94), (6, .int .i64 0), (5, .slice (some ⟨gt86, 0, none⟩) nE ct86), (1, .slice A nq cq)] a104)
        have HS104 := HS102.same hb104
        clear HA102 a102
        clear HS102 hb104
        refine wl_is HA104 [1, 2, 3, 4, 5] (v := .tuple #[.agg (askC (decA q)), .int .i64 (decF q)]) (want_n rfl) (dd_rn (dd_mv rfl (HA104.ev 0 rfl)) ⟨rfl, rfl⟩) rfl (fun a105 (HA105 : Env 65 [(32, .tuple #[.agg (askC (decA q)), .int .i64 (decF q)]), (8, .int .i64 0), (7, .slice (some ⟨gt94, 0, none⟩) nE ct94), (6, .int .i64 0), (5, .slice (some ⟨gt86, 0, none⟩) nE ct86), (1, .slice A nq cq)] a105) => ?_)
        clear HA104 a104
        refine wl_is HA105 [0, 1, 2, 3, 4, 5] (v := .agg (askC (decA q))) (want_n rfl) (dd_rn (dd_ext rfl (HA105.ev 0 rfl) rfl) ⟨rfl, rfl⟩) rfl (fun a106 (HA106 : Env 65 [(37, .agg (askC (decA q))), (32, .tuple #[.agg (askC (decA q)), .int .i64 (decF q)]), (8, .int .i64 0), (7, .slice (some ⟨gt94, 0, none⟩) nE ct94), (6, .int .i64 0), (5, .slice (some ⟨gt86, 0, none⟩) nE ct86), (1, .slice A nq cq)] a106) => ?_)
        clear HA105 a105
        refine wl_is HA106 [0, 2, 3, 4, 5, 6] (v := .int .i64 (decF q)) (want_n rfl) (dd_rn (dd_ext rfl (HA106.ev 1 rfl) rfl) ⟨rfl, rfl⟩) rfl (fun a107 (HA107 : Env 65 [(38, .int .i64 (decF q)), (37, .agg (askC (decA q))), (8, .int .i64 0), (7, .slice (some ⟨gt94, 0, none⟩) nE ct94), (6, .int .i64 0), (5, .slice (some ⟨gt86, 0, none⟩) nE ct86), (1, .slice A nq cq)] a107) => ?_)
        clear HA106 a106
        refine wl_does HA107 [0, 1, 2, 3, 4, 5, 6] (R := fun v w9 => ∃ g9, v = .pointer (some ⟨g9, 0, none⟩) ∧ St w noF [⟨g2, 31, askC X⟩, ⟨gt86, 5, cbt86⟩, ⟨gt94, 5, cbt94⟩, ⟨g35_103, 5, cb35_103⟩, ⟨g9, 31, catA [[.int .i64 0], [.int .i64 0], [.string (⟨#[]⟩)], [.int .i64 0], [.int .u32 0], [.int .u32 0], bytesV (zer 32), [.string (⟨#[]⟩)], [.int .i64 0], bytesV (zer 32)]⟩] w9) (want_n rfl) (dd_new HS104 (catA [[.int .i64 0], [.int .i64 0], [.string (⟨#[]⟩)], [.int .i64 0], [.int .u32 0], [.int .u32 0], bytesV (zer 32), [.string (⟨#[]⟩)], [.int .i64 0], bytesV (zer 32)]) rfl (z := .agg (catA [[.int .i64 0], [.int .i64 0], [.string (⟨#[]⟩)], [.int .i64 0], [.int .u32 0], [.int .u32 0], bytesV (zer 32), [.string (⟨#[]⟩)], [.int .i64 0], bytesV (zer 32)])) (by kernel_rfl) rfl (fun g9 w9 h9 => ⟨g9, rfl, h9⟩)) rfl ?_
        rintro _ W108 ⟨g9, rfl, HS108⟩ a108 (HA108 : Env 65 [(9, .pointer (some ⟨g9, 0, none⟩)), (38, .int .i64 (decF q)), (37, .agg (askC (decA q))), (8, .int .i64 0), (7, .slice (some ⟨gt94, 0, none⟩) nE ct94), (6, .int .i64 0), (5, .slice (some ⟨gt86, 0, none⟩) nE ct86), (1, .slice A nq cq)] a108)
        clear HA107 a107 HS104
        refine wl_does HA108 [0, 1, 3, 4, 5, 6, 7] (R := fun v9 w9 => St w noF [⟨g2, 31, askC X⟩, ⟨gt86, 5, cbt86⟩, ⟨gt94, 5, cbt94⟩, ⟨g35_103, 5, cb35_103⟩, ⟨g9, 31, askC (decA q)⟩] w9) (want_n rfl) (dd_setrow HS108 4 rfl rfl (HA108.ev 0 rfl) (HA108.ev 2 rfl) (by kernel_rfl) ((size_askC HOKD) : (askC (decA q)).size = 72) ((cat_size (lens_cons rfl (lens_cons rfl (lens_cons rfl (lens_cons rfl (lens_cons rfl (lens_cons rfl (lens_cons (len_bv (length_zer 32)) (lens_cons rfl (lens_cons rfl (lens_cons (len_bv (length_zer 32)) (lens_nil)))))))))))) : (catA [[.int .i64 0], [.int .i64 0], [.string (⟨#[]⟩)], [.int .i64 0], [.int .u32 0], [.int .u32 0], bytesV (zer 32), [.string (⟨#[]⟩)], [.int .i64 0], bytesV (zer 32)]).size = 72) (one_ask _) (fun w9 h9 => h9)) rfl ?_
        rintro _ W109 HS109 a109 (HA109 : Env 65 [(9, .pointer (some ⟨g9, 0, none⟩)), (38, .int .i64 (decF q)), (8, .int .i64 0), (7, .slice (some ⟨gt94, 0, none⟩) nE ct94), (6, .int .i64 0), (5, .slice (some ⟨gt86, 0, none⟩) nE ct86), (1, .slice A nq cq)] a109)
        clear HA108 a108 HS108
        refine wl_is HA109 [0, 2, 3, 4, 5, 6] (v := .int .i64 (decF q)) (want_n rfl) (dd_rn (dd_as rfl (HA109.ev 1 rfl)) ⟨rfl, rfl⟩) rfl (fun a110 (HA110 : Env 65 [(10, .int .i64 (decF q)), (9, .pointer (some ⟨g9, 0, none⟩)), (8, .int .i64 0), (7, .slice (some ⟨gt94, 0, none⟩) nE ct94), (6, .int .i64 0), (5, .slice (some ⟨gt86, 0, none⟩) nE ct86), (1, .slice A nq cq)] a110) => ?_)
        clear HA109 a109
        refine wpList_nil ?_
        refine nx ?_
        refine wp_seq ?_
        refine wp_region_lit ?_
        refine wl_is HA110 [0, 1, 2, 3, 4, 5] (v := .slice A nq cq) (want_n rfl) (dd_rn (dd_mv rfl (HA110.ev 6 rfl)) ⟨rfl, rfl⟩) rfl (fun a111 (HA111 : Env 65 [(40, .slice A nq cq), (10, .int .i64 (decF q)), (9, .pointer (some ⟨g9, 0, none⟩)), (8, .int .i64 0), (7, .slice (some ⟨gt94, 0, none⟩) nE ct94), (6, .int .i64 0), (5, .slice (some ⟨gt86, 0, none⟩) nE ct86)] a111) => ?_)
        clear HA110 a110
        refine wl_does HA111 [1, 2, 3, 4, 5, 6] (R := fun v w9 => v = .tuple #[.agg (askC (decA q)), .int .i64 (decF q)] ∧ Below W109.heap.size W109 w9) (want_n rfl) (dd_call Tryd.func11 (by kernel_rfl) (by kernel_rfl) rfl (args1 (HA111.ev 0 rfl)) (rdec_any _ _ _ q W109 hnq (hQ.below HS109.below (Nat.le_refl _))) (fun _ w9 h9 => ⟨_, h9.1, rfl, h9.2⟩)) rfl ?_
        rintro _ W112 ⟨rfl, hb112⟩ a112 (HA112 : Env 65 [(41, .tuple #[.agg (askC (decA q)), .int .i64 (decF q)]), (10, .int .i64 (decF q)), (9, .pointer (some ⟨g9, 0, none⟩)), (8, .int .i64 0), (7, .slice (some ⟨gt94, 0, none⟩) nE ct94), (6, .int .i64 0), (5, .slice (some ⟨gt86, 0, none⟩) nE ct86)] a112)
        have HS112 := HS109.same hb112
        clear HA111 a111
        clear HS109 hb112
        refine wl_is HA112 [1, 2, 3, 4, 5, 6] (v := .tuple #[.agg (askC (decA q)), .int .i64 (decF q)]) (want_n rfl) (dd_rn (dd_mv rfl (HA112.ev 0 rfl)) ⟨rfl, rfl⟩) rfl (fun a113 (HA113 : Env 65 [(39, .tuple #[.agg (askC (decA q)), .int .i64 (decF q)]), (10, .int .i64 (decF q)), (9, .pointer (some ⟨g9, 0, none⟩)), (8, .int .i64 0), (7, .slice (some ⟨gt94, 0, none⟩) nE ct94), (6, .int .i64 0), (5, .slice (some ⟨gt86, 0, none⟩) nE ct86)] a113) => ?_)
        clear HA112 a112
        refine wl_is HA113 [0, 1, 2, 3, 4, 5, 6] (v := .agg (askC (decA q))) (want_n rfl) (dd_rn (dd_ext rfl (HA113.ev 0 rfl) rfl) ⟨rfl, rfl⟩) rfl (fun a114 (HA114 : Env 65 [(42, .agg (askC (decA q))), (39, .tuple #[.agg (askC (decA q)), .int .i64 (decF q)]), (10, .int .i64 (decF q)), (9, .pointer (some ⟨g9, 0, none⟩)), (8, .int .i64 0), (7, .slice (some ⟨gt94, 0, none⟩) nE ct94), (6, .int .i64 0), (5, .slice (some ⟨gt86, 0, none⟩) nE ct86)] a114) => ?_)
        clear HA113 a113
        refine wl_is HA114 [0, 2, 3, 4, 5, 6, 7] (v := .int .i64 (decF q)) (want_n rfl) (dd_rn (dd_ext rfl (HA114.ev 1 rfl) rfl) ⟨rfl, rfl⟩) rfl (fun a115 (HA115 : Env 65 [(43, .int .i64 (decF q)), (42, .agg (askC (decA q))), (10, .int .i64 (decF q)), (9, .pointer (some ⟨g9, 0, none⟩)), (8, .int .i64 0), (7, .slice (some ⟨gt94, 0, none⟩) nE ct94), (6, .int .i64 0), (5, .slice (some ⟨gt86, 0, none⟩) nE ct86)] a115) => ?_)
        clear HA114 a114
        refine wl_does HA115 [0, 1, 2, 3, 4, 5, 6, 7] (R := fun v w9 => ∃ g11, v = .pointer (some ⟨g11, 0, none⟩) ∧ St w noF [⟨g2, 31, askC X⟩, ⟨gt86, 5, cbt86⟩, ⟨gt94, 5, cbt94⟩, ⟨g35_103, 5, cb35_103⟩, ⟨g9, 31, askC (decA q)⟩, ⟨g11, 31, catA [[.int .i64 0], [.int .i64 0], [.string (⟨#[]⟩)], [.int .i64 0], [.int .u32 0], [.int .u32 0], bytesV (zer 32), [.string (⟨#[]⟩)], [.int .i64 0], bytesV (zer 32)]⟩] w9) (want_n rfl) (dd_new HS112 (catA [[.int .i64 0], [.int .i64 0], [.string (⟨#[]⟩)], [.int .i64 0], [.int .u32 0], [.int .u32 0], bytesV (zer 32), [.string (⟨#[]⟩)], [.int .i64 0], bytesV (zer 32)]) rfl (z := .agg (catA [[.int .i64 0], [.int .i64 0], [.string (⟨#[]⟩)], [.int .i64 0], [.int .u32 0], [.int .u32 0], bytesV (zer 32), [.string (⟨#[]⟩)], [.int .i64 0], bytesV (zer 32)])) (by kernel_rfl) rfl (fun g9 w9 h9 => ⟨g9, rfl, h9⟩)) rfl ?_
        rintro _ W116 ⟨g11, rfl, HS116⟩ a116 (HA116 : Env 65 [(11, .pointer (some ⟨g11, 0, none⟩)), (43, .int .i64 (decF q)), (42, .agg (askC (decA q))), (10, .int .i64 (decF q)), (9, .pointer (some ⟨g9, 0, none⟩)), (8, .int .i64 0), (7, .slice (some ⟨gt94, 0, none⟩) nE ct94), (6, .int .i64 0), (5, .slice (some ⟨gt86, 0, none⟩) nE ct86)] a116)
        clear HA115 a115 HS112
        refine wl_does HA116 [0, 1, 3, 4, 5, 6, 7, 8] (R := fun v9 w9 => St w noF [⟨g2, 31, askC X⟩, ⟨gt86, 5, cbt86⟩, ⟨gt94, 5, cbt94⟩, ⟨g35_103, 5, cb35_103⟩, ⟨g9, 31, askC (decA q)⟩, ⟨g11, 31, askC (decA q)⟩] w9) (want_n rfl) (dd_setrow HS116 5 rfl rfl (HA116.ev 0 rfl) (HA116.ev 2 rfl) (by kernel_rfl) ((size_askC HOKD) : (askC (decA q)).size = 72) ((cat_size (lens_cons rfl (lens_cons rfl (lens_cons rfl (lens_cons rfl (lens_cons rfl (lens_cons rfl (lens_cons (len_bv (length_zer 32)) (lens_cons rfl (lens_cons rfl (lens_cons (len_bv (length_zer 32)) (lens_nil)))))))))))) : (catA [[.int .i64 0], [.int .i64 0], [.string (⟨#[]⟩)], [.int .i64 0], [.int .u32 0], [.int .u32 0], bytesV (zer 32), [.string (⟨#[]⟩)], [.int .i64 0], bytesV (zer 32)]).size = 72) (one_ask _) (fun w9 h9 => h9)) rfl ?_
        rintro _ W117 HS117 a117 (HA117 : Env 65 [(11, .pointer (some ⟨g11, 0, none⟩)), (43, .int .i64 (decF q)), (10, .int .i64 (decF q)), (9, .pointer (some ⟨g9, 0, none⟩)), (8, .int .i64 0), (7, .slice (some ⟨gt94, 0, none⟩) nE ct94), (6, .int .i64 0), (5, .slice (some ⟨gt86, 0, none⟩) nE ct86)] a117)
        clear HA116 a116 HS116
        refine wl_is HA117 [0, 2, 3, 4, 5, 6, 7] (v := .int .i64 (decF q)) (want_n rfl) (dd_rn (dd_as rfl (HA117.ev 1 rfl)) ⟨rfl, rfl⟩) rfl (fun a118 (HA118 : Env 65 [(12, .int .i64 (decF q)), (11, .pointer (some ⟨g11, 0, none⟩)), (10, .int .i64 (decF q)), (9, .pointer (some ⟨g9, 0, none⟩)), (8, .int .i64 0), (7, .slice (some ⟨gt94, 0, none⟩) nE ct94), (6, .int .i64 0), (5, .slice (some ⟨gt86, 0, none⟩) nE ct86)] a118) => ?_)
        clear HA117 a117
        refine wpList_nil ?_
        refine nx ?_
        refine wp_seq ?_
        refine wp_region_lit ?_
        refine wl_is HA118 [0, 1, 2, 3, 4, 5, 6] (v := .slice (some ⟨gt86, 0, none⟩) nE ct86) (want_n rfl) (dd_rn (dd_mv rfl (HA118.ev 7 rfl)) ⟨rfl, rfl⟩) rfl (fun a119 (HA119 : Env 65 [(44, .slice (some ⟨gt86, 0, none⟩) nE ct86), (12, .int .i64 (decF q)), (11, .pointer (some ⟨g11, 0, none⟩)), (10, .int .i64 (decF q)), (9, .pointer (some ⟨g9, 0, none⟩)), (8, .int .i64 0), (7, .slice (some ⟨gt94, 0, none⟩) nE ct94), (6, .int .i64 0)] a119) => ?_)
        clear HA118 a118
        refine wl_is HA119 [0, 1, 2, 3, 4, 5, 7] (v := .slice (some ⟨gt94, 0, none⟩) nE ct94) (want_n rfl) (dd_rn (dd_mv rfl (HA119.ev 6 rfl)) ⟨rfl, rfl⟩) rfl (fun a120 (HA120 : Env 65 [(45, .slice (some ⟨gt94, 0, none⟩) nE ct94), (44, .slice (some ⟨gt86, 0, none⟩) nE ct86), (12, .int .i64 (decF q)), (11, .pointer (some ⟨g11, 0, none⟩)), (10, .int .i64 (decF q)), (9, .pointer (some ⟨g9, 0, none⟩)), (8, .int .i64 0), (6, .int .i64 0)] a120) => ?_)
        clear HA119 a119
        refine wl_is HA120 [2, 3, 4, 5, 6, 7] (v := .bool true) (want_n rfl) (dd_call Tryd.func12 (by kernel_rfl) (by kernel_rfl) rfl (args2 (HA120.ev 1 rfl) (HA120.ev 0 rfl)) (keepb_any _ _ _ _ W117 (slice_own (HS117.row 1 rfl) Ot86 HNE) (slice_own (HS117.row 2 rfl) Ot94 HNE)) (fun _ w9 h9 => ⟨_, h9.1, by rw [decide_eq_true rfl], h9.2.symm⟩)) rfl (fun a121 (HA121 : Env 65 [(46, .bool true), (12, .int .i64 (decF q)), (11, .pointer (some ⟨g11, 0, none⟩)), (10, .int .i64 (decF q)), (9, .pointer (some ⟨g9, 0, none⟩)), (8, .int .i64 0), (6, .int .i64 0)] a121) => ?_)
        clear HA120 a120
        refine wl_is HA121 [1, 2, 3, 4, 5, 6] (v := .bool true) (want_n rfl) (dd_rn (dd_mv rfl (HA121.ev 0 rfl)) ⟨rfl, rfl⟩) rfl (fun a122 (HA122 : Env 65 [(47, .bool true), (12, .int .i64 (decF q)), (11, .pointer (some ⟨g11, 0, none⟩)), (10, .int .i64 (decF q)), (9, .pointer (some ⟨g9, 0, none⟩)), (8, .int .i64 0), (6, .int .i64 0)] a122) => ?_)
        clear HA121 a121
        refine wl_is HA122 [0, 1, 2, 3, 4, 5] (v := .int .i64 0) (want_g rfl (t := 47) rfl (HA122.get 0 rfl) rfl) (dd_rn (dd_mv rfl (HA122.ev 6 rfl)) ⟨rfl, rfl⟩) rfl (fun a123 (HA123 : Env 65 [(48, .int .i64 0), (47, .bool true), (12, .int .i64 (decF q)), (11, .pointer (some ⟨g11, 0, none⟩)), (10, .int .i64 (decF q)), (9, .pointer (some ⟨g9, 0, none⟩)), (8, .int .i64 0)] a123) => ?_)
        clear HA122 a122
        refine wl_is HA123 [0, 1, 2, 3, 4, 5] (v := .int .i64 0) (want_g rfl (t := 47) rfl (HA123.get 1 rfl) rfl) (dd_rn (dd_mv rfl (HA123.ev 6 rfl)) ⟨rfl, rfl⟩) rfl (fun a124 (HA124 : Env 65 [(49, .int .i64 0), (48, .int .i64 0), (47, .bool true), (12, .int .i64 (decF q)), (11, .pointer (some ⟨g11, 0, none⟩)), (10, .int .i64 (decF q)), (9, .pointer (some ⟨g9, 0, none⟩))] a124) => ?_)
        clear HA123 a123
        refine wl_is HA124 [2, 3, 4, 5, 6] (v := .bool true) (want_g rfl (t := 47) rfl (HA124.get 2 rfl) rfl) (dd_rn (dd_cmp rfl (HA124.ev 1 rfl) (HA124.ev 0 rfl) (eq_t (by decide))) ⟨rfl, rfl⟩) rfl (fun a125 (HA125 : Env 65 [(50, .bool true), (47, .bool true), (12, .int .i64 (decF q)), (11, .pointer (some ⟨g11, 0, none⟩)), (10, .int .i64 (decF q)), (9, .pointer (some ⟨g9, 0, none⟩))] a125) => ?_)
        clear HA124 a124
        refine wl_is HA125 [2, 3, 4, 5] (v := .bool true) (want_n rfl) (dd_rn (dd_pickT rfl (HA125.ev 1 rfl) (HA125.ev 0 rfl)) ⟨rfl, rfl⟩) rfl (fun a126 (HA126 : Env 65 [(51, .bool true), (12, .int .i64 (decF q)), (11, .pointer (some ⟨g11, 0, none⟩)), (10, .int .i64 (decF q)), (9, .pointer (some ⟨g9, 0, none⟩))] a126) => ?_)
        clear HA125 a125
        refine wl_is HA126 [1, 2, 3, 4] (v := .bool true) (want_n rfl) (dd_rn (dd_mv rfl (HA126.ev 0 rfl)) ⟨rfl, rfl⟩) rfl (fun a127 (HA127 : Env 65 [(52, .bool true), (12, .int .i64 (decF q)), (11, .pointer (some ⟨g11, 0, none⟩)), (10, .int .i64 (decF q)), (9, .pointer (some ⟨g9, 0, none⟩))] a127) => ?_)
        clear HA126 a126
        refine wl_is HA127 [0, 1, 2, 3] (v := .agg (askC (decA q))) (want_g rfl (t := 52) rfl (HA127.get 0 rfl) rfl) (dd_rn (dd_load HS117 4 0 rfl rfl (HA127.ev 4 rfl) (slab_whole _) Tryd.underlying31 rfl (by rw [show (askC (decA q)).size = 72 from (size_askC HOKD)]; kernel_rfl)) ⟨rfl, rfl⟩) rfl (fun a128 (HA128 : Env 65 [(53, .agg (askC (decA q))), (52, .bool true), (12, .int .i64 (decF q)), (11, .pointer (some ⟨g11, 0, none⟩)), (10, .int .i64 (decF q))] a128) => ?_)
        clear HA127 a127
        refine wl_is HA128 [0, 1, 2, 4] (v := .agg (askC (decA q))) (want_g rfl (t := 52) rfl (HA128.get 1 rfl) rfl) (dd_rn (dd_load HS117 5 0 rfl rfl (HA128.ev 3 rfl) (slab_whole _) Tryd.underlying31 rfl (by rw [show (askC (decA q)).size = 72 from (size_askC HOKD)]; kernel_rfl)) ⟨rfl, rfl⟩) rfl (fun a129 (HA129 : Env 65 [(54, .agg (askC (decA q))), (53, .agg (askC (decA q))), (52, .bool true), (12, .int .i64 (decF q)), (10, .int .i64 (decF q))] a129) => ?_)
        clear HA128 a128
        refine wl_is HA129 [2, 3, 4] (v := .bool true) (want_g rfl (t := 52) rfl (HA129.get 2 rfl) rfl) (dd_rn (dd_eqa (b := true) rfl (HA129.ev 1 rfl) (HA129.ev 0 rfl) (by kernel_rfl) (fun w => by have h9 := eql_ask (decA q) (decA q) HOKD HOKD w; rw [decide_eq_true rfl] at h9; exact h9)) ⟨rfl, rfl⟩) rfl (fun a130 (HA130 : Env 65 [(55, .bool true), (52, .bool true), (12, .int .i64 (decF q)), (10, .int .i64 (decF q))] a130) => ?_)
        clear HA129 a129
        refine wl_is HA130 [2, 3] (v := .bool true) (want_n rfl) (dd_rn (dd_pickT rfl (HA130.ev 1 rfl) (HA130.ev 0 rfl)) ⟨rfl, rfl⟩) rfl (fun a131 (HA131 : Env 65 [(56, .bool true), (12, .int .i64 (decF q)), (10, .int .i64 (decF q))] a131) => ?_)
        clear HA130 a130
        refine wl_is HA131 [1, 2] (v := .bool true) (want_n rfl) (dd_rn (dd_mv rfl (HA131.ev 0 rfl)) ⟨rfl, rfl⟩) rfl (fun a132 (HA132 : Env 65 [(57, .bool true), (12, .int .i64 (decF q)), (10, .int .i64 (decF q))] a132) => ?_)
        clear HA131 a131
        refine wl_is HA132 [0, 1] (v := .int .i64 (decF q)) (want_g rfl (t := 57) rfl (HA132.get 0 rfl) rfl) (dd_rn (dd_mv rfl (HA132.ev 2 rfl)) ⟨rfl, rfl⟩) rfl (fun a133 (HA133 : Env 65 [(58, .int .i64 (decF q)), (57, .bool true), (12, .int .i64 (decF q))] a133) => ?_)
        clear HA132 a132
        refine wl_is HA133 [0, 1] (v := .int .i64 (decF q)) (want_g rfl (t := 57) rfl (HA133.get 1 rfl) rfl) (dd_rn (dd_mv rfl (HA133.ev 2 rfl)) ⟨rfl, rfl⟩) rfl (fun a134 (HA134 : Env 65 [(59, .int .i64 (decF q)), (58, .int .i64 (decF q)), (57, .bool true)] a134) => ?_)
        clear HA133 a133
        refine wl_is HA134 [2] (v := .bool true) (want_g rfl (t := 57) rfl (HA134.get 2 rfl) rfl) (dd_rn (dd_cmp rfl (HA134.ev 1 rfl) (HA134.ev 0 rfl) (eq_t rfl)) ⟨rfl, rfl⟩) rfl (fun a135 (HA135 : Env 65 [(60, .bool true), (57, .bool true)] a135) => ?_)
        clear HA134 a134
        refine wl_is HA135 [] (v := .bool true) (want_n rfl) (dd_rn (dd_pickT rfl (HA135.ev 1 rfl) (HA135.ev 0 rfl)) ⟨rfl, rfl⟩) rfl (fun a136 (HA136 : Env 65 [(61, .bool true)] a136) => ?_)
        clear HA135 a135
        refine wl_is HA136 [] (v := .bool true) (want_n rfl) (dd_rn (dd_mv rfl (HA136.ev 0 rfl)) ⟨rfl, rfl⟩) rfl (fun a137 (HA137 : Env 65 [(62, .bool true)] a137) => ?_)
        clear HA136 a136
        refine wl_does HA137 [0] (R := fun v w9 => v = .bool true ∧ Below W117.heap.size W117 w9) (want_g rfl (t := 62) rfl (HA137.get 0 rfl) rfl) (dd_call Tryd.func7 (by kernel_rfl) (by kernel_rfl) rfl (args0 ) (askwakes_any W117) (fun _ w9 h9 => ⟨_, h9.1, rfl, h9.2⟩)) rfl ?_
        rintro _ W138 ⟨rfl, hb138⟩ a138 (HA138 : Env 65 [(63, .bool true), (62, .bool true)] a138)
        have HS138 := HS117.same hb138
        clear HA137 a137
        clear HS117 hb138
        refine wl_is HA138 [] (v := .bool true) (want_n rfl) (dd_rn (dd_pickT rfl (HA138.ev 1 rfl) (HA138.ev 0 rfl)) ⟨rfl, rfl⟩) rfl (fun a139 (HA139 : Env 65 [(64, .bool true)] a139) => ?_)
        clear HA138 a138
        refine wl_is HA139 [] (v := .bool true) (want_n rfl) (dd_rn (dd_as rfl (HA139.ev 0 rfl)) ⟨rfl, rfl⟩) rfl (fun a140 (HA140 : Env 65 [(4, .bool true)] a140) => ?_)
        clear HA139 a139
        refine wpList_nil ?_
        refine nx ?_
        refine wp_ret ?_
        refine ret_run HA140 (res_t Tryd.results3 (HA140.get 0 rfl)) ?_
        exact ⟨rfl, HS138.below⟩
end Go.Proofs.YtobklbfcnbmnmaaDoor

/- Tokens that are handed in, opened. -/
set_option maxRecDepth 4000
namespace Go.Proofs.YtobklbfcnbmnmaaDoor
open Go Go.ChangeShapes Go.WideShapes Go.ChangeAt Go.RowKit
def tok0A : Array Value := #[Value.int .i64 0, Value.string ⟨#[]⟩, Value.int .i64 0, Value.int .u32 0, Value.int .u32 0] ++ bs (zer 32)
def rdClm : Rd (Int × ByteArray × Int × BitVec 32 × BitVec 32 × Unit) := rdCons 1 (rdInt .i64) (rdCons 1 rdStr (rdCons 1 (rdInt .i64) (rdCons 1 rdU32 (rdCons 1 rdU32 rdNil))))
def rdTok : Rd ((Int × ByteArray × Int × BitVec 32 × BitVec 32 × Unit) × List (BitVec 8) × Unit) := rdCons 5 rdClm (rdCons 32 (rdRow 32) rdNil)
theorem cellsI64t : Tryd.prog.cellsOf 3 = 1 := by kernel_rfl
theorem cellsStrt : Tryd.prog.cellsOf 9 = 1 := by kernel_rfl
theorem cellsU32t : Tryd.prog.cellsOf 22 = 1 := by kernel_rfl
theorem cellsClm : Tryd.prog.cellsOf 24 = 5 := by kernel_rfl
theorem cellsDig : Tryd.prog.cellsOf 26 = 32 := by kernel_rfl
theorem opens_clm : Opens Tryd.prog 24 rdClm :=
  opens_struct Tryd.underlying24 (by kernel_rfl) (opensF_cons rfl cellsI64t (opens_int Tryd.underlying3) (opensF_cons rfl cellsStrt (opens_str Tryd.underlying9) (opensF_cons rfl cellsI64t (opens_int Tryd.underlying3) (opensF_cons rfl cellsU32t (opens_u32 Tryd.underlying22) (opensF_cons rfl cellsU32t (opens_u32 Tryd.underlying22) opensF_nil)))))
theorem opens_tok : Opens Tryd.prog 28 rdTok :=
  opens_struct Tryd.underlying28 (by kernel_rfl) (opensF_cons rfl cellsClm opens_clm (opensF_cons rfl cellsDig (opens_row Tryd.underlying26 Tryd.underlying5 (by kernel_rfl) cellsDig) opensF_nil))
theorem clm_at {W : World} {ds : List Value} {x : Int × ByteArray × Int × BitVec 32 × BitVec 32 × Unit} (h : rdClm W ds x) : ∃ c : Clm, ds = (clmCells c).toList ∧ c.n.length ≤ maxLen := by
  obtain ⟨p, s, r, u, g, _⟩ := x
  obtain ⟨c0, d0, rfl, _, ⟨rfl, _⟩, c1, d1, rfl, _, ⟨rfl, hs⟩, c2, d2, rfl, _, ⟨rfl, _⟩, c3, d3, rfl, _, h3, c4, d4, rfl, _, h4, h5⟩ := h
  have h3 : c3 = [.int .u32 (wd u)] := h3
  have h4 : c4 = [.int .u32 (wd g)] := h4
  have h5 : d4 = [] := h5
  subst h3 h4 h5
  obtain ⟨q, hq⟩ := strB_all s
  simp only at hs hq
  refine ⟨⟨p, q, r, u, g⟩, ?_, ?_⟩
  · rw [hq]; rfl
  · rw [hq, strB_size] at hs; exact hs
theorem open_tok {H : Type} {enc : TypeId × Value → H} {W : World} {r : Reach} {base : Nat} {v : Value} {d : DataW H} {ps : List MemPlace} (hval : Value.okWide Tryd.prog W r base 28 v)
    (h : DataW.Trod enc Tryd.prog W 0 (fun _ => true) true 28 v d ps) (hlt : ∀ x ∈ ps, x.block < W.heap.size) :
    ∃ c q, v = .agg (tokCells c q) ∧ q.length = 32 ∧ c.n.length ≤ maxLen := by
  obtain ⟨cs, x, rfl, hx⟩ := open_argRec Tryd.underlying28 opens_tok hval h hlt
  obtain ⟨y, q, _⟩ := x
  obtain ⟨a0, b0, e, _, h0, a1, b1, e1, _, ⟨rfl, hq⟩, h2⟩ := hx
  have h2 : b1 = [] := h2
  subst h2
  obtain ⟨c, rfl, hn⟩ := clm_at h0
  refine ⟨c, q, ?_, hq, hn⟩
  rw [e, e1, List.append_nil]
  unfold tokCells
  congr 1
  apply Array.ext'
  simp [bs, bytesV]
end Go.Proofs.YtobklbfcnbmnmaaDoor

/- Requests that are handed in, opened. -/
set_option maxRecDepth 4000
namespace Go.Proofs.YtobklbfcnbmnmaaDoor
open Go Go.ChangeShapes Go.WideShapes Go.ChangeAt Go.RowKit
def ask0A : Array Value := #[Value.int .i64 0] ++ tok0A ++ #[Value.string ⟨#[]⟩, Value.int .i64 0] ++ bs (zer 32)
def rdAsk : Rd (Int × ((Int × ByteArray × Int × BitVec 32 × BitVec 32 × Unit) × List (BitVec 8) × Unit) × ByteArray × Int × List (BitVec 8) × Unit) := rdCons 1 (rdInt .i64) (rdCons 37 rdTok (rdCons 1 rdStr (rdCons 1 (rdInt .i64) (rdCons 32 (rdRow 32) rdNil))))
theorem cellsTok : Tryd.prog.cellsOf 28 = 37 := by kernel_rfl
theorem cellsBlk16 : Tryd.prog.cellsOf 29 = 32 := by kernel_rfl
theorem opens_ask : Opens Tryd.prog 31 rdAsk :=
  opens_struct Tryd.underlying31 (by kernel_rfl) (opensF_cons rfl cellsI64t (opens_int Tryd.underlying3) (opensF_cons rfl cellsTok opens_tok (opensF_cons rfl cellsStrt (opens_str Tryd.underlying9) (opensF_cons rfl cellsI64t (opens_int Tryd.underlying3) (opensF_cons rfl cellsBlk16 (opens_row Tryd.underlying29 Tryd.underlying5 (by kernel_rfl) cellsBlk16) opensF_nil)))))
theorem tok_at {W : World} {ds : List Value} {x : (Int × ByteArray × Int × BitVec 32 × BitVec 32 × Unit) × List (BitVec 8) × Unit} (h : rdTok W ds x) : ∃ c q, ds = (clmCells c).toList ++ bytesV q ∧ q.length = 32 ∧ c.n.length ≤ maxLen := by
  obtain ⟨y, q, _⟩ := x
  obtain ⟨a0, b0, e, _, h0, a1, b1, e1, _, ⟨rfl, hq⟩, h2⟩ := h
  have h2 : b1 = [] := h2
  subst h2
  obtain ⟨c, rfl, hn⟩ := clm_at h0
  refine ⟨c, q, ?_, hq, hn⟩
  rw [e, e1, List.append_nil]
theorem open_ask16 {H : Type} {enc : TypeId × Value → H} {W : World} {r : Reach} {base : Nat} {v : Value} {d : DataW H} {ps : List MemPlace} (hval : Value.okWide Tryd.prog W r base 31 v)
    (h : DataW.Trod enc Tryd.prog W 0 (fun _ => true) true 31 v d ps) (hlt : ∀ x ∈ ps, x.block < W.heap.size) :
    ∃ X : Asq, v = .agg (askC X) ∧ X.Ok := by
  obtain ⟨cs, x, rfl, hx⟩ := open_argRec Tryd.underlying31 opens_ask hval h hlt
  obtain ⟨k, y, s, z, q, _⟩ := x
  obtain ⟨c0, d0, e0, _, ⟨rfl, _⟩, c1, d1, e1, _, h1, c2, d2, e2, _, ⟨rfl, hs⟩, c3, d3, e3, _, ⟨rfl, _⟩, c4, d4, e4, _, ⟨rfl, hq⟩, h5⟩ := hx
  have h5 : d4 = [] := h5
  subst h5
  obtain ⟨c, t, rfl, ht, hn⟩ := tok_at h1
  obtain ⟨v, hv⟩ := strB_all s
  simp only at hs hq
  refine ⟨⟨k, c, t, v, z, q⟩, ?_, ht, hq, hn, ?_⟩
  · rw [e0, e1, e2, e3, e4, List.append_nil, hv]
    unfold askC askL
    congr 1
  · rw [hv, strB_size] at hs; exact hs
end Go.Proofs.YtobklbfcnbmnmaaDoor
