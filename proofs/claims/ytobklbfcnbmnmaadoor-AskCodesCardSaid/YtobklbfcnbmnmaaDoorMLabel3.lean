/- Merged: AskRefD AskWakes AskSmall AskEq. -/
import Derived.Test.YtobklbfcnbmnmaaDoorMLabel1
import Derived.Test.YtobklbfcnbmnmaaDoorMGen1
import Derived.Test.YtobklbfcnbmnmaaDoorMLabel2
import Derived.Test.YtobklbfcnbmnmaaDoorMGen0
import Derived.Test.YtobklbfcnbmnmaaDoorMLabel0
/- The document's ask: Decode. -/
set_option maxRecDepth 4000
namespace Go.Proofs.YtobklbfcnbmnmaaDoor
open Go Go.RowKit
theorem ask_cat (X : Asq) : askC X = catA [[.int .i64 X.k], (tokCells X.c X.t).toList, [.string (strB X.v)], [.int .i64 X.z], bytesV X.d] := by
  unfold askC askL catA tokCells
  simp [bs_toList]
theorem rask_bad (X : Asq) (cs : Array Value) (w : World) (HOK : X.Ok) (h : mayA X = false) (hc : cs = askC X) : Calls Tryd.prog 9 #[.agg cs] w fun e w' => e = .returned (.tuple #[.slice none 0 0, .int .i64 11]) ∧ Below w.heap.size w w' := by
  subst hc
  refine (raskenc_any X w HOK).mono fun e w' h' => ?_
  rcases h' with h' | h'
  · exact h'.2
  · rw [h] at h'; cases h'.1
theorem rask_good (X : Asq) (cs : Array Value) (w : World) (HOK : X.Ok) (h : mayA X = true) (hc : cs = askC X) : Calls Tryd.prog 9 #[.agg cs] w fun e w' => ∃ v, e = .returned (.tuple #[v, .int .i64 0]) ∧ w'.ownsRow w.heap.size 5 1 v (encA X).length (bytesV (encA X)) ∧ Below w.heap.size w w' := by
  subst hc
  refine (raskenc_any X w HOK).mono fun e w' h' => ?_
  rcases h' with h' | h'
  · rw [h] at h'; cases h'.1
  · exact h'.2
theorem four_at (q : List (BitVec 8)) (n : Nat) (h : n + 4 ≤ q.length) : (q.drop n).take 4 = [q.getD n 0#8, q.getD (n + 1) 0#8, q.getD (n + 2) 0#8, q.getD (n + 3) 0#8] := by
  have g : ∀ j, j < q.length → q.drop j = q.getD j 0#8 :: q.drop (j + 1) := fun j hj => by
    rw [List.drop_eq_getElem_cons hj, List.getD_eq_getElem?_getD, List.getElem?_eq_getElem hj]; rfl
  rw [g n (by omega), g (n + 1) (by omega), g (n + 2) (by omega), g (n + 3) (by omega)]
  rfl
theorem hask54 (q : List (BitVec 8)) (hl : q.length = 54) : catA [[.int .i64 (bd (q.getD 0 0#8))], (tokCells (decC ((q.drop 1).take 46)) (decG ((q.drop 1).take 46))).toList, [.string (strB (cutN ([(q.getD 47 0#8), (q.getD 48 0#8), (q.getD 49 0#8), (q.getD 50 0#8)])).1)], [.int .i64 (bd (q.getD 51 0#8))], bytesV (zer 32)] = askC (askQ q) := by
  rw [ask_cat]
  unfold askQ
  rw [if_neg (by rw [hl]; decide), four_at q 47 (by omega)]
theorem hask86 (q : List (BitVec 8)) (hl : q.length = 86) : catA [[.int .i64 (bd (q.getD 0 0#8))], (tokCells (decC ((q.drop 1).take 46)) (decG ((q.drop 1).take 46))).toList, [.string (strB (cutN ([(q.getD 47 0#8), (q.getD 48 0#8), (q.getD 49 0#8), (q.getD 50 0#8)])).1)], [.int .i64 (bd (q.getD 51 0#8))], bytesV ((q.drop 52).take 32)] = askC (askQ q) := by
  rw [ask_cat]
  unfold askQ
  rw [if_pos hl, four_at q 47 (by omega)]
theorem ask_zcat : catA [[.int .i64 0], [.int .i64 0], [.string ⟨#[]⟩], [.int .i64 0], [.int .u32 0], [.int .u32 0], bytesV (zer 32), [.string ⟨#[]⟩], [.int .i64 0], bytesV (zer 32)] = askC ask0 := by
  have e := askLit_eq 0 0
  unfold ask0
  rw [← e]
  rfl
theorem ask_zcat2 : catA [[.int .i64 0], (catA [[.int .i64 0], [.string ⟨#[]⟩], [.int .i64 0], [.int .u32 0], [.int .u32 0], bytesV (zer 32)]).toList, [.string ⟨#[]⟩], [.int .i64 0], bytesV (zer 32)] = askC ask0 := by
  have e := askLit_eq 0 0
  unfold ask0
  rw [← e]
  rfl
theorem mayA_tok {q : List (BitVec 8)} (h : ¬ decT ((q.drop 1).take 46) = 0) : mayA (askQ q) = false := by
  have hk : tokOk ((q.drop 1).take 46) = false := by
    cases hk : tokOk ((q.drop 1).take 46) with
    | false => rfl
    | true => exact absurd (by unfold decT; rw [hk]; rfl) h
  have hc : mayC (askQ q).c = false := by
    show mayC (decC ((q.drop 1).take 46)) = false
    unfold decC
    rw [hk]
    rfl
  exact mayA_no (fun h => by rw [hc] at h; cases h.1)
theorem one_tokL (c : Clm) (t : List (BitVec 8)) : ∀ v ∈ (tokCells c t).toList, Value.oneCell' v = true := fun v hv => (Array.all_eq_true_iff_forall_mem.1 (one_tok c t)) v (by simpa using hv)
set_option maxHeartbeats 1600000 in
theorem rdec54 (g o cc : Nat) (q : List (BitVec 8)) (w : World) (hB : BAt w g o q) (hl : q.length = 54) (hc : 54 ≤ cc) :
    Calls Tryd.prog 11 #[.slice (some ⟨g, o, none⟩) 54 cc] w fun x w' => x = .returned (.tuple #[.agg (askC (decA q)), .int .i64 (decF q)]) ∧ Below w.heap.size w w' := by
  have HS := St.nil w noF
  have HB : ∀ W, Below w.heap.size w W → BAt W g o q := fun W hb => hB.call hb
  have HOKQ : (askQ q).Ok := ok_askQ (N := 54) hl
  obtain ⟨nE, HNE⟩ : ∃ nE, (encA (askQ q)).length = nE := ⟨_, rfl⟩
  have HNP : 0 < nE := by rw [← HNE]; unfold encA; simp [two]
  have HASK := hask54 q hl
  refine enter_env Tryd.func11 rfl Tryd.ntmps11 (Nat.le_of_ble_eq_true rfl) (fun a0 (HA0 : Env 79 [(0, .slice (some ⟨g, o, none⟩) 54 cc)] a0) => ?_)
  refine wp_seq ?_
  refine wp_region_lit ?_
  refine wl_does HA0 [0] (R := fun v w9 => ∃ g2, v = .pointer (some ⟨g2, 0, none⟩) ∧ St w noF [⟨g2, 31, catA [[.int .i64 0], [.int .i64 0], [.string (⟨#[]⟩)], [.int .i64 0], [.int .u32 0], [.int .u32 0], bytesV (zer 32), [.string (⟨#[]⟩)], [.int .i64 0], bytesV (zer 32)]⟩] w9) (want_n rfl) (dd_new HS (catA [[.int .i64 0], [.int .i64 0], [.string (⟨#[]⟩)], [.int .i64 0], [.int .u32 0], [.int .u32 0], bytesV (zer 32), [.string (⟨#[]⟩)], [.int .i64 0], bytesV (zer 32)]) rfl (z := .agg (catA [[.int .i64 0], [.int .i64 0], [.string (⟨#[]⟩)], [.int .i64 0], [.int .u32 0], [.int .u32 0], bytesV (zer 32), [.string (⟨#[]⟩)], [.int .i64 0], bytesV (zer 32)])) (by kernel_rfl) rfl (fun g9 w9 h9 => ⟨g9, rfl, h9⟩)) rfl ?_
  rintro _ W1 ⟨g2, rfl, HS1⟩ a1 (HA1 : Env 79 [(2, .pointer (some ⟨g2, 0, none⟩)), (0, .slice (some ⟨g, o, none⟩) 54 cc)] a1)
  clear HA0 a0 HS
  refine wl_is HA1 [0, 1] (v := .int .i64 0) (want_n rfl) (dd_rn (dd_as rfl rfl) ⟨rfl, rfl⟩) rfl (fun a2 (HA2 : Env 79 [(3, .int .i64 0), (2, .pointer (some ⟨g2, 0, none⟩)), (0, .slice (some ⟨g, o, none⟩) 54 cc)] a2) => ?_)
  clear HA1 a1
  refine wpList_nil ?_
  refine nx ?_
  refine wp_seq ?_
  refine wp_seq ?_
  refine wp_region_lit ?_
  refine wl_is HA2 [1, 2] (v := .slice (some ⟨g, o, none⟩) 54 cc) (want_n rfl) (dd_rn (dd_mv rfl (HA2.ev 2 rfl)) ⟨rfl, rfl⟩) rfl (fun a3 (HA3 : Env 79 [(10, .slice (some ⟨g, o, none⟩) 54 cc), (2, .pointer (some ⟨g2, 0, none⟩)), (0, .slice (some ⟨g, o, none⟩) 54 cc)] a3) => ?_)
  clear HA2 a2
  refine wl_is HA3 [1, 2] (v := .int .i64 54) (want_n rfl) (dd_rn (dd_len rfl (HA3.ev 0 rfl) Tryd.underlying32) ⟨rfl, rfl⟩) rfl (fun a4 (HA4 : Env 79 [(11, .int .i64 54), (2, .pointer (some ⟨g2, 0, none⟩)), (0, .slice (some ⟨g, o, none⟩) 54 cc)] a4) => ?_)
  clear HA3 a3
  refine wl_is HA4 [1, 2] (v := .bool false) (want_n rfl) (dd_rn (dd_cmp rfl (HA4.ev 0 rfl) rfl (ne_f (by decide))) ⟨rfl, rfl⟩) rfl (fun a5 (HA5 : Env 79 [(12, .bool false), (2, .pointer (some ⟨g2, 0, none⟩)), (0, .slice (some ⟨g, o, none⟩) 54 cc)] a5) => ?_)
  clear HA4 a4
  refine wl_is HA5 [1, 2] (v := .bool false) (want_n rfl) (dd_rn (dd_mv rfl (HA5.ev 0 rfl)) ⟨rfl, rfl⟩) rfl (fun a6 (HA6 : Env 79 [(13, .bool false), (2, .pointer (some ⟨g2, 0, none⟩)), (0, .slice (some ⟨g, o, none⟩) 54 cc)] a6) => ?_)
  clear HA5 a5
  refine wl_skip HA6 [0, 1, 2] (want_g rfl (t := 13) rfl (HA6.get 0 rfl) rfl) rfl (fun a7 (HA7 : Env 79 [(14, undef), (13, .bool false), (2, .pointer (some ⟨g2, 0, none⟩)), (0, .slice (some ⟨g, o, none⟩) 54 cc)] a7) => ?_)
  clear HA6 a6
  refine wl_skip HA7 [1, 2, 3] (want_g rfl (t := 13) rfl (HA7.get 1 rfl) rfl) rfl (fun a8 (HA8 : Env 79 [(15, undef), (13, .bool false), (2, .pointer (some ⟨g2, 0, none⟩)), (0, .slice (some ⟨g, o, none⟩) 54 cc)] a8) => ?_)
  clear HA7 a7
  refine wl_skip HA8 [1, 2, 3] (want_g rfl (t := 13) rfl (HA8.get 1 rfl) rfl) rfl (fun a9 (HA9 : Env 79 [(16, undef), (13, .bool false), (2, .pointer (some ⟨g2, 0, none⟩)), (0, .slice (some ⟨g, o, none⟩) 54 cc)] a9) => ?_)
  clear HA8 a8
  refine wl_is HA9 [2, 3] (v := .bool false) (want_n rfl) (dd_rn (dd_pickF rfl (HA9.ev 1 rfl) rfl) ⟨rfl, rfl⟩) rfl (fun a10 (HA10 : Env 79 [(17, .bool false), (2, .pointer (some ⟨g2, 0, none⟩)), (0, .slice (some ⟨g, o, none⟩) 54 cc)] a10) => ?_)
  clear HA9 a9
  refine wpList_nil ?_
  refine nx ?_
  refine wp_cond_false (HA10.ev 0 rfl) ?_
  refine wp_skip ?_
  refine nx ?_
  refine wp_seq ?_
  refine wp_region_lit ?_
  refine wl_is HA10 [1, 2] (v := .slice (some ⟨g, o, none⟩) 54 cc) (want_n rfl) (dd_rn (dd_mv rfl (HA10.ev 2 rfl)) ⟨rfl, rfl⟩) rfl (fun a11 (HA11 : Env 79 [(20, .slice (some ⟨g, o, none⟩) 54 cc), (2, .pointer (some ⟨g2, 0, none⟩)), (0, .slice (some ⟨g, o, none⟩) 54 cc)] a11) => ?_)
  clear HA10 a10
  refine wl_is HA11 [1, 2] (v := .slice (some ⟨g, o + 1, none⟩) 46 (cc - 1)) (want_n rfl) (dd_rn (dd_sllh (l := 1) (u := 47) (sz := 1) rfl (HA11.ev 0 rfl) rfl rfl (by kernel_rfl) (by decide) (by omega) (by omega) rfl rfl rfl) ⟨rfl, rfl⟩) rfl (fun a12 (HA12 : Env 79 [(21, .slice (some ⟨g, o + 1, none⟩) 46 (cc - 1)), (2, .pointer (some ⟨g2, 0, none⟩)), (0, .slice (some ⟨g, o, none⟩) 54 cc)] a12) => ?_)
  clear HA11 a11
  refine wl_does HA12 [1, 2] (R := fun v w9 => v = .tuple #[.agg (tokCells (decC ((q.drop 1).take 46)) (decG ((q.drop 1).take 46))), .int .i64 (decT ((q.drop 1).take 46))] ∧ Below W1.heap.size W1 w9) (want_n rfl) (dd_call Tryd.func25 (by kernel_rfl) (by kernel_rfl) rfl (args1 (HA12.ev 0 rfl)) (rtokdec_any _ _ ((q.drop 1).take 46) _ (len_take (len_drop hl rfl) (by decide)) W1 ((((HB _ HS1.below).drop 1).take 46).slice (len_take (len_drop hl rfl) (by decide)) (by omega))) (fun _ w9 h9 => ⟨_, h9.1, rfl, h9.2⟩)) rfl ?_
  rintro _ W13 ⟨rfl, hb13⟩ a13 (HA13 : Env 79 [(22, .tuple #[.agg (tokCells (decC ((q.drop 1).take 46)) (decG ((q.drop 1).take 46))), .int .i64 (decT ((q.drop 1).take 46))]), (2, .pointer (some ⟨g2, 0, none⟩)), (0, .slice (some ⟨g, o, none⟩) 54 cc)] a13)
  have HS13 := HS1.same hb13
  clear HA12 a12
  clear HS1 hb13
  refine wl_is HA13 [1, 2] (v := .tuple #[.agg (tokCells (decC ((q.drop 1).take 46)) (decG ((q.drop 1).take 46))), .int .i64 (decT ((q.drop 1).take 46))]) (want_n rfl) (dd_rn (dd_mv rfl (HA13.ev 0 rfl)) ⟨rfl, rfl⟩) rfl (fun a14 (HA14 : Env 79 [(19, .tuple #[.agg (tokCells (decC ((q.drop 1).take 46)) (decG ((q.drop 1).take 46))), .int .i64 (decT ((q.drop 1).take 46))]), (2, .pointer (some ⟨g2, 0, none⟩)), (0, .slice (some ⟨g, o, none⟩) 54 cc)] a14) => ?_)
  clear HA13 a13
  refine wl_is HA14 [0, 1, 2] (v := .agg (tokCells (decC ((q.drop 1).take 46)) (decG ((q.drop 1).take 46)))) (want_n rfl) (dd_rn (dd_ext rfl (HA14.ev 0 rfl) rfl) ⟨rfl, rfl⟩) rfl (fun a15 (HA15 : Env 79 [(23, .agg (tokCells (decC ((q.drop 1).take 46)) (decG ((q.drop 1).take 46)))), (19, .tuple #[.agg (tokCells (decC ((q.drop 1).take 46)) (decG ((q.drop 1).take 46))), .int .i64 (decT ((q.drop 1).take 46))]), (2, .pointer (some ⟨g2, 0, none⟩)), (0, .slice (some ⟨g, o, none⟩) 54 cc)] a15) => ?_)
  clear HA14 a14
  refine wl_is HA15 [0, 2, 3] (v := .int .i64 (decT ((q.drop 1).take 46))) (want_n rfl) (dd_rn (dd_ext rfl (HA15.ev 1 rfl) rfl) ⟨rfl, rfl⟩) rfl (fun a16 (HA16 : Env 79 [(24, .int .i64 (decT ((q.drop 1).take 46))), (23, .agg (tokCells (decC ((q.drop 1).take 46)) (decG ((q.drop 1).take 46)))), (2, .pointer (some ⟨g2, 0, none⟩)), (0, .slice (some ⟨g, o, none⟩) 54 cc)] a16) => ?_)
  clear HA15 a15
  refine wl_does HA16 [0, 1, 2, 3] (R := fun v w9 => ∃ g4, v = .pointer (some ⟨g4, 0, none⟩) ∧ St w noF [⟨g2, 31, catA [[.int .i64 0], [.int .i64 0], [.string (⟨#[]⟩)], [.int .i64 0], [.int .u32 0], [.int .u32 0], bytesV (zer 32), [.string (⟨#[]⟩)], [.int .i64 0], bytesV (zer 32)]⟩, ⟨g4, 28, catA [[.int .i64 0], [.string (⟨#[]⟩)], [.int .i64 0], [.int .u32 0], [.int .u32 0], bytesV (zer 32)]⟩] w9) (want_n rfl) (dd_new HS13 (catA [[.int .i64 0], [.string (⟨#[]⟩)], [.int .i64 0], [.int .u32 0], [.int .u32 0], bytesV (zer 32)]) rfl (z := .agg (catA [[.int .i64 0], [.string (⟨#[]⟩)], [.int .i64 0], [.int .u32 0], [.int .u32 0], bytesV (zer 32)])) (by kernel_rfl) rfl (fun g9 w9 h9 => ⟨g9, rfl, h9⟩)) rfl ?_
  rintro _ W17 ⟨g4, rfl, HS17⟩ a17 (HA17 : Env 79 [(4, .pointer (some ⟨g4, 0, none⟩)), (24, .int .i64 (decT ((q.drop 1).take 46))), (23, .agg (tokCells (decC ((q.drop 1).take 46)) (decG ((q.drop 1).take 46)))), (2, .pointer (some ⟨g2, 0, none⟩)), (0, .slice (some ⟨g, o, none⟩) 54 cc)] a17)
  clear HA16 a16 HS13
  refine wl_does HA17 [0, 1, 3, 4] (R := fun v9 w9 => St w noF [⟨g2, 31, catA [[.int .i64 0], [.int .i64 0], [.string (⟨#[]⟩)], [.int .i64 0], [.int .u32 0], [.int .u32 0], bytesV (zer 32), [.string (⟨#[]⟩)], [.int .i64 0], bytesV (zer 32)]⟩, ⟨g4, 28, tokCells (decC ((q.drop 1).take 46)) (decG ((q.drop 1).take 46))⟩] w9) (want_n rfl) (dd_setrow HS17 1 rfl rfl (HA17.ev 0 rfl) (HA17.ev 2 rfl) (by kernel_rfl) ((tok_size _ _ (length_decG _)) : (tokCells (decC ((q.drop 1).take 46)) (decG ((q.drop 1).take 46))).size = 37) ((cat_size (lens_cons rfl (lens_cons rfl (lens_cons rfl (lens_cons rfl (lens_cons rfl (lens_cons (len_bv (length_zer 32)) (lens_nil)))))))) : (catA [[.int .i64 0], [.string (⟨#[]⟩)], [.int .i64 0], [.int .u32 0], [.int .u32 0], bytesV (zer 32)]).size = 37) (one_tok _ _) (fun w9 h9 => h9)) rfl ?_
  rintro _ W18 HS18 a18 (HA18 : Env 79 [(4, .pointer (some ⟨g4, 0, none⟩)), (24, .int .i64 (decT ((q.drop 1).take 46))), (2, .pointer (some ⟨g2, 0, none⟩)), (0, .slice (some ⟨g, o, none⟩) 54 cc)] a18)
  clear HA17 a17 HS17
  refine wl_is HA18 [0, 2, 3] (v := .int .i64 (decT ((q.drop 1).take 46))) (want_n rfl) (dd_rn (dd_as rfl (HA18.ev 1 rfl)) ⟨rfl, rfl⟩) rfl (fun a19 (HA19 : Env 79 [(5, .int .i64 (decT ((q.drop 1).take 46))), (4, .pointer (some ⟨g4, 0, none⟩)), (2, .pointer (some ⟨g2, 0, none⟩)), (0, .slice (some ⟨g, o, none⟩) 54 cc)] a19) => ?_)
  clear HA18 a18
  refine wpList_nil ?_
  refine nx ?_
  refine wp_seq ?_
  refine wp_cut (fun a9 w9 => ∃ g6 : Nat, Env 79 [(6, .pointer (some ⟨g6, 0, none⟩)), (5, .int .i64 (decT ((q.drop 1).take 46))), (4, .pointer (some ⟨g4, 0, none⟩)), (2, .pointer (some ⟨g2, 0, none⟩)), (0, .slice (some ⟨g, o, none⟩) 54 cc)] a9 ∧ St w noF [⟨g2, 31, catA [[.int .i64 0], [.int .i64 0], [.string (⟨#[]⟩)], [.int .i64 0], [.int .u32 0], [.int .u32 0], bytesV (zer 32), [.string (⟨#[]⟩)], [.int .i64 0], bytesV (zer 32)]⟩, ⟨g4, 28, tokCells (decC ((q.drop 1).take 46)) (decG ((q.drop 1).take 46))⟩, ⟨g6, 64, nmC (cutN ([(q.getD 47 0#8), (q.getD 48 0#8), (q.getD 49 0#8), (q.getD 50 0#8)])).1 (cutN ([(q.getD 47 0#8), (q.getD 48 0#8), (q.getD 49 0#8), (q.getD 50 0#8)])).2⟩] w9) ?_ ?_
  · skip
    refine wp_held (fun W => ∃ R9, St w noF (⟨g2, 31, catA [[.int .i64 0], [.int .i64 0], [.string (⟨#[]⟩)], [.int .i64 0], [.int .u32 0], [.int .u32 0], bytesV (zer 32), [.string (⟨#[]⟩)], [.int .i64 0], bytesV (zer 32)]⟩ :: ⟨g4, 28, tokCells (decC ((q.drop 1).take 46)) (decG ((q.drop 1).take 46))⟩ :: R9) W) (by kernel_rfl) rfl ?_
    have HSh20 := HS18.drew
    clear HS18
    refine ha_take HA19 [0, 1, 2, 3] (i := 0) (.slice (some ⟨g, o, none⟩) 54 cc) rfl (by kernel_rfl) (by kernel_rfl) (by kernel_rfl) (pq_then (pq_then pq_body)) (want_n rfl) (fun w9 ⟨R9, HS9⟩ => dd_mv rfl (HA19.ev 3 rfl)) ⟨_, st_sel HSh20 [0, 1] (by decide)⟩ rfl (fun a21 (HA21 : Env 79 [(25, .slice (some ⟨g, o, none⟩) 54 cc), (5, .int .i64 (decT ((q.drop 1).take 46))), (4, .pointer (some ⟨g4, 0, none⟩)), (2, .pointer (some ⟨g2, 0, none⟩)), (0, .slice (some ⟨g, o, none⟩) 54 cc)] a21) => ?_)
    clear HA19 a19
    refine ha_take HA21 [1, 2, 3, 4] (i := 1) (.pointer (some ⟨g, o + 47, none⟩)) rfl (by kernel_rfl) (by kernel_rfl) (by kernel_rfl) (pq_then (pq_then pq_body)) (want_n rfl) (fun w9 ⟨R9, HS9⟩ => dd_idxS (sz := 1) (j := o + 47) rfl (HA21.ev 0 rfl) rfl (by kernel_rfl) (by decide) (by decide) rfl) ⟨_, st_sel HSh20 [0, 1] (by decide)⟩ rfl (fun a22 (HA22 : Env 79 [(26, .pointer (some ⟨g, o + 47, none⟩)), (5, .int .i64 (decT ((q.drop 1).take 46))), (4, .pointer (some ⟨g4, 0, none⟩)), (2, .pointer (some ⟨g2, 0, none⟩)), (0, .slice (some ⟨g, o, none⟩) 54 cc)] a22) => ?_)
    clear HA21 a21
    refine ha_take HA22 [1, 2, 3, 4] (i := 2) (.int .u8 (bd (q.getD 47 0#8))) rfl (by kernel_rfl) (by kernel_rfl) (by kernel_rfl) (pq_then (pq_then pq_body)) (want_n rfl) (fun w9 ⟨R9, HS9⟩ => dd_at rfl (HA22.ev 0 rfl) ((HB _ HS9.below).get 47 (by rw [hl]; decide)) Tryd.underlying5 rfl) ⟨_, st_sel HSh20 [0, 1] (by decide)⟩ rfl (fun a23 (HA23 : Env 79 [(27, .int .u8 (bd (q.getD 47 0#8))), (5, .int .i64 (decT ((q.drop 1).take 46))), (4, .pointer (some ⟨g4, 0, none⟩)), (2, .pointer (some ⟨g2, 0, none⟩)), (0, .slice (some ⟨g, o, none⟩) 54 cc)] a23) => ?_)
    clear HA22 a22
    refine ha_take HA23 [0, 1, 2, 3, 4] (i := 3) (.slice (some ⟨g, o, none⟩) 54 cc) rfl (by kernel_rfl) (by kernel_rfl) (by kernel_rfl) (pq_then (pq_then pq_body)) (want_n rfl) (fun w9 ⟨R9, HS9⟩ => dd_mv rfl (HA23.ev 4 rfl)) ⟨_, st_sel HSh20 [0, 1] (by decide)⟩ rfl (fun a24 (HA24 : Env 79 [(28, .slice (some ⟨g, o, none⟩) 54 cc), (27, .int .u8 (bd (q.getD 47 0#8))), (5, .int .i64 (decT ((q.drop 1).take 46))), (4, .pointer (some ⟨g4, 0, none⟩)), (2, .pointer (some ⟨g2, 0, none⟩)), (0, .slice (some ⟨g, o, none⟩) 54 cc)] a24) => ?_)
    clear HA23 a23
    refine ha_take HA24 [1, 2, 3, 4, 5] (i := 4) (.pointer (some ⟨g, o + 48, none⟩)) rfl (by kernel_rfl) (by kernel_rfl) (by kernel_rfl) (pq_then (pq_then pq_body)) (want_n rfl) (fun w9 ⟨R9, HS9⟩ => dd_idxS (sz := 1) (j := o + 48) rfl (HA24.ev 0 rfl) rfl (by kernel_rfl) (by decide) (by decide) rfl) ⟨_, st_sel HSh20 [0, 1] (by decide)⟩ rfl (fun a25 (HA25 : Env 79 [(29, .pointer (some ⟨g, o + 48, none⟩)), (27, .int .u8 (bd (q.getD 47 0#8))), (5, .int .i64 (decT ((q.drop 1).take 46))), (4, .pointer (some ⟨g4, 0, none⟩)), (2, .pointer (some ⟨g2, 0, none⟩)), (0, .slice (some ⟨g, o, none⟩) 54 cc)] a25) => ?_)
    clear HA24 a24
    refine ha_take HA25 [1, 2, 3, 4, 5] (i := 5) (.int .u8 (bd (q.getD 48 0#8))) rfl (by kernel_rfl) (by kernel_rfl) (by kernel_rfl) (pq_then (pq_then pq_body)) (want_n rfl) (fun w9 ⟨R9, HS9⟩ => dd_at rfl (HA25.ev 0 rfl) ((HB _ HS9.below).get 48 (by rw [hl]; decide)) Tryd.underlying5 rfl) ⟨_, st_sel HSh20 [0, 1] (by decide)⟩ rfl (fun a26 (HA26 : Env 79 [(30, .int .u8 (bd (q.getD 48 0#8))), (27, .int .u8 (bd (q.getD 47 0#8))), (5, .int .i64 (decT ((q.drop 1).take 46))), (4, .pointer (some ⟨g4, 0, none⟩)), (2, .pointer (some ⟨g2, 0, none⟩)), (0, .slice (some ⟨g, o, none⟩) 54 cc)] a26) => ?_)
    clear HA25 a25
    refine ha_take HA26 [0, 1, 2, 3, 4, 5] (i := 6) (.slice (some ⟨g, o, none⟩) 54 cc) rfl (by kernel_rfl) (by kernel_rfl) (by kernel_rfl) (pq_then (pq_then pq_body)) (want_n rfl) (fun w9 ⟨R9, HS9⟩ => dd_mv rfl (HA26.ev 5 rfl)) ⟨_, st_sel HSh20 [0, 1] (by decide)⟩ rfl (fun a27 (HA27 : Env 79 [(31, .slice (some ⟨g, o, none⟩) 54 cc), (30, .int .u8 (bd (q.getD 48 0#8))), (27, .int .u8 (bd (q.getD 47 0#8))), (5, .int .i64 (decT ((q.drop 1).take 46))), (4, .pointer (some ⟨g4, 0, none⟩)), (2, .pointer (some ⟨g2, 0, none⟩)), (0, .slice (some ⟨g, o, none⟩) 54 cc)] a27) => ?_)
    clear HA26 a26
    refine ha_take HA27 [1, 2, 3, 4, 5, 6] (i := 7) (.pointer (some ⟨g, o + 49, none⟩)) rfl (by kernel_rfl) (by kernel_rfl) (by kernel_rfl) (pq_then (pq_then pq_body)) (want_n rfl) (fun w9 ⟨R9, HS9⟩ => dd_idxS (sz := 1) (j := o + 49) rfl (HA27.ev 0 rfl) rfl (by kernel_rfl) (by decide) (by decide) rfl) ⟨_, st_sel HSh20 [0, 1] (by decide)⟩ rfl (fun a28 (HA28 : Env 79 [(32, .pointer (some ⟨g, o + 49, none⟩)), (30, .int .u8 (bd (q.getD 48 0#8))), (27, .int .u8 (bd (q.getD 47 0#8))), (5, .int .i64 (decT ((q.drop 1).take 46))), (4, .pointer (some ⟨g4, 0, none⟩)), (2, .pointer (some ⟨g2, 0, none⟩)), (0, .slice (some ⟨g, o, none⟩) 54 cc)] a28) => ?_)
    clear HA27 a27
    refine ha_take HA28 [1, 2, 3, 4, 5, 6] (i := 8) (.int .u8 (bd (q.getD 49 0#8))) rfl (by kernel_rfl) (by kernel_rfl) (by kernel_rfl) (pq_then (pq_then pq_body)) (want_n rfl) (fun w9 ⟨R9, HS9⟩ => dd_at rfl (HA28.ev 0 rfl) ((HB _ HS9.below).get 49 (by rw [hl]; decide)) Tryd.underlying5 rfl) ⟨_, st_sel HSh20 [0, 1] (by decide)⟩ rfl (fun a29 (HA29 : Env 79 [(33, .int .u8 (bd (q.getD 49 0#8))), (30, .int .u8 (bd (q.getD 48 0#8))), (27, .int .u8 (bd (q.getD 47 0#8))), (5, .int .i64 (decT ((q.drop 1).take 46))), (4, .pointer (some ⟨g4, 0, none⟩)), (2, .pointer (some ⟨g2, 0, none⟩)), (0, .slice (some ⟨g, o, none⟩) 54 cc)] a29) => ?_)
    clear HA28 a28
    refine ha_take HA29 [0, 1, 2, 3, 4, 5, 6] (i := 9) (.slice (some ⟨g, o, none⟩) 54 cc) rfl (by kernel_rfl) (by kernel_rfl) (by kernel_rfl) (pq_then (pq_then pq_body)) (want_n rfl) (fun w9 ⟨R9, HS9⟩ => dd_mv rfl (HA29.ev 6 rfl)) ⟨_, st_sel HSh20 [0, 1] (by decide)⟩ rfl (fun a30 (HA30 : Env 79 [(34, .slice (some ⟨g, o, none⟩) 54 cc), (33, .int .u8 (bd (q.getD 49 0#8))), (30, .int .u8 (bd (q.getD 48 0#8))), (27, .int .u8 (bd (q.getD 47 0#8))), (5, .int .i64 (decT ((q.drop 1).take 46))), (4, .pointer (some ⟨g4, 0, none⟩)), (2, .pointer (some ⟨g2, 0, none⟩)), (0, .slice (some ⟨g, o, none⟩) 54 cc)] a30) => ?_)
    clear HA29 a29
    refine ha_take HA30 [1, 2, 3, 4, 5, 6, 7] (i := 10) (.pointer (some ⟨g, o + 50, none⟩)) rfl (by kernel_rfl) (by kernel_rfl) (by kernel_rfl) (pq_then (pq_then pq_body)) (want_n rfl) (fun w9 ⟨R9, HS9⟩ => dd_idxS (sz := 1) (j := o + 50) rfl (HA30.ev 0 rfl) rfl (by kernel_rfl) (by decide) (by decide) rfl) ⟨_, st_sel HSh20 [0, 1] (by decide)⟩ rfl (fun a31 (HA31 : Env 79 [(35, .pointer (some ⟨g, o + 50, none⟩)), (33, .int .u8 (bd (q.getD 49 0#8))), (30, .int .u8 (bd (q.getD 48 0#8))), (27, .int .u8 (bd (q.getD 47 0#8))), (5, .int .i64 (decT ((q.drop 1).take 46))), (4, .pointer (some ⟨g4, 0, none⟩)), (2, .pointer (some ⟨g2, 0, none⟩)), (0, .slice (some ⟨g, o, none⟩) 54 cc)] a31) => ?_)
    clear HA30 a30
    refine ha_take HA31 [1, 2, 3, 4, 5, 6, 7] (i := 11) (.int .u8 (bd (q.getD 50 0#8))) rfl (by kernel_rfl) (by kernel_rfl) (by kernel_rfl) (pq_then (pq_then pq_body)) (want_n rfl) (fun w9 ⟨R9, HS9⟩ => dd_at rfl (HA31.ev 0 rfl) ((HB _ HS9.below).get 50 (by rw [hl]; decide)) Tryd.underlying5 rfl) ⟨_, st_sel HSh20 [0, 1] (by decide)⟩ rfl (fun a32 (HA32 : Env 79 [(36, .int .u8 (bd (q.getD 50 0#8))), (33, .int .u8 (bd (q.getD 49 0#8))), (30, .int .u8 (bd (q.getD 48 0#8))), (27, .int .u8 (bd (q.getD 47 0#8))), (5, .int .i64 (decT ((q.drop 1).take 46))), (4, .pointer (some ⟨g4, 0, none⟩)), (2, .pointer (some ⟨g2, 0, none⟩)), (0, .slice (some ⟨g, o, none⟩) 54 cc)] a32) => ?_)
    clear HA31 a31
    refine ha_take HA32 [4, 5, 6, 7] (i := 12) (.agg (bs ([(q.getD 47 0#8), (q.getD 48 0#8), (q.getD 49 0#8), (q.getD 50 0#8)]))) rfl (by kernel_rfl) (by kernel_rfl) (by kernel_rfl) (pq_then (pq_then pq_body)) (want_n rfl) (fun w9 ⟨R9, HS9⟩ => dd_bldk rfl (ps := [(0, .int .u8 (bd (q.getD 47 0#8))), (1, .int .u8 (bd (q.getD 48 0#8))), (2, .int .u8 (bd (q.getD 49 0#8))), (3, .int .u8 (bd (q.getD 50 0#8)))]) (pr1 (HA32.ev 3 rfl) (pr1 (HA32.ev 2 rfl) (pr1 (HA32.ev 1 rfl) (pr1 (HA32.ev 0 rfl) (pr0))))) (cs := bs ([(q.getD 47 0#8), (q.getD 48 0#8), (q.getD 49 0#8), (q.getD 50 0#8)])) (by kernel_rfl)) ⟨_, st_sel HSh20 [0, 1] (by decide)⟩ rfl (fun a33 (HA33 : Env 79 [(37, .agg (bs ([(q.getD 47 0#8), (q.getD 48 0#8), (q.getD 49 0#8), (q.getD 50 0#8)]))), (5, .int .i64 (decT ((q.drop 1).take 46))), (4, .pointer (some ⟨g4, 0, none⟩)), (2, .pointer (some ⟨g2, 0, none⟩)), (0, .slice (some ⟨g, o, none⟩) 54 cc)] a33) => ?_)
    clear HA32 a32
    refine wpAnyH_all (rs := [13, 14]) (by kernel_rfl) (by decide) (hm_cons ?_ (hm_cons ?_ hm_nil))
    · skip
      refine ho_does HA33 [1, 2, 3, 4] (R := fun v w9 => v = .agg (nmC (cutN ([(q.getD 47 0#8), (q.getD 48 0#8), (q.getD 49 0#8), (q.getD 50 0#8)])).1 (cutN ([(q.getD 47 0#8), (q.getD 48 0#8), (q.getD 49 0#8), (q.getD 50 0#8)])).2) ∧ Below W18.drew.heap.size W18.drew w9) rfl (want_n rfl) (dd_call Tryd.func26 (by kernel_rfl) (by kernel_rfl) rfl (args1 (HA33.ev 0 rfl)) (refcutn_any ([(q.getD 47 0#8), (q.getD 48 0#8), (q.getD 49 0#8), (q.getD 50 0#8)]) W18.drew rfl) (fun _ w9 h9 => ⟨_, h9.1, rfl, h9.2⟩)) rfl ?_
      rintro _ W34 ⟨rfl, hb34⟩ a34 (HA34 : Env 79 [(38, .agg (nmC (cutN ([(q.getD 47 0#8), (q.getD 48 0#8), (q.getD 49 0#8), (q.getD 50 0#8)])).1 (cutN ([(q.getD 47 0#8), (q.getD 48 0#8), (q.getD 49 0#8), (q.getD 50 0#8)])).2)), (5, .int .i64 (decT ((q.drop 1).take 46))), (4, .pointer (some ⟨g4, 0, none⟩)), (2, .pointer (some ⟨g2, 0, none⟩)), (0, .slice (some ⟨g, o, none⟩) 54 cc)] a34)
      have HS34 := HSh20.same hb34
      clear HA33 a33
      clear HSh20 hb34
      refine ⟨⟨_, st_sel HS34 [0, 1] (by decide)⟩, ?_⟩
      refine wpAnyH_all (rs := [14]) (by kernel_rfl) (by decide) (hm_cons ?_ hm_nil)
      · skip
        refine ho_does HA34 [0, 1, 2, 3, 4] (R := fun v w9 => ∃ g6, v = .pointer (some ⟨g6, 0, none⟩) ∧ St w noF [⟨g2, 31, catA [[.int .i64 0], [.int .i64 0], [.string (⟨#[]⟩)], [.int .i64 0], [.int .u32 0], [.int .u32 0], bytesV (zer 32), [.string (⟨#[]⟩)], [.int .i64 0], bytesV (zer 32)]⟩, ⟨g4, 28, tokCells (decC ((q.drop 1).take 46)) (decG ((q.drop 1).take 46))⟩, ⟨g6, 64, #[.string (⟨#[]⟩), .bool false]⟩] w9) rfl (want_n rfl) (dd_new HS34 #[.string (⟨#[]⟩), .bool false] rfl (z := .agg #[.string (⟨#[]⟩), .bool false]) (by kernel_rfl) rfl (fun g9 w9 h9 => ⟨g9, rfl, h9⟩)) rfl ?_
        rintro _ W35 ⟨g6, rfl, HS35⟩ a35 (HA35 : Env 79 [(6, .pointer (some ⟨g6, 0, none⟩)), (38, .agg (nmC (cutN ([(q.getD 47 0#8), (q.getD 48 0#8), (q.getD 49 0#8), (q.getD 50 0#8)])).1 (cutN ([(q.getD 47 0#8), (q.getD 48 0#8), (q.getD 49 0#8), (q.getD 50 0#8)])).2)), (5, .int .i64 (decT ((q.drop 1).take 46))), (4, .pointer (some ⟨g4, 0, none⟩)), (2, .pointer (some ⟨g2, 0, none⟩)), (0, .slice (some ⟨g, o, none⟩) 54 cc)] a35)
        clear HA34 a34 HS34
        refine ⟨⟨_, st_sel HS35 [0, 1, 2] (by decide)⟩, ?_⟩
        refine wpAnyH_all (rs := [15]) (by kernel_rfl) (by decide) (hm_cons ?_ hm_nil)
        · skip
          refine ho_does HA35 [0, 2, 3, 4, 5] (R := fun v9 w9 => St w noF [⟨g2, 31, catA [[.int .i64 0], [.int .i64 0], [.string (⟨#[]⟩)], [.int .i64 0], [.int .u32 0], [.int .u32 0], bytesV (zer 32), [.string (⟨#[]⟩)], [.int .i64 0], bytesV (zer 32)]⟩, ⟨g4, 28, tokCells (decC ((q.drop 1).take 46)) (decG ((q.drop 1).take 46))⟩, ⟨g6, 64, nmC (cutN ([(q.getD 47 0#8), (q.getD 48 0#8), (q.getD 49 0#8), (q.getD 50 0#8)])).1 (cutN ([(q.getD 47 0#8), (q.getD 48 0#8), (q.getD 49 0#8), (q.getD 50 0#8)])).2⟩] w9) rfl (want_n rfl) (dd_setrow HS35 2 rfl rfl (HA35.ev 0 rfl) (HA35.ev 1 rfl) (by kernel_rfl) (rfl : (nmC (cutN ([(q.getD 47 0#8), (q.getD 48 0#8), (q.getD 49 0#8), (q.getD 50 0#8)])).1 (cutN ([(q.getD 47 0#8), (q.getD 48 0#8), (q.getD 49 0#8), (q.getD 50 0#8)])).2).size = 2) (rfl : #[.string (⟨#[]⟩), .bool false].size = 2) (one_l (ao_cons rfl (ao_cons rfl ao_nil))) (fun w9 h9 => h9)) rfl ?_
          rintro _ W36 HS36 a36 (HA36 : Env 79 [(6, .pointer (some ⟨g6, 0, none⟩)), (5, .int .i64 (decT ((q.drop 1).take 46))), (4, .pointer (some ⟨g4, 0, none⟩)), (2, .pointer (some ⟨g2, 0, none⟩)), (0, .slice (some ⟨g, o, none⟩) 54 cc)] a36)
          clear HA35 a35 HS35
          refine ⟨⟨_, st_sel HS36 [0, 1, 2] (by decide)⟩, ?_⟩
          refine wpAnyH_done (by kernel_rfl) ?_ _
          exact nx ⟨g6, HA36.keep [0, 1, 2, 3, 4], st_sel HS36 [0, 1, 2] (by decide)⟩
    · skip
      refine ho_does HA33 [0, 1, 2, 3, 4] (R := fun v w9 => ∃ g6, v = .pointer (some ⟨g6, 0, none⟩) ∧ St w noF [⟨g2, 31, catA [[.int .i64 0], [.int .i64 0], [.string (⟨#[]⟩)], [.int .i64 0], [.int .u32 0], [.int .u32 0], bytesV (zer 32), [.string (⟨#[]⟩)], [.int .i64 0], bytesV (zer 32)]⟩, ⟨g4, 28, tokCells (decC ((q.drop 1).take 46)) (decG ((q.drop 1).take 46))⟩, ⟨g6, 64, #[.string (⟨#[]⟩), .bool false]⟩] w9) rfl (want_n rfl) (dd_new HSh20 #[.string (⟨#[]⟩), .bool false] rfl (z := .agg #[.string (⟨#[]⟩), .bool false]) (by kernel_rfl) rfl (fun g9 w9 h9 => ⟨g9, rfl, h9⟩)) rfl ?_
      rintro _ W37 ⟨g6, rfl, HS37⟩ a37 (HA37 : Env 79 [(6, .pointer (some ⟨g6, 0, none⟩)), (37, .agg (bs ([(q.getD 47 0#8), (q.getD 48 0#8), (q.getD 49 0#8), (q.getD 50 0#8)]))), (5, .int .i64 (decT ((q.drop 1).take 46))), (4, .pointer (some ⟨g4, 0, none⟩)), (2, .pointer (some ⟨g2, 0, none⟩)), (0, .slice (some ⟨g, o, none⟩) 54 cc)] a37)
      clear HA33 a33 HSh20
      refine ⟨⟨_, st_sel HS37 [0, 1, 2] (by decide)⟩, ?_⟩
      refine wpAnyH_all (rs := [13]) (by kernel_rfl) (by decide) (hm_cons ?_ hm_nil)
      · skip
        refine ho_does HA37 [0, 2, 3, 4, 5] (R := fun v w9 => v = .agg (nmC (cutN ([(q.getD 47 0#8), (q.getD 48 0#8), (q.getD 49 0#8), (q.getD 50 0#8)])).1 (cutN ([(q.getD 47 0#8), (q.getD 48 0#8), (q.getD 49 0#8), (q.getD 50 0#8)])).2) ∧ Below W37.heap.size W37 w9) rfl (want_n rfl) (dd_call Tryd.func26 (by kernel_rfl) (by kernel_rfl) rfl (args1 (HA37.ev 1 rfl)) (refcutn_any ([(q.getD 47 0#8), (q.getD 48 0#8), (q.getD 49 0#8), (q.getD 50 0#8)]) W37 rfl) (fun _ w9 h9 => ⟨_, h9.1, rfl, h9.2⟩)) rfl ?_
        rintro _ W38 ⟨rfl, hb38⟩ a38 (HA38 : Env 79 [(38, .agg (nmC (cutN ([(q.getD 47 0#8), (q.getD 48 0#8), (q.getD 49 0#8), (q.getD 50 0#8)])).1 (cutN ([(q.getD 47 0#8), (q.getD 48 0#8), (q.getD 49 0#8), (q.getD 50 0#8)])).2)), (6, .pointer (some ⟨g6, 0, none⟩)), (5, .int .i64 (decT ((q.drop 1).take 46))), (4, .pointer (some ⟨g4, 0, none⟩)), (2, .pointer (some ⟨g2, 0, none⟩)), (0, .slice (some ⟨g, o, none⟩) 54 cc)] a38)
        have HS38 := HS37.same hb38
        clear HA37 a37
        clear HS37 hb38
        refine ⟨⟨_, st_sel HS38 [0, 1, 2] (by decide)⟩, ?_⟩
        refine wpAnyH_all (rs := [15]) (by kernel_rfl) (by decide) (hm_cons ?_ hm_nil)
        · skip
          refine ho_does HA38 [1, 2, 3, 4, 5] (R := fun v9 w9 => St w noF [⟨g2, 31, catA [[.int .i64 0], [.int .i64 0], [.string (⟨#[]⟩)], [.int .i64 0], [.int .u32 0], [.int .u32 0], bytesV (zer 32), [.string (⟨#[]⟩)], [.int .i64 0], bytesV (zer 32)]⟩, ⟨g4, 28, tokCells (decC ((q.drop 1).take 46)) (decG ((q.drop 1).take 46))⟩, ⟨g6, 64, nmC (cutN ([(q.getD 47 0#8), (q.getD 48 0#8), (q.getD 49 0#8), (q.getD 50 0#8)])).1 (cutN ([(q.getD 47 0#8), (q.getD 48 0#8), (q.getD 49 0#8), (q.getD 50 0#8)])).2⟩] w9) rfl (want_n rfl) (dd_setrow HS38 2 rfl rfl (HA38.ev 1 rfl) (HA38.ev 0 rfl) (by kernel_rfl) (rfl : (nmC (cutN ([(q.getD 47 0#8), (q.getD 48 0#8), (q.getD 49 0#8), (q.getD 50 0#8)])).1 (cutN ([(q.getD 47 0#8), (q.getD 48 0#8), (q.getD 49 0#8), (q.getD 50 0#8)])).2).size = 2) (rfl : #[.string (⟨#[]⟩), .bool false].size = 2) (one_l (ao_cons rfl (ao_cons rfl ao_nil))) (fun w9 h9 => h9)) rfl ?_
          rintro _ W39 HS39 a39 (HA39 : Env 79 [(6, .pointer (some ⟨g6, 0, none⟩)), (5, .int .i64 (decT ((q.drop 1).take 46))), (4, .pointer (some ⟨g4, 0, none⟩)), (2, .pointer (some ⟨g2, 0, none⟩)), (0, .slice (some ⟨g, o, none⟩) 54 cc)] a39)
          clear HA38 a38 HS38
          refine ⟨⟨_, st_sel HS39 [0, 1, 2] (by decide)⟩, ?_⟩
          refine wpAnyH_done (by kernel_rfl) ?_ _
          exact nx ⟨g6, HA39.keep [0, 1, 2, 3, 4], st_sel HS39 [0, 1, 2] (by decide)⟩
  · skip
    rintro aj20 wj20 ⟨g6, HAj20, HSj20⟩
    refine nx ?_
    refine wp_seq ?_
    refine wp_held (fun W => ∃ R9, St w noF (⟨g2, 31, catA [[.int .i64 0], [.int .i64 0], [.string (⟨#[]⟩)], [.int .i64 0], [.int .u32 0], [.int .u32 0], bytesV (zer 32), [.string (⟨#[]⟩)], [.int .i64 0], bytesV (zer 32)]⟩ :: ⟨g4, 28, tokCells (decC ((q.drop 1).take 46)) (decG ((q.drop 1).take 46))⟩ :: ⟨g6, 64, nmC (cutN ([(q.getD 47 0#8), (q.getD 48 0#8), (q.getD 49 0#8), (q.getD 50 0#8)])).1 (cutN ([(q.getD 47 0#8), (q.getD 48 0#8), (q.getD 49 0#8), (q.getD 50 0#8)])).2⟩ :: R9) W) (by kernel_rfl) rfl ?_
    have HSh41 := HSj20.drew
    clear HSj20
    refine ha_take HAj20 [0, 1, 2, 3, 4] (i := 0) (.slice (some ⟨g, o, none⟩) 54 cc) rfl (by kernel_rfl) (by kernel_rfl) (by kernel_rfl) (pq_then pq_body) (want_n rfl) (fun w9 ⟨R9, HS9⟩ => dd_mv rfl (HAj20.ev 4 rfl)) ⟨_, st_sel HSh41 [0, 1, 2] (by decide)⟩ rfl (fun a42 (HA42 : Env 79 [(39, .slice (some ⟨g, o, none⟩) 54 cc), (6, .pointer (some ⟨g6, 0, none⟩)), (5, .int .i64 (decT ((q.drop 1).take 46))), (4, .pointer (some ⟨g4, 0, none⟩)), (2, .pointer (some ⟨g2, 0, none⟩)), (0, .slice (some ⟨g, o, none⟩) 54 cc)] a42) => ?_)
    clear HAj20 aj20
    refine ha_take HA42 [1, 2, 3, 4, 5] (i := 1) (.pointer (some ⟨g, o + 0, none⟩)) rfl (by kernel_rfl) (by kernel_rfl) (by kernel_rfl) (pq_then pq_body) (want_n rfl) (fun w9 ⟨R9, HS9⟩ => dd_idxS (sz := 1) (j := o + 0) rfl (HA42.ev 0 rfl) rfl (by kernel_rfl) (by decide) (by decide) rfl) ⟨_, st_sel HSh41 [0, 1, 2] (by decide)⟩ rfl (fun a43 (HA43 : Env 79 [(40, .pointer (some ⟨g, o + 0, none⟩)), (6, .pointer (some ⟨g6, 0, none⟩)), (5, .int .i64 (decT ((q.drop 1).take 46))), (4, .pointer (some ⟨g4, 0, none⟩)), (2, .pointer (some ⟨g2, 0, none⟩)), (0, .slice (some ⟨g, o, none⟩) 54 cc)] a43) => ?_)
    clear HA42 a42
    refine ha_take HA43 [1, 2, 3, 4, 5] (i := 2) (.int .u8 (bd (q.getD 0 0#8))) rfl (by kernel_rfl) (by kernel_rfl) (by kernel_rfl) (pq_then pq_body) (want_n rfl) (fun w9 ⟨R9, HS9⟩ => dd_at rfl (HA43.ev 0 rfl) ((HB _ HS9.below).get 0 (by rw [hl]; decide)) Tryd.underlying5 rfl) ⟨_, st_sel HSh41 [0, 1, 2] (by decide)⟩ rfl (fun a44 (HA44 : Env 79 [(41, .int .u8 (bd (q.getD 0 0#8))), (6, .pointer (some ⟨g6, 0, none⟩)), (5, .int .i64 (decT ((q.drop 1).take 46))), (4, .pointer (some ⟨g4, 0, none⟩)), (2, .pointer (some ⟨g2, 0, none⟩)), (0, .slice (some ⟨g, o, none⟩) 54 cc)] a44) => ?_)
    clear HA43 a43
    refine ha_take HA44 [1, 2, 3, 4, 5] (i := 3) (.int .i64 (bd (q.getD 0 0#8))) rfl (by kernel_rfl) (by kernel_rfl) (by kernel_rfl) (pq_then pq_body) (want_n rfl) (fun w9 ⟨R9, HS9⟩ => dd_conv (k := .i64) rfl (HA44.ev 0 rfl) Tryd.underlying5 (by kernel_rfl) (i64_bd _)) ⟨_, st_sel HSh41 [0, 1, 2] (by decide)⟩ rfl (fun a45 (HA45 : Env 79 [(42, .int .i64 (bd (q.getD 0 0#8))), (6, .pointer (some ⟨g6, 0, none⟩)), (5, .int .i64 (decT ((q.drop 1).take 46))), (4, .pointer (some ⟨g4, 0, none⟩)), (2, .pointer (some ⟨g2, 0, none⟩)), (0, .slice (some ⟨g, o, none⟩) 54 cc)] a45) => ?_)
    clear HA44 a44
    refine ha_take HA45 [0, 1, 2, 4, 5] (i := 4) (.agg (tokCells (decC ((q.drop 1).take 46)) (decG ((q.drop 1).take 46)))) rfl (by kernel_rfl) (by kernel_rfl) (by kernel_rfl) (pq_then pq_body) (want_n rfl) (fun w9 ⟨R9, HS9⟩ => dd_load HS9 1 0 rfl rfl (HA45.ev 3 rfl) (slab_whole _) Tryd.underlying28 rfl (by rw [show (tokCells (decC ((q.drop 1).take 46)) (decG ((q.drop 1).take 46))).size = 37 from (tok_size _ _ (length_decG _))]; kernel_rfl)) ⟨_, st_sel HSh41 [0, 1, 2] (by decide)⟩ rfl (fun a46 (HA46 : Env 79 [(43, .agg (tokCells (decC ((q.drop 1).take 46)) (decG ((q.drop 1).take 46)))), (42, .int .i64 (bd (q.getD 0 0#8))), (6, .pointer (some ⟨g6, 0, none⟩)), (5, .int .i64 (decT ((q.drop 1).take 46))), (2, .pointer (some ⟨g2, 0, none⟩)), (0, .slice (some ⟨g, o, none⟩) 54 cc)] a46) => ?_)
    clear HA45 a45
    refine ha_take HA46 [0, 1, 3, 4, 5] (i := 5) (.pointer (some ⟨g6, 0, none⟩)) rfl (by kernel_rfl) (by kernel_rfl) (by kernel_rfl) (pq_then pq_body) (want_n rfl) (fun w9 ⟨R9, HS9⟩ => dd_field (off := 0) (j := 0) rfl (HA46.ev 2 rfl) (by kernel_rfl) rfl) ⟨_, st_sel HSh41 [0, 1, 2] (by decide)⟩ rfl (fun a47 (HA47 : Env 79 [(44, .pointer (some ⟨g6, 0, none⟩)), (43, .agg (tokCells (decC ((q.drop 1).take 46)) (decG ((q.drop 1).take 46)))), (42, .int .i64 (bd (q.getD 0 0#8))), (5, .int .i64 (decT ((q.drop 1).take 46))), (2, .pointer (some ⟨g2, 0, none⟩)), (0, .slice (some ⟨g, o, none⟩) 54 cc)] a47) => ?_)
    clear HA46 a46
    refine ha_take HA47 [1, 2, 3, 4, 5] (i := 6) (.string (strB (cutN ([(q.getD 47 0#8), (q.getD 48 0#8), (q.getD 49 0#8), (q.getD 50 0#8)])).1)) rfl (by kernel_rfl) (by kernel_rfl) (by kernel_rfl) (pq_then pq_body) (want_n rfl) (fun w9 ⟨R9, HS9⟩ => dd_get HS9 2 0 rfl rfl (HA47.ev 0 rfl) rfl Tryd.underlying9 rfl) ⟨_, st_sel HSh41 [0, 1, 2] (by decide)⟩ rfl (fun a48 (HA48 : Env 79 [(45, .string (strB (cutN ([(q.getD 47 0#8), (q.getD 48 0#8), (q.getD 49 0#8), (q.getD 50 0#8)])).1)), (43, .agg (tokCells (decC ((q.drop 1).take 46)) (decG ((q.drop 1).take 46)))), (42, .int .i64 (bd (q.getD 0 0#8))), (5, .int .i64 (decT ((q.drop 1).take 46))), (2, .pointer (some ⟨g2, 0, none⟩)), (0, .slice (some ⟨g, o, none⟩) 54 cc)] a48) => ?_)
    clear HA47 a47
    refine ha_take HA48 [0, 1, 2, 3, 4, 5] (i := 7) (.slice (some ⟨g, o, none⟩) 54 cc) rfl (by kernel_rfl) (by kernel_rfl) (by kernel_rfl) (pq_then pq_body) (want_n rfl) (fun w9 ⟨R9, HS9⟩ => dd_mv rfl (HA48.ev 5 rfl)) ⟨_, st_sel HSh41 [0, 1, 2] (by decide)⟩ rfl (fun a49 (HA49 : Env 79 [(46, .slice (some ⟨g, o, none⟩) 54 cc), (45, .string (strB (cutN ([(q.getD 47 0#8), (q.getD 48 0#8), (q.getD 49 0#8), (q.getD 50 0#8)])).1)), (43, .agg (tokCells (decC ((q.drop 1).take 46)) (decG ((q.drop 1).take 46)))), (42, .int .i64 (bd (q.getD 0 0#8))), (5, .int .i64 (decT ((q.drop 1).take 46))), (2, .pointer (some ⟨g2, 0, none⟩)), (0, .slice (some ⟨g, o, none⟩) 54 cc)] a49) => ?_)
    clear HA48 a48
    refine ha_take HA49 [1, 2, 3, 4, 5, 6] (i := 8) (.pointer (some ⟨g, o + 51, none⟩)) rfl (by kernel_rfl) (by kernel_rfl) (by kernel_rfl) (pq_then pq_body) (want_n rfl) (fun w9 ⟨R9, HS9⟩ => dd_idxS (sz := 1) (j := o + 51) rfl (HA49.ev 0 rfl) rfl (by kernel_rfl) (by decide) (by decide) rfl) ⟨_, st_sel HSh41 [0, 1, 2] (by decide)⟩ rfl (fun a50 (HA50 : Env 79 [(47, .pointer (some ⟨g, o + 51, none⟩)), (45, .string (strB (cutN ([(q.getD 47 0#8), (q.getD 48 0#8), (q.getD 49 0#8), (q.getD 50 0#8)])).1)), (43, .agg (tokCells (decC ((q.drop 1).take 46)) (decG ((q.drop 1).take 46)))), (42, .int .i64 (bd (q.getD 0 0#8))), (5, .int .i64 (decT ((q.drop 1).take 46))), (2, .pointer (some ⟨g2, 0, none⟩)), (0, .slice (some ⟨g, o, none⟩) 54 cc)] a50) => ?_)
    clear HA49 a49
    refine ha_take HA50 [1, 2, 3, 4, 5, 6] (i := 9) (.int .u8 (bd (q.getD 51 0#8))) rfl (by kernel_rfl) (by kernel_rfl) (by kernel_rfl) (pq_then pq_body) (want_n rfl) (fun w9 ⟨R9, HS9⟩ => dd_at rfl (HA50.ev 0 rfl) ((HB _ HS9.below).get 51 (by rw [hl]; decide)) Tryd.underlying5 rfl) ⟨_, st_sel HSh41 [0, 1, 2] (by decide)⟩ rfl (fun a51 (HA51 : Env 79 [(48, .int .u8 (bd (q.getD 51 0#8))), (45, .string (strB (cutN ([(q.getD 47 0#8), (q.getD 48 0#8), (q.getD 49 0#8), (q.getD 50 0#8)])).1)), (43, .agg (tokCells (decC ((q.drop 1).take 46)) (decG ((q.drop 1).take 46)))), (42, .int .i64 (bd (q.getD 0 0#8))), (5, .int .i64 (decT ((q.drop 1).take 46))), (2, .pointer (some ⟨g2, 0, none⟩)), (0, .slice (some ⟨g, o, none⟩) 54 cc)] a51) => ?_)
    clear HA50 a50
    refine ha_take HA51 [1, 2, 3, 4, 5, 6] (i := 10) (.int .i64 (bd (q.getD 51 0#8))) rfl (by kernel_rfl) (by kernel_rfl) (by kernel_rfl) (pq_then pq_body) (want_n rfl) (fun w9 ⟨R9, HS9⟩ => dd_conv (k := .i64) rfl (HA51.ev 0 rfl) Tryd.underlying5 (by kernel_rfl) (i64_bd _)) ⟨_, st_sel HSh41 [0, 1, 2] (by decide)⟩ rfl (fun a52 (HA52 : Env 79 [(49, .int .i64 (bd (q.getD 51 0#8))), (45, .string (strB (cutN ([(q.getD 47 0#8), (q.getD 48 0#8), (q.getD 49 0#8), (q.getD 50 0#8)])).1)), (43, .agg (tokCells (decC ((q.drop 1).take 46)) (decG ((q.drop 1).take 46)))), (42, .int .i64 (bd (q.getD 0 0#8))), (5, .int .i64 (decT ((q.drop 1).take 46))), (2, .pointer (some ⟨g2, 0, none⟩)), (0, .slice (some ⟨g, o, none⟩) 54 cc)] a52) => ?_)
    clear HA51 a51
    refine ha_take HA52 [4, 5, 6] (i := 11) (.agg (catA [[.int .i64 (bd (q.getD 0 0#8))], (tokCells (decC ((q.drop 1).take 46)) (decG ((q.drop 1).take 46))).toList, [.string (strB (cutN ([(q.getD 47 0#8), (q.getD 48 0#8), (q.getD 49 0#8), (q.getD 50 0#8)])).1)], [.int .i64 (bd (q.getD 51 0#8))], bytesV (zer 32)])) rfl (by kernel_rfl) (by kernel_rfl) (by kernel_rfl) (pq_then pq_body) (want_n rfl) (fun w9 ⟨R9, HS9⟩ => dd_bld rfl (ps := [(0, .int .i64 (bd (q.getD 0 0#8))), (1, .agg (tokCells (decC ((q.drop 1).take 46)) (decG ((q.drop 1).take 46)))), (2, .string (strB (cutN ([(q.getD 47 0#8), (q.getD 48 0#8), (q.getD 49 0#8), (q.getD 50 0#8)])).1)), (3, .int .i64 (bd (q.getD 51 0#8)))]) (pr1 (HA52.ev 3 rfl) (pr1 (HA52.ev 2 rfl) (pr1 (HA52.ev 1 rfl) (pr1 (HA52.ev 0 rfl) (pr0))))) (Lz := [[.int .i64 0], (catA [[.int .i64 0], [.string (⟨#[]⟩)], [.int .i64 0], [.int .u32 0], [.int .u32 0], bytesV (zer 32)]).toList, [.string (⟨#[]⟩)], [.int .i64 0], bytesV (zer 32)]) (by kernel_rfl) (lens_cons rfl (lens_cons ((Array.length_toList).trans (cat_size (lens_cons rfl (lens_cons rfl (lens_cons rfl (lens_cons rfl (lens_cons rfl (lens_cons (len_bv (length_zer 32)) (lens_nil))))))))) (lens_cons rfl (lens_cons rfl (lens_cons (len_bv (length_zer 32)) (lens_nil)))))) (fit_cons (i := 0) rfl rfl (fit_cons (i := 1) rfl (tok_size _ _ (length_decG _)) (fit_cons (i := 2) rfl rfl (fit_cons (i := 3) rfl rfl (fit_nil))))) (cs := catA [[.int .i64 (bd (q.getD 0 0#8))], (tokCells (decC ((q.drop 1).take 46)) (decG ((q.drop 1).take 46))).toList, [.string (strB (cutN ([(q.getD 47 0#8), (q.getD 48 0#8), (q.getD 49 0#8), (q.getD 50 0#8)])).1)], [.int .i64 (bd (q.getD 51 0#8))], bytesV (zer 32)]) rfl) ⟨_, st_sel HSh41 [0, 1, 2] (by decide)⟩ rfl (fun a53 (HA53 : Env 79 [(50, .agg (catA [[.int .i64 (bd (q.getD 0 0#8))], (tokCells (decC ((q.drop 1).take 46)) (decG ((q.drop 1).take 46))).toList, [.string (strB (cutN ([(q.getD 47 0#8), (q.getD 48 0#8), (q.getD 49 0#8), (q.getD 50 0#8)])).1)], [.int .i64 (bd (q.getD 51 0#8))], bytesV (zer 32)])), (5, .int .i64 (decT ((q.drop 1).take 46))), (2, .pointer (some ⟨g2, 0, none⟩)), (0, .slice (some ⟨g, o, none⟩) 54 cc)] a53) => ?_)
    clear HA52 a52
    refine wpAnyH_all (rs := [12]) (by kernel_rfl) (by decide) (hm_cons ?_ hm_nil)
    · skip
      refine ho_does HA53 [0, 1, 2, 3] (R := fun v w9 => ∃ g7, v = .pointer (some ⟨g7, 0, none⟩) ∧ St w noF [⟨g2, 31, catA [[.int .i64 0], [.int .i64 0], [.string (⟨#[]⟩)], [.int .i64 0], [.int .u32 0], [.int .u32 0], bytesV (zer 32), [.string (⟨#[]⟩)], [.int .i64 0], bytesV (zer 32)]⟩, ⟨g4, 28, tokCells (decC ((q.drop 1).take 46)) (decG ((q.drop 1).take 46))⟩, ⟨g6, 64, nmC (cutN ([(q.getD 47 0#8), (q.getD 48 0#8), (q.getD 49 0#8), (q.getD 50 0#8)])).1 (cutN ([(q.getD 47 0#8), (q.getD 48 0#8), (q.getD 49 0#8), (q.getD 50 0#8)])).2⟩, ⟨g7, 31, catA [[.int .i64 0], [.int .i64 0], [.string (⟨#[]⟩)], [.int .i64 0], [.int .u32 0], [.int .u32 0], bytesV (zer 32), [.string (⟨#[]⟩)], [.int .i64 0], bytesV (zer 32)]⟩] w9) rfl (want_n rfl) (dd_new HSh41 (catA [[.int .i64 0], [.int .i64 0], [.string (⟨#[]⟩)], [.int .i64 0], [.int .u32 0], [.int .u32 0], bytesV (zer 32), [.string (⟨#[]⟩)], [.int .i64 0], bytesV (zer 32)]) rfl (z := .agg (catA [[.int .i64 0], [.int .i64 0], [.string (⟨#[]⟩)], [.int .i64 0], [.int .u32 0], [.int .u32 0], bytesV (zer 32), [.string (⟨#[]⟩)], [.int .i64 0], bytesV (zer 32)])) (by kernel_rfl) rfl (fun g9 w9 h9 => ⟨g9, rfl, h9⟩)) rfl ?_
      rintro _ W54 ⟨g7, rfl, HS54⟩ a54 (HA54 : Env 79 [(7, .pointer (some ⟨g7, 0, none⟩)), (50, .agg (catA [[.int .i64 (bd (q.getD 0 0#8))], (tokCells (decC ((q.drop 1).take 46)) (decG ((q.drop 1).take 46))).toList, [.string (strB (cutN ([(q.getD 47 0#8), (q.getD 48 0#8), (q.getD 49 0#8), (q.getD 50 0#8)])).1)], [.int .i64 (bd (q.getD 51 0#8))], bytesV (zer 32)])), (5, .int .i64 (decT ((q.drop 1).take 46))), (2, .pointer (some ⟨g2, 0, none⟩)), (0, .slice (some ⟨g, o, none⟩) 54 cc)] a54)
      clear HA53 a53 HSh41
      refine ⟨⟨_, st_sel HS54 [0, 1, 2, 3] (by decide)⟩, ?_⟩
      refine wpAnyH_all (rs := [13]) (by kernel_rfl) (by decide) (hm_cons ?_ hm_nil)
      · skip
        refine ho_does HA54 [0, 2, 3, 4] (R := fun v9 w9 => St w noF [⟨g2, 31, catA [[.int .i64 0], [.int .i64 0], [.string (⟨#[]⟩)], [.int .i64 0], [.int .u32 0], [.int .u32 0], bytesV (zer 32), [.string (⟨#[]⟩)], [.int .i64 0], bytesV (zer 32)]⟩, ⟨g4, 28, tokCells (decC ((q.drop 1).take 46)) (decG ((q.drop 1).take 46))⟩, ⟨g6, 64, nmC (cutN ([(q.getD 47 0#8), (q.getD 48 0#8), (q.getD 49 0#8), (q.getD 50 0#8)])).1 (cutN ([(q.getD 47 0#8), (q.getD 48 0#8), (q.getD 49 0#8), (q.getD 50 0#8)])).2⟩, ⟨g7, 31, catA [[.int .i64 (bd (q.getD 0 0#8))], (tokCells (decC ((q.drop 1).take 46)) (decG ((q.drop 1).take 46))).toList, [.string (strB (cutN ([(q.getD 47 0#8), (q.getD 48 0#8), (q.getD 49 0#8), (q.getD 50 0#8)])).1)], [.int .i64 (bd (q.getD 51 0#8))], bytesV (zer 32)]⟩] w9) rfl (want_n rfl) (dd_setrow HS54 3 rfl rfl (HA54.ev 0 rfl) (HA54.ev 1 rfl) (by kernel_rfl) ((cat_size (lens_cons rfl (lens_cons ((Array.length_toList).trans (tok_size _ _ (length_decG _))) (lens_cons rfl (lens_cons rfl (lens_cons (len_bv (length_zer 32)) (lens_nil))))))) : (catA [[.int .i64 (bd (q.getD 0 0#8))], (tokCells (decC ((q.drop 1).take 46)) (decG ((q.drop 1).take 46))).toList, [.string (strB (cutN ([(q.getD 47 0#8), (q.getD 48 0#8), (q.getD 49 0#8), (q.getD 50 0#8)])).1)], [.int .i64 (bd (q.getD 51 0#8))], bytesV (zer 32)]).size = 72) ((cat_size (lens_cons rfl (lens_cons rfl (lens_cons rfl (lens_cons rfl (lens_cons rfl (lens_cons rfl (lens_cons (len_bv (length_zer 32)) (lens_cons rfl (lens_cons rfl (lens_cons (len_bv (length_zer 32)) (lens_nil)))))))))))) : (catA [[.int .i64 0], [.int .i64 0], [.string (⟨#[]⟩)], [.int .i64 0], [.int .u32 0], [.int .u32 0], bytesV (zer 32), [.string (⟨#[]⟩)], [.int .i64 0], bytesV (zer 32)]).size = 72) (cat_one (ones_cons (ones_c rfl) (ones_cons (one_tokL _ _) (ones_cons (ones_c rfl) (ones_cons (ones_c rfl) (ones_cons (one_bytesV _) (ones_nil))))))) (fun w9 h9 => h9)) rfl ?_
        rintro _ W55 HS55 a55 (HA55 : Env 79 [(7, .pointer (some ⟨g7, 0, none⟩)), (5, .int .i64 (decT ((q.drop 1).take 46))), (2, .pointer (some ⟨g2, 0, none⟩)), (0, .slice (some ⟨g, o, none⟩) 54 cc)] a55)
        clear HA54 a54 HS54
        refine ⟨⟨_, st_sel HS55 [0, 1, 2, 3] (by decide)⟩, ?_⟩
        refine wpAnyH_done (by kernel_rfl) ?_ _
        refine nx ?_
        refine wp_seq ?_
        refine wp_seq ?_
        refine wp_region_lit ?_
        refine wl_is HA55 [0, 1, 2, 3] (v := .slice (some ⟨g, o, none⟩) 54 cc) (want_n rfl) (dd_rn (dd_mv rfl (HA55.ev 3 rfl)) ⟨rfl, rfl⟩) rfl (fun a56 (HA56 : Env 79 [(51, .slice (some ⟨g, o, none⟩) 54 cc), (7, .pointer (some ⟨g7, 0, none⟩)), (5, .int .i64 (decT ((q.drop 1).take 46))), (2, .pointer (some ⟨g2, 0, none⟩)), (0, .slice (some ⟨g, o, none⟩) 54 cc)] a56) => ?_)
        clear HA55 a55
        refine wl_is HA56 [1, 2, 3, 4] (v := .int .i64 54) (want_n rfl) (dd_rn (dd_len rfl (HA56.ev 0 rfl) Tryd.underlying32) ⟨rfl, rfl⟩) rfl (fun a57 (HA57 : Env 79 [(52, .int .i64 54), (7, .pointer (some ⟨g7, 0, none⟩)), (5, .int .i64 (decT ((q.drop 1).take 46))), (2, .pointer (some ⟨g2, 0, none⟩)), (0, .slice (some ⟨g, o, none⟩) 54 cc)] a57) => ?_)
        clear HA56 a56
        refine wl_is HA57 [1, 2, 3, 4] (v := .bool false) (want_n rfl) (dd_rn (dd_cmp rfl (HA57.ev 0 rfl) rfl (eq_f (by decide))) ⟨rfl, rfl⟩) rfl (fun a58 (HA58 : Env 79 [(53, .bool false), (7, .pointer (some ⟨g7, 0, none⟩)), (5, .int .i64 (decT ((q.drop 1).take 46))), (2, .pointer (some ⟨g2, 0, none⟩)), (0, .slice (some ⟨g, o, none⟩) 54 cc)] a58) => ?_)
        clear HA57 a57
        refine wpList_nil ?_
        refine nx ?_
        refine wp_cond_false (HA58.ev 0 rfl) ?_
        refine wp_skip ?_
        refine nx ?_
        refine wp_seq ?_
        refine wp_region_lit ?_
        refine wl_is HA58 [1, 2, 3, 4] (v := .agg (catA [[.int .i64 (bd (q.getD 0 0#8))], (tokCells (decC ((q.drop 1).take 46)) (decG ((q.drop 1).take 46))).toList, [.string (strB (cutN ([(q.getD 47 0#8), (q.getD 48 0#8), (q.getD 49 0#8), (q.getD 50 0#8)])).1)], [.int .i64 (bd (q.getD 51 0#8))], bytesV (zer 32)])) (want_n rfl) (dd_rn (dd_load HS55 3 0 rfl rfl (HA58.ev 1 rfl) (slab_whole _) Tryd.underlying31 rfl (by rw [show (catA [[.int .i64 (bd (q.getD 0 0#8))], (tokCells (decC ((q.drop 1).take 46)) (decG ((q.drop 1).take 46))).toList, [.string (strB (cutN ([(q.getD 47 0#8), (q.getD 48 0#8), (q.getD 49 0#8), (q.getD 50 0#8)])).1)], [.int .i64 (bd (q.getD 51 0#8))], bytesV (zer 32)]).size = 72 from (cat_size (lens_cons rfl (lens_cons ((Array.length_toList).trans (tok_size _ _ (length_decG _))) (lens_cons rfl (lens_cons rfl (lens_cons (len_bv (length_zer 32)) (lens_nil)))))))]; kernel_rfl)) ⟨rfl, rfl⟩) rfl (fun a59 (HA59 : Env 79 [(60, .agg (catA [[.int .i64 (bd (q.getD 0 0#8))], (tokCells (decC ((q.drop 1).take 46)) (decG ((q.drop 1).take 46))).toList, [.string (strB (cutN ([(q.getD 47 0#8), (q.getD 48 0#8), (q.getD 49 0#8), (q.getD 50 0#8)])).1)], [.int .i64 (bd (q.getD 51 0#8))], bytesV (zer 32)])), (7, .pointer (some ⟨g7, 0, none⟩)), (5, .int .i64 (decT ((q.drop 1).take 46))), (2, .pointer (some ⟨g2, 0, none⟩)), (0, .slice (some ⟨g, o, none⟩) 54 cc)] a59) => ?_)
        clear HA58 a58
        cases hb61 : mayA (askQ q)
        case false =>
          refine wl_does HA59 [1, 2, 3, 4] (R := fun v w9 => v = .tuple #[.slice none 0 0, .int .i64 11] ∧ Below W55.heap.size W55 w9) (want_n rfl) (dd_call Tryd.func9 (by kernel_rfl) (by kernel_rfl) rfl (args1 (HA59.ev 0 rfl)) (rask_bad (askQ q) _ W55 HOKQ hb61 (HASK)) (fun _ w9 h9 => ⟨_, h9.1, rfl, h9.2⟩)) rfl ?_
          rintro _ W62 ⟨rfl, hb62⟩ a62 (HA62 : Env 79 [(61, .tuple #[.slice none 0 0, .int .i64 11]), (7, .pointer (some ⟨g7, 0, none⟩)), (5, .int .i64 (decT ((q.drop 1).take 46))), (2, .pointer (some ⟨g2, 0, none⟩)), (0, .slice (some ⟨g, o, none⟩) 54 cc)] a62)
          have HS62 := HS55.same hb62
          clear HA59 a59
          clear HS55 hb62
          refine wl_is HA62 [1, 2, 3, 4] (v := .tuple #[.slice none 0 0, .int .i64 11]) (want_n rfl) (dd_rn (dd_mv rfl (HA62.ev 0 rfl)) ⟨rfl, rfl⟩) rfl (fun a63 (HA63 : Env 79 [(59, .tuple #[.slice none 0 0, .int .i64 11]), (7, .pointer (some ⟨g7, 0, none⟩)), (5, .int .i64 (decT ((q.drop 1).take 46))), (2, .pointer (some ⟨g2, 0, none⟩)), (0, .slice (some ⟨g, o, none⟩) 54 cc)] a63) => ?_)
          clear HA62 a62
          refine wl_is HA63 [0, 1, 2, 3, 4] (v := .slice none 0 0) (want_n rfl) (dd_rn (dd_ext rfl (HA63.ev 0 rfl) rfl) ⟨rfl, rfl⟩) rfl (fun a64 (HA64 : Env 79 [(62, .slice none 0 0), (59, .tuple #[.slice none 0 0, .int .i64 11]), (7, .pointer (some ⟨g7, 0, none⟩)), (5, .int .i64 (decT ((q.drop 1).take 46))), (2, .pointer (some ⟨g2, 0, none⟩)), (0, .slice (some ⟨g, o, none⟩) 54 cc)] a64) => ?_)
          clear HA63 a63
          refine wl_is HA64 [0, 2, 3, 4, 5] (v := .int .i64 11) (want_n rfl) (dd_rn (dd_ext rfl (HA64.ev 1 rfl) rfl) ⟨rfl, rfl⟩) rfl (fun a65 (HA65 : Env 79 [(63, .int .i64 11), (62, .slice none 0 0), (7, .pointer (some ⟨g7, 0, none⟩)), (5, .int .i64 (decT ((q.drop 1).take 46))), (2, .pointer (some ⟨g2, 0, none⟩)), (0, .slice (some ⟨g, o, none⟩) 54 cc)] a65) => ?_)
          clear HA64 a64
          refine wl_is HA65 [0, 2, 3, 4, 5] (v := .slice none 0 0) (want_n rfl) (dd_rn (dd_as rfl (HA65.ev 1 rfl)) ⟨rfl, rfl⟩) rfl (fun a66 (HA66 : Env 79 [(8, .slice none 0 0), (63, .int .i64 11), (7, .pointer (some ⟨g7, 0, none⟩)), (5, .int .i64 (decT ((q.drop 1).take 46))), (2, .pointer (some ⟨g2, 0, none⟩)), (0, .slice (some ⟨g, o, none⟩) 54 cc)] a66) => ?_)
          clear HA65 a65
          refine wl_is HA66 [0, 2, 3, 4, 5] (v := .int .i64 11) (want_n rfl) (dd_rn (dd_as rfl (HA66.ev 1 rfl)) ⟨rfl, rfl⟩) rfl (fun a67 (HA67 : Env 79 [(9, .int .i64 11), (8, .slice none 0 0), (7, .pointer (some ⟨g7, 0, none⟩)), (5, .int .i64 (decT ((q.drop 1).take 46))), (2, .pointer (some ⟨g2, 0, none⟩)), (0, .slice (some ⟨g, o, none⟩) 54 cc)] a67) => ?_)
          clear HA66 a66
          refine wpList_nil ?_
          refine nx ?_
          refine wp_seq ?_
          refine wp_seq ?_
          refine wp_region_lit ?_
          refine wl_is HA67 [0, 1, 2, 4, 5] (v := .int .i64 (decT ((q.drop 1).take 46))) (want_n rfl) (dd_rn (dd_mv rfl (HA67.ev 3 rfl)) ⟨rfl, rfl⟩) rfl (fun a68 (HA68 : Env 79 [(64, .int .i64 (decT ((q.drop 1).take 46))), (9, .int .i64 11), (8, .slice none 0 0), (7, .pointer (some ⟨g7, 0, none⟩)), (2, .pointer (some ⟨g2, 0, none⟩)), (0, .slice (some ⟨g, o, none⟩) 54 cc)] a68) => ?_)
          clear HA67 a67
          by_cases hc70 : (decT ((q.drop 1).take 46) : Int) = 0
          · skip
            refine wl_is HA68 [1, 2, 3, 4, 5] (v := .bool false) (want_n rfl) (dd_rn (dd_cmp rfl (HA68.ev 0 rfl) rfl (ne_f hc70)) ⟨rfl, rfl⟩) rfl (fun a71 (HA71 : Env 79 [(65, .bool false), (9, .int .i64 11), (8, .slice none 0 0), (7, .pointer (some ⟨g7, 0, none⟩)), (2, .pointer (some ⟨g2, 0, none⟩)), (0, .slice (some ⟨g, o, none⟩) 54 cc)] a71) => ?_)
            clear HA68 a68
            refine wl_is HA71 [1, 2, 3, 4, 5] (v := .bool false) (want_n rfl) (dd_rn (dd_mv rfl (HA71.ev 0 rfl)) ⟨rfl, rfl⟩) rfl (fun a72 (HA72 : Env 79 [(66, .bool false), (9, .int .i64 11), (8, .slice none 0 0), (7, .pointer (some ⟨g7, 0, none⟩)), (2, .pointer (some ⟨g2, 0, none⟩)), (0, .slice (some ⟨g, o, none⟩) 54 cc)] a72) => ?_)
            clear HA71 a71
            refine wl_is HA72 [0, 2, 3, 4, 5] (v := .int .i64 11) (want_g rfl (t := 66) rfl (HA72.get 0 rfl) rfl) (dd_rn (dd_mv rfl (HA72.ev 1 rfl)) ⟨rfl, rfl⟩) rfl (fun a73 (HA73 : Env 79 [(67, .int .i64 11), (66, .bool false), (8, .slice none 0 0), (7, .pointer (some ⟨g7, 0, none⟩)), (2, .pointer (some ⟨g2, 0, none⟩)), (0, .slice (some ⟨g, o, none⟩) 54 cc)] a73) => ?_)
            clear HA72 a72
            refine wl_is HA73 [1, 2, 3, 4, 5] (v := .bool true) (want_g rfl (t := 66) rfl (HA73.get 1 rfl) rfl) (dd_rn (dd_cmp rfl (HA73.ev 0 rfl) rfl (ne_t (by decide))) ⟨rfl, rfl⟩) rfl (fun a74 (HA74 : Env 79 [(68, .bool true), (66, .bool false), (8, .slice none 0 0), (7, .pointer (some ⟨g7, 0, none⟩)), (2, .pointer (some ⟨g2, 0, none⟩)), (0, .slice (some ⟨g, o, none⟩) 54 cc)] a74) => ?_)
            clear HA73 a73
            refine wl_is HA74 [2, 3, 4, 5] (v := .bool true) (want_n rfl) (dd_rn (dd_pickF rfl (HA74.ev 1 rfl) (HA74.ev 0 rfl)) ⟨rfl, rfl⟩) rfl (fun a75 (HA75 : Env 79 [(69, .bool true), (8, .slice none 0 0), (7, .pointer (some ⟨g7, 0, none⟩)), (2, .pointer (some ⟨g2, 0, none⟩)), (0, .slice (some ⟨g, o, none⟩) 54 cc)] a75) => ?_)
            clear HA74 a74
            refine wl_is HA75 [1, 2, 3, 4] (v := .bool true) (want_n rfl) (dd_rn (dd_mv rfl (HA75.ev 0 rfl)) ⟨rfl, rfl⟩) rfl (fun a76 (HA76 : Env 79 [(70, .bool true), (8, .slice none 0 0), (7, .pointer (some ⟨g7, 0, none⟩)), (2, .pointer (some ⟨g2, 0, none⟩)), (0, .slice (some ⟨g, o, none⟩) 54 cc)] a76) => ?_)
            clear HA75 a75
            refine wl_skip HA76 [0, 2, 3, 4] (want_g rfl (t := 70) rfl (HA76.get 0 rfl) rfl) rfl (fun a77 (HA77 : Env 79 [(71, undef), (70, .bool true), (7, .pointer (some ⟨g7, 0, none⟩)), (2, .pointer (some ⟨g2, 0, none⟩)), (0, .slice (some ⟨g, o, none⟩) 54 cc)] a77) => ?_)
            clear HA76 a76
            refine wl_skip HA77 [1, 2, 3, 4] (want_g rfl (t := 70) rfl (HA77.get 1 rfl) rfl) rfl (fun a78 (HA78 : Env 79 [(72, undef), (70, .bool true), (7, .pointer (some ⟨g7, 0, none⟩)), (2, .pointer (some ⟨g2, 0, none⟩)), (0, .slice (some ⟨g, o, none⟩) 54 cc)] a78) => ?_)
            clear HA77 a77
            refine wl_skip HA78 [0, 1, 2, 3] (want_g rfl (t := 70) rfl (HA78.get 1 rfl) rfl) rfl (fun a79 (HA79 : Env 79 [(73, undef), (72, undef), (70, .bool true), (7, .pointer (some ⟨g7, 0, none⟩)), (2, .pointer (some ⟨g2, 0, none⟩))] a79) => ?_)
            clear HA78 a78
            refine wl_skip HA79 [1, 2, 3, 4] (want_g rfl (t := 70) rfl (HA79.get 2 rfl) rfl) rfl (fun a80 (HA80 : Env 79 [(74, undef), (72, undef), (70, .bool true), (7, .pointer (some ⟨g7, 0, none⟩)), (2, .pointer (some ⟨g2, 0, none⟩))] a80) => ?_)
            clear HA79 a79
            refine wl_skip HA80 [2, 3, 4] (want_g rfl (t := 70) rfl (HA80.get 2 rfl) rfl) rfl (fun a81 (HA81 : Env 79 [(75, undef), (70, .bool true), (7, .pointer (some ⟨g7, 0, none⟩)), (2, .pointer (some ⟨g2, 0, none⟩))] a81) => ?_)
            clear HA80 a80
            refine wl_is HA81 [2, 3] (v := .bool true) (want_n rfl) (dd_rn (dd_pickT rfl (HA81.ev 1 rfl) rfl) ⟨rfl, rfl⟩) rfl (fun a82 (HA82 : Env 79 [(76, .bool true), (7, .pointer (some ⟨g7, 0, none⟩)), (2, .pointer (some ⟨g2, 0, none⟩))] a82) => ?_)
            clear HA81 a81
            refine wpList_nil ?_
            refine nx ?_
            refine wp_cond_true (HA82.ev 0 rfl) ?_
            refine wp_seq ?_
            refine wp_region_lit ?_
            refine wl_is HA82 [2] (v := .agg (catA [[.int .i64 0], (catA [[.int .i64 0], [.string (⟨#[]⟩)], [.int .i64 0], [.int .u32 0], [.int .u32 0], bytesV (zer 32)]).toList, [.string (⟨#[]⟩)], [.int .i64 0], bytesV (zer 32)])) (want_n rfl) (dd_rn (dd_bld rfl (ps := []) (pr0) (Lz := [[.int .i64 0], (catA [[.int .i64 0], [.string (⟨#[]⟩)], [.int .i64 0], [.int .u32 0], [.int .u32 0], bytesV (zer 32)]).toList, [.string (⟨#[]⟩)], [.int .i64 0], bytesV (zer 32)]) (by kernel_rfl) (lens_cons rfl (lens_cons ((Array.length_toList).trans (cat_size (lens_cons rfl (lens_cons rfl (lens_cons rfl (lens_cons rfl (lens_cons rfl (lens_cons (len_bv (length_zer 32)) (lens_nil))))))))) (lens_cons rfl (lens_cons rfl (lens_cons (len_bv (length_zer 32)) (lens_nil)))))) (fit_nil) (cs := catA [[.int .i64 0], (catA [[.int .i64 0], [.string (⟨#[]⟩)], [.int .i64 0], [.int .u32 0], [.int .u32 0], bytesV (zer 32)]).toList, [.string (⟨#[]⟩)], [.int .i64 0], bytesV (zer 32)]) rfl) ⟨rfl, rfl⟩) rfl (fun a83 (HA83 : Env 79 [(77, .agg (catA [[.int .i64 0], (catA [[.int .i64 0], [.string (⟨#[]⟩)], [.int .i64 0], [.int .u32 0], [.int .u32 0], bytesV (zer 32)]).toList, [.string (⟨#[]⟩)], [.int .i64 0], bytesV (zer 32)])), (2, .pointer (some ⟨g2, 0, none⟩))] a83) => ?_)
            clear HA82 a82
            refine wl_does HA83 [1] (R := fun v9 w9 => St w noF [⟨g2, 31, catA [[.int .i64 0], (catA [[.int .i64 0], [.string (⟨#[]⟩)], [.int .i64 0], [.int .u32 0], [.int .u32 0], bytesV (zer 32)]).toList, [.string (⟨#[]⟩)], [.int .i64 0], bytesV (zer 32)]⟩, ⟨g4, 28, tokCells (decC ((q.drop 1).take 46)) (decG ((q.drop 1).take 46))⟩, ⟨g6, 64, nmC (cutN ([(q.getD 47 0#8), (q.getD 48 0#8), (q.getD 49 0#8), (q.getD 50 0#8)])).1 (cutN ([(q.getD 47 0#8), (q.getD 48 0#8), (q.getD 49 0#8), (q.getD 50 0#8)])).2⟩, ⟨g7, 31, catA [[.int .i64 (bd (q.getD 0 0#8))], (tokCells (decC ((q.drop 1).take 46)) (decG ((q.drop 1).take 46))).toList, [.string (strB (cutN ([(q.getD 47 0#8), (q.getD 48 0#8), (q.getD 49 0#8), (q.getD 50 0#8)])).1)], [.int .i64 (bd (q.getD 51 0#8))], bytesV (zer 32)]⟩] w9) (want_n rfl) (dd_setrow HS62 0 rfl rfl (HA83.ev 1 rfl) (HA83.ev 0 rfl) (by kernel_rfl) ((cat_size (lens_cons rfl (lens_cons ((Array.length_toList).trans (cat_size (lens_cons rfl (lens_cons rfl (lens_cons rfl (lens_cons rfl (lens_cons rfl (lens_cons (len_bv (length_zer 32)) (lens_nil))))))))) (lens_cons rfl (lens_cons rfl (lens_cons (len_bv (length_zer 32)) (lens_nil))))))) : (catA [[.int .i64 0], (catA [[.int .i64 0], [.string (⟨#[]⟩)], [.int .i64 0], [.int .u32 0], [.int .u32 0], bytesV (zer 32)]).toList, [.string (⟨#[]⟩)], [.int .i64 0], bytesV (zer 32)]).size = 72) ((cat_size (lens_cons rfl (lens_cons rfl (lens_cons rfl (lens_cons rfl (lens_cons rfl (lens_cons rfl (lens_cons (len_bv (length_zer 32)) (lens_cons rfl (lens_cons rfl (lens_cons (len_bv (length_zer 32)) (lens_nil)))))))))))) : (catA [[.int .i64 0], [.int .i64 0], [.string (⟨#[]⟩)], [.int .i64 0], [.int .u32 0], [.int .u32 0], bytesV (zer 32), [.string (⟨#[]⟩)], [.int .i64 0], bytesV (zer 32)]).size = 72) (cat_one (ones_cons (ones_c rfl) (ones_cons (all_one (cat_one (ones_cons (ones_c rfl) (ones_cons (ones_c rfl) (ones_cons (ones_c rfl) (ones_cons (ones_c rfl) (ones_cons (ones_c rfl) (ones_cons (one_bytesV _) (ones_nil))))))))) (ones_cons (ones_c rfl) (ones_cons (ones_c rfl) (ones_cons (one_bytesV _) (ones_nil))))))) (fun w9 h9 => h9)) rfl ?_
            rintro _ W84 HS84 a84 (HA84 : Env 79 [(2, .pointer (some ⟨g2, 0, none⟩))] a84)
            clear HA83 a83 HS62
            refine wl_is HA84 [0] (v := .int .i64 11) (want_n rfl) (dd_rn (dd_as rfl rfl) ⟨rfl, rfl⟩) rfl (fun a85 (HA85 : Env 79 [(3, .int .i64 11), (2, .pointer (some ⟨g2, 0, none⟩))] a85) => ?_)
            clear HA84 a84
            refine wpList_nil ?_
            refine nx ?_
            refine wp_ret ?_
            refine tr ?_
            refine ret_run HA85 (res_ct Tryd.results11 (HA85.get 1 rfl) (HS84.row 0 rfl) Tryd.underlying31 rfl (by rw [show (catA [[.int .i64 0], (catA [[.int .i64 0], [.string (⟨#[]⟩)], [.int .i64 0], [.int .u32 0], [.int .u32 0], bytesV (zer 32)]).toList, [.string (⟨#[]⟩)], [.int .i64 0], bytesV (zer 32)]).size = 72 from (cat_size (lens_cons rfl (lens_cons ((Array.length_toList).trans (cat_size (lens_cons rfl (lens_cons rfl (lens_cons rfl (lens_cons rfl (lens_cons rfl (lens_cons (len_bv (length_zer 32)) (lens_nil))))))))) (lens_cons rfl (lens_cons rfl (lens_cons (len_bv (length_zer 32)) (lens_nil)))))))]; kernel_rfl) (HA85.get 0 rfl)) ?_
            have hd := adec_no (q := q) (.inl hb61)
            exact ⟨by rw [hd.1, hd.2]; first | rw [ask_zcat] | rw [ask_zcat2], HS84.below⟩
          · skip
            refine wl_is HA68 [1, 2, 3, 4, 5] (v := .bool true) (want_n rfl) (dd_rn (dd_cmp rfl (HA68.ev 0 rfl) rfl (ne_t hc70)) ⟨rfl, rfl⟩) rfl (fun a86 (HA86 : Env 79 [(65, .bool true), (9, .int .i64 11), (8, .slice none 0 0), (7, .pointer (some ⟨g7, 0, none⟩)), (2, .pointer (some ⟨g2, 0, none⟩)), (0, .slice (some ⟨g, o, none⟩) 54 cc)] a86) => ?_)
            clear HA68 a68
            refine wl_is HA86 [1, 2, 3, 4, 5] (v := .bool true) (want_n rfl) (dd_rn (dd_mv rfl (HA86.ev 0 rfl)) ⟨rfl, rfl⟩) rfl (fun a87 (HA87 : Env 79 [(66, .bool true), (9, .int .i64 11), (8, .slice none 0 0), (7, .pointer (some ⟨g7, 0, none⟩)), (2, .pointer (some ⟨g2, 0, none⟩)), (0, .slice (some ⟨g, o, none⟩) 54 cc)] a87) => ?_)
            clear HA86 a86
            refine wl_skip HA87 [0, 2, 3, 4, 5] (want_g rfl (t := 66) rfl (HA87.get 0 rfl) rfl) rfl (fun a88 (HA88 : Env 79 [(67, undef), (66, .bool true), (8, .slice none 0 0), (7, .pointer (some ⟨g7, 0, none⟩)), (2, .pointer (some ⟨g2, 0, none⟩)), (0, .slice (some ⟨g, o, none⟩) 54 cc)] a88) => ?_)
            clear HA87 a87
            refine wl_skip HA88 [1, 2, 3, 4, 5] (want_g rfl (t := 66) rfl (HA88.get 1 rfl) rfl) rfl (fun a89 (HA89 : Env 79 [(68, undef), (66, .bool true), (8, .slice none 0 0), (7, .pointer (some ⟨g7, 0, none⟩)), (2, .pointer (some ⟨g2, 0, none⟩)), (0, .slice (some ⟨g, o, none⟩) 54 cc)] a89) => ?_)
            clear HA88 a88
            refine wl_is HA89 [2, 3, 4, 5] (v := .bool true) (want_n rfl) (dd_rn (dd_pickT rfl (HA89.ev 1 rfl) rfl) ⟨rfl, rfl⟩) rfl (fun a90 (HA90 : Env 79 [(69, .bool true), (8, .slice none 0 0), (7, .pointer (some ⟨g7, 0, none⟩)), (2, .pointer (some ⟨g2, 0, none⟩)), (0, .slice (some ⟨g, o, none⟩) 54 cc)] a90) => ?_)
            clear HA89 a89
            refine wl_is HA90 [1, 2, 3, 4] (v := .bool true) (want_n rfl) (dd_rn (dd_mv rfl (HA90.ev 0 rfl)) ⟨rfl, rfl⟩) rfl (fun a91 (HA91 : Env 79 [(70, .bool true), (8, .slice none 0 0), (7, .pointer (some ⟨g7, 0, none⟩)), (2, .pointer (some ⟨g2, 0, none⟩)), (0, .slice (some ⟨g, o, none⟩) 54 cc)] a91) => ?_)
            clear HA90 a90
            refine wl_skip HA91 [0, 2, 3, 4] (want_g rfl (t := 70) rfl (HA91.get 0 rfl) rfl) rfl (fun a92 (HA92 : Env 79 [(71, undef), (70, .bool true), (7, .pointer (some ⟨g7, 0, none⟩)), (2, .pointer (some ⟨g2, 0, none⟩)), (0, .slice (some ⟨g, o, none⟩) 54 cc)] a92) => ?_)
            clear HA91 a91
            refine wl_skip HA92 [1, 2, 3, 4] (want_g rfl (t := 70) rfl (HA92.get 1 rfl) rfl) rfl (fun a93 (HA93 : Env 79 [(72, undef), (70, .bool true), (7, .pointer (some ⟨g7, 0, none⟩)), (2, .pointer (some ⟨g2, 0, none⟩)), (0, .slice (some ⟨g, o, none⟩) 54 cc)] a93) => ?_)
            clear HA92 a92
            refine wl_skip HA93 [0, 1, 2, 3] (want_g rfl (t := 70) rfl (HA93.get 1 rfl) rfl) rfl (fun a94 (HA94 : Env 79 [(73, undef), (72, undef), (70, .bool true), (7, .pointer (some ⟨g7, 0, none⟩)), (2, .pointer (some ⟨g2, 0, none⟩))] a94) => ?_)
            clear HA93 a93
            refine wl_skip HA94 [1, 2, 3, 4] (want_g rfl (t := 70) rfl (HA94.get 2 rfl) rfl) rfl (fun a95 (HA95 : Env 79 [(74, undef), (72, undef), (70, .bool true), (7, .pointer (some ⟨g7, 0, none⟩)), (2, .pointer (some ⟨g2, 0, none⟩))] a95) => ?_)
            clear HA94 a94
            refine wl_skip HA95 [2, 3, 4] (want_g rfl (t := 70) rfl (HA95.get 2 rfl) rfl) rfl (fun a96 (HA96 : Env 79 [(75, undef), (70, .bool true), (7, .pointer (some ⟨g7, 0, none⟩)), (2, .pointer (some ⟨g2, 0, none⟩))] a96) => ?_)
            clear HA95 a95
            refine wl_is HA96 [2, 3] (v := .bool true) (want_n rfl) (dd_rn (dd_pickT rfl (HA96.ev 1 rfl) rfl) ⟨rfl, rfl⟩) rfl (fun a97 (HA97 : Env 79 [(76, .bool true), (7, .pointer (some ⟨g7, 0, none⟩)), (2, .pointer (some ⟨g2, 0, none⟩))] a97) => ?_)
            clear HA96 a96
            refine wpList_nil ?_
            refine nx ?_
            refine wp_cond_true (HA97.ev 0 rfl) ?_
            refine wp_seq ?_
            refine wp_region_lit ?_
            refine wl_is HA97 [2] (v := .agg (catA [[.int .i64 0], (catA [[.int .i64 0], [.string (⟨#[]⟩)], [.int .i64 0], [.int .u32 0], [.int .u32 0], bytesV (zer 32)]).toList, [.string (⟨#[]⟩)], [.int .i64 0], bytesV (zer 32)])) (want_n rfl) (dd_rn (dd_bld rfl (ps := []) (pr0) (Lz := [[.int .i64 0], (catA [[.int .i64 0], [.string (⟨#[]⟩)], [.int .i64 0], [.int .u32 0], [.int .u32 0], bytesV (zer 32)]).toList, [.string (⟨#[]⟩)], [.int .i64 0], bytesV (zer 32)]) (by kernel_rfl) (lens_cons rfl (lens_cons ((Array.length_toList).trans (cat_size (lens_cons rfl (lens_cons rfl (lens_cons rfl (lens_cons rfl (lens_cons rfl (lens_cons (len_bv (length_zer 32)) (lens_nil))))))))) (lens_cons rfl (lens_cons rfl (lens_cons (len_bv (length_zer 32)) (lens_nil)))))) (fit_nil) (cs := catA [[.int .i64 0], (catA [[.int .i64 0], [.string (⟨#[]⟩)], [.int .i64 0], [.int .u32 0], [.int .u32 0], bytesV (zer 32)]).toList, [.string (⟨#[]⟩)], [.int .i64 0], bytesV (zer 32)]) rfl) ⟨rfl, rfl⟩) rfl (fun a98 (HA98 : Env 79 [(77, .agg (catA [[.int .i64 0], (catA [[.int .i64 0], [.string (⟨#[]⟩)], [.int .i64 0], [.int .u32 0], [.int .u32 0], bytesV (zer 32)]).toList, [.string (⟨#[]⟩)], [.int .i64 0], bytesV (zer 32)])), (2, .pointer (some ⟨g2, 0, none⟩))] a98) => ?_)
            clear HA97 a97
            refine wl_does HA98 [1] (R := fun v9 w9 => St w noF [⟨g2, 31, catA [[.int .i64 0], (catA [[.int .i64 0], [.string (⟨#[]⟩)], [.int .i64 0], [.int .u32 0], [.int .u32 0], bytesV (zer 32)]).toList, [.string (⟨#[]⟩)], [.int .i64 0], bytesV (zer 32)]⟩, ⟨g4, 28, tokCells (decC ((q.drop 1).take 46)) (decG ((q.drop 1).take 46))⟩, ⟨g6, 64, nmC (cutN ([(q.getD 47 0#8), (q.getD 48 0#8), (q.getD 49 0#8), (q.getD 50 0#8)])).1 (cutN ([(q.getD 47 0#8), (q.getD 48 0#8), (q.getD 49 0#8), (q.getD 50 0#8)])).2⟩, ⟨g7, 31, catA [[.int .i64 (bd (q.getD 0 0#8))], (tokCells (decC ((q.drop 1).take 46)) (decG ((q.drop 1).take 46))).toList, [.string (strB (cutN ([(q.getD 47 0#8), (q.getD 48 0#8), (q.getD 49 0#8), (q.getD 50 0#8)])).1)], [.int .i64 (bd (q.getD 51 0#8))], bytesV (zer 32)]⟩] w9) (want_n rfl) (dd_setrow HS62 0 rfl rfl (HA98.ev 1 rfl) (HA98.ev 0 rfl) (by kernel_rfl) ((cat_size (lens_cons rfl (lens_cons ((Array.length_toList).trans (cat_size (lens_cons rfl (lens_cons rfl (lens_cons rfl (lens_cons rfl (lens_cons rfl (lens_cons (len_bv (length_zer 32)) (lens_nil))))))))) (lens_cons rfl (lens_cons rfl (lens_cons (len_bv (length_zer 32)) (lens_nil))))))) : (catA [[.int .i64 0], (catA [[.int .i64 0], [.string (⟨#[]⟩)], [.int .i64 0], [.int .u32 0], [.int .u32 0], bytesV (zer 32)]).toList, [.string (⟨#[]⟩)], [.int .i64 0], bytesV (zer 32)]).size = 72) ((cat_size (lens_cons rfl (lens_cons rfl (lens_cons rfl (lens_cons rfl (lens_cons rfl (lens_cons rfl (lens_cons (len_bv (length_zer 32)) (lens_cons rfl (lens_cons rfl (lens_cons (len_bv (length_zer 32)) (lens_nil)))))))))))) : (catA [[.int .i64 0], [.int .i64 0], [.string (⟨#[]⟩)], [.int .i64 0], [.int .u32 0], [.int .u32 0], bytesV (zer 32), [.string (⟨#[]⟩)], [.int .i64 0], bytesV (zer 32)]).size = 72) (cat_one (ones_cons (ones_c rfl) (ones_cons (all_one (cat_one (ones_cons (ones_c rfl) (ones_cons (ones_c rfl) (ones_cons (ones_c rfl) (ones_cons (ones_c rfl) (ones_cons (ones_c rfl) (ones_cons (one_bytesV _) (ones_nil))))))))) (ones_cons (ones_c rfl) (ones_cons (ones_c rfl) (ones_cons (one_bytesV _) (ones_nil))))))) (fun w9 h9 => h9)) rfl ?_
            rintro _ W99 HS99 a99 (HA99 : Env 79 [(2, .pointer (some ⟨g2, 0, none⟩))] a99)
            clear HA98 a98 HS62
            refine wl_is HA99 [0] (v := .int .i64 11) (want_n rfl) (dd_rn (dd_as rfl rfl) ⟨rfl, rfl⟩) rfl (fun a100 (HA100 : Env 79 [(3, .int .i64 11), (2, .pointer (some ⟨g2, 0, none⟩))] a100) => ?_)
            clear HA99 a99
            refine wpList_nil ?_
            refine nx ?_
            refine wp_ret ?_
            refine tr ?_
            refine ret_run HA100 (res_ct Tryd.results11 (HA100.get 1 rfl) (HS99.row 0 rfl) Tryd.underlying31 rfl (by rw [show (catA [[.int .i64 0], (catA [[.int .i64 0], [.string (⟨#[]⟩)], [.int .i64 0], [.int .u32 0], [.int .u32 0], bytesV (zer 32)]).toList, [.string (⟨#[]⟩)], [.int .i64 0], bytesV (zer 32)]).size = 72 from (cat_size (lens_cons rfl (lens_cons ((Array.length_toList).trans (cat_size (lens_cons rfl (lens_cons rfl (lens_cons rfl (lens_cons rfl (lens_cons rfl (lens_cons (len_bv (length_zer 32)) (lens_nil))))))))) (lens_cons rfl (lens_cons rfl (lens_cons (len_bv (length_zer 32)) (lens_nil)))))))]; kernel_rfl) (HA100.get 0 rfl)) ?_
            have hd := adec_no (q := q) (.inl (mayA_tok hc70))
            exact ⟨by rw [hd.1, hd.2]; first | rw [ask_zcat] | rw [ask_zcat2], HS99.below⟩
        case true =>
          refine wl_does HA59 [1, 2, 3, 4] (R := fun v w9 => ∃ gt102 ct102 cbt102, v = .tuple #[.slice (some ⟨gt102, 0, none⟩) nE ct102, .int .i64 0] ∧ W55.heap.size ≤ gt102 ∧ Row w9 gt102 5 cbt102 ∧ OwnC cbt102 ct102 nE 1 (bytesV (encA (askQ q))) ∧ Below W55.heap.size W55 w9) (want_n rfl) (dd_call Tryd.func9 (by kernel_rfl) (by kernel_rfl) rfl (args1 (HA59.ev 0 rfl)) (rask_good (askQ q) _ W55 HOKQ hb61 (HASK)) (fun _ w9 ⟨v9, he, ho, hb⟩ => by rw [HNE] at ho; obtain ⟨g9, c9, cb9, rfl, h1, h2, h3⟩ := ownc_pos ho HNP; exact ⟨_, he, g9, c9, cb9, rfl, h1, h2, h3, hb⟩)) rfl ?_
          rintro _ W101 ⟨gt102, ct102, cbt102, rfl, hg102, hr102, Ot102, hb101⟩ a101 (HA101 : Env 79 [(61, .tuple #[.slice (some ⟨gt102, 0, none⟩) nE ct102, .int .i64 0]), (7, .pointer (some ⟨g7, 0, none⟩)), (5, .int .i64 (decT ((q.drop 1).take 46))), (2, .pointer (some ⟨g2, 0, none⟩)), (0, .slice (some ⟨g, o, none⟩) 54 cc)] a101)
          have HS101 := HS55.same hb101
          clear HA59 a59
          have HS101j : St w noF [⟨g2, 31, catA [[.int .i64 0], [.int .i64 0], [.string (⟨#[]⟩)], [.int .i64 0], [.int .u32 0], [.int .u32 0], bytesV (zer 32), [.string (⟨#[]⟩)], [.int .i64 0], bytesV (zer 32)]⟩, ⟨g4, 28, tokCells (decC ((q.drop 1).take 46)) (decG ((q.drop 1).take 46))⟩, ⟨g6, 64, nmC (cutN ([(q.getD 47 0#8), (q.getD 48 0#8), (q.getD 49 0#8), (q.getD 50 0#8)])).1 (cutN ([(q.getD 47 0#8), (q.getD 48 0#8), (q.getD 49 0#8), (q.getD 50 0#8)])).2⟩, ⟨g7, 31, catA [[.int .i64 (bd (q.getD 0 0#8))], (tokCells (decC ((q.drop 1).take 46)) (decG ((q.drop 1).take 46))).toList, [.string (strB (cutN ([(q.getD 47 0#8), (q.getD 48 0#8), (q.getD 49 0#8), (q.getD 50 0#8)])).1)], [.int .i64 (bd (q.getD 51 0#8))], bytesV (zer 32)]⟩, ⟨gt102, 5, cbt102⟩] W101 := HS55.joins hb101 hr102 hg102
          clear HS101 hr102 hg102
          clear HS55 hb101
          refine wl_is HA101 [1, 2, 3, 4] (v := .tuple #[.slice (some ⟨gt102, 0, none⟩) nE ct102, .int .i64 0]) (want_n rfl) (dd_rn (dd_mv rfl (HA101.ev 0 rfl)) ⟨rfl, rfl⟩) rfl (fun a103 (HA103 : Env 79 [(59, .tuple #[.slice (some ⟨gt102, 0, none⟩) nE ct102, .int .i64 0]), (7, .pointer (some ⟨g7, 0, none⟩)), (5, .int .i64 (decT ((q.drop 1).take 46))), (2, .pointer (some ⟨g2, 0, none⟩)), (0, .slice (some ⟨g, o, none⟩) 54 cc)] a103) => ?_)
          clear HA101 a101
          refine wl_is HA103 [0, 1, 2, 3, 4] (v := .slice (some ⟨gt102, 0, none⟩) nE ct102) (want_n rfl) (dd_rn (dd_ext rfl (HA103.ev 0 rfl) rfl) ⟨rfl, rfl⟩) rfl (fun a104 (HA104 : Env 79 [(62, .slice (some ⟨gt102, 0, none⟩) nE ct102), (59, .tuple #[.slice (some ⟨gt102, 0, none⟩) nE ct102, .int .i64 0]), (7, .pointer (some ⟨g7, 0, none⟩)), (5, .int .i64 (decT ((q.drop 1).take 46))), (2, .pointer (some ⟨g2, 0, none⟩)), (0, .slice (some ⟨g, o, none⟩) 54 cc)] a104) => ?_)
          clear HA103 a103
          refine wl_is HA104 [0, 2, 3, 4, 5] (v := .int .i64 0) (want_n rfl) (dd_rn (dd_ext rfl (HA104.ev 1 rfl) rfl) ⟨rfl, rfl⟩) rfl (fun a105 (HA105 : Env 79 [(63, .int .i64 0), (62, .slice (some ⟨gt102, 0, none⟩) nE ct102), (7, .pointer (some ⟨g7, 0, none⟩)), (5, .int .i64 (decT ((q.drop 1).take 46))), (2, .pointer (some ⟨g2, 0, none⟩)), (0, .slice (some ⟨g, o, none⟩) 54 cc)] a105) => ?_)
          clear HA104 a104
          refine wl_is HA105 [0, 2, 3, 4, 5] (v := .slice (some ⟨gt102, 0, none⟩) nE ct102) (want_n rfl) (dd_rn (dd_as rfl (HA105.ev 1 rfl)) ⟨rfl, rfl⟩) rfl (fun a106 (HA106 : Env 79 [(8, .slice (some ⟨gt102, 0, none⟩) nE ct102), (63, .int .i64 0), (7, .pointer (some ⟨g7, 0, none⟩)), (5, .int .i64 (decT ((q.drop 1).take 46))), (2, .pointer (some ⟨g2, 0, none⟩)), (0, .slice (some ⟨g, o, none⟩) 54 cc)] a106) => ?_)
          clear HA105 a105
          refine wl_is HA106 [0, 2, 3, 4, 5] (v := .int .i64 0) (want_n rfl) (dd_rn (dd_as rfl (HA106.ev 1 rfl)) ⟨rfl, rfl⟩) rfl (fun a107 (HA107 : Env 79 [(9, .int .i64 0), (8, .slice (some ⟨gt102, 0, none⟩) nE ct102), (7, .pointer (some ⟨g7, 0, none⟩)), (5, .int .i64 (decT ((q.drop 1).take 46))), (2, .pointer (some ⟨g2, 0, none⟩)), (0, .slice (some ⟨g, o, none⟩) 54 cc)] a107) => ?_)
          clear HA106 a106
          refine wpList_nil ?_
          refine nx ?_
          refine wp_seq ?_
          refine wp_seq ?_
          refine wp_region_lit ?_
          refine wl_is HA107 [0, 1, 2, 4, 5] (v := .int .i64 (decT ((q.drop 1).take 46))) (want_n rfl) (dd_rn (dd_mv rfl (HA107.ev 3 rfl)) ⟨rfl, rfl⟩) rfl (fun a108 (HA108 : Env 79 [(64, .int .i64 (decT ((q.drop 1).take 46))), (9, .int .i64 0), (8, .slice (some ⟨gt102, 0, none⟩) nE ct102), (7, .pointer (some ⟨g7, 0, none⟩)), (2, .pointer (some ⟨g2, 0, none⟩)), (0, .slice (some ⟨g, o, none⟩) 54 cc)] a108) => ?_)
          clear HA107 a107
          by_cases hc110 : (decT ((q.drop 1).take 46) : Int) = 0
          · skip
            refine wl_is HA108 [1, 2, 3, 4, 5] (v := .bool false) (want_n rfl) (dd_rn (dd_cmp rfl (HA108.ev 0 rfl) rfl (ne_f hc110)) ⟨rfl, rfl⟩) rfl (fun a111 (HA111 : Env 79 [(65, .bool false), (9, .int .i64 0), (8, .slice (some ⟨gt102, 0, none⟩) nE ct102), (7, .pointer (some ⟨g7, 0, none⟩)), (2, .pointer (some ⟨g2, 0, none⟩)), (0, .slice (some ⟨g, o, none⟩) 54 cc)] a111) => ?_)
            clear HA108 a108
            refine wl_is HA111 [1, 2, 3, 4, 5] (v := .bool false) (want_n rfl) (dd_rn (dd_mv rfl (HA111.ev 0 rfl)) ⟨rfl, rfl⟩) rfl (fun a112 (HA112 : Env 79 [(66, .bool false), (9, .int .i64 0), (8, .slice (some ⟨gt102, 0, none⟩) nE ct102), (7, .pointer (some ⟨g7, 0, none⟩)), (2, .pointer (some ⟨g2, 0, none⟩)), (0, .slice (some ⟨g, o, none⟩) 54 cc)] a112) => ?_)
            clear HA111 a111
            refine wl_is HA112 [0, 2, 3, 4, 5] (v := .int .i64 0) (want_g rfl (t := 66) rfl (HA112.get 0 rfl) rfl) (dd_rn (dd_mv rfl (HA112.ev 1 rfl)) ⟨rfl, rfl⟩) rfl (fun a113 (HA113 : Env 79 [(67, .int .i64 0), (66, .bool false), (8, .slice (some ⟨gt102, 0, none⟩) nE ct102), (7, .pointer (some ⟨g7, 0, none⟩)), (2, .pointer (some ⟨g2, 0, none⟩)), (0, .slice (some ⟨g, o, none⟩) 54 cc)] a113) => ?_)
            clear HA112 a112
            refine wl_is HA113 [1, 2, 3, 4, 5] (v := .bool false) (want_g rfl (t := 66) rfl (HA113.get 1 rfl) rfl) (dd_rn (dd_cmp rfl (HA113.ev 0 rfl) rfl (ne_f (by decide))) ⟨rfl, rfl⟩) rfl (fun a114 (HA114 : Env 79 [(68, .bool false), (66, .bool false), (8, .slice (some ⟨gt102, 0, none⟩) nE ct102), (7, .pointer (some ⟨g7, 0, none⟩)), (2, .pointer (some ⟨g2, 0, none⟩)), (0, .slice (some ⟨g, o, none⟩) 54 cc)] a114) => ?_)
            clear HA113 a113
            refine wl_is HA114 [2, 3, 4, 5] (v := .bool false) (want_n rfl) (dd_rn (dd_pickF rfl (HA114.ev 1 rfl) (HA114.ev 0 rfl)) ⟨rfl, rfl⟩) rfl (fun a115 (HA115 : Env 79 [(69, .bool false), (8, .slice (some ⟨gt102, 0, none⟩) nE ct102), (7, .pointer (some ⟨g7, 0, none⟩)), (2, .pointer (some ⟨g2, 0, none⟩)), (0, .slice (some ⟨g, o, none⟩) 54 cc)] a115) => ?_)
            clear HA114 a114
            refine wl_is HA115 [1, 2, 3, 4] (v := .bool false) (want_n rfl) (dd_rn (dd_mv rfl (HA115.ev 0 rfl)) ⟨rfl, rfl⟩) rfl (fun a116 (HA116 : Env 79 [(70, .bool false), (8, .slice (some ⟨gt102, 0, none⟩) nE ct102), (7, .pointer (some ⟨g7, 0, none⟩)), (2, .pointer (some ⟨g2, 0, none⟩)), (0, .slice (some ⟨g, o, none⟩) 54 cc)] a116) => ?_)
            clear HA115 a115
            refine wl_is HA116 [0, 2, 3, 4] (v := .slice (some ⟨gt102, 0, none⟩) nE ct102) (want_g rfl (t := 70) rfl (HA116.get 0 rfl) rfl) (dd_rn (dd_mv rfl (HA116.ev 1 rfl)) ⟨rfl, rfl⟩) rfl (fun a117 (HA117 : Env 79 [(71, .slice (some ⟨gt102, 0, none⟩) nE ct102), (70, .bool false), (7, .pointer (some ⟨g7, 0, none⟩)), (2, .pointer (some ⟨g2, 0, none⟩)), (0, .slice (some ⟨g, o, none⟩) 54 cc)] a117) => ?_)
            clear HA116 a116
            refine wl_is HA117 [1, 2, 3, 4] (v := .string (strB (encA (askQ q)))) (want_g rfl (t := 70) rfl (HA117.get 1 rfl) rfl) (dd_rn (dd_bts rfl (HA117.ev 0 rfl) (slice_own (HS101j.row 4 rfl) Ot102 HNE) Tryd.underlying9) ⟨rfl, rfl⟩) rfl (fun a118 (HA118 : Env 79 [(72, .string (strB (encA (askQ q)))), (70, .bool false), (7, .pointer (some ⟨g7, 0, none⟩)), (2, .pointer (some ⟨g2, 0, none⟩)), (0, .slice (some ⟨g, o, none⟩) 54 cc)] a118) => ?_)
            clear HA117 a117
            refine wl_is HA118 [0, 1, 2, 3] (v := .slice (some ⟨g, o, none⟩) 54 cc) (want_g rfl (t := 70) rfl (HA118.get 1 rfl) rfl) (dd_rn (dd_mv rfl (HA118.ev 4 rfl)) ⟨rfl, rfl⟩) rfl (fun a119 (HA119 : Env 79 [(73, .slice (some ⟨g, o, none⟩) 54 cc), (72, .string (strB (encA (askQ q)))), (70, .bool false), (7, .pointer (some ⟨g7, 0, none⟩)), (2, .pointer (some ⟨g2, 0, none⟩))] a119) => ?_)
            clear HA118 a118
            refine wl_is HA119 [1, 2, 3, 4] (v := .string (strB q)) (want_g rfl (t := 70) rfl (HA119.get 2 rfl) rfl) (dd_rn (dd_bts rfl (HA119.ev 0 rfl) ((HB _ HS101j.below).slice hl (by omega)) Tryd.underlying9) ⟨rfl, rfl⟩) rfl (fun a120 (HA120 : Env 79 [(74, .string (strB q)), (72, .string (strB (encA (askQ q)))), (70, .bool false), (7, .pointer (some ⟨g7, 0, none⟩)), (2, .pointer (some ⟨g2, 0, none⟩))] a120) => ?_)
            clear HA119 a119
            by_cases hc122 : encA (askQ q) = q
            · skip
              refine wl_is HA120 [2, 3, 4] (v := .bool false) (want_g rfl (t := 70) rfl (HA120.get 2 rfl) rfl) (dd_rn (dd_nes rfl (HA120.ev 1 rfl) (HA120.ev 0 rfl) (by rw [bne, (sbeq_t hc122)]; rfl)) ⟨rfl, rfl⟩) rfl (fun a123 (HA123 : Env 79 [(75, .bool false), (70, .bool false), (7, .pointer (some ⟨g7, 0, none⟩)), (2, .pointer (some ⟨g2, 0, none⟩))] a123) => ?_)
              clear HA120 a120
              refine wl_is HA123 [2, 3] (v := .bool false) (want_n rfl) (dd_rn (dd_pickF rfl (HA123.ev 1 rfl) (HA123.ev 0 rfl)) ⟨rfl, rfl⟩) rfl (fun a124 (HA124 : Env 79 [(76, .bool false), (7, .pointer (some ⟨g7, 0, none⟩)), (2, .pointer (some ⟨g2, 0, none⟩))] a124) => ?_)
              clear HA123 a123
              refine wpList_nil ?_
              refine nx ?_
              refine wp_cond_false (HA124.ev 0 rfl) ?_
              refine wp_skip ?_
              refine nx ?_
              refine wp_seq ?_
              refine wp_region_lit ?_
              refine wl_is HA124 [2] (v := .agg (catA [[.int .i64 (bd (q.getD 0 0#8))], (tokCells (decC ((q.drop 1).take 46)) (decG ((q.drop 1).take 46))).toList, [.string (strB (cutN ([(q.getD 47 0#8), (q.getD 48 0#8), (q.getD 49 0#8), (q.getD 50 0#8)])).1)], [.int .i64 (bd (q.getD 51 0#8))], bytesV (zer 32)])) (want_n rfl) (dd_rn (dd_load HS101j 3 0 rfl rfl (HA124.ev 1 rfl) (slab_whole _) Tryd.underlying31 rfl (by rw [show (catA [[.int .i64 (bd (q.getD 0 0#8))], (tokCells (decC ((q.drop 1).take 46)) (decG ((q.drop 1).take 46))).toList, [.string (strB (cutN ([(q.getD 47 0#8), (q.getD 48 0#8), (q.getD 49 0#8), (q.getD 50 0#8)])).1)], [.int .i64 (bd (q.getD 51 0#8))], bytesV (zer 32)]).size = 72 from (cat_size (lens_cons rfl (lens_cons ((Array.length_toList).trans (tok_size _ _ (length_decG _))) (lens_cons rfl (lens_cons rfl (lens_cons (len_bv (length_zer 32)) (lens_nil)))))))]; kernel_rfl)) ⟨rfl, rfl⟩) rfl (fun a125 (HA125 : Env 79 [(78, .agg (catA [[.int .i64 (bd (q.getD 0 0#8))], (tokCells (decC ((q.drop 1).take 46)) (decG ((q.drop 1).take 46))).toList, [.string (strB (cutN ([(q.getD 47 0#8), (q.getD 48 0#8), (q.getD 49 0#8), (q.getD 50 0#8)])).1)], [.int .i64 (bd (q.getD 51 0#8))], bytesV (zer 32)])), (2, .pointer (some ⟨g2, 0, none⟩))] a125) => ?_)
              clear HA124 a124
              refine wl_does HA125 [1] (R := fun v9 w9 => St w noF [⟨g2, 31, catA [[.int .i64 (bd (q.getD 0 0#8))], (tokCells (decC ((q.drop 1).take 46)) (decG ((q.drop 1).take 46))).toList, [.string (strB (cutN ([(q.getD 47 0#8), (q.getD 48 0#8), (q.getD 49 0#8), (q.getD 50 0#8)])).1)], [.int .i64 (bd (q.getD 51 0#8))], bytesV (zer 32)]⟩, ⟨g4, 28, tokCells (decC ((q.drop 1).take 46)) (decG ((q.drop 1).take 46))⟩, ⟨g6, 64, nmC (cutN ([(q.getD 47 0#8), (q.getD 48 0#8), (q.getD 49 0#8), (q.getD 50 0#8)])).1 (cutN ([(q.getD 47 0#8), (q.getD 48 0#8), (q.getD 49 0#8), (q.getD 50 0#8)])).2⟩, ⟨g7, 31, catA [[.int .i64 (bd (q.getD 0 0#8))], (tokCells (decC ((q.drop 1).take 46)) (decG ((q.drop 1).take 46))).toList, [.string (strB (cutN ([(q.getD 47 0#8), (q.getD 48 0#8), (q.getD 49 0#8), (q.getD 50 0#8)])).1)], [.int .i64 (bd (q.getD 51 0#8))], bytesV (zer 32)]⟩, ⟨gt102, 5, cbt102⟩] w9) (want_n rfl) (dd_setrow HS101j 0 rfl rfl (HA125.ev 1 rfl) (HA125.ev 0 rfl) (by kernel_rfl) ((cat_size (lens_cons rfl (lens_cons ((Array.length_toList).trans (tok_size _ _ (length_decG _))) (lens_cons rfl (lens_cons rfl (lens_cons (len_bv (length_zer 32)) (lens_nil))))))) : (catA [[.int .i64 (bd (q.getD 0 0#8))], (tokCells (decC ((q.drop 1).take 46)) (decG ((q.drop 1).take 46))).toList, [.string (strB (cutN ([(q.getD 47 0#8), (q.getD 48 0#8), (q.getD 49 0#8), (q.getD 50 0#8)])).1)], [.int .i64 (bd (q.getD 51 0#8))], bytesV (zer 32)]).size = 72) ((cat_size (lens_cons rfl (lens_cons rfl (lens_cons rfl (lens_cons rfl (lens_cons rfl (lens_cons rfl (lens_cons (len_bv (length_zer 32)) (lens_cons rfl (lens_cons rfl (lens_cons (len_bv (length_zer 32)) (lens_nil)))))))))))) : (catA [[.int .i64 0], [.int .i64 0], [.string (⟨#[]⟩)], [.int .i64 0], [.int .u32 0], [.int .u32 0], bytesV (zer 32), [.string (⟨#[]⟩)], [.int .i64 0], bytesV (zer 32)]).size = 72) (cat_one (ones_cons (ones_c rfl) (ones_cons (one_tokL _ _) (ones_cons (ones_c rfl) (ones_cons (ones_c rfl) (ones_cons (one_bytesV _) (ones_nil))))))) (fun w9 h9 => h9)) rfl ?_
              rintro _ W126 HS126 a126 (HA126 : Env 79 [(2, .pointer (some ⟨g2, 0, none⟩))] a126)
              clear HA125 a125 HS101j
              refine wl_is HA126 [0] (v := .int .i64 0) (want_n rfl) (dd_rn (dd_as rfl rfl) ⟨rfl, rfl⟩) rfl (fun a127 (HA127 : Env 79 [(3, .int .i64 0), (2, .pointer (some ⟨g2, 0, none⟩))] a127) => ?_)
              clear HA126 a126
              refine wpList_nil ?_
              refine nx ?_
              refine wp_ret ?_
              refine ret_run HA127 (res_ct Tryd.results11 (HA127.get 1 rfl) (HS126.row 0 rfl) Tryd.underlying31 rfl (by rw [show (catA [[.int .i64 (bd (q.getD 0 0#8))], (tokCells (decC ((q.drop 1).take 46)) (decG ((q.drop 1).take 46))).toList, [.string (strB (cutN ([(q.getD 47 0#8), (q.getD 48 0#8), (q.getD 49 0#8), (q.getD 50 0#8)])).1)], [.int .i64 (bd (q.getD 51 0#8))], bytesV (zer 32)]).size = 72 from (cat_size (lens_cons rfl (lens_cons ((Array.length_toList).trans (tok_size _ _ (length_decG _))) (lens_cons rfl (lens_cons rfl (lens_cons (len_bv (length_zer 32)) (lens_nil)))))))]; kernel_rfl) (HA127.get 0 rfl)) ?_
              have hd := adec_yes (q := q) (by rw [hl]; first | exact .inl rfl | exact .inr rfl) hb61 hc122
              exact ⟨by rw [hd.1, hd.2, HASK], HS126.below⟩
            · skip
              refine wl_is HA120 [2, 3, 4] (v := .bool true) (want_g rfl (t := 70) rfl (HA120.get 2 rfl) rfl) (dd_rn (dd_nes rfl (HA120.ev 1 rfl) (HA120.ev 0 rfl) (by rw [bne, (sbeq_f hc122)]; rfl)) ⟨rfl, rfl⟩) rfl (fun a128 (HA128 : Env 79 [(75, .bool true), (70, .bool false), (7, .pointer (some ⟨g7, 0, none⟩)), (2, .pointer (some ⟨g2, 0, none⟩))] a128) => ?_)
              clear HA120 a120
              refine wl_is HA128 [2, 3] (v := .bool true) (want_n rfl) (dd_rn (dd_pickF rfl (HA128.ev 1 rfl) (HA128.ev 0 rfl)) ⟨rfl, rfl⟩) rfl (fun a129 (HA129 : Env 79 [(76, .bool true), (7, .pointer (some ⟨g7, 0, none⟩)), (2, .pointer (some ⟨g2, 0, none⟩))] a129) => ?_)
              clear HA128 a128
              refine wpList_nil ?_
              refine nx ?_
              refine wp_cond_true (HA129.ev 0 rfl) ?_
              refine wp_seq ?_
              refine wp_region_lit ?_
              refine wl_is HA129 [2] (v := .agg (catA [[.int .i64 0], (catA [[.int .i64 0], [.string (⟨#[]⟩)], [.int .i64 0], [.int .u32 0], [.int .u32 0], bytesV (zer 32)]).toList, [.string (⟨#[]⟩)], [.int .i64 0], bytesV (zer 32)])) (want_n rfl) (dd_rn (dd_bld rfl (ps := []) (pr0) (Lz := [[.int .i64 0], (catA [[.int .i64 0], [.string (⟨#[]⟩)], [.int .i64 0], [.int .u32 0], [.int .u32 0], bytesV (zer 32)]).toList, [.string (⟨#[]⟩)], [.int .i64 0], bytesV (zer 32)]) (by kernel_rfl) (lens_cons rfl (lens_cons ((Array.length_toList).trans (cat_size (lens_cons rfl (lens_cons rfl (lens_cons rfl (lens_cons rfl (lens_cons rfl (lens_cons (len_bv (length_zer 32)) (lens_nil))))))))) (lens_cons rfl (lens_cons rfl (lens_cons (len_bv (length_zer 32)) (lens_nil)))))) (fit_nil) (cs := catA [[.int .i64 0], (catA [[.int .i64 0], [.string (⟨#[]⟩)], [.int .i64 0], [.int .u32 0], [.int .u32 0], bytesV (zer 32)]).toList, [.string (⟨#[]⟩)], [.int .i64 0], bytesV (zer 32)]) rfl) ⟨rfl, rfl⟩) rfl (fun a130 (HA130 : Env 79 [(77, .agg (catA [[.int .i64 0], (catA [[.int .i64 0], [.string (⟨#[]⟩)], [.int .i64 0], [.int .u32 0], [.int .u32 0], bytesV (zer 32)]).toList, [.string (⟨#[]⟩)], [.int .i64 0], bytesV (zer 32)])), (2, .pointer (some ⟨g2, 0, none⟩))] a130) => ?_)
              clear HA129 a129
              refine wl_does HA130 [1] (R := fun v9 w9 => St w noF [⟨g2, 31, catA [[.int .i64 0], (catA [[.int .i64 0], [.string (⟨#[]⟩)], [.int .i64 0], [.int .u32 0], [.int .u32 0], bytesV (zer 32)]).toList, [.string (⟨#[]⟩)], [.int .i64 0], bytesV (zer 32)]⟩, ⟨g4, 28, tokCells (decC ((q.drop 1).take 46)) (decG ((q.drop 1).take 46))⟩, ⟨g6, 64, nmC (cutN ([(q.getD 47 0#8), (q.getD 48 0#8), (q.getD 49 0#8), (q.getD 50 0#8)])).1 (cutN ([(q.getD 47 0#8), (q.getD 48 0#8), (q.getD 49 0#8), (q.getD 50 0#8)])).2⟩, ⟨g7, 31, catA [[.int .i64 (bd (q.getD 0 0#8))], (tokCells (decC ((q.drop 1).take 46)) (decG ((q.drop 1).take 46))).toList, [.string (strB (cutN ([(q.getD 47 0#8), (q.getD 48 0#8), (q.getD 49 0#8), (q.getD 50 0#8)])).1)], [.int .i64 (bd (q.getD 51 0#8))], bytesV (zer 32)]⟩, ⟨gt102, 5, cbt102⟩] w9) (want_n rfl) (dd_setrow HS101j 0 rfl rfl (HA130.ev 1 rfl) (HA130.ev 0 rfl) (by kernel_rfl) ((cat_size (lens_cons rfl (lens_cons ((Array.length_toList).trans (cat_size (lens_cons rfl (lens_cons rfl (lens_cons rfl (lens_cons rfl (lens_cons rfl (lens_cons (len_bv (length_zer 32)) (lens_nil))))))))) (lens_cons rfl (lens_cons rfl (lens_cons (len_bv (length_zer 32)) (lens_nil))))))) : (catA [[.int .i64 0], (catA [[.int .i64 0], [.string (⟨#[]⟩)], [.int .i64 0], [.int .u32 0], [.int .u32 0], bytesV (zer 32)]).toList, [.string (⟨#[]⟩)], [.int .i64 0], bytesV (zer 32)]).size = 72) ((cat_size (lens_cons rfl (lens_cons rfl (lens_cons rfl (lens_cons rfl (lens_cons rfl (lens_cons rfl (lens_cons (len_bv (length_zer 32)) (lens_cons rfl (lens_cons rfl (lens_cons (len_bv (length_zer 32)) (lens_nil)))))))))))) : (catA [[.int .i64 0], [.int .i64 0], [.string (⟨#[]⟩)], [.int .i64 0], [.int .u32 0], [.int .u32 0], bytesV (zer 32), [.string (⟨#[]⟩)], [.int .i64 0], bytesV (zer 32)]).size = 72) (cat_one (ones_cons (ones_c rfl) (ones_cons (all_one (cat_one (ones_cons (ones_c rfl) (ones_cons (ones_c rfl) (ones_cons (ones_c rfl) (ones_cons (ones_c rfl) (ones_cons (ones_c rfl) (ones_cons (one_bytesV _) (ones_nil))))))))) (ones_cons (ones_c rfl) (ones_cons (ones_c rfl) (ones_cons (one_bytesV _) (ones_nil))))))) (fun w9 h9 => h9)) rfl ?_
              rintro _ W131 HS131 a131 (HA131 : Env 79 [(2, .pointer (some ⟨g2, 0, none⟩))] a131)
              clear HA130 a130 HS101j
              refine wl_is HA131 [0] (v := .int .i64 11) (want_n rfl) (dd_rn (dd_as rfl rfl) ⟨rfl, rfl⟩) rfl (fun a132 (HA132 : Env 79 [(3, .int .i64 11), (2, .pointer (some ⟨g2, 0, none⟩))] a132) => ?_)
              clear HA131 a131
              refine wpList_nil ?_
              refine nx ?_
              refine wp_ret ?_
              refine tr ?_
              refine ret_run HA132 (res_ct Tryd.results11 (HA132.get 1 rfl) (HS131.row 0 rfl) Tryd.underlying31 rfl (by rw [show (catA [[.int .i64 0], (catA [[.int .i64 0], [.string (⟨#[]⟩)], [.int .i64 0], [.int .u32 0], [.int .u32 0], bytesV (zer 32)]).toList, [.string (⟨#[]⟩)], [.int .i64 0], bytesV (zer 32)]).size = 72 from (cat_size (lens_cons rfl (lens_cons ((Array.length_toList).trans (cat_size (lens_cons rfl (lens_cons rfl (lens_cons rfl (lens_cons rfl (lens_cons rfl (lens_cons (len_bv (length_zer 32)) (lens_nil))))))))) (lens_cons rfl (lens_cons rfl (lens_cons (len_bv (length_zer 32)) (lens_nil)))))))]; kernel_rfl) (HA132.get 0 rfl)) ?_
              have hd := adec_no (q := q) (.inr hc122)
              exact ⟨by rw [hd.1, hd.2]; first | rw [ask_zcat] | rw [ask_zcat2], HS131.below⟩
          · skip
            refine wl_is HA108 [1, 2, 3, 4, 5] (v := .bool true) (want_n rfl) (dd_rn (dd_cmp rfl (HA108.ev 0 rfl) rfl (ne_t hc110)) ⟨rfl, rfl⟩) rfl (fun a133 (HA133 : Env 79 [(65, .bool true), (9, .int .i64 0), (8, .slice (some ⟨gt102, 0, none⟩) nE ct102), (7, .pointer (some ⟨g7, 0, none⟩)), (2, .pointer (some ⟨g2, 0, none⟩)), (0, .slice (some ⟨g, o, none⟩) 54 cc)] a133) => ?_)
            clear HA108 a108
            refine wl_is HA133 [1, 2, 3, 4, 5] (v := .bool true) (want_n rfl) (dd_rn (dd_mv rfl (HA133.ev 0 rfl)) ⟨rfl, rfl⟩) rfl (fun a134 (HA134 : Env 79 [(66, .bool true), (9, .int .i64 0), (8, .slice (some ⟨gt102, 0, none⟩) nE ct102), (7, .pointer (some ⟨g7, 0, none⟩)), (2, .pointer (some ⟨g2, 0, none⟩)), (0, .slice (some ⟨g, o, none⟩) 54 cc)] a134) => ?_)
            clear HA133 a133
            refine wl_skip HA134 [0, 2, 3, 4, 5] (want_g rfl (t := 66) rfl (HA134.get 0 rfl) rfl) rfl (fun a135 (HA135 : Env 79 [(67, undef), (66, .bool true), (8, .slice (some ⟨gt102, 0, none⟩) nE ct102), (7, .pointer (some ⟨g7, 0, none⟩)), (2, .pointer (some ⟨g2, 0, none⟩)), (0, .slice (some ⟨g, o, none⟩) 54 cc)] a135) => ?_)
            clear HA134 a134
            refine wl_skip HA135 [1, 2, 3, 4, 5] (want_g rfl (t := 66) rfl (HA135.get 1 rfl) rfl) rfl (fun a136 (HA136 : Env 79 [(68, undef), (66, .bool true), (8, .slice (some ⟨gt102, 0, none⟩) nE ct102), (7, .pointer (some ⟨g7, 0, none⟩)), (2, .pointer (some ⟨g2, 0, none⟩)), (0, .slice (some ⟨g, o, none⟩) 54 cc)] a136) => ?_)
            clear HA135 a135
            refine wl_is HA136 [2, 3, 4, 5] (v := .bool true) (want_n rfl) (dd_rn (dd_pickT rfl (HA136.ev 1 rfl) rfl) ⟨rfl, rfl⟩) rfl (fun a137 (HA137 : Env 79 [(69, .bool true), (8, .slice (some ⟨gt102, 0, none⟩) nE ct102), (7, .pointer (some ⟨g7, 0, none⟩)), (2, .pointer (some ⟨g2, 0, none⟩)), (0, .slice (some ⟨g, o, none⟩) 54 cc)] a137) => ?_)
            clear HA136 a136
            refine wl_is HA137 [1, 2, 3, 4] (v := .bool true) (want_n rfl) (dd_rn (dd_mv rfl (HA137.ev 0 rfl)) ⟨rfl, rfl⟩) rfl (fun a138 (HA138 : Env 79 [(70, .bool true), (8, .slice (some ⟨gt102, 0, none⟩) nE ct102), (7, .pointer (some ⟨g7, 0, none⟩)), (2, .pointer (some ⟨g2, 0, none⟩)), (0, .slice (some ⟨g, o, none⟩) 54 cc)] a138) => ?_)
            clear HA137 a137
            refine wl_skip HA138 [0, 2, 3, 4] (want_g rfl (t := 70) rfl (HA138.get 0 rfl) rfl) rfl (fun a139 (HA139 : Env 79 [(71, undef), (70, .bool true), (7, .pointer (some ⟨g7, 0, none⟩)), (2, .pointer (some ⟨g2, 0, none⟩)), (0, .slice (some ⟨g, o, none⟩) 54 cc)] a139) => ?_)
            clear HA138 a138
            refine wl_skip HA139 [1, 2, 3, 4] (want_g rfl (t := 70) rfl (HA139.get 1 rfl) rfl) rfl (fun a140 (HA140 : Env 79 [(72, undef), (70, .bool true), (7, .pointer (some ⟨g7, 0, none⟩)), (2, .pointer (some ⟨g2, 0, none⟩)), (0, .slice (some ⟨g, o, none⟩) 54 cc)] a140) => ?_)
            clear HA139 a139
            refine wl_skip HA140 [0, 1, 2, 3] (want_g rfl (t := 70) rfl (HA140.get 1 rfl) rfl) rfl (fun a141 (HA141 : Env 79 [(73, undef), (72, undef), (70, .bool true), (7, .pointer (some ⟨g7, 0, none⟩)), (2, .pointer (some ⟨g2, 0, none⟩))] a141) => ?_)
            clear HA140 a140
            refine wl_skip HA141 [1, 2, 3, 4] (want_g rfl (t := 70) rfl (HA141.get 2 rfl) rfl) rfl (fun a142 (HA142 : Env 79 [(74, undef), (72, undef), (70, .bool true), (7, .pointer (some ⟨g7, 0, none⟩)), (2, .pointer (some ⟨g2, 0, none⟩))] a142) => ?_)
            clear HA141 a141
            refine wl_skip HA142 [2, 3, 4] (want_g rfl (t := 70) rfl (HA142.get 2 rfl) rfl) rfl (fun a143 (HA143 : Env 79 [(75, undef), (70, .bool true), (7, .pointer (some ⟨g7, 0, none⟩)), (2, .pointer (some ⟨g2, 0, none⟩))] a143) => ?_)
            clear HA142 a142
            refine wl_is HA143 [2, 3] (v := .bool true) (want_n rfl) (dd_rn (dd_pickT rfl (HA143.ev 1 rfl) rfl) ⟨rfl, rfl⟩) rfl (fun a144 (HA144 : Env 79 [(76, .bool true), (7, .pointer (some ⟨g7, 0, none⟩)), (2, .pointer (some ⟨g2, 0, none⟩))] a144) => ?_)
            clear HA143 a143
            refine wpList_nil ?_
            refine nx ?_
            refine wp_cond_true (HA144.ev 0 rfl) ?_
            refine wp_seq ?_
            refine wp_region_lit ?_
            refine wl_is HA144 [2] (v := .agg (catA [[.int .i64 0], (catA [[.int .i64 0], [.string (⟨#[]⟩)], [.int .i64 0], [.int .u32 0], [.int .u32 0], bytesV (zer 32)]).toList, [.string (⟨#[]⟩)], [.int .i64 0], bytesV (zer 32)])) (want_n rfl) (dd_rn (dd_bld rfl (ps := []) (pr0) (Lz := [[.int .i64 0], (catA [[.int .i64 0], [.string (⟨#[]⟩)], [.int .i64 0], [.int .u32 0], [.int .u32 0], bytesV (zer 32)]).toList, [.string (⟨#[]⟩)], [.int .i64 0], bytesV (zer 32)]) (by kernel_rfl) (lens_cons rfl (lens_cons ((Array.length_toList).trans (cat_size (lens_cons rfl (lens_cons rfl (lens_cons rfl (lens_cons rfl (lens_cons rfl (lens_cons (len_bv (length_zer 32)) (lens_nil))))))))) (lens_cons rfl (lens_cons rfl (lens_cons (len_bv (length_zer 32)) (lens_nil)))))) (fit_nil) (cs := catA [[.int .i64 0], (catA [[.int .i64 0], [.string (⟨#[]⟩)], [.int .i64 0], [.int .u32 0], [.int .u32 0], bytesV (zer 32)]).toList, [.string (⟨#[]⟩)], [.int .i64 0], bytesV (zer 32)]) rfl) ⟨rfl, rfl⟩) rfl (fun a145 (HA145 : Env 79 [(77, .agg (catA [[.int .i64 0], (catA [[.int .i64 0], [.string (⟨#[]⟩)], [.int .i64 0], [.int .u32 0], [.int .u32 0], bytesV (zer 32)]).toList, [.string (⟨#[]⟩)], [.int .i64 0], bytesV (zer 32)])), (2, .pointer (some ⟨g2, 0, none⟩))] a145) => ?_)
            clear HA144 a144
            refine wl_does HA145 [1] (R := fun v9 w9 => St w noF [⟨g2, 31, catA [[.int .i64 0], (catA [[.int .i64 0], [.string (⟨#[]⟩)], [.int .i64 0], [.int .u32 0], [.int .u32 0], bytesV (zer 32)]).toList, [.string (⟨#[]⟩)], [.int .i64 0], bytesV (zer 32)]⟩, ⟨g4, 28, tokCells (decC ((q.drop 1).take 46)) (decG ((q.drop 1).take 46))⟩, ⟨g6, 64, nmC (cutN ([(q.getD 47 0#8), (q.getD 48 0#8), (q.getD 49 0#8), (q.getD 50 0#8)])).1 (cutN ([(q.getD 47 0#8), (q.getD 48 0#8), (q.getD 49 0#8), (q.getD 50 0#8)])).2⟩, ⟨g7, 31, catA [[.int .i64 (bd (q.getD 0 0#8))], (tokCells (decC ((q.drop 1).take 46)) (decG ((q.drop 1).take 46))).toList, [.string (strB (cutN ([(q.getD 47 0#8), (q.getD 48 0#8), (q.getD 49 0#8), (q.getD 50 0#8)])).1)], [.int .i64 (bd (q.getD 51 0#8))], bytesV (zer 32)]⟩, ⟨gt102, 5, cbt102⟩] w9) (want_n rfl) (dd_setrow HS101j 0 rfl rfl (HA145.ev 1 rfl) (HA145.ev 0 rfl) (by kernel_rfl) ((cat_size (lens_cons rfl (lens_cons ((Array.length_toList).trans (cat_size (lens_cons rfl (lens_cons rfl (lens_cons rfl (lens_cons rfl (lens_cons rfl (lens_cons (len_bv (length_zer 32)) (lens_nil))))))))) (lens_cons rfl (lens_cons rfl (lens_cons (len_bv (length_zer 32)) (lens_nil))))))) : (catA [[.int .i64 0], (catA [[.int .i64 0], [.string (⟨#[]⟩)], [.int .i64 0], [.int .u32 0], [.int .u32 0], bytesV (zer 32)]).toList, [.string (⟨#[]⟩)], [.int .i64 0], bytesV (zer 32)]).size = 72) ((cat_size (lens_cons rfl (lens_cons rfl (lens_cons rfl (lens_cons rfl (lens_cons rfl (lens_cons rfl (lens_cons (len_bv (length_zer 32)) (lens_cons rfl (lens_cons rfl (lens_cons (len_bv (length_zer 32)) (lens_nil)))))))))))) : (catA [[.int .i64 0], [.int .i64 0], [.string (⟨#[]⟩)], [.int .i64 0], [.int .u32 0], [.int .u32 0], bytesV (zer 32), [.string (⟨#[]⟩)], [.int .i64 0], bytesV (zer 32)]).size = 72) (cat_one (ones_cons (ones_c rfl) (ones_cons (all_one (cat_one (ones_cons (ones_c rfl) (ones_cons (ones_c rfl) (ones_cons (ones_c rfl) (ones_cons (ones_c rfl) (ones_cons (ones_c rfl) (ones_cons (one_bytesV _) (ones_nil))))))))) (ones_cons (ones_c rfl) (ones_cons (ones_c rfl) (ones_cons (one_bytesV _) (ones_nil))))))) (fun w9 h9 => h9)) rfl ?_
            rintro _ W146 HS146 a146 (HA146 : Env 79 [(2, .pointer (some ⟨g2, 0, none⟩))] a146)
            clear HA145 a145 HS101j
            refine wl_is HA146 [0] (v := .int .i64 11) (want_n rfl) (dd_rn (dd_as rfl rfl) ⟨rfl, rfl⟩) rfl (fun a147 (HA147 : Env 79 [(3, .int .i64 11), (2, .pointer (some ⟨g2, 0, none⟩))] a147) => ?_)
            clear HA146 a146
            refine wpList_nil ?_
            refine nx ?_
            refine wp_ret ?_
            refine tr ?_
            refine ret_run HA147 (res_ct Tryd.results11 (HA147.get 1 rfl) (HS146.row 0 rfl) Tryd.underlying31 rfl (by rw [show (catA [[.int .i64 0], (catA [[.int .i64 0], [.string (⟨#[]⟩)], [.int .i64 0], [.int .u32 0], [.int .u32 0], bytesV (zer 32)]).toList, [.string (⟨#[]⟩)], [.int .i64 0], bytesV (zer 32)]).size = 72 from (cat_size (lens_cons rfl (lens_cons ((Array.length_toList).trans (cat_size (lens_cons rfl (lens_cons rfl (lens_cons rfl (lens_cons rfl (lens_cons rfl (lens_cons (len_bv (length_zer 32)) (lens_nil))))))))) (lens_cons rfl (lens_cons rfl (lens_cons (len_bv (length_zer 32)) (lens_nil)))))))]; kernel_rfl) (HA147.get 0 rfl)) ?_
            have hd := adec_no (q := q) (.inl (mayA_tok hc110))
            exact ⟨by rw [hd.1, hd.2]; first | rw [ask_zcat] | rw [ask_zcat2], HS146.below⟩
set_option maxHeartbeats 1600000 in
theorem rdec86 (g o cc : Nat) (q : List (BitVec 8)) (w : World) (hB : BAt w g o q) (hl : q.length = 86) (hc : 86 ≤ cc) :
    Calls Tryd.prog 11 #[.slice (some ⟨g, o, none⟩) 86 cc] w fun x w' => x = .returned (.tuple #[.agg (askC (decA q)), .int .i64 (decF q)]) ∧ Below w.heap.size w w' := by
  have HS := St.nil w noF
  have HB : ∀ W, Below w.heap.size w W → BAt W g o q := fun W hb => hB.call hb
  have HOKQ : (askQ q).Ok := ok_askQ (N := 86) hl
  obtain ⟨nE, HNE⟩ : ∃ nE, (encA (askQ q)).length = nE := ⟨_, rfl⟩
  have HNP : 0 < nE := by rw [← HNE]; unfold encA; simp [two]
  have HASK := hask86 q hl
  refine enter_env Tryd.func11 rfl Tryd.ntmps11 (Nat.le_of_ble_eq_true rfl) (fun a0 (HA0 : Env 79 [(0, .slice (some ⟨g, o, none⟩) 86 cc)] a0) => ?_)
  refine wp_seq ?_
  refine wp_region_lit ?_
  refine wl_does HA0 [0] (R := fun v w9 => ∃ g2, v = .pointer (some ⟨g2, 0, none⟩) ∧ St w noF [⟨g2, 31, catA [[.int .i64 0], [.int .i64 0], [.string (⟨#[]⟩)], [.int .i64 0], [.int .u32 0], [.int .u32 0], bytesV (zer 32), [.string (⟨#[]⟩)], [.int .i64 0], bytesV (zer 32)]⟩] w9) (want_n rfl) (dd_new HS (catA [[.int .i64 0], [.int .i64 0], [.string (⟨#[]⟩)], [.int .i64 0], [.int .u32 0], [.int .u32 0], bytesV (zer 32), [.string (⟨#[]⟩)], [.int .i64 0], bytesV (zer 32)]) rfl (z := .agg (catA [[.int .i64 0], [.int .i64 0], [.string (⟨#[]⟩)], [.int .i64 0], [.int .u32 0], [.int .u32 0], bytesV (zer 32), [.string (⟨#[]⟩)], [.int .i64 0], bytesV (zer 32)])) (by kernel_rfl) rfl (fun g9 w9 h9 => ⟨g9, rfl, h9⟩)) rfl ?_
  rintro _ W1 ⟨g2, rfl, HS1⟩ a1 (HA1 : Env 79 [(2, .pointer (some ⟨g2, 0, none⟩)), (0, .slice (some ⟨g, o, none⟩) 86 cc)] a1)
  clear HA0 a0 HS
  refine wl_is HA1 [0, 1] (v := .int .i64 0) (want_n rfl) (dd_rn (dd_as rfl rfl) ⟨rfl, rfl⟩) rfl (fun a2 (HA2 : Env 79 [(3, .int .i64 0), (2, .pointer (some ⟨g2, 0, none⟩)), (0, .slice (some ⟨g, o, none⟩) 86 cc)] a2) => ?_)
  clear HA1 a1
  refine wpList_nil ?_
  refine nx ?_
  refine wp_seq ?_
  refine wp_seq ?_
  refine wp_region_lit ?_
  refine wl_is HA2 [1, 2] (v := .slice (some ⟨g, o, none⟩) 86 cc) (want_n rfl) (dd_rn (dd_mv rfl (HA2.ev 2 rfl)) ⟨rfl, rfl⟩) rfl (fun a3 (HA3 : Env 79 [(10, .slice (some ⟨g, o, none⟩) 86 cc), (2, .pointer (some ⟨g2, 0, none⟩)), (0, .slice (some ⟨g, o, none⟩) 86 cc)] a3) => ?_)
  clear HA2 a2
  refine wl_is HA3 [1, 2] (v := .int .i64 86) (want_n rfl) (dd_rn (dd_len rfl (HA3.ev 0 rfl) Tryd.underlying32) ⟨rfl, rfl⟩) rfl (fun a4 (HA4 : Env 79 [(11, .int .i64 86), (2, .pointer (some ⟨g2, 0, none⟩)), (0, .slice (some ⟨g, o, none⟩) 86 cc)] a4) => ?_)
  clear HA3 a3
  refine wl_is HA4 [1, 2] (v := .bool true) (want_n rfl) (dd_rn (dd_cmp rfl (HA4.ev 0 rfl) rfl (ne_t (by decide))) ⟨rfl, rfl⟩) rfl (fun a5 (HA5 : Env 79 [(12, .bool true), (2, .pointer (some ⟨g2, 0, none⟩)), (0, .slice (some ⟨g, o, none⟩) 86 cc)] a5) => ?_)
  clear HA4 a4
  refine wl_is HA5 [1, 2] (v := .bool true) (want_n rfl) (dd_rn (dd_mv rfl (HA5.ev 0 rfl)) ⟨rfl, rfl⟩) rfl (fun a6 (HA6 : Env 79 [(13, .bool true), (2, .pointer (some ⟨g2, 0, none⟩)), (0, .slice (some ⟨g, o, none⟩) 86 cc)] a6) => ?_)
  clear HA5 a5
  refine wl_is HA6 [0, 1, 2] (v := .slice (some ⟨g, o, none⟩) 86 cc) (want_g rfl (t := 13) rfl (HA6.get 0 rfl) rfl) (dd_rn (dd_mv rfl (HA6.ev 2 rfl)) ⟨rfl, rfl⟩) rfl (fun a7 (HA7 : Env 79 [(14, .slice (some ⟨g, o, none⟩) 86 cc), (13, .bool true), (2, .pointer (some ⟨g2, 0, none⟩)), (0, .slice (some ⟨g, o, none⟩) 86 cc)] a7) => ?_)
  clear HA6 a6
  refine wl_is HA7 [1, 2, 3] (v := .int .i64 86) (want_g rfl (t := 13) rfl (HA7.get 1 rfl) rfl) (dd_rn (dd_len rfl (HA7.ev 0 rfl) Tryd.underlying32) ⟨rfl, rfl⟩) rfl (fun a8 (HA8 : Env 79 [(15, .int .i64 86), (13, .bool true), (2, .pointer (some ⟨g2, 0, none⟩)), (0, .slice (some ⟨g, o, none⟩) 86 cc)] a8) => ?_)
  clear HA7 a7
  refine wl_is HA8 [1, 2, 3] (v := .bool false) (want_g rfl (t := 13) rfl (HA8.get 1 rfl) rfl) (dd_rn (dd_cmp rfl (HA8.ev 0 rfl) rfl (ne_f (by decide))) ⟨rfl, rfl⟩) rfl (fun a9 (HA9 : Env 79 [(16, .bool false), (13, .bool true), (2, .pointer (some ⟨g2, 0, none⟩)), (0, .slice (some ⟨g, o, none⟩) 86 cc)] a9) => ?_)
  clear HA8 a8
  refine wl_is HA9 [2, 3] (v := .bool false) (want_n rfl) (dd_rn (dd_pickT rfl (HA9.ev 1 rfl) (HA9.ev 0 rfl)) ⟨rfl, rfl⟩) rfl (fun a10 (HA10 : Env 79 [(17, .bool false), (2, .pointer (some ⟨g2, 0, none⟩)), (0, .slice (some ⟨g, o, none⟩) 86 cc)] a10) => ?_)
  clear HA9 a9
  refine wpList_nil ?_
  refine nx ?_
  refine wp_cond_false (HA10.ev 0 rfl) ?_
  refine wp_skip ?_
  refine nx ?_
  refine wp_seq ?_
  refine wp_region_lit ?_
  refine wl_is HA10 [1, 2] (v := .slice (some ⟨g, o, none⟩) 86 cc) (want_n rfl) (dd_rn (dd_mv rfl (HA10.ev 2 rfl)) ⟨rfl, rfl⟩) rfl (fun a11 (HA11 : Env 79 [(20, .slice (some ⟨g, o, none⟩) 86 cc), (2, .pointer (some ⟨g2, 0, none⟩)), (0, .slice (some ⟨g, o, none⟩) 86 cc)] a11) => ?_)
  clear HA10 a10
  refine wl_is HA11 [1, 2] (v := .slice (some ⟨g, o + 1, none⟩) 46 (cc - 1)) (want_n rfl) (dd_rn (dd_sllh (l := 1) (u := 47) (sz := 1) rfl (HA11.ev 0 rfl) rfl rfl (by kernel_rfl) (by decide) (by omega) (by omega) rfl rfl rfl) ⟨rfl, rfl⟩) rfl (fun a12 (HA12 : Env 79 [(21, .slice (some ⟨g, o + 1, none⟩) 46 (cc - 1)), (2, .pointer (some ⟨g2, 0, none⟩)), (0, .slice (some ⟨g, o, none⟩) 86 cc)] a12) => ?_)
  clear HA11 a11
  refine wl_does HA12 [1, 2] (R := fun v w9 => v = .tuple #[.agg (tokCells (decC ((q.drop 1).take 46)) (decG ((q.drop 1).take 46))), .int .i64 (decT ((q.drop 1).take 46))] ∧ Below W1.heap.size W1 w9) (want_n rfl) (dd_call Tryd.func25 (by kernel_rfl) (by kernel_rfl) rfl (args1 (HA12.ev 0 rfl)) (rtokdec_any _ _ ((q.drop 1).take 46) _ (len_take (len_drop hl rfl) (by decide)) W1 ((((HB _ HS1.below).drop 1).take 46).slice (len_take (len_drop hl rfl) (by decide)) (by omega))) (fun _ w9 h9 => ⟨_, h9.1, rfl, h9.2⟩)) rfl ?_
  rintro _ W13 ⟨rfl, hb13⟩ a13 (HA13 : Env 79 [(22, .tuple #[.agg (tokCells (decC ((q.drop 1).take 46)) (decG ((q.drop 1).take 46))), .int .i64 (decT ((q.drop 1).take 46))]), (2, .pointer (some ⟨g2, 0, none⟩)), (0, .slice (some ⟨g, o, none⟩) 86 cc)] a13)
  have HS13 := HS1.same hb13
  clear HA12 a12
  clear HS1 hb13
  refine wl_is HA13 [1, 2] (v := .tuple #[.agg (tokCells (decC ((q.drop 1).take 46)) (decG ((q.drop 1).take 46))), .int .i64 (decT ((q.drop 1).take 46))]) (want_n rfl) (dd_rn (dd_mv rfl (HA13.ev 0 rfl)) ⟨rfl, rfl⟩) rfl (fun a14 (HA14 : Env 79 [(19, .tuple #[.agg (tokCells (decC ((q.drop 1).take 46)) (decG ((q.drop 1).take 46))), .int .i64 (decT ((q.drop 1).take 46))]), (2, .pointer (some ⟨g2, 0, none⟩)), (0, .slice (some ⟨g, o, none⟩) 86 cc)] a14) => ?_)
  clear HA13 a13
  refine wl_is HA14 [0, 1, 2] (v := .agg (tokCells (decC ((q.drop 1).take 46)) (decG ((q.drop 1).take 46)))) (want_n rfl) (dd_rn (dd_ext rfl (HA14.ev 0 rfl) rfl) ⟨rfl, rfl⟩) rfl (fun a15 (HA15 : Env 79 [(23, .agg (tokCells (decC ((q.drop 1).take 46)) (decG ((q.drop 1).take 46)))), (19, .tuple #[.agg (tokCells (decC ((q.drop 1).take 46)) (decG ((q.drop 1).take 46))), .int .i64 (decT ((q.drop 1).take 46))]), (2, .pointer (some ⟨g2, 0, none⟩)), (0, .slice (some ⟨g, o, none⟩) 86 cc)] a15) => ?_)
  clear HA14 a14
  refine wl_is HA15 [0, 2, 3] (v := .int .i64 (decT ((q.drop 1).take 46))) (want_n rfl) (dd_rn (dd_ext rfl (HA15.ev 1 rfl) rfl) ⟨rfl, rfl⟩) rfl (fun a16 (HA16 : Env 79 [(24, .int .i64 (decT ((q.drop 1).take 46))), (23, .agg (tokCells (decC ((q.drop 1).take 46)) (decG ((q.drop 1).take 46)))), (2, .pointer (some ⟨g2, 0, none⟩)), (0, .slice (some ⟨g, o, none⟩) 86 cc)] a16) => ?_)
  clear HA15 a15
  refine wl_does HA16 [0, 1, 2, 3] (R := fun v w9 => ∃ g4, v = .pointer (some ⟨g4, 0, none⟩) ∧ St w noF [⟨g2, 31, catA [[.int .i64 0], [.int .i64 0], [.string (⟨#[]⟩)], [.int .i64 0], [.int .u32 0], [.int .u32 0], bytesV (zer 32), [.string (⟨#[]⟩)], [.int .i64 0], bytesV (zer 32)]⟩, ⟨g4, 28, catA [[.int .i64 0], [.string (⟨#[]⟩)], [.int .i64 0], [.int .u32 0], [.int .u32 0], bytesV (zer 32)]⟩] w9) (want_n rfl) (dd_new HS13 (catA [[.int .i64 0], [.string (⟨#[]⟩)], [.int .i64 0], [.int .u32 0], [.int .u32 0], bytesV (zer 32)]) rfl (z := .agg (catA [[.int .i64 0], [.string (⟨#[]⟩)], [.int .i64 0], [.int .u32 0], [.int .u32 0], bytesV (zer 32)])) (by kernel_rfl) rfl (fun g9 w9 h9 => ⟨g9, rfl, h9⟩)) rfl ?_
  rintro _ W17 ⟨g4, rfl, HS17⟩ a17 (HA17 : Env 79 [(4, .pointer (some ⟨g4, 0, none⟩)), (24, .int .i64 (decT ((q.drop 1).take 46))), (23, .agg (tokCells (decC ((q.drop 1).take 46)) (decG ((q.drop 1).take 46)))), (2, .pointer (some ⟨g2, 0, none⟩)), (0, .slice (some ⟨g, o, none⟩) 86 cc)] a17)
  clear HA16 a16 HS13
  refine wl_does HA17 [0, 1, 3, 4] (R := fun v9 w9 => St w noF [⟨g2, 31, catA [[.int .i64 0], [.int .i64 0], [.string (⟨#[]⟩)], [.int .i64 0], [.int .u32 0], [.int .u32 0], bytesV (zer 32), [.string (⟨#[]⟩)], [.int .i64 0], bytesV (zer 32)]⟩, ⟨g4, 28, tokCells (decC ((q.drop 1).take 46)) (decG ((q.drop 1).take 46))⟩] w9) (want_n rfl) (dd_setrow HS17 1 rfl rfl (HA17.ev 0 rfl) (HA17.ev 2 rfl) (by kernel_rfl) ((tok_size _ _ (length_decG _)) : (tokCells (decC ((q.drop 1).take 46)) (decG ((q.drop 1).take 46))).size = 37) ((cat_size (lens_cons rfl (lens_cons rfl (lens_cons rfl (lens_cons rfl (lens_cons rfl (lens_cons (len_bv (length_zer 32)) (lens_nil)))))))) : (catA [[.int .i64 0], [.string (⟨#[]⟩)], [.int .i64 0], [.int .u32 0], [.int .u32 0], bytesV (zer 32)]).size = 37) (one_tok _ _) (fun w9 h9 => h9)) rfl ?_
  rintro _ W18 HS18 a18 (HA18 : Env 79 [(4, .pointer (some ⟨g4, 0, none⟩)), (24, .int .i64 (decT ((q.drop 1).take 46))), (2, .pointer (some ⟨g2, 0, none⟩)), (0, .slice (some ⟨g, o, none⟩) 86 cc)] a18)
  clear HA17 a17 HS17
  refine wl_is HA18 [0, 2, 3] (v := .int .i64 (decT ((q.drop 1).take 46))) (want_n rfl) (dd_rn (dd_as rfl (HA18.ev 1 rfl)) ⟨rfl, rfl⟩) rfl (fun a19 (HA19 : Env 79 [(5, .int .i64 (decT ((q.drop 1).take 46))), (4, .pointer (some ⟨g4, 0, none⟩)), (2, .pointer (some ⟨g2, 0, none⟩)), (0, .slice (some ⟨g, o, none⟩) 86 cc)] a19) => ?_)
  clear HA18 a18
  refine wpList_nil ?_
  refine nx ?_
  refine wp_seq ?_
  refine wp_cut (fun a9 w9 => ∃ g6 : Nat, Env 79 [(6, .pointer (some ⟨g6, 0, none⟩)), (5, .int .i64 (decT ((q.drop 1).take 46))), (4, .pointer (some ⟨g4, 0, none⟩)), (2, .pointer (some ⟨g2, 0, none⟩)), (0, .slice (some ⟨g, o, none⟩) 86 cc)] a9 ∧ St w noF [⟨g2, 31, catA [[.int .i64 0], [.int .i64 0], [.string (⟨#[]⟩)], [.int .i64 0], [.int .u32 0], [.int .u32 0], bytesV (zer 32), [.string (⟨#[]⟩)], [.int .i64 0], bytesV (zer 32)]⟩, ⟨g4, 28, tokCells (decC ((q.drop 1).take 46)) (decG ((q.drop 1).take 46))⟩, ⟨g6, 64, nmC (cutN ([(q.getD 47 0#8), (q.getD 48 0#8), (q.getD 49 0#8), (q.getD 50 0#8)])).1 (cutN ([(q.getD 47 0#8), (q.getD 48 0#8), (q.getD 49 0#8), (q.getD 50 0#8)])).2⟩] w9) ?_ ?_
  · skip
    refine wp_held (fun W => ∃ R9, St w noF (⟨g2, 31, catA [[.int .i64 0], [.int .i64 0], [.string (⟨#[]⟩)], [.int .i64 0], [.int .u32 0], [.int .u32 0], bytesV (zer 32), [.string (⟨#[]⟩)], [.int .i64 0], bytesV (zer 32)]⟩ :: ⟨g4, 28, tokCells (decC ((q.drop 1).take 46)) (decG ((q.drop 1).take 46))⟩ :: R9) W) (by kernel_rfl) rfl ?_
    have HSh20 := HS18.drew
    clear HS18
    refine ha_take HA19 [0, 1, 2, 3] (i := 0) (.slice (some ⟨g, o, none⟩) 86 cc) rfl (by kernel_rfl) (by kernel_rfl) (by kernel_rfl) (pq_then (pq_then pq_body)) (want_n rfl) (fun w9 ⟨R9, HS9⟩ => dd_mv rfl (HA19.ev 3 rfl)) ⟨_, st_sel HSh20 [0, 1] (by decide)⟩ rfl (fun a21 (HA21 : Env 79 [(25, .slice (some ⟨g, o, none⟩) 86 cc), (5, .int .i64 (decT ((q.drop 1).take 46))), (4, .pointer (some ⟨g4, 0, none⟩)), (2, .pointer (some ⟨g2, 0, none⟩)), (0, .slice (some ⟨g, o, none⟩) 86 cc)] a21) => ?_)
    clear HA19 a19
    refine ha_take HA21 [1, 2, 3, 4] (i := 1) (.pointer (some ⟨g, o + 47, none⟩)) rfl (by kernel_rfl) (by kernel_rfl) (by kernel_rfl) (pq_then (pq_then pq_body)) (want_n rfl) (fun w9 ⟨R9, HS9⟩ => dd_idxS (sz := 1) (j := o + 47) rfl (HA21.ev 0 rfl) rfl (by kernel_rfl) (by decide) (by decide) rfl) ⟨_, st_sel HSh20 [0, 1] (by decide)⟩ rfl (fun a22 (HA22 : Env 79 [(26, .pointer (some ⟨g, o + 47, none⟩)), (5, .int .i64 (decT ((q.drop 1).take 46))), (4, .pointer (some ⟨g4, 0, none⟩)), (2, .pointer (some ⟨g2, 0, none⟩)), (0, .slice (some ⟨g, o, none⟩) 86 cc)] a22) => ?_)
    clear HA21 a21
    refine ha_take HA22 [1, 2, 3, 4] (i := 2) (.int .u8 (bd (q.getD 47 0#8))) rfl (by kernel_rfl) (by kernel_rfl) (by kernel_rfl) (pq_then (pq_then pq_body)) (want_n rfl) (fun w9 ⟨R9, HS9⟩ => dd_at rfl (HA22.ev 0 rfl) ((HB _ HS9.below).get 47 (by rw [hl]; decide)) Tryd.underlying5 rfl) ⟨_, st_sel HSh20 [0, 1] (by decide)⟩ rfl (fun a23 (HA23 : Env 79 [(27, .int .u8 (bd (q.getD 47 0#8))), (5, .int .i64 (decT ((q.drop 1).take 46))), (4, .pointer (some ⟨g4, 0, none⟩)), (2, .pointer (some ⟨g2, 0, none⟩)), (0, .slice (some ⟨g, o, none⟩) 86 cc)] a23) => ?_)
    clear HA22 a22
    refine ha_take HA23 [0, 1, 2, 3, 4] (i := 3) (.slice (some ⟨g, o, none⟩) 86 cc) rfl (by kernel_rfl) (by kernel_rfl) (by kernel_rfl) (pq_then (pq_then pq_body)) (want_n rfl) (fun w9 ⟨R9, HS9⟩ => dd_mv rfl (HA23.ev 4 rfl)) ⟨_, st_sel HSh20 [0, 1] (by decide)⟩ rfl (fun a24 (HA24 : Env 79 [(28, .slice (some ⟨g, o, none⟩) 86 cc), (27, .int .u8 (bd (q.getD 47 0#8))), (5, .int .i64 (decT ((q.drop 1).take 46))), (4, .pointer (some ⟨g4, 0, none⟩)), (2, .pointer (some ⟨g2, 0, none⟩)), (0, .slice (some ⟨g, o, none⟩) 86 cc)] a24) => ?_)
    clear HA23 a23
    refine ha_take HA24 [1, 2, 3, 4, 5] (i := 4) (.pointer (some ⟨g, o + 48, none⟩)) rfl (by kernel_rfl) (by kernel_rfl) (by kernel_rfl) (pq_then (pq_then pq_body)) (want_n rfl) (fun w9 ⟨R9, HS9⟩ => dd_idxS (sz := 1) (j := o + 48) rfl (HA24.ev 0 rfl) rfl (by kernel_rfl) (by decide) (by decide) rfl) ⟨_, st_sel HSh20 [0, 1] (by decide)⟩ rfl (fun a25 (HA25 : Env 79 [(29, .pointer (some ⟨g, o + 48, none⟩)), (27, .int .u8 (bd (q.getD 47 0#8))), (5, .int .i64 (decT ((q.drop 1).take 46))), (4, .pointer (some ⟨g4, 0, none⟩)), (2, .pointer (some ⟨g2, 0, none⟩)), (0, .slice (some ⟨g, o, none⟩) 86 cc)] a25) => ?_)
    clear HA24 a24
    refine ha_take HA25 [1, 2, 3, 4, 5] (i := 5) (.int .u8 (bd (q.getD 48 0#8))) rfl (by kernel_rfl) (by kernel_rfl) (by kernel_rfl) (pq_then (pq_then pq_body)) (want_n rfl) (fun w9 ⟨R9, HS9⟩ => dd_at rfl (HA25.ev 0 rfl) ((HB _ HS9.below).get 48 (by rw [hl]; decide)) Tryd.underlying5 rfl) ⟨_, st_sel HSh20 [0, 1] (by decide)⟩ rfl (fun a26 (HA26 : Env 79 [(30, .int .u8 (bd (q.getD 48 0#8))), (27, .int .u8 (bd (q.getD 47 0#8))), (5, .int .i64 (decT ((q.drop 1).take 46))), (4, .pointer (some ⟨g4, 0, none⟩)), (2, .pointer (some ⟨g2, 0, none⟩)), (0, .slice (some ⟨g, o, none⟩) 86 cc)] a26) => ?_)
    clear HA25 a25
    refine ha_take HA26 [0, 1, 2, 3, 4, 5] (i := 6) (.slice (some ⟨g, o, none⟩) 86 cc) rfl (by kernel_rfl) (by kernel_rfl) (by kernel_rfl) (pq_then (pq_then pq_body)) (want_n rfl) (fun w9 ⟨R9, HS9⟩ => dd_mv rfl (HA26.ev 5 rfl)) ⟨_, st_sel HSh20 [0, 1] (by decide)⟩ rfl (fun a27 (HA27 : Env 79 [(31, .slice (some ⟨g, o, none⟩) 86 cc), (30, .int .u8 (bd (q.getD 48 0#8))), (27, .int .u8 (bd (q.getD 47 0#8))), (5, .int .i64 (decT ((q.drop 1).take 46))), (4, .pointer (some ⟨g4, 0, none⟩)), (2, .pointer (some ⟨g2, 0, none⟩)), (0, .slice (some ⟨g, o, none⟩) 86 cc)] a27) => ?_)
    clear HA26 a26
    refine ha_take HA27 [1, 2, 3, 4, 5, 6] (i := 7) (.pointer (some ⟨g, o + 49, none⟩)) rfl (by kernel_rfl) (by kernel_rfl) (by kernel_rfl) (pq_then (pq_then pq_body)) (want_n rfl) (fun w9 ⟨R9, HS9⟩ => dd_idxS (sz := 1) (j := o + 49) rfl (HA27.ev 0 rfl) rfl (by kernel_rfl) (by decide) (by decide) rfl) ⟨_, st_sel HSh20 [0, 1] (by decide)⟩ rfl (fun a28 (HA28 : Env 79 [(32, .pointer (some ⟨g, o + 49, none⟩)), (30, .int .u8 (bd (q.getD 48 0#8))), (27, .int .u8 (bd (q.getD 47 0#8))), (5, .int .i64 (decT ((q.drop 1).take 46))), (4, .pointer (some ⟨g4, 0, none⟩)), (2, .pointer (some ⟨g2, 0, none⟩)), (0, .slice (some ⟨g, o, none⟩) 86 cc)] a28) => ?_)
    clear HA27 a27
    refine ha_take HA28 [1, 2, 3, 4, 5, 6] (i := 8) (.int .u8 (bd (q.getD 49 0#8))) rfl (by kernel_rfl) (by kernel_rfl) (by kernel_rfl) (pq_then (pq_then pq_body)) (want_n rfl) (fun w9 ⟨R9, HS9⟩ => dd_at rfl (HA28.ev 0 rfl) ((HB _ HS9.below).get 49 (by rw [hl]; decide)) Tryd.underlying5 rfl) ⟨_, st_sel HSh20 [0, 1] (by decide)⟩ rfl (fun a29 (HA29 : Env 79 [(33, .int .u8 (bd (q.getD 49 0#8))), (30, .int .u8 (bd (q.getD 48 0#8))), (27, .int .u8 (bd (q.getD 47 0#8))), (5, .int .i64 (decT ((q.drop 1).take 46))), (4, .pointer (some ⟨g4, 0, none⟩)), (2, .pointer (some ⟨g2, 0, none⟩)), (0, .slice (some ⟨g, o, none⟩) 86 cc)] a29) => ?_)
    clear HA28 a28
    refine ha_take HA29 [0, 1, 2, 3, 4, 5, 6] (i := 9) (.slice (some ⟨g, o, none⟩) 86 cc) rfl (by kernel_rfl) (by kernel_rfl) (by kernel_rfl) (pq_then (pq_then pq_body)) (want_n rfl) (fun w9 ⟨R9, HS9⟩ => dd_mv rfl (HA29.ev 6 rfl)) ⟨_, st_sel HSh20 [0, 1] (by decide)⟩ rfl (fun a30 (HA30 : Env 79 [(34, .slice (some ⟨g, o, none⟩) 86 cc), (33, .int .u8 (bd (q.getD 49 0#8))), (30, .int .u8 (bd (q.getD 48 0#8))), (27, .int .u8 (bd (q.getD 47 0#8))), (5, .int .i64 (decT ((q.drop 1).take 46))), (4, .pointer (some ⟨g4, 0, none⟩)), (2, .pointer (some ⟨g2, 0, none⟩)), (0, .slice (some ⟨g, o, none⟩) 86 cc)] a30) => ?_)
    clear HA29 a29
    refine ha_take HA30 [1, 2, 3, 4, 5, 6, 7] (i := 10) (.pointer (some ⟨g, o + 50, none⟩)) rfl (by kernel_rfl) (by kernel_rfl) (by kernel_rfl) (pq_then (pq_then pq_body)) (want_n rfl) (fun w9 ⟨R9, HS9⟩ => dd_idxS (sz := 1) (j := o + 50) rfl (HA30.ev 0 rfl) rfl (by kernel_rfl) (by decide) (by decide) rfl) ⟨_, st_sel HSh20 [0, 1] (by decide)⟩ rfl (fun a31 (HA31 : Env 79 [(35, .pointer (some ⟨g, o + 50, none⟩)), (33, .int .u8 (bd (q.getD 49 0#8))), (30, .int .u8 (bd (q.getD 48 0#8))), (27, .int .u8 (bd (q.getD 47 0#8))), (5, .int .i64 (decT ((q.drop 1).take 46))), (4, .pointer (some ⟨g4, 0, none⟩)), (2, .pointer (some ⟨g2, 0, none⟩)), (0, .slice (some ⟨g, o, none⟩) 86 cc)] a31) => ?_)
    clear HA30 a30
    refine ha_take HA31 [1, 2, 3, 4, 5, 6, 7] (i := 11) (.int .u8 (bd (q.getD 50 0#8))) rfl (by kernel_rfl) (by kernel_rfl) (by kernel_rfl) (pq_then (pq_then pq_body)) (want_n rfl) (fun w9 ⟨R9, HS9⟩ => dd_at rfl (HA31.ev 0 rfl) ((HB _ HS9.below).get 50 (by rw [hl]; decide)) Tryd.underlying5 rfl) ⟨_, st_sel HSh20 [0, 1] (by decide)⟩ rfl (fun a32 (HA32 : Env 79 [(36, .int .u8 (bd (q.getD 50 0#8))), (33, .int .u8 (bd (q.getD 49 0#8))), (30, .int .u8 (bd (q.getD 48 0#8))), (27, .int .u8 (bd (q.getD 47 0#8))), (5, .int .i64 (decT ((q.drop 1).take 46))), (4, .pointer (some ⟨g4, 0, none⟩)), (2, .pointer (some ⟨g2, 0, none⟩)), (0, .slice (some ⟨g, o, none⟩) 86 cc)] a32) => ?_)
    clear HA31 a31
    refine ha_take HA32 [4, 5, 6, 7] (i := 12) (.agg (bs ([(q.getD 47 0#8), (q.getD 48 0#8), (q.getD 49 0#8), (q.getD 50 0#8)]))) rfl (by kernel_rfl) (by kernel_rfl) (by kernel_rfl) (pq_then (pq_then pq_body)) (want_n rfl) (fun w9 ⟨R9, HS9⟩ => dd_bldk rfl (ps := [(0, .int .u8 (bd (q.getD 47 0#8))), (1, .int .u8 (bd (q.getD 48 0#8))), (2, .int .u8 (bd (q.getD 49 0#8))), (3, .int .u8 (bd (q.getD 50 0#8)))]) (pr1 (HA32.ev 3 rfl) (pr1 (HA32.ev 2 rfl) (pr1 (HA32.ev 1 rfl) (pr1 (HA32.ev 0 rfl) (pr0))))) (cs := bs ([(q.getD 47 0#8), (q.getD 48 0#8), (q.getD 49 0#8), (q.getD 50 0#8)])) (by kernel_rfl)) ⟨_, st_sel HSh20 [0, 1] (by decide)⟩ rfl (fun a33 (HA33 : Env 79 [(37, .agg (bs ([(q.getD 47 0#8), (q.getD 48 0#8), (q.getD 49 0#8), (q.getD 50 0#8)]))), (5, .int .i64 (decT ((q.drop 1).take 46))), (4, .pointer (some ⟨g4, 0, none⟩)), (2, .pointer (some ⟨g2, 0, none⟩)), (0, .slice (some ⟨g, o, none⟩) 86 cc)] a33) => ?_)
    clear HA32 a32
    refine wpAnyH_all (rs := [13, 14]) (by kernel_rfl) (by decide) (hm_cons ?_ (hm_cons ?_ hm_nil))
    · skip
      refine ho_does HA33 [1, 2, 3, 4] (R := fun v w9 => v = .agg (nmC (cutN ([(q.getD 47 0#8), (q.getD 48 0#8), (q.getD 49 0#8), (q.getD 50 0#8)])).1 (cutN ([(q.getD 47 0#8), (q.getD 48 0#8), (q.getD 49 0#8), (q.getD 50 0#8)])).2) ∧ Below W18.drew.heap.size W18.drew w9) rfl (want_n rfl) (dd_call Tryd.func26 (by kernel_rfl) (by kernel_rfl) rfl (args1 (HA33.ev 0 rfl)) (refcutn_any ([(q.getD 47 0#8), (q.getD 48 0#8), (q.getD 49 0#8), (q.getD 50 0#8)]) W18.drew rfl) (fun _ w9 h9 => ⟨_, h9.1, rfl, h9.2⟩)) rfl ?_
      rintro _ W34 ⟨rfl, hb34⟩ a34 (HA34 : Env 79 [(38, .agg (nmC (cutN ([(q.getD 47 0#8), (q.getD 48 0#8), (q.getD 49 0#8), (q.getD 50 0#8)])).1 (cutN ([(q.getD 47 0#8), (q.getD 48 0#8), (q.getD 49 0#8), (q.getD 50 0#8)])).2)), (5, .int .i64 (decT ((q.drop 1).take 46))), (4, .pointer (some ⟨g4, 0, none⟩)), (2, .pointer (some ⟨g2, 0, none⟩)), (0, .slice (some ⟨g, o, none⟩) 86 cc)] a34)
      have HS34 := HSh20.same hb34
      clear HA33 a33
      clear HSh20 hb34
      refine ⟨⟨_, st_sel HS34 [0, 1] (by decide)⟩, ?_⟩
      refine wpAnyH_all (rs := [14]) (by kernel_rfl) (by decide) (hm_cons ?_ hm_nil)
      · skip
        refine ho_does HA34 [0, 1, 2, 3, 4] (R := fun v w9 => ∃ g6, v = .pointer (some ⟨g6, 0, none⟩) ∧ St w noF [⟨g2, 31, catA [[.int .i64 0], [.int .i64 0], [.string (⟨#[]⟩)], [.int .i64 0], [.int .u32 0], [.int .u32 0], bytesV (zer 32), [.string (⟨#[]⟩)], [.int .i64 0], bytesV (zer 32)]⟩, ⟨g4, 28, tokCells (decC ((q.drop 1).take 46)) (decG ((q.drop 1).take 46))⟩, ⟨g6, 64, #[.string (⟨#[]⟩), .bool false]⟩] w9) rfl (want_n rfl) (dd_new HS34 #[.string (⟨#[]⟩), .bool false] rfl (z := .agg #[.string (⟨#[]⟩), .bool false]) (by kernel_rfl) rfl (fun g9 w9 h9 => ⟨g9, rfl, h9⟩)) rfl ?_
        rintro _ W35 ⟨g6, rfl, HS35⟩ a35 (HA35 : Env 79 [(6, .pointer (some ⟨g6, 0, none⟩)), (38, .agg (nmC (cutN ([(q.getD 47 0#8), (q.getD 48 0#8), (q.getD 49 0#8), (q.getD 50 0#8)])).1 (cutN ([(q.getD 47 0#8), (q.getD 48 0#8), (q.getD 49 0#8), (q.getD 50 0#8)])).2)), (5, .int .i64 (decT ((q.drop 1).take 46))), (4, .pointer (some ⟨g4, 0, none⟩)), (2, .pointer (some ⟨g2, 0, none⟩)), (0, .slice (some ⟨g, o, none⟩) 86 cc)] a35)
        clear HA34 a34 HS34
        refine ⟨⟨_, st_sel HS35 [0, 1, 2] (by decide)⟩, ?_⟩
        refine wpAnyH_all (rs := [15]) (by kernel_rfl) (by decide) (hm_cons ?_ hm_nil)
        · skip
          refine ho_does HA35 [0, 2, 3, 4, 5] (R := fun v9 w9 => St w noF [⟨g2, 31, catA [[.int .i64 0], [.int .i64 0], [.string (⟨#[]⟩)], [.int .i64 0], [.int .u32 0], [.int .u32 0], bytesV (zer 32), [.string (⟨#[]⟩)], [.int .i64 0], bytesV (zer 32)]⟩, ⟨g4, 28, tokCells (decC ((q.drop 1).take 46)) (decG ((q.drop 1).take 46))⟩, ⟨g6, 64, nmC (cutN ([(q.getD 47 0#8), (q.getD 48 0#8), (q.getD 49 0#8), (q.getD 50 0#8)])).1 (cutN ([(q.getD 47 0#8), (q.getD 48 0#8), (q.getD 49 0#8), (q.getD 50 0#8)])).2⟩] w9) rfl (want_n rfl) (dd_setrow HS35 2 rfl rfl (HA35.ev 0 rfl) (HA35.ev 1 rfl) (by kernel_rfl) (rfl : (nmC (cutN ([(q.getD 47 0#8), (q.getD 48 0#8), (q.getD 49 0#8), (q.getD 50 0#8)])).1 (cutN ([(q.getD 47 0#8), (q.getD 48 0#8), (q.getD 49 0#8), (q.getD 50 0#8)])).2).size = 2) (rfl : #[.string (⟨#[]⟩), .bool false].size = 2) (one_l (ao_cons rfl (ao_cons rfl ao_nil))) (fun w9 h9 => h9)) rfl ?_
          rintro _ W36 HS36 a36 (HA36 : Env 79 [(6, .pointer (some ⟨g6, 0, none⟩)), (5, .int .i64 (decT ((q.drop 1).take 46))), (4, .pointer (some ⟨g4, 0, none⟩)), (2, .pointer (some ⟨g2, 0, none⟩)), (0, .slice (some ⟨g, o, none⟩) 86 cc)] a36)
          clear HA35 a35 HS35
          refine ⟨⟨_, st_sel HS36 [0, 1, 2] (by decide)⟩, ?_⟩
          refine wpAnyH_done (by kernel_rfl) ?_ _
          exact nx ⟨g6, HA36.keep [0, 1, 2, 3, 4], st_sel HS36 [0, 1, 2] (by decide)⟩
    · skip
      refine ho_does HA33 [0, 1, 2, 3, 4] (R := fun v w9 => ∃ g6, v = .pointer (some ⟨g6, 0, none⟩) ∧ St w noF [⟨g2, 31, catA [[.int .i64 0], [.int .i64 0], [.string (⟨#[]⟩)], [.int .i64 0], [.int .u32 0], [.int .u32 0], bytesV (zer 32), [.string (⟨#[]⟩)], [.int .i64 0], bytesV (zer 32)]⟩, ⟨g4, 28, tokCells (decC ((q.drop 1).take 46)) (decG ((q.drop 1).take 46))⟩, ⟨g6, 64, #[.string (⟨#[]⟩), .bool false]⟩] w9) rfl (want_n rfl) (dd_new HSh20 #[.string (⟨#[]⟩), .bool false] rfl (z := .agg #[.string (⟨#[]⟩), .bool false]) (by kernel_rfl) rfl (fun g9 w9 h9 => ⟨g9, rfl, h9⟩)) rfl ?_
      rintro _ W37 ⟨g6, rfl, HS37⟩ a37 (HA37 : Env 79 [(6, .pointer (some ⟨g6, 0, none⟩)), (37, .agg (bs ([(q.getD 47 0#8), (q.getD 48 0#8), (q.getD 49 0#8), (q.getD 50 0#8)]))), (5, .int .i64 (decT ((q.drop 1).take 46))), (4, .pointer (some ⟨g4, 0, none⟩)), (2, .pointer (some ⟨g2, 0, none⟩)), (0, .slice (some ⟨g, o, none⟩) 86 cc)] a37)
      clear HA33 a33 HSh20
      refine ⟨⟨_, st_sel HS37 [0, 1, 2] (by decide)⟩, ?_⟩
      refine wpAnyH_all (rs := [13]) (by kernel_rfl) (by decide) (hm_cons ?_ hm_nil)
      · skip
        refine ho_does HA37 [0, 2, 3, 4, 5] (R := fun v w9 => v = .agg (nmC (cutN ([(q.getD 47 0#8), (q.getD 48 0#8), (q.getD 49 0#8), (q.getD 50 0#8)])).1 (cutN ([(q.getD 47 0#8), (q.getD 48 0#8), (q.getD 49 0#8), (q.getD 50 0#8)])).2) ∧ Below W37.heap.size W37 w9) rfl (want_n rfl) (dd_call Tryd.func26 (by kernel_rfl) (by kernel_rfl) rfl (args1 (HA37.ev 1 rfl)) (refcutn_any ([(q.getD 47 0#8), (q.getD 48 0#8), (q.getD 49 0#8), (q.getD 50 0#8)]) W37 rfl) (fun _ w9 h9 => ⟨_, h9.1, rfl, h9.2⟩)) rfl ?_
        rintro _ W38 ⟨rfl, hb38⟩ a38 (HA38 : Env 79 [(38, .agg (nmC (cutN ([(q.getD 47 0#8), (q.getD 48 0#8), (q.getD 49 0#8), (q.getD 50 0#8)])).1 (cutN ([(q.getD 47 0#8), (q.getD 48 0#8), (q.getD 49 0#8), (q.getD 50 0#8)])).2)), (6, .pointer (some ⟨g6, 0, none⟩)), (5, .int .i64 (decT ((q.drop 1).take 46))), (4, .pointer (some ⟨g4, 0, none⟩)), (2, .pointer (some ⟨g2, 0, none⟩)), (0, .slice (some ⟨g, o, none⟩) 86 cc)] a38)
        have HS38 := HS37.same hb38
        clear HA37 a37
        clear HS37 hb38
        refine ⟨⟨_, st_sel HS38 [0, 1, 2] (by decide)⟩, ?_⟩
        refine wpAnyH_all (rs := [15]) (by kernel_rfl) (by decide) (hm_cons ?_ hm_nil)
        · skip
          refine ho_does HA38 [1, 2, 3, 4, 5] (R := fun v9 w9 => St w noF [⟨g2, 31, catA [[.int .i64 0], [.int .i64 0], [.string (⟨#[]⟩)], [.int .i64 0], [.int .u32 0], [.int .u32 0], bytesV (zer 32), [.string (⟨#[]⟩)], [.int .i64 0], bytesV (zer 32)]⟩, ⟨g4, 28, tokCells (decC ((q.drop 1).take 46)) (decG ((q.drop 1).take 46))⟩, ⟨g6, 64, nmC (cutN ([(q.getD 47 0#8), (q.getD 48 0#8), (q.getD 49 0#8), (q.getD 50 0#8)])).1 (cutN ([(q.getD 47 0#8), (q.getD 48 0#8), (q.getD 49 0#8), (q.getD 50 0#8)])).2⟩] w9) rfl (want_n rfl) (dd_setrow HS38 2 rfl rfl (HA38.ev 1 rfl) (HA38.ev 0 rfl) (by kernel_rfl) (rfl : (nmC (cutN ([(q.getD 47 0#8), (q.getD 48 0#8), (q.getD 49 0#8), (q.getD 50 0#8)])).1 (cutN ([(q.getD 47 0#8), (q.getD 48 0#8), (q.getD 49 0#8), (q.getD 50 0#8)])).2).size = 2) (rfl : #[.string (⟨#[]⟩), .bool false].size = 2) (one_l (ao_cons rfl (ao_cons rfl ao_nil))) (fun w9 h9 => h9)) rfl ?_
          rintro _ W39 HS39 a39 (HA39 : Env 79 [(6, .pointer (some ⟨g6, 0, none⟩)), (5, .int .i64 (decT ((q.drop 1).take 46))), (4, .pointer (some ⟨g4, 0, none⟩)), (2, .pointer (some ⟨g2, 0, none⟩)), (0, .slice (some ⟨g, o, none⟩) 86 cc)] a39)
          clear HA38 a38 HS38
          refine ⟨⟨_, st_sel HS39 [0, 1, 2] (by decide)⟩, ?_⟩
          refine wpAnyH_done (by kernel_rfl) ?_ _
          exact nx ⟨g6, HA39.keep [0, 1, 2, 3, 4], st_sel HS39 [0, 1, 2] (by decide)⟩
  · skip
    rintro aj20 wj20 ⟨g6, HAj20, HSj20⟩
    refine nx ?_
    refine wp_seq ?_
    refine wp_held (fun W => ∃ R9, St w noF (⟨g2, 31, catA [[.int .i64 0], [.int .i64 0], [.string (⟨#[]⟩)], [.int .i64 0], [.int .u32 0], [.int .u32 0], bytesV (zer 32), [.string (⟨#[]⟩)], [.int .i64 0], bytesV (zer 32)]⟩ :: ⟨g4, 28, tokCells (decC ((q.drop 1).take 46)) (decG ((q.drop 1).take 46))⟩ :: ⟨g6, 64, nmC (cutN ([(q.getD 47 0#8), (q.getD 48 0#8), (q.getD 49 0#8), (q.getD 50 0#8)])).1 (cutN ([(q.getD 47 0#8), (q.getD 48 0#8), (q.getD 49 0#8), (q.getD 50 0#8)])).2⟩ :: R9) W) (by kernel_rfl) rfl ?_
    have HSh41 := HSj20.drew
    clear HSj20
    refine ha_take HAj20 [0, 1, 2, 3, 4] (i := 0) (.slice (some ⟨g, o, none⟩) 86 cc) rfl (by kernel_rfl) (by kernel_rfl) (by kernel_rfl) (pq_then pq_body) (want_n rfl) (fun w9 ⟨R9, HS9⟩ => dd_mv rfl (HAj20.ev 4 rfl)) ⟨_, st_sel HSh41 [0, 1, 2] (by decide)⟩ rfl (fun a42 (HA42 : Env 79 [(39, .slice (some ⟨g, o, none⟩) 86 cc), (6, .pointer (some ⟨g6, 0, none⟩)), (5, .int .i64 (decT ((q.drop 1).take 46))), (4, .pointer (some ⟨g4, 0, none⟩)), (2, .pointer (some ⟨g2, 0, none⟩)), (0, .slice (some ⟨g, o, none⟩) 86 cc)] a42) => ?_)
    clear HAj20 aj20
    refine ha_take HA42 [1, 2, 3, 4, 5] (i := 1) (.pointer (some ⟨g, o + 0, none⟩)) rfl (by kernel_rfl) (by kernel_rfl) (by kernel_rfl) (pq_then pq_body) (want_n rfl) (fun w9 ⟨R9, HS9⟩ => dd_idxS (sz := 1) (j := o + 0) rfl (HA42.ev 0 rfl) rfl (by kernel_rfl) (by decide) (by decide) rfl) ⟨_, st_sel HSh41 [0, 1, 2] (by decide)⟩ rfl (fun a43 (HA43 : Env 79 [(40, .pointer (some ⟨g, o + 0, none⟩)), (6, .pointer (some ⟨g6, 0, none⟩)), (5, .int .i64 (decT ((q.drop 1).take 46))), (4, .pointer (some ⟨g4, 0, none⟩)), (2, .pointer (some ⟨g2, 0, none⟩)), (0, .slice (some ⟨g, o, none⟩) 86 cc)] a43) => ?_)
    clear HA42 a42
    refine ha_take HA43 [1, 2, 3, 4, 5] (i := 2) (.int .u8 (bd (q.getD 0 0#8))) rfl (by kernel_rfl) (by kernel_rfl) (by kernel_rfl) (pq_then pq_body) (want_n rfl) (fun w9 ⟨R9, HS9⟩ => dd_at rfl (HA43.ev 0 rfl) ((HB _ HS9.below).get 0 (by rw [hl]; decide)) Tryd.underlying5 rfl) ⟨_, st_sel HSh41 [0, 1, 2] (by decide)⟩ rfl (fun a44 (HA44 : Env 79 [(41, .int .u8 (bd (q.getD 0 0#8))), (6, .pointer (some ⟨g6, 0, none⟩)), (5, .int .i64 (decT ((q.drop 1).take 46))), (4, .pointer (some ⟨g4, 0, none⟩)), (2, .pointer (some ⟨g2, 0, none⟩)), (0, .slice (some ⟨g, o, none⟩) 86 cc)] a44) => ?_)
    clear HA43 a43
    refine ha_take HA44 [1, 2, 3, 4, 5] (i := 3) (.int .i64 (bd (q.getD 0 0#8))) rfl (by kernel_rfl) (by kernel_rfl) (by kernel_rfl) (pq_then pq_body) (want_n rfl) (fun w9 ⟨R9, HS9⟩ => dd_conv (k := .i64) rfl (HA44.ev 0 rfl) Tryd.underlying5 (by kernel_rfl) (i64_bd _)) ⟨_, st_sel HSh41 [0, 1, 2] (by decide)⟩ rfl (fun a45 (HA45 : Env 79 [(42, .int .i64 (bd (q.getD 0 0#8))), (6, .pointer (some ⟨g6, 0, none⟩)), (5, .int .i64 (decT ((q.drop 1).take 46))), (4, .pointer (some ⟨g4, 0, none⟩)), (2, .pointer (some ⟨g2, 0, none⟩)), (0, .slice (some ⟨g, o, none⟩) 86 cc)] a45) => ?_)
    clear HA44 a44
    refine ha_take HA45 [0, 1, 2, 4, 5] (i := 4) (.agg (tokCells (decC ((q.drop 1).take 46)) (decG ((q.drop 1).take 46)))) rfl (by kernel_rfl) (by kernel_rfl) (by kernel_rfl) (pq_then pq_body) (want_n rfl) (fun w9 ⟨R9, HS9⟩ => dd_load HS9 1 0 rfl rfl (HA45.ev 3 rfl) (slab_whole _) Tryd.underlying28 rfl (by rw [show (tokCells (decC ((q.drop 1).take 46)) (decG ((q.drop 1).take 46))).size = 37 from (tok_size _ _ (length_decG _))]; kernel_rfl)) ⟨_, st_sel HSh41 [0, 1, 2] (by decide)⟩ rfl (fun a46 (HA46 : Env 79 [(43, .agg (tokCells (decC ((q.drop 1).take 46)) (decG ((q.drop 1).take 46)))), (42, .int .i64 (bd (q.getD 0 0#8))), (6, .pointer (some ⟨g6, 0, none⟩)), (5, .int .i64 (decT ((q.drop 1).take 46))), (2, .pointer (some ⟨g2, 0, none⟩)), (0, .slice (some ⟨g, o, none⟩) 86 cc)] a46) => ?_)
    clear HA45 a45
    refine ha_take HA46 [0, 1, 3, 4, 5] (i := 5) (.pointer (some ⟨g6, 0, none⟩)) rfl (by kernel_rfl) (by kernel_rfl) (by kernel_rfl) (pq_then pq_body) (want_n rfl) (fun w9 ⟨R9, HS9⟩ => dd_field (off := 0) (j := 0) rfl (HA46.ev 2 rfl) (by kernel_rfl) rfl) ⟨_, st_sel HSh41 [0, 1, 2] (by decide)⟩ rfl (fun a47 (HA47 : Env 79 [(44, .pointer (some ⟨g6, 0, none⟩)), (43, .agg (tokCells (decC ((q.drop 1).take 46)) (decG ((q.drop 1).take 46)))), (42, .int .i64 (bd (q.getD 0 0#8))), (5, .int .i64 (decT ((q.drop 1).take 46))), (2, .pointer (some ⟨g2, 0, none⟩)), (0, .slice (some ⟨g, o, none⟩) 86 cc)] a47) => ?_)
    clear HA46 a46
    refine ha_take HA47 [1, 2, 3, 4, 5] (i := 6) (.string (strB (cutN ([(q.getD 47 0#8), (q.getD 48 0#8), (q.getD 49 0#8), (q.getD 50 0#8)])).1)) rfl (by kernel_rfl) (by kernel_rfl) (by kernel_rfl) (pq_then pq_body) (want_n rfl) (fun w9 ⟨R9, HS9⟩ => dd_get HS9 2 0 rfl rfl (HA47.ev 0 rfl) rfl Tryd.underlying9 rfl) ⟨_, st_sel HSh41 [0, 1, 2] (by decide)⟩ rfl (fun a48 (HA48 : Env 79 [(45, .string (strB (cutN ([(q.getD 47 0#8), (q.getD 48 0#8), (q.getD 49 0#8), (q.getD 50 0#8)])).1)), (43, .agg (tokCells (decC ((q.drop 1).take 46)) (decG ((q.drop 1).take 46)))), (42, .int .i64 (bd (q.getD 0 0#8))), (5, .int .i64 (decT ((q.drop 1).take 46))), (2, .pointer (some ⟨g2, 0, none⟩)), (0, .slice (some ⟨g, o, none⟩) 86 cc)] a48) => ?_)
    clear HA47 a47
    refine ha_take HA48 [0, 1, 2, 3, 4, 5] (i := 7) (.slice (some ⟨g, o, none⟩) 86 cc) rfl (by kernel_rfl) (by kernel_rfl) (by kernel_rfl) (pq_then pq_body) (want_n rfl) (fun w9 ⟨R9, HS9⟩ => dd_mv rfl (HA48.ev 5 rfl)) ⟨_, st_sel HSh41 [0, 1, 2] (by decide)⟩ rfl (fun a49 (HA49 : Env 79 [(46, .slice (some ⟨g, o, none⟩) 86 cc), (45, .string (strB (cutN ([(q.getD 47 0#8), (q.getD 48 0#8), (q.getD 49 0#8), (q.getD 50 0#8)])).1)), (43, .agg (tokCells (decC ((q.drop 1).take 46)) (decG ((q.drop 1).take 46)))), (42, .int .i64 (bd (q.getD 0 0#8))), (5, .int .i64 (decT ((q.drop 1).take 46))), (2, .pointer (some ⟨g2, 0, none⟩)), (0, .slice (some ⟨g, o, none⟩) 86 cc)] a49) => ?_)
    clear HA48 a48
    refine ha_take HA49 [1, 2, 3, 4, 5, 6] (i := 8) (.pointer (some ⟨g, o + 51, none⟩)) rfl (by kernel_rfl) (by kernel_rfl) (by kernel_rfl) (pq_then pq_body) (want_n rfl) (fun w9 ⟨R9, HS9⟩ => dd_idxS (sz := 1) (j := o + 51) rfl (HA49.ev 0 rfl) rfl (by kernel_rfl) (by decide) (by decide) rfl) ⟨_, st_sel HSh41 [0, 1, 2] (by decide)⟩ rfl (fun a50 (HA50 : Env 79 [(47, .pointer (some ⟨g, o + 51, none⟩)), (45, .string (strB (cutN ([(q.getD 47 0#8), (q.getD 48 0#8), (q.getD 49 0#8), (q.getD 50 0#8)])).1)), (43, .agg (tokCells (decC ((q.drop 1).take 46)) (decG ((q.drop 1).take 46)))), (42, .int .i64 (bd (q.getD 0 0#8))), (5, .int .i64 (decT ((q.drop 1).take 46))), (2, .pointer (some ⟨g2, 0, none⟩)), (0, .slice (some ⟨g, o, none⟩) 86 cc)] a50) => ?_)
    clear HA49 a49
    refine ha_take HA50 [1, 2, 3, 4, 5, 6] (i := 9) (.int .u8 (bd (q.getD 51 0#8))) rfl (by kernel_rfl) (by kernel_rfl) (by kernel_rfl) (pq_then pq_body) (want_n rfl) (fun w9 ⟨R9, HS9⟩ => dd_at rfl (HA50.ev 0 rfl) ((HB _ HS9.below).get 51 (by rw [hl]; decide)) Tryd.underlying5 rfl) ⟨_, st_sel HSh41 [0, 1, 2] (by decide)⟩ rfl (fun a51 (HA51 : Env 79 [(48, .int .u8 (bd (q.getD 51 0#8))), (45, .string (strB (cutN ([(q.getD 47 0#8), (q.getD 48 0#8), (q.getD 49 0#8), (q.getD 50 0#8)])).1)), (43, .agg (tokCells (decC ((q.drop 1).take 46)) (decG ((q.drop 1).take 46)))), (42, .int .i64 (bd (q.getD 0 0#8))), (5, .int .i64 (decT ((q.drop 1).take 46))), (2, .pointer (some ⟨g2, 0, none⟩)), (0, .slice (some ⟨g, o, none⟩) 86 cc)] a51) => ?_)
    clear HA50 a50
    refine ha_take HA51 [1, 2, 3, 4, 5, 6] (i := 10) (.int .i64 (bd (q.getD 51 0#8))) rfl (by kernel_rfl) (by kernel_rfl) (by kernel_rfl) (pq_then pq_body) (want_n rfl) (fun w9 ⟨R9, HS9⟩ => dd_conv (k := .i64) rfl (HA51.ev 0 rfl) Tryd.underlying5 (by kernel_rfl) (i64_bd _)) ⟨_, st_sel HSh41 [0, 1, 2] (by decide)⟩ rfl (fun a52 (HA52 : Env 79 [(49, .int .i64 (bd (q.getD 51 0#8))), (45, .string (strB (cutN ([(q.getD 47 0#8), (q.getD 48 0#8), (q.getD 49 0#8), (q.getD 50 0#8)])).1)), (43, .agg (tokCells (decC ((q.drop 1).take 46)) (decG ((q.drop 1).take 46)))), (42, .int .i64 (bd (q.getD 0 0#8))), (5, .int .i64 (decT ((q.drop 1).take 46))), (2, .pointer (some ⟨g2, 0, none⟩)), (0, .slice (some ⟨g, o, none⟩) 86 cc)] a52) => ?_)
    clear HA51 a51
    refine ha_take HA52 [4, 5, 6] (i := 11) (.agg (catA [[.int .i64 (bd (q.getD 0 0#8))], (tokCells (decC ((q.drop 1).take 46)) (decG ((q.drop 1).take 46))).toList, [.string (strB (cutN ([(q.getD 47 0#8), (q.getD 48 0#8), (q.getD 49 0#8), (q.getD 50 0#8)])).1)], [.int .i64 (bd (q.getD 51 0#8))], bytesV (zer 32)])) rfl (by kernel_rfl) (by kernel_rfl) (by kernel_rfl) (pq_then pq_body) (want_n rfl) (fun w9 ⟨R9, HS9⟩ => dd_bld rfl (ps := [(0, .int .i64 (bd (q.getD 0 0#8))), (1, .agg (tokCells (decC ((q.drop 1).take 46)) (decG ((q.drop 1).take 46)))), (2, .string (strB (cutN ([(q.getD 47 0#8), (q.getD 48 0#8), (q.getD 49 0#8), (q.getD 50 0#8)])).1)), (3, .int .i64 (bd (q.getD 51 0#8)))]) (pr1 (HA52.ev 3 rfl) (pr1 (HA52.ev 2 rfl) (pr1 (HA52.ev 1 rfl) (pr1 (HA52.ev 0 rfl) (pr0))))) (Lz := [[.int .i64 0], (catA [[.int .i64 0], [.string (⟨#[]⟩)], [.int .i64 0], [.int .u32 0], [.int .u32 0], bytesV (zer 32)]).toList, [.string (⟨#[]⟩)], [.int .i64 0], bytesV (zer 32)]) (by kernel_rfl) (lens_cons rfl (lens_cons ((Array.length_toList).trans (cat_size (lens_cons rfl (lens_cons rfl (lens_cons rfl (lens_cons rfl (lens_cons rfl (lens_cons (len_bv (length_zer 32)) (lens_nil))))))))) (lens_cons rfl (lens_cons rfl (lens_cons (len_bv (length_zer 32)) (lens_nil)))))) (fit_cons (i := 0) rfl rfl (fit_cons (i := 1) rfl (tok_size _ _ (length_decG _)) (fit_cons (i := 2) rfl rfl (fit_cons (i := 3) rfl rfl (fit_nil))))) (cs := catA [[.int .i64 (bd (q.getD 0 0#8))], (tokCells (decC ((q.drop 1).take 46)) (decG ((q.drop 1).take 46))).toList, [.string (strB (cutN ([(q.getD 47 0#8), (q.getD 48 0#8), (q.getD 49 0#8), (q.getD 50 0#8)])).1)], [.int .i64 (bd (q.getD 51 0#8))], bytesV (zer 32)]) rfl) ⟨_, st_sel HSh41 [0, 1, 2] (by decide)⟩ rfl (fun a53 (HA53 : Env 79 [(50, .agg (catA [[.int .i64 (bd (q.getD 0 0#8))], (tokCells (decC ((q.drop 1).take 46)) (decG ((q.drop 1).take 46))).toList, [.string (strB (cutN ([(q.getD 47 0#8), (q.getD 48 0#8), (q.getD 49 0#8), (q.getD 50 0#8)])).1)], [.int .i64 (bd (q.getD 51 0#8))], bytesV (zer 32)])), (5, .int .i64 (decT ((q.drop 1).take 46))), (2, .pointer (some ⟨g2, 0, none⟩)), (0, .slice (some ⟨g, o, none⟩) 86 cc)] a53) => ?_)
    clear HA52 a52
    refine wpAnyH_all (rs := [12]) (by kernel_rfl) (by decide) (hm_cons ?_ hm_nil)
    · skip
      refine ho_does HA53 [0, 1, 2, 3] (R := fun v w9 => ∃ g7, v = .pointer (some ⟨g7, 0, none⟩) ∧ St w noF [⟨g2, 31, catA [[.int .i64 0], [.int .i64 0], [.string (⟨#[]⟩)], [.int .i64 0], [.int .u32 0], [.int .u32 0], bytesV (zer 32), [.string (⟨#[]⟩)], [.int .i64 0], bytesV (zer 32)]⟩, ⟨g4, 28, tokCells (decC ((q.drop 1).take 46)) (decG ((q.drop 1).take 46))⟩, ⟨g6, 64, nmC (cutN ([(q.getD 47 0#8), (q.getD 48 0#8), (q.getD 49 0#8), (q.getD 50 0#8)])).1 (cutN ([(q.getD 47 0#8), (q.getD 48 0#8), (q.getD 49 0#8), (q.getD 50 0#8)])).2⟩, ⟨g7, 31, catA [[.int .i64 0], [.int .i64 0], [.string (⟨#[]⟩)], [.int .i64 0], [.int .u32 0], [.int .u32 0], bytesV (zer 32), [.string (⟨#[]⟩)], [.int .i64 0], bytesV (zer 32)]⟩] w9) rfl (want_n rfl) (dd_new HSh41 (catA [[.int .i64 0], [.int .i64 0], [.string (⟨#[]⟩)], [.int .i64 0], [.int .u32 0], [.int .u32 0], bytesV (zer 32), [.string (⟨#[]⟩)], [.int .i64 0], bytesV (zer 32)]) rfl (z := .agg (catA [[.int .i64 0], [.int .i64 0], [.string (⟨#[]⟩)], [.int .i64 0], [.int .u32 0], [.int .u32 0], bytesV (zer 32), [.string (⟨#[]⟩)], [.int .i64 0], bytesV (zer 32)])) (by kernel_rfl) rfl (fun g9 w9 h9 => ⟨g9, rfl, h9⟩)) rfl ?_
      rintro _ W54 ⟨g7, rfl, HS54⟩ a54 (HA54 : Env 79 [(7, .pointer (some ⟨g7, 0, none⟩)), (50, .agg (catA [[.int .i64 (bd (q.getD 0 0#8))], (tokCells (decC ((q.drop 1).take 46)) (decG ((q.drop 1).take 46))).toList, [.string (strB (cutN ([(q.getD 47 0#8), (q.getD 48 0#8), (q.getD 49 0#8), (q.getD 50 0#8)])).1)], [.int .i64 (bd (q.getD 51 0#8))], bytesV (zer 32)])), (5, .int .i64 (decT ((q.drop 1).take 46))), (2, .pointer (some ⟨g2, 0, none⟩)), (0, .slice (some ⟨g, o, none⟩) 86 cc)] a54)
      clear HA53 a53 HSh41
      refine ⟨⟨_, st_sel HS54 [0, 1, 2, 3] (by decide)⟩, ?_⟩
      refine wpAnyH_all (rs := [13]) (by kernel_rfl) (by decide) (hm_cons ?_ hm_nil)
      · skip
        refine ho_does HA54 [0, 2, 3, 4] (R := fun v9 w9 => St w noF [⟨g2, 31, catA [[.int .i64 0], [.int .i64 0], [.string (⟨#[]⟩)], [.int .i64 0], [.int .u32 0], [.int .u32 0], bytesV (zer 32), [.string (⟨#[]⟩)], [.int .i64 0], bytesV (zer 32)]⟩, ⟨g4, 28, tokCells (decC ((q.drop 1).take 46)) (decG ((q.drop 1).take 46))⟩, ⟨g6, 64, nmC (cutN ([(q.getD 47 0#8), (q.getD 48 0#8), (q.getD 49 0#8), (q.getD 50 0#8)])).1 (cutN ([(q.getD 47 0#8), (q.getD 48 0#8), (q.getD 49 0#8), (q.getD 50 0#8)])).2⟩, ⟨g7, 31, catA [[.int .i64 (bd (q.getD 0 0#8))], (tokCells (decC ((q.drop 1).take 46)) (decG ((q.drop 1).take 46))).toList, [.string (strB (cutN ([(q.getD 47 0#8), (q.getD 48 0#8), (q.getD 49 0#8), (q.getD 50 0#8)])).1)], [.int .i64 (bd (q.getD 51 0#8))], bytesV (zer 32)]⟩] w9) rfl (want_n rfl) (dd_setrow HS54 3 rfl rfl (HA54.ev 0 rfl) (HA54.ev 1 rfl) (by kernel_rfl) ((cat_size (lens_cons rfl (lens_cons ((Array.length_toList).trans (tok_size _ _ (length_decG _))) (lens_cons rfl (lens_cons rfl (lens_cons (len_bv (length_zer 32)) (lens_nil))))))) : (catA [[.int .i64 (bd (q.getD 0 0#8))], (tokCells (decC ((q.drop 1).take 46)) (decG ((q.drop 1).take 46))).toList, [.string (strB (cutN ([(q.getD 47 0#8), (q.getD 48 0#8), (q.getD 49 0#8), (q.getD 50 0#8)])).1)], [.int .i64 (bd (q.getD 51 0#8))], bytesV (zer 32)]).size = 72) ((cat_size (lens_cons rfl (lens_cons rfl (lens_cons rfl (lens_cons rfl (lens_cons rfl (lens_cons rfl (lens_cons (len_bv (length_zer 32)) (lens_cons rfl (lens_cons rfl (lens_cons (len_bv (length_zer 32)) (lens_nil)))))))))))) : (catA [[.int .i64 0], [.int .i64 0], [.string (⟨#[]⟩)], [.int .i64 0], [.int .u32 0], [.int .u32 0], bytesV (zer 32), [.string (⟨#[]⟩)], [.int .i64 0], bytesV (zer 32)]).size = 72) (cat_one (ones_cons (ones_c rfl) (ones_cons (one_tokL _ _) (ones_cons (ones_c rfl) (ones_cons (ones_c rfl) (ones_cons (one_bytesV _) (ones_nil))))))) (fun w9 h9 => h9)) rfl ?_
        rintro _ W55 HS55 a55 (HA55 : Env 79 [(7, .pointer (some ⟨g7, 0, none⟩)), (5, .int .i64 (decT ((q.drop 1).take 46))), (2, .pointer (some ⟨g2, 0, none⟩)), (0, .slice (some ⟨g, o, none⟩) 86 cc)] a55)
        clear HA54 a54 HS54
        refine ⟨⟨_, st_sel HS55 [0, 1, 2, 3] (by decide)⟩, ?_⟩
        refine wpAnyH_done (by kernel_rfl) ?_ _
        refine nx ?_
        refine wp_seq ?_
        refine wp_seq ?_
        refine wp_region_lit ?_
        refine wl_is HA55 [0, 1, 2, 3] (v := .slice (some ⟨g, o, none⟩) 86 cc) (want_n rfl) (dd_rn (dd_mv rfl (HA55.ev 3 rfl)) ⟨rfl, rfl⟩) rfl (fun a56 (HA56 : Env 79 [(51, .slice (some ⟨g, o, none⟩) 86 cc), (7, .pointer (some ⟨g7, 0, none⟩)), (5, .int .i64 (decT ((q.drop 1).take 46))), (2, .pointer (some ⟨g2, 0, none⟩)), (0, .slice (some ⟨g, o, none⟩) 86 cc)] a56) => ?_)
        clear HA55 a55
        refine wl_is HA56 [1, 2, 3, 4] (v := .int .i64 86) (want_n rfl) (dd_rn (dd_len rfl (HA56.ev 0 rfl) Tryd.underlying32) ⟨rfl, rfl⟩) rfl (fun a57 (HA57 : Env 79 [(52, .int .i64 86), (7, .pointer (some ⟨g7, 0, none⟩)), (5, .int .i64 (decT ((q.drop 1).take 46))), (2, .pointer (some ⟨g2, 0, none⟩)), (0, .slice (some ⟨g, o, none⟩) 86 cc)] a57) => ?_)
        clear HA56 a56
        refine wl_is HA57 [1, 2, 3, 4] (v := .bool true) (want_n rfl) (dd_rn (dd_cmp rfl (HA57.ev 0 rfl) rfl (eq_t (by decide))) ⟨rfl, rfl⟩) rfl (fun a58 (HA58 : Env 79 [(53, .bool true), (7, .pointer (some ⟨g7, 0, none⟩)), (5, .int .i64 (decT ((q.drop 1).take 46))), (2, .pointer (some ⟨g2, 0, none⟩)), (0, .slice (some ⟨g, o, none⟩) 86 cc)] a58) => ?_)
        clear HA57 a57
        refine wpList_nil ?_
        refine nx ?_
        refine wp_cond_true (HA58.ev 0 rfl) ?_
        refine wp_held (fun W => ∃ R9, St w noF (⟨g2, 31, catA [[.int .i64 0], [.int .i64 0], [.string (⟨#[]⟩)], [.int .i64 0], [.int .u32 0], [.int .u32 0], bytesV (zer 32), [.string (⟨#[]⟩)], [.int .i64 0], bytesV (zer 32)]⟩ :: ⟨g4, 28, tokCells (decC ((q.drop 1).take 46)) (decG ((q.drop 1).take 46))⟩ :: ⟨g6, 64, nmC (cutN ([(q.getD 47 0#8), (q.getD 48 0#8), (q.getD 49 0#8), (q.getD 50 0#8)])).1 (cutN ([(q.getD 47 0#8), (q.getD 48 0#8), (q.getD 49 0#8), (q.getD 50 0#8)])).2⟩ :: R9) W) (by kernel_rfl) rfl ?_
        have HSh59 := HS55.drew
        clear HS55
        refine ha_take HA58 [1, 2, 3, 4] (i := 0) (.pointer (some ⟨g7, 40, none⟩)) rfl (by kernel_rfl) (by kernel_rfl) (by kernel_rfl) (pq_then pq_body) (want_n rfl) (fun w9 ⟨R9, HS9⟩ => dd_field (off := 40) (j := 40) rfl (HA58.ev 1 rfl) (by kernel_rfl) rfl) ⟨_, st_sel HSh59 [0, 1, 2, 3] (by decide)⟩ rfl (fun a60 (HA60 : Env 79 [(54, .pointer (some ⟨g7, 40, none⟩)), (7, .pointer (some ⟨g7, 0, none⟩)), (5, .int .i64 (decT ((q.drop 1).take 46))), (2, .pointer (some ⟨g2, 0, none⟩)), (0, .slice (some ⟨g, o, none⟩) 86 cc)] a60) => ?_)
        clear HA58 a58
        refine ha_take HA60 [1, 2, 3, 4] (i := 1) (.slice (some ⟨g7, 40, none⟩) 32 32) rfl (by kernel_rfl) (by kernel_rfl) (by kernel_rfl) (pq_then pq_body) (want_n rfl) (fun w9 ⟨R9, HS9⟩ => dd_slA (n := 32) (sz := 1) rfl (HA60.ev 0 rfl) (by kernel_rfl)) ⟨_, st_sel HSh59 [0, 1, 2, 3] (by decide)⟩ rfl (fun a61 (HA61 : Env 79 [(55, .slice (some ⟨g7, 40, none⟩) 32 32), (7, .pointer (some ⟨g7, 0, none⟩)), (5, .int .i64 (decT ((q.drop 1).take 46))), (2, .pointer (some ⟨g2, 0, none⟩)), (0, .slice (some ⟨g, o, none⟩) 86 cc)] a61) => ?_)
        clear HA60 a60
        refine ha_take HA61 [0, 1, 2, 3, 4] (i := 2) (.slice (some ⟨g, o, none⟩) 86 cc) rfl (by kernel_rfl) (by kernel_rfl) (by kernel_rfl) (pq_then pq_body) (want_n rfl) (fun w9 ⟨R9, HS9⟩ => dd_mv rfl (HA61.ev 4 rfl)) ⟨_, st_sel HSh59 [0, 1, 2, 3] (by decide)⟩ rfl (fun a62 (HA62 : Env 79 [(56, .slice (some ⟨g, o, none⟩) 86 cc), (55, .slice (some ⟨g7, 40, none⟩) 32 32), (7, .pointer (some ⟨g7, 0, none⟩)), (5, .int .i64 (decT ((q.drop 1).take 46))), (2, .pointer (some ⟨g2, 0, none⟩)), (0, .slice (some ⟨g, o, none⟩) 86 cc)] a62) => ?_)
        clear HA61 a61
        refine ha_take HA62 [1, 2, 3, 4, 5] (i := 3) (.slice (some ⟨g, o + 52, none⟩) 32 (cc - 52)) rfl (by kernel_rfl) (by kernel_rfl) (by kernel_rfl) (pq_then pq_body) (want_n rfl) (fun w9 ⟨R9, HS9⟩ => dd_sllh (l := 52) (u := 84) (sz := 1) rfl (HA62.ev 0 rfl) rfl rfl (by kernel_rfl) (by decide) (by omega) (by omega) rfl rfl rfl) ⟨_, st_sel HSh59 [0, 1, 2, 3] (by decide)⟩ rfl (fun a63 (HA63 : Env 79 [(57, .slice (some ⟨g, o + 52, none⟩) 32 (cc - 52)), (55, .slice (some ⟨g7, 40, none⟩) 32 32), (7, .pointer (some ⟨g7, 0, none⟩)), (5, .int .i64 (decT ((q.drop 1).take 46))), (2, .pointer (some ⟨g2, 0, none⟩)), (0, .slice (some ⟨g, o, none⟩) 86 cc)] a63) => ?_)
        clear HA62 a62
        refine wpAnyH_all (rs := [4]) (by kernel_rfl) (by decide) (hm_cons ?_ hm_nil)
        · skip
          refine ho_does HA63 [2, 3, 4, 5] (R := fun v9 w9 => v9 = .int .i64 32 ∧ St w noF [⟨g2, 31, catA [[.int .i64 0], [.int .i64 0], [.string (⟨#[]⟩)], [.int .i64 0], [.int .u32 0], [.int .u32 0], bytesV (zer 32), [.string (⟨#[]⟩)], [.int .i64 0], bytesV (zer 32)]⟩, ⟨g4, 28, tokCells (decC ((q.drop 1).take 46)) (decG ((q.drop 1).take 46))⟩, ⟨g6, 64, nmC (cutN ([(q.getD 47 0#8), (q.getD 48 0#8), (q.getD 49 0#8), (q.getD 50 0#8)])).1 (cutN ([(q.getD 47 0#8), (q.getD 48 0#8), (q.getD 49 0#8), (q.getD 50 0#8)])).2⟩, ⟨g7, 31, catA [[.int .i64 (bd (q.getD 0 0#8))], (tokCells (decC ((q.drop 1).take 46)) (decG ((q.drop 1).take 46))).toList, [.string (strB (cutN ([(q.getD 47 0#8), (q.getD 48 0#8), (q.getD 49 0#8), (q.getD 50 0#8)])).1)], [.int .i64 (bd (q.getD 51 0#8))], bytesV ((q.drop 52).take 32)]⟩] w9) rfl (want_n rfl) (dd_copyB HSh59 3 4 rfl (lens_cons rfl (lens_cons ((Array.length_toList).trans (tok_size _ _ (length_decG _))) (lens_cons rfl (lens_cons rfl (lens_cons (len_bv (length_zer 32)) (lens_nil)))))) rfl rfl rfl (HA63.ev 1 rfl) (HA63.ev 0 rfl) ((((HB _ HSh59.below).drop 52).take 32).slice (len_take (len_drop hl rfl) (by decide)) (by omega)) (len_take (len_drop hl rfl) (by decide)) (fun w9 h9 => ⟨rfl, h9⟩)) rfl ?_
          rintro _ W64 ⟨rfl, HS64⟩ a64 (HA64 : Env 79 [(58, .int .i64 32), (7, .pointer (some ⟨g7, 0, none⟩)), (5, .int .i64 (decT ((q.drop 1).take 46))), (2, .pointer (some ⟨g2, 0, none⟩)), (0, .slice (some ⟨g, o, none⟩) 86 cc)] a64)
          clear HA63 a63 HSh59
          refine ⟨⟨_, st_sel HS64 [0, 1, 2, 3] (by decide)⟩, ?_⟩
          refine wpAnyH_done (by kernel_rfl) ?_ _
          refine nx ?_
          refine wp_seq ?_
          refine wp_region_lit ?_
          refine wl_is HA64 [1, 2, 3, 4] (v := .agg (catA [[.int .i64 (bd (q.getD 0 0#8))], (tokCells (decC ((q.drop 1).take 46)) (decG ((q.drop 1).take 46))).toList, [.string (strB (cutN ([(q.getD 47 0#8), (q.getD 48 0#8), (q.getD 49 0#8), (q.getD 50 0#8)])).1)], [.int .i64 (bd (q.getD 51 0#8))], bytesV ((q.drop 52).take 32)])) (want_n rfl) (dd_rn (dd_load HS64 3 0 rfl rfl (HA64.ev 1 rfl) (slab_whole _) Tryd.underlying31 rfl (by rw [show (catA [[.int .i64 (bd (q.getD 0 0#8))], (tokCells (decC ((q.drop 1).take 46)) (decG ((q.drop 1).take 46))).toList, [.string (strB (cutN ([(q.getD 47 0#8), (q.getD 48 0#8), (q.getD 49 0#8), (q.getD 50 0#8)])).1)], [.int .i64 (bd (q.getD 51 0#8))], bytesV ((q.drop 52).take 32)]).size = 72 from (cat_size (lens_cons rfl (lens_cons ((Array.length_toList).trans (tok_size _ _ (length_decG _))) (lens_cons rfl (lens_cons rfl (lens_cons (len_bv (len_take (len_drop hl rfl) (by decide))) (lens_nil)))))))]; kernel_rfl)) ⟨rfl, rfl⟩) rfl (fun a65 (HA65 : Env 79 [(60, .agg (catA [[.int .i64 (bd (q.getD 0 0#8))], (tokCells (decC ((q.drop 1).take 46)) (decG ((q.drop 1).take 46))).toList, [.string (strB (cutN ([(q.getD 47 0#8), (q.getD 48 0#8), (q.getD 49 0#8), (q.getD 50 0#8)])).1)], [.int .i64 (bd (q.getD 51 0#8))], bytesV ((q.drop 52).take 32)])), (7, .pointer (some ⟨g7, 0, none⟩)), (5, .int .i64 (decT ((q.drop 1).take 46))), (2, .pointer (some ⟨g2, 0, none⟩)), (0, .slice (some ⟨g, o, none⟩) 86 cc)] a65) => ?_)
          clear HA64 a64
          cases hb67 : mayA (askQ q)
          case false =>
            refine wl_does HA65 [1, 2, 3, 4] (R := fun v w9 => v = .tuple #[.slice none 0 0, .int .i64 11] ∧ Below W64.heap.size W64 w9) (want_n rfl) (dd_call Tryd.func9 (by kernel_rfl) (by kernel_rfl) rfl (args1 (HA65.ev 0 rfl)) (rask_bad (askQ q) _ W64 HOKQ hb67 (HASK)) (fun _ w9 h9 => ⟨_, h9.1, rfl, h9.2⟩)) rfl ?_
            rintro _ W68 ⟨rfl, hb68⟩ a68 (HA68 : Env 79 [(61, .tuple #[.slice none 0 0, .int .i64 11]), (7, .pointer (some ⟨g7, 0, none⟩)), (5, .int .i64 (decT ((q.drop 1).take 46))), (2, .pointer (some ⟨g2, 0, none⟩)), (0, .slice (some ⟨g, o, none⟩) 86 cc)] a68)
            have HS68 := HS64.same hb68
            clear HA65 a65
            clear HS64 hb68
            refine wl_is HA68 [1, 2, 3, 4] (v := .tuple #[.slice none 0 0, .int .i64 11]) (want_n rfl) (dd_rn (dd_mv rfl (HA68.ev 0 rfl)) ⟨rfl, rfl⟩) rfl (fun a69 (HA69 : Env 79 [(59, .tuple #[.slice none 0 0, .int .i64 11]), (7, .pointer (some ⟨g7, 0, none⟩)), (5, .int .i64 (decT ((q.drop 1).take 46))), (2, .pointer (some ⟨g2, 0, none⟩)), (0, .slice (some ⟨g, o, none⟩) 86 cc)] a69) => ?_)
            clear HA68 a68
            refine wl_is HA69 [0, 1, 2, 3, 4] (v := .slice none 0 0) (want_n rfl) (dd_rn (dd_ext rfl (HA69.ev 0 rfl) rfl) ⟨rfl, rfl⟩) rfl (fun a70 (HA70 : Env 79 [(62, .slice none 0 0), (59, .tuple #[.slice none 0 0, .int .i64 11]), (7, .pointer (some ⟨g7, 0, none⟩)), (5, .int .i64 (decT ((q.drop 1).take 46))), (2, .pointer (some ⟨g2, 0, none⟩)), (0, .slice (some ⟨g, o, none⟩) 86 cc)] a70) => ?_)
            clear HA69 a69
            refine wl_is HA70 [0, 2, 3, 4, 5] (v := .int .i64 11) (want_n rfl) (dd_rn (dd_ext rfl (HA70.ev 1 rfl) rfl) ⟨rfl, rfl⟩) rfl (fun a71 (HA71 : Env 79 [(63, .int .i64 11), (62, .slice none 0 0), (7, .pointer (some ⟨g7, 0, none⟩)), (5, .int .i64 (decT ((q.drop 1).take 46))), (2, .pointer (some ⟨g2, 0, none⟩)), (0, .slice (some ⟨g, o, none⟩) 86 cc)] a71) => ?_)
            clear HA70 a70
            refine wl_is HA71 [0, 2, 3, 4, 5] (v := .slice none 0 0) (want_n rfl) (dd_rn (dd_as rfl (HA71.ev 1 rfl)) ⟨rfl, rfl⟩) rfl (fun a72 (HA72 : Env 79 [(8, .slice none 0 0), (63, .int .i64 11), (7, .pointer (some ⟨g7, 0, none⟩)), (5, .int .i64 (decT ((q.drop 1).take 46))), (2, .pointer (some ⟨g2, 0, none⟩)), (0, .slice (some ⟨g, o, none⟩) 86 cc)] a72) => ?_)
            clear HA71 a71
            refine wl_is HA72 [0, 2, 3, 4, 5] (v := .int .i64 11) (want_n rfl) (dd_rn (dd_as rfl (HA72.ev 1 rfl)) ⟨rfl, rfl⟩) rfl (fun a73 (HA73 : Env 79 [(9, .int .i64 11), (8, .slice none 0 0), (7, .pointer (some ⟨g7, 0, none⟩)), (5, .int .i64 (decT ((q.drop 1).take 46))), (2, .pointer (some ⟨g2, 0, none⟩)), (0, .slice (some ⟨g, o, none⟩) 86 cc)] a73) => ?_)
            clear HA72 a72
            refine wpList_nil ?_
            refine nx ?_
            refine wp_seq ?_
            refine wp_seq ?_
            refine wp_region_lit ?_
            refine wl_is HA73 [0, 1, 2, 4, 5] (v := .int .i64 (decT ((q.drop 1).take 46))) (want_n rfl) (dd_rn (dd_mv rfl (HA73.ev 3 rfl)) ⟨rfl, rfl⟩) rfl (fun a74 (HA74 : Env 79 [(64, .int .i64 (decT ((q.drop 1).take 46))), (9, .int .i64 11), (8, .slice none 0 0), (7, .pointer (some ⟨g7, 0, none⟩)), (2, .pointer (some ⟨g2, 0, none⟩)), (0, .slice (some ⟨g, o, none⟩) 86 cc)] a74) => ?_)
            clear HA73 a73
            by_cases hc76 : (decT ((q.drop 1).take 46) : Int) = 0
            · skip
              refine wl_is HA74 [1, 2, 3, 4, 5] (v := .bool false) (want_n rfl) (dd_rn (dd_cmp rfl (HA74.ev 0 rfl) rfl (ne_f hc76)) ⟨rfl, rfl⟩) rfl (fun a77 (HA77 : Env 79 [(65, .bool false), (9, .int .i64 11), (8, .slice none 0 0), (7, .pointer (some ⟨g7, 0, none⟩)), (2, .pointer (some ⟨g2, 0, none⟩)), (0, .slice (some ⟨g, o, none⟩) 86 cc)] a77) => ?_)
              clear HA74 a74
              refine wl_is HA77 [1, 2, 3, 4, 5] (v := .bool false) (want_n rfl) (dd_rn (dd_mv rfl (HA77.ev 0 rfl)) ⟨rfl, rfl⟩) rfl (fun a78 (HA78 : Env 79 [(66, .bool false), (9, .int .i64 11), (8, .slice none 0 0), (7, .pointer (some ⟨g7, 0, none⟩)), (2, .pointer (some ⟨g2, 0, none⟩)), (0, .slice (some ⟨g, o, none⟩) 86 cc)] a78) => ?_)
              clear HA77 a77
              refine wl_is HA78 [0, 2, 3, 4, 5] (v := .int .i64 11) (want_g rfl (t := 66) rfl (HA78.get 0 rfl) rfl) (dd_rn (dd_mv rfl (HA78.ev 1 rfl)) ⟨rfl, rfl⟩) rfl (fun a79 (HA79 : Env 79 [(67, .int .i64 11), (66, .bool false), (8, .slice none 0 0), (7, .pointer (some ⟨g7, 0, none⟩)), (2, .pointer (some ⟨g2, 0, none⟩)), (0, .slice (some ⟨g, o, none⟩) 86 cc)] a79) => ?_)
              clear HA78 a78
              refine wl_is HA79 [1, 2, 3, 4, 5] (v := .bool true) (want_g rfl (t := 66) rfl (HA79.get 1 rfl) rfl) (dd_rn (dd_cmp rfl (HA79.ev 0 rfl) rfl (ne_t (by decide))) ⟨rfl, rfl⟩) rfl (fun a80 (HA80 : Env 79 [(68, .bool true), (66, .bool false), (8, .slice none 0 0), (7, .pointer (some ⟨g7, 0, none⟩)), (2, .pointer (some ⟨g2, 0, none⟩)), (0, .slice (some ⟨g, o, none⟩) 86 cc)] a80) => ?_)
              clear HA79 a79
              refine wl_is HA80 [2, 3, 4, 5] (v := .bool true) (want_n rfl) (dd_rn (dd_pickF rfl (HA80.ev 1 rfl) (HA80.ev 0 rfl)) ⟨rfl, rfl⟩) rfl (fun a81 (HA81 : Env 79 [(69, .bool true), (8, .slice none 0 0), (7, .pointer (some ⟨g7, 0, none⟩)), (2, .pointer (some ⟨g2, 0, none⟩)), (0, .slice (some ⟨g, o, none⟩) 86 cc)] a81) => ?_)
              clear HA80 a80
              refine wl_is HA81 [1, 2, 3, 4] (v := .bool true) (want_n rfl) (dd_rn (dd_mv rfl (HA81.ev 0 rfl)) ⟨rfl, rfl⟩) rfl (fun a82 (HA82 : Env 79 [(70, .bool true), (8, .slice none 0 0), (7, .pointer (some ⟨g7, 0, none⟩)), (2, .pointer (some ⟨g2, 0, none⟩)), (0, .slice (some ⟨g, o, none⟩) 86 cc)] a82) => ?_)
              clear HA81 a81
              refine wl_skip HA82 [0, 2, 3, 4] (want_g rfl (t := 70) rfl (HA82.get 0 rfl) rfl) rfl (fun a83 (HA83 : Env 79 [(71, undef), (70, .bool true), (7, .pointer (some ⟨g7, 0, none⟩)), (2, .pointer (some ⟨g2, 0, none⟩)), (0, .slice (some ⟨g, o, none⟩) 86 cc)] a83) => ?_)
              clear HA82 a82
              refine wl_skip HA83 [1, 2, 3, 4] (want_g rfl (t := 70) rfl (HA83.get 1 rfl) rfl) rfl (fun a84 (HA84 : Env 79 [(72, undef), (70, .bool true), (7, .pointer (some ⟨g7, 0, none⟩)), (2, .pointer (some ⟨g2, 0, none⟩)), (0, .slice (some ⟨g, o, none⟩) 86 cc)] a84) => ?_)
              clear HA83 a83
              refine wl_skip HA84 [0, 1, 2, 3] (want_g rfl (t := 70) rfl (HA84.get 1 rfl) rfl) rfl (fun a85 (HA85 : Env 79 [(73, undef), (72, undef), (70, .bool true), (7, .pointer (some ⟨g7, 0, none⟩)), (2, .pointer (some ⟨g2, 0, none⟩))] a85) => ?_)
              clear HA84 a84
              refine wl_skip HA85 [1, 2, 3, 4] (want_g rfl (t := 70) rfl (HA85.get 2 rfl) rfl) rfl (fun a86 (HA86 : Env 79 [(74, undef), (72, undef), (70, .bool true), (7, .pointer (some ⟨g7, 0, none⟩)), (2, .pointer (some ⟨g2, 0, none⟩))] a86) => ?_)
              clear HA85 a85
              refine wl_skip HA86 [2, 3, 4] (want_g rfl (t := 70) rfl (HA86.get 2 rfl) rfl) rfl (fun a87 (HA87 : Env 79 [(75, undef), (70, .bool true), (7, .pointer (some ⟨g7, 0, none⟩)), (2, .pointer (some ⟨g2, 0, none⟩))] a87) => ?_)
              clear HA86 a86
              refine wl_is HA87 [2, 3] (v := .bool true) (want_n rfl) (dd_rn (dd_pickT rfl (HA87.ev 1 rfl) rfl) ⟨rfl, rfl⟩) rfl (fun a88 (HA88 : Env 79 [(76, .bool true), (7, .pointer (some ⟨g7, 0, none⟩)), (2, .pointer (some ⟨g2, 0, none⟩))] a88) => ?_)
              clear HA87 a87
              refine wpList_nil ?_
              refine nx ?_
              refine wp_cond_true (HA88.ev 0 rfl) ?_
              refine wp_seq ?_
              refine wp_region_lit ?_
              refine wl_is HA88 [2] (v := .agg (catA [[.int .i64 0], (catA [[.int .i64 0], [.string (⟨#[]⟩)], [.int .i64 0], [.int .u32 0], [.int .u32 0], bytesV (zer 32)]).toList, [.string (⟨#[]⟩)], [.int .i64 0], bytesV (zer 32)])) (want_n rfl) (dd_rn (dd_bld rfl (ps := []) (pr0) (Lz := [[.int .i64 0], (catA [[.int .i64 0], [.string (⟨#[]⟩)], [.int .i64 0], [.int .u32 0], [.int .u32 0], bytesV (zer 32)]).toList, [.string (⟨#[]⟩)], [.int .i64 0], bytesV (zer 32)]) (by kernel_rfl) (lens_cons rfl (lens_cons ((Array.length_toList).trans (cat_size (lens_cons rfl (lens_cons rfl (lens_cons rfl (lens_cons rfl (lens_cons rfl (lens_cons (len_bv (length_zer 32)) (lens_nil))))))))) (lens_cons rfl (lens_cons rfl (lens_cons (len_bv (length_zer 32)) (lens_nil)))))) (fit_nil) (cs := catA [[.int .i64 0], (catA [[.int .i64 0], [.string (⟨#[]⟩)], [.int .i64 0], [.int .u32 0], [.int .u32 0], bytesV (zer 32)]).toList, [.string (⟨#[]⟩)], [.int .i64 0], bytesV (zer 32)]) rfl) ⟨rfl, rfl⟩) rfl (fun a89 (HA89 : Env 79 [(77, .agg (catA [[.int .i64 0], (catA [[.int .i64 0], [.string (⟨#[]⟩)], [.int .i64 0], [.int .u32 0], [.int .u32 0], bytesV (zer 32)]).toList, [.string (⟨#[]⟩)], [.int .i64 0], bytesV (zer 32)])), (2, .pointer (some ⟨g2, 0, none⟩))] a89) => ?_)
              clear HA88 a88
              refine wl_does HA89 [1] (R := fun v9 w9 => St w noF [⟨g2, 31, catA [[.int .i64 0], (catA [[.int .i64 0], [.string (⟨#[]⟩)], [.int .i64 0], [.int .u32 0], [.int .u32 0], bytesV (zer 32)]).toList, [.string (⟨#[]⟩)], [.int .i64 0], bytesV (zer 32)]⟩, ⟨g4, 28, tokCells (decC ((q.drop 1).take 46)) (decG ((q.drop 1).take 46))⟩, ⟨g6, 64, nmC (cutN ([(q.getD 47 0#8), (q.getD 48 0#8), (q.getD 49 0#8), (q.getD 50 0#8)])).1 (cutN ([(q.getD 47 0#8), (q.getD 48 0#8), (q.getD 49 0#8), (q.getD 50 0#8)])).2⟩, ⟨g7, 31, catA [[.int .i64 (bd (q.getD 0 0#8))], (tokCells (decC ((q.drop 1).take 46)) (decG ((q.drop 1).take 46))).toList, [.string (strB (cutN ([(q.getD 47 0#8), (q.getD 48 0#8), (q.getD 49 0#8), (q.getD 50 0#8)])).1)], [.int .i64 (bd (q.getD 51 0#8))], bytesV ((q.drop 52).take 32)]⟩] w9) (want_n rfl) (dd_setrow HS68 0 rfl rfl (HA89.ev 1 rfl) (HA89.ev 0 rfl) (by kernel_rfl) ((cat_size (lens_cons rfl (lens_cons ((Array.length_toList).trans (cat_size (lens_cons rfl (lens_cons rfl (lens_cons rfl (lens_cons rfl (lens_cons rfl (lens_cons (len_bv (length_zer 32)) (lens_nil))))))))) (lens_cons rfl (lens_cons rfl (lens_cons (len_bv (length_zer 32)) (lens_nil))))))) : (catA [[.int .i64 0], (catA [[.int .i64 0], [.string (⟨#[]⟩)], [.int .i64 0], [.int .u32 0], [.int .u32 0], bytesV (zer 32)]).toList, [.string (⟨#[]⟩)], [.int .i64 0], bytesV (zer 32)]).size = 72) ((cat_size (lens_cons rfl (lens_cons rfl (lens_cons rfl (lens_cons rfl (lens_cons rfl (lens_cons rfl (lens_cons (len_bv (length_zer 32)) (lens_cons rfl (lens_cons rfl (lens_cons (len_bv (length_zer 32)) (lens_nil)))))))))))) : (catA [[.int .i64 0], [.int .i64 0], [.string (⟨#[]⟩)], [.int .i64 0], [.int .u32 0], [.int .u32 0], bytesV (zer 32), [.string (⟨#[]⟩)], [.int .i64 0], bytesV (zer 32)]).size = 72) (cat_one (ones_cons (ones_c rfl) (ones_cons (all_one (cat_one (ones_cons (ones_c rfl) (ones_cons (ones_c rfl) (ones_cons (ones_c rfl) (ones_cons (ones_c rfl) (ones_cons (ones_c rfl) (ones_cons (one_bytesV _) (ones_nil))))))))) (ones_cons (ones_c rfl) (ones_cons (ones_c rfl) (ones_cons (one_bytesV _) (ones_nil))))))) (fun w9 h9 => h9)) rfl ?_
              rintro _ W90 HS90 a90 (HA90 : Env 79 [(2, .pointer (some ⟨g2, 0, none⟩))] a90)
              clear HA89 a89 HS68
              refine wl_is HA90 [0] (v := .int .i64 11) (want_n rfl) (dd_rn (dd_as rfl rfl) ⟨rfl, rfl⟩) rfl (fun a91 (HA91 : Env 79 [(3, .int .i64 11), (2, .pointer (some ⟨g2, 0, none⟩))] a91) => ?_)
              clear HA90 a90
              refine wpList_nil ?_
              refine nx ?_
              refine wp_ret ?_
              refine tr ?_
              refine ret_run HA91 (res_ct Tryd.results11 (HA91.get 1 rfl) (HS90.row 0 rfl) Tryd.underlying31 rfl (by rw [show (catA [[.int .i64 0], (catA [[.int .i64 0], [.string (⟨#[]⟩)], [.int .i64 0], [.int .u32 0], [.int .u32 0], bytesV (zer 32)]).toList, [.string (⟨#[]⟩)], [.int .i64 0], bytesV (zer 32)]).size = 72 from (cat_size (lens_cons rfl (lens_cons ((Array.length_toList).trans (cat_size (lens_cons rfl (lens_cons rfl (lens_cons rfl (lens_cons rfl (lens_cons rfl (lens_cons (len_bv (length_zer 32)) (lens_nil))))))))) (lens_cons rfl (lens_cons rfl (lens_cons (len_bv (length_zer 32)) (lens_nil)))))))]; kernel_rfl) (HA91.get 0 rfl)) ?_
              have hd := adec_no (q := q) (.inl hb67)
              exact ⟨by rw [hd.1, hd.2]; first | rw [ask_zcat] | rw [ask_zcat2], HS90.below⟩
            · skip
              refine wl_is HA74 [1, 2, 3, 4, 5] (v := .bool true) (want_n rfl) (dd_rn (dd_cmp rfl (HA74.ev 0 rfl) rfl (ne_t hc76)) ⟨rfl, rfl⟩) rfl (fun a92 (HA92 : Env 79 [(65, .bool true), (9, .int .i64 11), (8, .slice none 0 0), (7, .pointer (some ⟨g7, 0, none⟩)), (2, .pointer (some ⟨g2, 0, none⟩)), (0, .slice (some ⟨g, o, none⟩) 86 cc)] a92) => ?_)
              clear HA74 a74
              refine wl_is HA92 [1, 2, 3, 4, 5] (v := .bool true) (want_n rfl) (dd_rn (dd_mv rfl (HA92.ev 0 rfl)) ⟨rfl, rfl⟩) rfl (fun a93 (HA93 : Env 79 [(66, .bool true), (9, .int .i64 11), (8, .slice none 0 0), (7, .pointer (some ⟨g7, 0, none⟩)), (2, .pointer (some ⟨g2, 0, none⟩)), (0, .slice (some ⟨g, o, none⟩) 86 cc)] a93) => ?_)
              clear HA92 a92
              refine wl_skip HA93 [0, 2, 3, 4, 5] (want_g rfl (t := 66) rfl (HA93.get 0 rfl) rfl) rfl (fun a94 (HA94 : Env 79 [(67, undef), (66, .bool true), (8, .slice none 0 0), (7, .pointer (some ⟨g7, 0, none⟩)), (2, .pointer (some ⟨g2, 0, none⟩)), (0, .slice (some ⟨g, o, none⟩) 86 cc)] a94) => ?_)
              clear HA93 a93
              refine wl_skip HA94 [1, 2, 3, 4, 5] (want_g rfl (t := 66) rfl (HA94.get 1 rfl) rfl) rfl (fun a95 (HA95 : Env 79 [(68, undef), (66, .bool true), (8, .slice none 0 0), (7, .pointer (some ⟨g7, 0, none⟩)), (2, .pointer (some ⟨g2, 0, none⟩)), (0, .slice (some ⟨g, o, none⟩) 86 cc)] a95) => ?_)
              clear HA94 a94
              refine wl_is HA95 [2, 3, 4, 5] (v := .bool true) (want_n rfl) (dd_rn (dd_pickT rfl (HA95.ev 1 rfl) rfl) ⟨rfl, rfl⟩) rfl (fun a96 (HA96 : Env 79 [(69, .bool true), (8, .slice none 0 0), (7, .pointer (some ⟨g7, 0, none⟩)), (2, .pointer (some ⟨g2, 0, none⟩)), (0, .slice (some ⟨g, o, none⟩) 86 cc)] a96) => ?_)
              clear HA95 a95
              refine wl_is HA96 [1, 2, 3, 4] (v := .bool true) (want_n rfl) (dd_rn (dd_mv rfl (HA96.ev 0 rfl)) ⟨rfl, rfl⟩) rfl (fun a97 (HA97 : Env 79 [(70, .bool true), (8, .slice none 0 0), (7, .pointer (some ⟨g7, 0, none⟩)), (2, .pointer (some ⟨g2, 0, none⟩)), (0, .slice (some ⟨g, o, none⟩) 86 cc)] a97) => ?_)
              clear HA96 a96
              refine wl_skip HA97 [0, 2, 3, 4] (want_g rfl (t := 70) rfl (HA97.get 0 rfl) rfl) rfl (fun a98 (HA98 : Env 79 [(71, undef), (70, .bool true), (7, .pointer (some ⟨g7, 0, none⟩)), (2, .pointer (some ⟨g2, 0, none⟩)), (0, .slice (some ⟨g, o, none⟩) 86 cc)] a98) => ?_)
              clear HA97 a97
              refine wl_skip HA98 [1, 2, 3, 4] (want_g rfl (t := 70) rfl (HA98.get 1 rfl) rfl) rfl (fun a99 (HA99 : Env 79 [(72, undef), (70, .bool true), (7, .pointer (some ⟨g7, 0, none⟩)), (2, .pointer (some ⟨g2, 0, none⟩)), (0, .slice (some ⟨g, o, none⟩) 86 cc)] a99) => ?_)
              clear HA98 a98
              refine wl_skip HA99 [0, 1, 2, 3] (want_g rfl (t := 70) rfl (HA99.get 1 rfl) rfl) rfl (fun a100 (HA100 : Env 79 [(73, undef), (72, undef), (70, .bool true), (7, .pointer (some ⟨g7, 0, none⟩)), (2, .pointer (some ⟨g2, 0, none⟩))] a100) => ?_)
              clear HA99 a99
              refine wl_skip HA100 [1, 2, 3, 4] (want_g rfl (t := 70) rfl (HA100.get 2 rfl) rfl) rfl (fun a101 (HA101 : Env 79 [(74, undef), (72, undef), (70, .bool true), (7, .pointer (some ⟨g7, 0, none⟩)), (2, .pointer (some ⟨g2, 0, none⟩))] a101) => ?_)
              clear HA100 a100
              refine wl_skip HA101 [2, 3, 4] (want_g rfl (t := 70) rfl (HA101.get 2 rfl) rfl) rfl (fun a102 (HA102 : Env 79 [(75, undef), (70, .bool true), (7, .pointer (some ⟨g7, 0, none⟩)), (2, .pointer (some ⟨g2, 0, none⟩))] a102) => ?_)
              clear HA101 a101
              refine wl_is HA102 [2, 3] (v := .bool true) (want_n rfl) (dd_rn (dd_pickT rfl (HA102.ev 1 rfl) rfl) ⟨rfl, rfl⟩) rfl (fun a103 (HA103 : Env 79 [(76, .bool true), (7, .pointer (some ⟨g7, 0, none⟩)), (2, .pointer (some ⟨g2, 0, none⟩))] a103) => ?_)
              clear HA102 a102
              refine wpList_nil ?_
              refine nx ?_
              refine wp_cond_true (HA103.ev 0 rfl) ?_
              refine wp_seq ?_
              refine wp_region_lit ?_
              refine wl_is HA103 [2] (v := .agg (catA [[.int .i64 0], (catA [[.int .i64 0], [.string (⟨#[]⟩)], [.int .i64 0], [.int .u32 0], [.int .u32 0], bytesV (zer 32)]).toList, [.string (⟨#[]⟩)], [.int .i64 0], bytesV (zer 32)])) (want_n rfl) (dd_rn (dd_bld rfl (ps := []) (pr0) (Lz := [[.int .i64 0], (catA [[.int .i64 0], [.string (⟨#[]⟩)], [.int .i64 0], [.int .u32 0], [.int .u32 0], bytesV (zer 32)]).toList, [.string (⟨#[]⟩)], [.int .i64 0], bytesV (zer 32)]) (by kernel_rfl) (lens_cons rfl (lens_cons ((Array.length_toList).trans (cat_size (lens_cons rfl (lens_cons rfl (lens_cons rfl (lens_cons rfl (lens_cons rfl (lens_cons (len_bv (length_zer 32)) (lens_nil))))))))) (lens_cons rfl (lens_cons rfl (lens_cons (len_bv (length_zer 32)) (lens_nil)))))) (fit_nil) (cs := catA [[.int .i64 0], (catA [[.int .i64 0], [.string (⟨#[]⟩)], [.int .i64 0], [.int .u32 0], [.int .u32 0], bytesV (zer 32)]).toList, [.string (⟨#[]⟩)], [.int .i64 0], bytesV (zer 32)]) rfl) ⟨rfl, rfl⟩) rfl (fun a104 (HA104 : Env 79 [(77, .agg (catA [[.int .i64 0], (catA [[.int .i64 0], [.string (⟨#[]⟩)], [.int .i64 0], [.int .u32 0], [.int .u32 0], bytesV (zer 32)]).toList, [.string (⟨#[]⟩)], [.int .i64 0], bytesV (zer 32)])), (2, .pointer (some ⟨g2, 0, none⟩))] a104) => ?_)
              clear HA103 a103
              refine wl_does HA104 [1] (R := fun v9 w9 => St w noF [⟨g2, 31, catA [[.int .i64 0], (catA [[.int .i64 0], [.string (⟨#[]⟩)], [.int .i64 0], [.int .u32 0], [.int .u32 0], bytesV (zer 32)]).toList, [.string (⟨#[]⟩)], [.int .i64 0], bytesV (zer 32)]⟩, ⟨g4, 28, tokCells (decC ((q.drop 1).take 46)) (decG ((q.drop 1).take 46))⟩, ⟨g6, 64, nmC (cutN ([(q.getD 47 0#8), (q.getD 48 0#8), (q.getD 49 0#8), (q.getD 50 0#8)])).1 (cutN ([(q.getD 47 0#8), (q.getD 48 0#8), (q.getD 49 0#8), (q.getD 50 0#8)])).2⟩, ⟨g7, 31, catA [[.int .i64 (bd (q.getD 0 0#8))], (tokCells (decC ((q.drop 1).take 46)) (decG ((q.drop 1).take 46))).toList, [.string (strB (cutN ([(q.getD 47 0#8), (q.getD 48 0#8), (q.getD 49 0#8), (q.getD 50 0#8)])).1)], [.int .i64 (bd (q.getD 51 0#8))], bytesV ((q.drop 52).take 32)]⟩] w9) (want_n rfl) (dd_setrow HS68 0 rfl rfl (HA104.ev 1 rfl) (HA104.ev 0 rfl) (by kernel_rfl) ((cat_size (lens_cons rfl (lens_cons ((Array.length_toList).trans (cat_size (lens_cons rfl (lens_cons rfl (lens_cons rfl (lens_cons rfl (lens_cons rfl (lens_cons (len_bv (length_zer 32)) (lens_nil))))))))) (lens_cons rfl (lens_cons rfl (lens_cons (len_bv (length_zer 32)) (lens_nil))))))) : (catA [[.int .i64 0], (catA [[.int .i64 0], [.string (⟨#[]⟩)], [.int .i64 0], [.int .u32 0], [.int .u32 0], bytesV (zer 32)]).toList, [.string (⟨#[]⟩)], [.int .i64 0], bytesV (zer 32)]).size = 72) ((cat_size (lens_cons rfl (lens_cons rfl (lens_cons rfl (lens_cons rfl (lens_cons rfl (lens_cons rfl (lens_cons (len_bv (length_zer 32)) (lens_cons rfl (lens_cons rfl (lens_cons (len_bv (length_zer 32)) (lens_nil)))))))))))) : (catA [[.int .i64 0], [.int .i64 0], [.string (⟨#[]⟩)], [.int .i64 0], [.int .u32 0], [.int .u32 0], bytesV (zer 32), [.string (⟨#[]⟩)], [.int .i64 0], bytesV (zer 32)]).size = 72) (cat_one (ones_cons (ones_c rfl) (ones_cons (all_one (cat_one (ones_cons (ones_c rfl) (ones_cons (ones_c rfl) (ones_cons (ones_c rfl) (ones_cons (ones_c rfl) (ones_cons (ones_c rfl) (ones_cons (one_bytesV _) (ones_nil))))))))) (ones_cons (ones_c rfl) (ones_cons (ones_c rfl) (ones_cons (one_bytesV _) (ones_nil))))))) (fun w9 h9 => h9)) rfl ?_
              rintro _ W105 HS105 a105 (HA105 : Env 79 [(2, .pointer (some ⟨g2, 0, none⟩))] a105)
              clear HA104 a104 HS68
              refine wl_is HA105 [0] (v := .int .i64 11) (want_n rfl) (dd_rn (dd_as rfl rfl) ⟨rfl, rfl⟩) rfl (fun a106 (HA106 : Env 79 [(3, .int .i64 11), (2, .pointer (some ⟨g2, 0, none⟩))] a106) => ?_)
              clear HA105 a105
              refine wpList_nil ?_
              refine nx ?_
              refine wp_ret ?_
              refine tr ?_
              refine ret_run HA106 (res_ct Tryd.results11 (HA106.get 1 rfl) (HS105.row 0 rfl) Tryd.underlying31 rfl (by rw [show (catA [[.int .i64 0], (catA [[.int .i64 0], [.string (⟨#[]⟩)], [.int .i64 0], [.int .u32 0], [.int .u32 0], bytesV (zer 32)]).toList, [.string (⟨#[]⟩)], [.int .i64 0], bytesV (zer 32)]).size = 72 from (cat_size (lens_cons rfl (lens_cons ((Array.length_toList).trans (cat_size (lens_cons rfl (lens_cons rfl (lens_cons rfl (lens_cons rfl (lens_cons rfl (lens_cons (len_bv (length_zer 32)) (lens_nil))))))))) (lens_cons rfl (lens_cons rfl (lens_cons (len_bv (length_zer 32)) (lens_nil)))))))]; kernel_rfl) (HA106.get 0 rfl)) ?_
              have hd := adec_no (q := q) (.inl (mayA_tok hc76))
              exact ⟨by rw [hd.1, hd.2]; first | rw [ask_zcat] | rw [ask_zcat2], HS105.below⟩
          case true =>
            refine wl_does HA65 [1, 2, 3, 4] (R := fun v w9 => ∃ gt108 ct108 cbt108, v = .tuple #[.slice (some ⟨gt108, 0, none⟩) nE ct108, .int .i64 0] ∧ W64.heap.size ≤ gt108 ∧ Row w9 gt108 5 cbt108 ∧ OwnC cbt108 ct108 nE 1 (bytesV (encA (askQ q))) ∧ Below W64.heap.size W64 w9) (want_n rfl) (dd_call Tryd.func9 (by kernel_rfl) (by kernel_rfl) rfl (args1 (HA65.ev 0 rfl)) (rask_good (askQ q) _ W64 HOKQ hb67 (HASK)) (fun _ w9 ⟨v9, he, ho, hb⟩ => by rw [HNE] at ho; obtain ⟨g9, c9, cb9, rfl, h1, h2, h3⟩ := ownc_pos ho HNP; exact ⟨_, he, g9, c9, cb9, rfl, h1, h2, h3, hb⟩)) rfl ?_
            rintro _ W107 ⟨gt108, ct108, cbt108, rfl, hg108, hr108, Ot108, hb107⟩ a107 (HA107 : Env 79 [(61, .tuple #[.slice (some ⟨gt108, 0, none⟩) nE ct108, .int .i64 0]), (7, .pointer (some ⟨g7, 0, none⟩)), (5, .int .i64 (decT ((q.drop 1).take 46))), (2, .pointer (some ⟨g2, 0, none⟩)), (0, .slice (some ⟨g, o, none⟩) 86 cc)] a107)
            have HS107 := HS64.same hb107
            clear HA65 a65
            have HS107j : St w noF [⟨g2, 31, catA [[.int .i64 0], [.int .i64 0], [.string (⟨#[]⟩)], [.int .i64 0], [.int .u32 0], [.int .u32 0], bytesV (zer 32), [.string (⟨#[]⟩)], [.int .i64 0], bytesV (zer 32)]⟩, ⟨g4, 28, tokCells (decC ((q.drop 1).take 46)) (decG ((q.drop 1).take 46))⟩, ⟨g6, 64, nmC (cutN ([(q.getD 47 0#8), (q.getD 48 0#8), (q.getD 49 0#8), (q.getD 50 0#8)])).1 (cutN ([(q.getD 47 0#8), (q.getD 48 0#8), (q.getD 49 0#8), (q.getD 50 0#8)])).2⟩, ⟨g7, 31, catA [[.int .i64 (bd (q.getD 0 0#8))], (tokCells (decC ((q.drop 1).take 46)) (decG ((q.drop 1).take 46))).toList, [.string (strB (cutN ([(q.getD 47 0#8), (q.getD 48 0#8), (q.getD 49 0#8), (q.getD 50 0#8)])).1)], [.int .i64 (bd (q.getD 51 0#8))], bytesV ((q.drop 52).take 32)]⟩, ⟨gt108, 5, cbt108⟩] W107 := HS64.joins hb107 hr108 hg108
            clear HS107 hr108 hg108
            clear HS64 hb107
            refine wl_is HA107 [1, 2, 3, 4] (v := .tuple #[.slice (some ⟨gt108, 0, none⟩) nE ct108, .int .i64 0]) (want_n rfl) (dd_rn (dd_mv rfl (HA107.ev 0 rfl)) ⟨rfl, rfl⟩) rfl (fun a109 (HA109 : Env 79 [(59, .tuple #[.slice (some ⟨gt108, 0, none⟩) nE ct108, .int .i64 0]), (7, .pointer (some ⟨g7, 0, none⟩)), (5, .int .i64 (decT ((q.drop 1).take 46))), (2, .pointer (some ⟨g2, 0, none⟩)), (0, .slice (some ⟨g, o, none⟩) 86 cc)] a109) => ?_)
            clear HA107 a107
            refine wl_is HA109 [0, 1, 2, 3, 4] (v := .slice (some ⟨gt108, 0, none⟩) nE ct108) (want_n rfl) (dd_rn (dd_ext rfl (HA109.ev 0 rfl) rfl) ⟨rfl, rfl⟩) rfl (fun a110 (HA110 : Env 79 [(62, .slice (some ⟨gt108, 0, none⟩) nE ct108), (59, .tuple #[.slice (some ⟨gt108, 0, none⟩) nE ct108, .int .i64 0]), (7, .pointer (some ⟨g7, 0, none⟩)), (5, .int .i64 (decT ((q.drop 1).take 46))), (2, .pointer (some ⟨g2, 0, none⟩)), (0, .slice (some ⟨g, o, none⟩) 86 cc)] a110) => ?_)
            clear HA109 a109
            refine wl_is HA110 [0, 2, 3, 4, 5] (v := .int .i64 0) (want_n rfl) (dd_rn (dd_ext rfl (HA110.ev 1 rfl) rfl) ⟨rfl, rfl⟩) rfl (fun a111 (HA111 : Env 79 [(63, .int .i64 0), (62, .slice (some ⟨gt108, 0, none⟩) nE ct108), (7, .pointer (some ⟨g7, 0, none⟩)), (5, .int .i64 (decT ((q.drop 1).take 46))), (2, .pointer (some ⟨g2, 0, none⟩)), (0, .slice (some ⟨g, o, none⟩) 86 cc)] a111) => ?_)
            clear HA110 a110
            refine wl_is HA111 [0, 2, 3, 4, 5] (v := .slice (some ⟨gt108, 0, none⟩) nE ct108) (want_n rfl) (dd_rn (dd_as rfl (HA111.ev 1 rfl)) ⟨rfl, rfl⟩) rfl (fun a112 (HA112 : Env 79 [(8, .slice (some ⟨gt108, 0, none⟩) nE ct108), (63, .int .i64 0), (7, .pointer (some ⟨g7, 0, none⟩)), (5, .int .i64 (decT ((q.drop 1).take 46))), (2, .pointer (some ⟨g2, 0, none⟩)), (0, .slice (some ⟨g, o, none⟩) 86 cc)] a112) => ?_)
            clear HA111 a111
            refine wl_is HA112 [0, 2, 3, 4, 5] (v := .int .i64 0) (want_n rfl) (dd_rn (dd_as rfl (HA112.ev 1 rfl)) ⟨rfl, rfl⟩) rfl (fun a113 (HA113 : Env 79 [(9, .int .i64 0), (8, .slice (some ⟨gt108, 0, none⟩) nE ct108), (7, .pointer (some ⟨g7, 0, none⟩)), (5, .int .i64 (decT ((q.drop 1).take 46))), (2, .pointer (some ⟨g2, 0, none⟩)), (0, .slice (some ⟨g, o, none⟩) 86 cc)] a113) => ?_)
            clear HA112 a112
            refine wpList_nil ?_
            refine nx ?_
            refine wp_seq ?_
            refine wp_seq ?_
            refine wp_region_lit ?_
            refine wl_is HA113 [0, 1, 2, 4, 5] (v := .int .i64 (decT ((q.drop 1).take 46))) (want_n rfl) (dd_rn (dd_mv rfl (HA113.ev 3 rfl)) ⟨rfl, rfl⟩) rfl (fun a114 (HA114 : Env 79 [(64, .int .i64 (decT ((q.drop 1).take 46))), (9, .int .i64 0), (8, .slice (some ⟨gt108, 0, none⟩) nE ct108), (7, .pointer (some ⟨g7, 0, none⟩)), (2, .pointer (some ⟨g2, 0, none⟩)), (0, .slice (some ⟨g, o, none⟩) 86 cc)] a114) => ?_)
            clear HA113 a113
            by_cases hc116 : (decT ((q.drop 1).take 46) : Int) = 0
            · skip
              refine wl_is HA114 [1, 2, 3, 4, 5] (v := .bool false) (want_n rfl) (dd_rn (dd_cmp rfl (HA114.ev 0 rfl) rfl (ne_f hc116)) ⟨rfl, rfl⟩) rfl (fun a117 (HA117 : Env 79 [(65, .bool false), (9, .int .i64 0), (8, .slice (some ⟨gt108, 0, none⟩) nE ct108), (7, .pointer (some ⟨g7, 0, none⟩)), (2, .pointer (some ⟨g2, 0, none⟩)), (0, .slice (some ⟨g, o, none⟩) 86 cc)] a117) => ?_)
              clear HA114 a114
              refine wl_is HA117 [1, 2, 3, 4, 5] (v := .bool false) (want_n rfl) (dd_rn (dd_mv rfl (HA117.ev 0 rfl)) ⟨rfl, rfl⟩) rfl (fun a118 (HA118 : Env 79 [(66, .bool false), (9, .int .i64 0), (8, .slice (some ⟨gt108, 0, none⟩) nE ct108), (7, .pointer (some ⟨g7, 0, none⟩)), (2, .pointer (some ⟨g2, 0, none⟩)), (0, .slice (some ⟨g, o, none⟩) 86 cc)] a118) => ?_)
              clear HA117 a117
              refine wl_is HA118 [0, 2, 3, 4, 5] (v := .int .i64 0) (want_g rfl (t := 66) rfl (HA118.get 0 rfl) rfl) (dd_rn (dd_mv rfl (HA118.ev 1 rfl)) ⟨rfl, rfl⟩) rfl (fun a119 (HA119 : Env 79 [(67, .int .i64 0), (66, .bool false), (8, .slice (some ⟨gt108, 0, none⟩) nE ct108), (7, .pointer (some ⟨g7, 0, none⟩)), (2, .pointer (some ⟨g2, 0, none⟩)), (0, .slice (some ⟨g, o, none⟩) 86 cc)] a119) => ?_)
              clear HA118 a118
              refine wl_is HA119 [1, 2, 3, 4, 5] (v := .bool false) (want_g rfl (t := 66) rfl (HA119.get 1 rfl) rfl) (dd_rn (dd_cmp rfl (HA119.ev 0 rfl) rfl (ne_f (by decide))) ⟨rfl, rfl⟩) rfl (fun a120 (HA120 : Env 79 [(68, .bool false), (66, .bool false), (8, .slice (some ⟨gt108, 0, none⟩) nE ct108), (7, .pointer (some ⟨g7, 0, none⟩)), (2, .pointer (some ⟨g2, 0, none⟩)), (0, .slice (some ⟨g, o, none⟩) 86 cc)] a120) => ?_)
              clear HA119 a119
              refine wl_is HA120 [2, 3, 4, 5] (v := .bool false) (want_n rfl) (dd_rn (dd_pickF rfl (HA120.ev 1 rfl) (HA120.ev 0 rfl)) ⟨rfl, rfl⟩) rfl (fun a121 (HA121 : Env 79 [(69, .bool false), (8, .slice (some ⟨gt108, 0, none⟩) nE ct108), (7, .pointer (some ⟨g7, 0, none⟩)), (2, .pointer (some ⟨g2, 0, none⟩)), (0, .slice (some ⟨g, o, none⟩) 86 cc)] a121) => ?_)
              clear HA120 a120
              refine wl_is HA121 [1, 2, 3, 4] (v := .bool false) (want_n rfl) (dd_rn (dd_mv rfl (HA121.ev 0 rfl)) ⟨rfl, rfl⟩) rfl (fun a122 (HA122 : Env 79 [(70, .bool false), (8, .slice (some ⟨gt108, 0, none⟩) nE ct108), (7, .pointer (some ⟨g7, 0, none⟩)), (2, .pointer (some ⟨g2, 0, none⟩)), (0, .slice (some ⟨g, o, none⟩) 86 cc)] a122) => ?_)
              clear HA121 a121
              refine wl_is HA122 [0, 2, 3, 4] (v := .slice (some ⟨gt108, 0, none⟩) nE ct108) (want_g rfl (t := 70) rfl (HA122.get 0 rfl) rfl) (dd_rn (dd_mv rfl (HA122.ev 1 rfl)) ⟨rfl, rfl⟩) rfl (fun a123 (HA123 : Env 79 [(71, .slice (some ⟨gt108, 0, none⟩) nE ct108), (70, .bool false), (7, .pointer (some ⟨g7, 0, none⟩)), (2, .pointer (some ⟨g2, 0, none⟩)), (0, .slice (some ⟨g, o, none⟩) 86 cc)] a123) => ?_)
              clear HA122 a122
              refine wl_is HA123 [1, 2, 3, 4] (v := .string (strB (encA (askQ q)))) (want_g rfl (t := 70) rfl (HA123.get 1 rfl) rfl) (dd_rn (dd_bts rfl (HA123.ev 0 rfl) (slice_own (HS107j.row 4 rfl) Ot108 HNE) Tryd.underlying9) ⟨rfl, rfl⟩) rfl (fun a124 (HA124 : Env 79 [(72, .string (strB (encA (askQ q)))), (70, .bool false), (7, .pointer (some ⟨g7, 0, none⟩)), (2, .pointer (some ⟨g2, 0, none⟩)), (0, .slice (some ⟨g, o, none⟩) 86 cc)] a124) => ?_)
              clear HA123 a123
              refine wl_is HA124 [0, 1, 2, 3] (v := .slice (some ⟨g, o, none⟩) 86 cc) (want_g rfl (t := 70) rfl (HA124.get 1 rfl) rfl) (dd_rn (dd_mv rfl (HA124.ev 4 rfl)) ⟨rfl, rfl⟩) rfl (fun a125 (HA125 : Env 79 [(73, .slice (some ⟨g, o, none⟩) 86 cc), (72, .string (strB (encA (askQ q)))), (70, .bool false), (7, .pointer (some ⟨g7, 0, none⟩)), (2, .pointer (some ⟨g2, 0, none⟩))] a125) => ?_)
              clear HA124 a124
              refine wl_is HA125 [1, 2, 3, 4] (v := .string (strB q)) (want_g rfl (t := 70) rfl (HA125.get 2 rfl) rfl) (dd_rn (dd_bts rfl (HA125.ev 0 rfl) ((HB _ HS107j.below).slice hl (by omega)) Tryd.underlying9) ⟨rfl, rfl⟩) rfl (fun a126 (HA126 : Env 79 [(74, .string (strB q)), (72, .string (strB (encA (askQ q)))), (70, .bool false), (7, .pointer (some ⟨g7, 0, none⟩)), (2, .pointer (some ⟨g2, 0, none⟩))] a126) => ?_)
              clear HA125 a125
              by_cases hc128 : encA (askQ q) = q
              · skip
                refine wl_is HA126 [2, 3, 4] (v := .bool false) (want_g rfl (t := 70) rfl (HA126.get 2 rfl) rfl) (dd_rn (dd_nes rfl (HA126.ev 1 rfl) (HA126.ev 0 rfl) (by rw [bne, (sbeq_t hc128)]; rfl)) ⟨rfl, rfl⟩) rfl (fun a129 (HA129 : Env 79 [(75, .bool false), (70, .bool false), (7, .pointer (some ⟨g7, 0, none⟩)), (2, .pointer (some ⟨g2, 0, none⟩))] a129) => ?_)
                clear HA126 a126
                refine wl_is HA129 [2, 3] (v := .bool false) (want_n rfl) (dd_rn (dd_pickF rfl (HA129.ev 1 rfl) (HA129.ev 0 rfl)) ⟨rfl, rfl⟩) rfl (fun a130 (HA130 : Env 79 [(76, .bool false), (7, .pointer (some ⟨g7, 0, none⟩)), (2, .pointer (some ⟨g2, 0, none⟩))] a130) => ?_)
                clear HA129 a129
                refine wpList_nil ?_
                refine nx ?_
                refine wp_cond_false (HA130.ev 0 rfl) ?_
                refine wp_skip ?_
                refine nx ?_
                refine wp_seq ?_
                refine wp_region_lit ?_
                refine wl_is HA130 [2] (v := .agg (catA [[.int .i64 (bd (q.getD 0 0#8))], (tokCells (decC ((q.drop 1).take 46)) (decG ((q.drop 1).take 46))).toList, [.string (strB (cutN ([(q.getD 47 0#8), (q.getD 48 0#8), (q.getD 49 0#8), (q.getD 50 0#8)])).1)], [.int .i64 (bd (q.getD 51 0#8))], bytesV ((q.drop 52).take 32)])) (want_n rfl) (dd_rn (dd_load HS107j 3 0 rfl rfl (HA130.ev 1 rfl) (slab_whole _) Tryd.underlying31 rfl (by rw [show (catA [[.int .i64 (bd (q.getD 0 0#8))], (tokCells (decC ((q.drop 1).take 46)) (decG ((q.drop 1).take 46))).toList, [.string (strB (cutN ([(q.getD 47 0#8), (q.getD 48 0#8), (q.getD 49 0#8), (q.getD 50 0#8)])).1)], [.int .i64 (bd (q.getD 51 0#8))], bytesV ((q.drop 52).take 32)]).size = 72 from (cat_size (lens_cons rfl (lens_cons ((Array.length_toList).trans (tok_size _ _ (length_decG _))) (lens_cons rfl (lens_cons rfl (lens_cons (len_bv (len_take (len_drop hl rfl) (by decide))) (lens_nil)))))))]; kernel_rfl)) ⟨rfl, rfl⟩) rfl (fun a131 (HA131 : Env 79 [(78, .agg (catA [[.int .i64 (bd (q.getD 0 0#8))], (tokCells (decC ((q.drop 1).take 46)) (decG ((q.drop 1).take 46))).toList, [.string (strB (cutN ([(q.getD 47 0#8), (q.getD 48 0#8), (q.getD 49 0#8), (q.getD 50 0#8)])).1)], [.int .i64 (bd (q.getD 51 0#8))], bytesV ((q.drop 52).take 32)])), (2, .pointer (some ⟨g2, 0, none⟩))] a131) => ?_)
                clear HA130 a130
                refine wl_does HA131 [1] (R := fun v9 w9 => St w noF [⟨g2, 31, catA [[.int .i64 (bd (q.getD 0 0#8))], (tokCells (decC ((q.drop 1).take 46)) (decG ((q.drop 1).take 46))).toList, [.string (strB (cutN ([(q.getD 47 0#8), (q.getD 48 0#8), (q.getD 49 0#8), (q.getD 50 0#8)])).1)], [.int .i64 (bd (q.getD 51 0#8))], bytesV ((q.drop 52).take 32)]⟩, ⟨g4, 28, tokCells (decC ((q.drop 1).take 46)) (decG ((q.drop 1).take 46))⟩, ⟨g6, 64, nmC (cutN ([(q.getD 47 0#8), (q.getD 48 0#8), (q.getD 49 0#8), (q.getD 50 0#8)])).1 (cutN ([(q.getD 47 0#8), (q.getD 48 0#8), (q.getD 49 0#8), (q.getD 50 0#8)])).2⟩, ⟨g7, 31, catA [[.int .i64 (bd (q.getD 0 0#8))], (tokCells (decC ((q.drop 1).take 46)) (decG ((q.drop 1).take 46))).toList, [.string (strB (cutN ([(q.getD 47 0#8), (q.getD 48 0#8), (q.getD 49 0#8), (q.getD 50 0#8)])).1)], [.int .i64 (bd (q.getD 51 0#8))], bytesV ((q.drop 52).take 32)]⟩, ⟨gt108, 5, cbt108⟩] w9) (want_n rfl) (dd_setrow HS107j 0 rfl rfl (HA131.ev 1 rfl) (HA131.ev 0 rfl) (by kernel_rfl) ((cat_size (lens_cons rfl (lens_cons ((Array.length_toList).trans (tok_size _ _ (length_decG _))) (lens_cons rfl (lens_cons rfl (lens_cons (len_bv (len_take (len_drop hl rfl) (by decide))) (lens_nil))))))) : (catA [[.int .i64 (bd (q.getD 0 0#8))], (tokCells (decC ((q.drop 1).take 46)) (decG ((q.drop 1).take 46))).toList, [.string (strB (cutN ([(q.getD 47 0#8), (q.getD 48 0#8), (q.getD 49 0#8), (q.getD 50 0#8)])).1)], [.int .i64 (bd (q.getD 51 0#8))], bytesV ((q.drop 52).take 32)]).size = 72) ((cat_size (lens_cons rfl (lens_cons rfl (lens_cons rfl (lens_cons rfl (lens_cons rfl (lens_cons rfl (lens_cons (len_bv (length_zer 32)) (lens_cons rfl (lens_cons rfl (lens_cons (len_bv (length_zer 32)) (lens_nil)))))))))))) : (catA [[.int .i64 0], [.int .i64 0], [.string (⟨#[]⟩)], [.int .i64 0], [.int .u32 0], [.int .u32 0], bytesV (zer 32), [.string (⟨#[]⟩)], [.int .i64 0], bytesV (zer 32)]).size = 72) (cat_one (ones_cons (ones_c rfl) (ones_cons (one_tokL _ _) (ones_cons (ones_c rfl) (ones_cons (ones_c rfl) (ones_cons (one_bytesV _) (ones_nil))))))) (fun w9 h9 => h9)) rfl ?_
                rintro _ W132 HS132 a132 (HA132 : Env 79 [(2, .pointer (some ⟨g2, 0, none⟩))] a132)
                clear HA131 a131 HS107j
                refine wl_is HA132 [0] (v := .int .i64 0) (want_n rfl) (dd_rn (dd_as rfl rfl) ⟨rfl, rfl⟩) rfl (fun a133 (HA133 : Env 79 [(3, .int .i64 0), (2, .pointer (some ⟨g2, 0, none⟩))] a133) => ?_)
                clear HA132 a132
                refine wpList_nil ?_
                refine nx ?_
                refine wp_ret ?_
                refine ret_run HA133 (res_ct Tryd.results11 (HA133.get 1 rfl) (HS132.row 0 rfl) Tryd.underlying31 rfl (by rw [show (catA [[.int .i64 (bd (q.getD 0 0#8))], (tokCells (decC ((q.drop 1).take 46)) (decG ((q.drop 1).take 46))).toList, [.string (strB (cutN ([(q.getD 47 0#8), (q.getD 48 0#8), (q.getD 49 0#8), (q.getD 50 0#8)])).1)], [.int .i64 (bd (q.getD 51 0#8))], bytesV ((q.drop 52).take 32)]).size = 72 from (cat_size (lens_cons rfl (lens_cons ((Array.length_toList).trans (tok_size _ _ (length_decG _))) (lens_cons rfl (lens_cons rfl (lens_cons (len_bv (len_take (len_drop hl rfl) (by decide))) (lens_nil)))))))]; kernel_rfl) (HA133.get 0 rfl)) ?_
                have hd := adec_yes (q := q) (by rw [hl]; first | exact .inl rfl | exact .inr rfl) hb67 hc128
                exact ⟨by rw [hd.1, hd.2, HASK], HS132.below⟩
              · skip
                refine wl_is HA126 [2, 3, 4] (v := .bool true) (want_g rfl (t := 70) rfl (HA126.get 2 rfl) rfl) (dd_rn (dd_nes rfl (HA126.ev 1 rfl) (HA126.ev 0 rfl) (by rw [bne, (sbeq_f hc128)]; rfl)) ⟨rfl, rfl⟩) rfl (fun a134 (HA134 : Env 79 [(75, .bool true), (70, .bool false), (7, .pointer (some ⟨g7, 0, none⟩)), (2, .pointer (some ⟨g2, 0, none⟩))] a134) => ?_)
                clear HA126 a126
                refine wl_is HA134 [2, 3] (v := .bool true) (want_n rfl) (dd_rn (dd_pickF rfl (HA134.ev 1 rfl) (HA134.ev 0 rfl)) ⟨rfl, rfl⟩) rfl (fun a135 (HA135 : Env 79 [(76, .bool true), (7, .pointer (some ⟨g7, 0, none⟩)), (2, .pointer (some ⟨g2, 0, none⟩))] a135) => ?_)
                clear HA134 a134
                refine wpList_nil ?_
                refine nx ?_
                refine wp_cond_true (HA135.ev 0 rfl) ?_
                refine wp_seq ?_
                refine wp_region_lit ?_
                refine wl_is HA135 [2] (v := .agg (catA [[.int .i64 0], (catA [[.int .i64 0], [.string (⟨#[]⟩)], [.int .i64 0], [.int .u32 0], [.int .u32 0], bytesV (zer 32)]).toList, [.string (⟨#[]⟩)], [.int .i64 0], bytesV (zer 32)])) (want_n rfl) (dd_rn (dd_bld rfl (ps := []) (pr0) (Lz := [[.int .i64 0], (catA [[.int .i64 0], [.string (⟨#[]⟩)], [.int .i64 0], [.int .u32 0], [.int .u32 0], bytesV (zer 32)]).toList, [.string (⟨#[]⟩)], [.int .i64 0], bytesV (zer 32)]) (by kernel_rfl) (lens_cons rfl (lens_cons ((Array.length_toList).trans (cat_size (lens_cons rfl (lens_cons rfl (lens_cons rfl (lens_cons rfl (lens_cons rfl (lens_cons (len_bv (length_zer 32)) (lens_nil))))))))) (lens_cons rfl (lens_cons rfl (lens_cons (len_bv (length_zer 32)) (lens_nil)))))) (fit_nil) (cs := catA [[.int .i64 0], (catA [[.int .i64 0], [.string (⟨#[]⟩)], [.int .i64 0], [.int .u32 0], [.int .u32 0], bytesV (zer 32)]).toList, [.string (⟨#[]⟩)], [.int .i64 0], bytesV (zer 32)]) rfl) ⟨rfl, rfl⟩) rfl (fun a136 (HA136 : Env 79 [(77, .agg (catA [[.int .i64 0], (catA [[.int .i64 0], [.string (⟨#[]⟩)], [.int .i64 0], [.int .u32 0], [.int .u32 0], bytesV (zer 32)]).toList, [.string (⟨#[]⟩)], [.int .i64 0], bytesV (zer 32)])), (2, .pointer (some ⟨g2, 0, none⟩))] a136) => ?_)
                clear HA135 a135
                refine wl_does HA136 [1] (R := fun v9 w9 => St w noF [⟨g2, 31, catA [[.int .i64 0], (catA [[.int .i64 0], [.string (⟨#[]⟩)], [.int .i64 0], [.int .u32 0], [.int .u32 0], bytesV (zer 32)]).toList, [.string (⟨#[]⟩)], [.int .i64 0], bytesV (zer 32)]⟩, ⟨g4, 28, tokCells (decC ((q.drop 1).take 46)) (decG ((q.drop 1).take 46))⟩, ⟨g6, 64, nmC (cutN ([(q.getD 47 0#8), (q.getD 48 0#8), (q.getD 49 0#8), (q.getD 50 0#8)])).1 (cutN ([(q.getD 47 0#8), (q.getD 48 0#8), (q.getD 49 0#8), (q.getD 50 0#8)])).2⟩, ⟨g7, 31, catA [[.int .i64 (bd (q.getD 0 0#8))], (tokCells (decC ((q.drop 1).take 46)) (decG ((q.drop 1).take 46))).toList, [.string (strB (cutN ([(q.getD 47 0#8), (q.getD 48 0#8), (q.getD 49 0#8), (q.getD 50 0#8)])).1)], [.int .i64 (bd (q.getD 51 0#8))], bytesV ((q.drop 52).take 32)]⟩, ⟨gt108, 5, cbt108⟩] w9) (want_n rfl) (dd_setrow HS107j 0 rfl rfl (HA136.ev 1 rfl) (HA136.ev 0 rfl) (by kernel_rfl) ((cat_size (lens_cons rfl (lens_cons ((Array.length_toList).trans (cat_size (lens_cons rfl (lens_cons rfl (lens_cons rfl (lens_cons rfl (lens_cons rfl (lens_cons (len_bv (length_zer 32)) (lens_nil))))))))) (lens_cons rfl (lens_cons rfl (lens_cons (len_bv (length_zer 32)) (lens_nil))))))) : (catA [[.int .i64 0], (catA [[.int .i64 0], [.string (⟨#[]⟩)], [.int .i64 0], [.int .u32 0], [.int .u32 0], bytesV (zer 32)]).toList, [.string (⟨#[]⟩)], [.int .i64 0], bytesV (zer 32)]).size = 72) ((cat_size (lens_cons rfl (lens_cons rfl (lens_cons rfl (lens_cons rfl (lens_cons rfl (lens_cons rfl (lens_cons (len_bv (length_zer 32)) (lens_cons rfl (lens_cons rfl (lens_cons (len_bv (length_zer 32)) (lens_nil)))))))))))) : (catA [[.int .i64 0], [.int .i64 0], [.string (⟨#[]⟩)], [.int .i64 0], [.int .u32 0], [.int .u32 0], bytesV (zer 32), [.string (⟨#[]⟩)], [.int .i64 0], bytesV (zer 32)]).size = 72) (cat_one (ones_cons (ones_c rfl) (ones_cons (all_one (cat_one (ones_cons (ones_c rfl) (ones_cons (ones_c rfl) (ones_cons (ones_c rfl) (ones_cons (ones_c rfl) (ones_cons (ones_c rfl) (ones_cons (one_bytesV _) (ones_nil))))))))) (ones_cons (ones_c rfl) (ones_cons (ones_c rfl) (ones_cons (one_bytesV _) (ones_nil))))))) (fun w9 h9 => h9)) rfl ?_
                rintro _ W137 HS137 a137 (HA137 : Env 79 [(2, .pointer (some ⟨g2, 0, none⟩))] a137)
                clear HA136 a136 HS107j
                refine wl_is HA137 [0] (v := .int .i64 11) (want_n rfl) (dd_rn (dd_as rfl rfl) ⟨rfl, rfl⟩) rfl (fun a138 (HA138 : Env 79 [(3, .int .i64 11), (2, .pointer (some ⟨g2, 0, none⟩))] a138) => ?_)
                clear HA137 a137
                refine wpList_nil ?_
                refine nx ?_
                refine wp_ret ?_
                refine tr ?_
                refine ret_run HA138 (res_ct Tryd.results11 (HA138.get 1 rfl) (HS137.row 0 rfl) Tryd.underlying31 rfl (by rw [show (catA [[.int .i64 0], (catA [[.int .i64 0], [.string (⟨#[]⟩)], [.int .i64 0], [.int .u32 0], [.int .u32 0], bytesV (zer 32)]).toList, [.string (⟨#[]⟩)], [.int .i64 0], bytesV (zer 32)]).size = 72 from (cat_size (lens_cons rfl (lens_cons ((Array.length_toList).trans (cat_size (lens_cons rfl (lens_cons rfl (lens_cons rfl (lens_cons rfl (lens_cons rfl (lens_cons (len_bv (length_zer 32)) (lens_nil))))))))) (lens_cons rfl (lens_cons rfl (lens_cons (len_bv (length_zer 32)) (lens_nil)))))))]; kernel_rfl) (HA138.get 0 rfl)) ?_
                have hd := adec_no (q := q) (.inr hc128)
                exact ⟨by rw [hd.1, hd.2]; first | rw [ask_zcat] | rw [ask_zcat2], HS137.below⟩
            · skip
              refine wl_is HA114 [1, 2, 3, 4, 5] (v := .bool true) (want_n rfl) (dd_rn (dd_cmp rfl (HA114.ev 0 rfl) rfl (ne_t hc116)) ⟨rfl, rfl⟩) rfl (fun a139 (HA139 : Env 79 [(65, .bool true), (9, .int .i64 0), (8, .slice (some ⟨gt108, 0, none⟩) nE ct108), (7, .pointer (some ⟨g7, 0, none⟩)), (2, .pointer (some ⟨g2, 0, none⟩)), (0, .slice (some ⟨g, o, none⟩) 86 cc)] a139) => ?_)
              clear HA114 a114
              refine wl_is HA139 [1, 2, 3, 4, 5] (v := .bool true) (want_n rfl) (dd_rn (dd_mv rfl (HA139.ev 0 rfl)) ⟨rfl, rfl⟩) rfl (fun a140 (HA140 : Env 79 [(66, .bool true), (9, .int .i64 0), (8, .slice (some ⟨gt108, 0, none⟩) nE ct108), (7, .pointer (some ⟨g7, 0, none⟩)), (2, .pointer (some ⟨g2, 0, none⟩)), (0, .slice (some ⟨g, o, none⟩) 86 cc)] a140) => ?_)
              clear HA139 a139
              refine wl_skip HA140 [0, 2, 3, 4, 5] (want_g rfl (t := 66) rfl (HA140.get 0 rfl) rfl) rfl (fun a141 (HA141 : Env 79 [(67, undef), (66, .bool true), (8, .slice (some ⟨gt108, 0, none⟩) nE ct108), (7, .pointer (some ⟨g7, 0, none⟩)), (2, .pointer (some ⟨g2, 0, none⟩)), (0, .slice (some ⟨g, o, none⟩) 86 cc)] a141) => ?_)
              clear HA140 a140
              refine wl_skip HA141 [1, 2, 3, 4, 5] (want_g rfl (t := 66) rfl (HA141.get 1 rfl) rfl) rfl (fun a142 (HA142 : Env 79 [(68, undef), (66, .bool true), (8, .slice (some ⟨gt108, 0, none⟩) nE ct108), (7, .pointer (some ⟨g7, 0, none⟩)), (2, .pointer (some ⟨g2, 0, none⟩)), (0, .slice (some ⟨g, o, none⟩) 86 cc)] a142) => ?_)
              clear HA141 a141
              refine wl_is HA142 [2, 3, 4, 5] (v := .bool true) (want_n rfl) (dd_rn (dd_pickT rfl (HA142.ev 1 rfl) rfl) ⟨rfl, rfl⟩) rfl (fun a143 (HA143 : Env 79 [(69, .bool true), (8, .slice (some ⟨gt108, 0, none⟩) nE ct108), (7, .pointer (some ⟨g7, 0, none⟩)), (2, .pointer (some ⟨g2, 0, none⟩)), (0, .slice (some ⟨g, o, none⟩) 86 cc)] a143) => ?_)
              clear HA142 a142
              refine wl_is HA143 [1, 2, 3, 4] (v := .bool true) (want_n rfl) (dd_rn (dd_mv rfl (HA143.ev 0 rfl)) ⟨rfl, rfl⟩) rfl (fun a144 (HA144 : Env 79 [(70, .bool true), (8, .slice (some ⟨gt108, 0, none⟩) nE ct108), (7, .pointer (some ⟨g7, 0, none⟩)), (2, .pointer (some ⟨g2, 0, none⟩)), (0, .slice (some ⟨g, o, none⟩) 86 cc)] a144) => ?_)
              clear HA143 a143
              refine wl_skip HA144 [0, 2, 3, 4] (want_g rfl (t := 70) rfl (HA144.get 0 rfl) rfl) rfl (fun a145 (HA145 : Env 79 [(71, undef), (70, .bool true), (7, .pointer (some ⟨g7, 0, none⟩)), (2, .pointer (some ⟨g2, 0, none⟩)), (0, .slice (some ⟨g, o, none⟩) 86 cc)] a145) => ?_)
              clear HA144 a144
              refine wl_skip HA145 [1, 2, 3, 4] (want_g rfl (t := 70) rfl (HA145.get 1 rfl) rfl) rfl (fun a146 (HA146 : Env 79 [(72, undef), (70, .bool true), (7, .pointer (some ⟨g7, 0, none⟩)), (2, .pointer (some ⟨g2, 0, none⟩)), (0, .slice (some ⟨g, o, none⟩) 86 cc)] a146) => ?_)
              clear HA145 a145
              refine wl_skip HA146 [0, 1, 2, 3] (want_g rfl (t := 70) rfl (HA146.get 1 rfl) rfl) rfl (fun a147 (HA147 : Env 79 [(73, undef), (72, undef), (70, .bool true), (7, .pointer (some ⟨g7, 0, none⟩)), (2, .pointer (some ⟨g2, 0, none⟩))] a147) => ?_)
              clear HA146 a146
              refine wl_skip HA147 [1, 2, 3, 4] (want_g rfl (t := 70) rfl (HA147.get 2 rfl) rfl) rfl (fun a148 (HA148 : Env 79 [(74, undef), (72, undef), (70, .bool true), (7, .pointer (some ⟨g7, 0, none⟩)), (2, .pointer (some ⟨g2, 0, none⟩))] a148) => ?_)
              clear HA147 a147
              refine wl_skip HA148 [2, 3, 4] (want_g rfl (t := 70) rfl (HA148.get 2 rfl) rfl) rfl (fun a149 (HA149 : Env 79 [(75, undef), (70, .bool true), (7, .pointer (some ⟨g7, 0, none⟩)), (2, .pointer (some ⟨g2, 0, none⟩))] a149) => ?_)
              clear HA148 a148
              refine wl_is HA149 [2, 3] (v := .bool true) (want_n rfl) (dd_rn (dd_pickT rfl (HA149.ev 1 rfl) rfl) ⟨rfl, rfl⟩) rfl (fun a150 (HA150 : Env 79 [(76, .bool true), (7, .pointer (some ⟨g7, 0, none⟩)), (2, .pointer (some ⟨g2, 0, none⟩))] a150) => ?_)
              clear HA149 a149
              refine wpList_nil ?_
              refine nx ?_
              refine wp_cond_true (HA150.ev 0 rfl) ?_
              refine wp_seq ?_
              refine wp_region_lit ?_
              refine wl_is HA150 [2] (v := .agg (catA [[.int .i64 0], (catA [[.int .i64 0], [.string (⟨#[]⟩)], [.int .i64 0], [.int .u32 0], [.int .u32 0], bytesV (zer 32)]).toList, [.string (⟨#[]⟩)], [.int .i64 0], bytesV (zer 32)])) (want_n rfl) (dd_rn (dd_bld rfl (ps := []) (pr0) (Lz := [[.int .i64 0], (catA [[.int .i64 0], [.string (⟨#[]⟩)], [.int .i64 0], [.int .u32 0], [.int .u32 0], bytesV (zer 32)]).toList, [.string (⟨#[]⟩)], [.int .i64 0], bytesV (zer 32)]) (by kernel_rfl) (lens_cons rfl (lens_cons ((Array.length_toList).trans (cat_size (lens_cons rfl (lens_cons rfl (lens_cons rfl (lens_cons rfl (lens_cons rfl (lens_cons (len_bv (length_zer 32)) (lens_nil))))))))) (lens_cons rfl (lens_cons rfl (lens_cons (len_bv (length_zer 32)) (lens_nil)))))) (fit_nil) (cs := catA [[.int .i64 0], (catA [[.int .i64 0], [.string (⟨#[]⟩)], [.int .i64 0], [.int .u32 0], [.int .u32 0], bytesV (zer 32)]).toList, [.string (⟨#[]⟩)], [.int .i64 0], bytesV (zer 32)]) rfl) ⟨rfl, rfl⟩) rfl (fun a151 (HA151 : Env 79 [(77, .agg (catA [[.int .i64 0], (catA [[.int .i64 0], [.string (⟨#[]⟩)], [.int .i64 0], [.int .u32 0], [.int .u32 0], bytesV (zer 32)]).toList, [.string (⟨#[]⟩)], [.int .i64 0], bytesV (zer 32)])), (2, .pointer (some ⟨g2, 0, none⟩))] a151) => ?_)
              clear HA150 a150
              refine wl_does HA151 [1] (R := fun v9 w9 => St w noF [⟨g2, 31, catA [[.int .i64 0], (catA [[.int .i64 0], [.string (⟨#[]⟩)], [.int .i64 0], [.int .u32 0], [.int .u32 0], bytesV (zer 32)]).toList, [.string (⟨#[]⟩)], [.int .i64 0], bytesV (zer 32)]⟩, ⟨g4, 28, tokCells (decC ((q.drop 1).take 46)) (decG ((q.drop 1).take 46))⟩, ⟨g6, 64, nmC (cutN ([(q.getD 47 0#8), (q.getD 48 0#8), (q.getD 49 0#8), (q.getD 50 0#8)])).1 (cutN ([(q.getD 47 0#8), (q.getD 48 0#8), (q.getD 49 0#8), (q.getD 50 0#8)])).2⟩, ⟨g7, 31, catA [[.int .i64 (bd (q.getD 0 0#8))], (tokCells (decC ((q.drop 1).take 46)) (decG ((q.drop 1).take 46))).toList, [.string (strB (cutN ([(q.getD 47 0#8), (q.getD 48 0#8), (q.getD 49 0#8), (q.getD 50 0#8)])).1)], [.int .i64 (bd (q.getD 51 0#8))], bytesV ((q.drop 52).take 32)]⟩, ⟨gt108, 5, cbt108⟩] w9) (want_n rfl) (dd_setrow HS107j 0 rfl rfl (HA151.ev 1 rfl) (HA151.ev 0 rfl) (by kernel_rfl) ((cat_size (lens_cons rfl (lens_cons ((Array.length_toList).trans (cat_size (lens_cons rfl (lens_cons rfl (lens_cons rfl (lens_cons rfl (lens_cons rfl (lens_cons (len_bv (length_zer 32)) (lens_nil))))))))) (lens_cons rfl (lens_cons rfl (lens_cons (len_bv (length_zer 32)) (lens_nil))))))) : (catA [[.int .i64 0], (catA [[.int .i64 0], [.string (⟨#[]⟩)], [.int .i64 0], [.int .u32 0], [.int .u32 0], bytesV (zer 32)]).toList, [.string (⟨#[]⟩)], [.int .i64 0], bytesV (zer 32)]).size = 72) ((cat_size (lens_cons rfl (lens_cons rfl (lens_cons rfl (lens_cons rfl (lens_cons rfl (lens_cons rfl (lens_cons (len_bv (length_zer 32)) (lens_cons rfl (lens_cons rfl (lens_cons (len_bv (length_zer 32)) (lens_nil)))))))))))) : (catA [[.int .i64 0], [.int .i64 0], [.string (⟨#[]⟩)], [.int .i64 0], [.int .u32 0], [.int .u32 0], bytesV (zer 32), [.string (⟨#[]⟩)], [.int .i64 0], bytesV (zer 32)]).size = 72) (cat_one (ones_cons (ones_c rfl) (ones_cons (all_one (cat_one (ones_cons (ones_c rfl) (ones_cons (ones_c rfl) (ones_cons (ones_c rfl) (ones_cons (ones_c rfl) (ones_cons (ones_c rfl) (ones_cons (one_bytesV _) (ones_nil))))))))) (ones_cons (ones_c rfl) (ones_cons (ones_c rfl) (ones_cons (one_bytesV _) (ones_nil))))))) (fun w9 h9 => h9)) rfl ?_
              rintro _ W152 HS152 a152 (HA152 : Env 79 [(2, .pointer (some ⟨g2, 0, none⟩))] a152)
              clear HA151 a151 HS107j
              refine wl_is HA152 [0] (v := .int .i64 11) (want_n rfl) (dd_rn (dd_as rfl rfl) ⟨rfl, rfl⟩) rfl (fun a153 (HA153 : Env 79 [(3, .int .i64 11), (2, .pointer (some ⟨g2, 0, none⟩))] a153) => ?_)
              clear HA152 a152
              refine wpList_nil ?_
              refine nx ?_
              refine wp_ret ?_
              refine tr ?_
              refine ret_run HA153 (res_ct Tryd.results11 (HA153.get 1 rfl) (HS152.row 0 rfl) Tryd.underlying31 rfl (by rw [show (catA [[.int .i64 0], (catA [[.int .i64 0], [.string (⟨#[]⟩)], [.int .i64 0], [.int .u32 0], [.int .u32 0], bytesV (zer 32)]).toList, [.string (⟨#[]⟩)], [.int .i64 0], bytesV (zer 32)]).size = 72 from (cat_size (lens_cons rfl (lens_cons ((Array.length_toList).trans (cat_size (lens_cons rfl (lens_cons rfl (lens_cons rfl (lens_cons rfl (lens_cons rfl (lens_cons (len_bv (length_zer 32)) (lens_nil))))))))) (lens_cons rfl (lens_cons rfl (lens_cons (len_bv (length_zer 32)) (lens_nil)))))))]; kernel_rfl) (HA153.get 0 rfl)) ?_
              have hd := adec_no (q := q) (.inl (mayA_tok hc116))
              exact ⟨by rw [hd.1, hd.2]; first | rw [ask_zcat] | rw [ask_zcat2], HS152.below⟩
end Go.Proofs.YtobklbfcnbmnmaaDoor

/- Does the program's ask wake? -/
set_option maxRecDepth 4000
namespace Go.Proofs.YtobklbfcnbmnmaaDoor
open Go Go.RowKit
theorem put_ask_k (X : Asq) (k : Int) : (askC X).setIfInBounds 0 (.int .i64 k) = askC ⟨k, X.c, X.t, X.v, X.z, X.d⟩ := rfl
theorem put_ask_z (X : Asq) (z : Int) (h : X.Ok) : (askC X).setIfInBounds 39 (.int .i64 z) = askC ⟨X.k, X.c, X.t, X.v, z, X.d⟩ := by
  unfold askC askL
  have h5 : (clmCells X.c).toList.length = 5 := rfl
  rw [List.setIfInBounds_toArray]
  congr 1
  rw [set_eq_spl _ _ _ (by simp only [List.length_cons, List.length_append, len_bytesV, h.t, h5]; omega)]
  have := spl_mid (Value.int .i64 X.k :: ((clmCells X.c).toList ++ (bytesV X.t ++ [.string (strB X.v)]))) [.int .i64 X.z] [.int .i64 z] (bytesV X.d) rfl 39 (by simp only [List.length_cons, List.length_append, len_bytesV, h.t, h5, List.length_nil])
  simp only [List.append_assoc, List.cons_append, List.nil_append] at this ⊢
  exact this
theorem put_ask_d (X : Asq) (b x : BitVec 8) (d : List (BitVec 8)) (h : X.Ok) (hd : X.d = b :: d) : (askC X).setIfInBounds 40 (.int .u8 (bd x)) = askC ⟨X.k, X.c, X.t, X.v, X.z, x :: d⟩ := by
  unfold askC askL
  have h5 : (clmCells X.c).toList.length = 5 := rfl
  rw [List.setIfInBounds_toArray, hd]
  congr 1
  rw [set_eq_spl _ _ _ (by simp only [List.length_cons, List.length_append, len_bytesV, h.t, h5]; omega)]
  have := spl_mid (Value.int .i64 X.k :: ((clmCells X.c).toList ++ (bytesV X.t ++ [.string (strB X.v), .int .i64 X.z]))) [.int .u8 (bd b)] [.int .u8 (bd x)] (bytesV d) rfl 40 (by simp only [List.length_cons, List.length_append, len_bytesV, h.t, h5, List.length_nil])
  simp only [List.append_assoc, List.cons_append, List.nil_append, bytesV, List.map_cons] at this ⊢
  first | done | exact this
theorem spl_ask_clm (X : Asq) (c : Clm) : (spl (askC X).toList 1 (clmCells c).toList).toArray = askC ⟨X.k, c, X.t, X.v, X.z, X.d⟩ := by
  unfold askC askL
  exact congrArg List.toArray (spl_mid [Value.int .i64 X.k] (clmCells X.c).toList (clmCells c).toList _ rfl 1 rfl)
theorem own_rowq {w : World} {b n : Nat} {e : TypeId} {v : Value} {q : List (BitVec 8)} (h : w.ownsRow b e 1 v n (bytesV q)) (h0 : 0 < n) : ∃ g c cs, v = .slice (some ⟨g, 0, none⟩) n c ∧ b ≤ g ∧ Row w g e cs ∧ n ≤ c ∧ cs.toList.take q.length = bytesV q := by
  obtain ⟨hl, h | ⟨g, cap, cur, h1, h2, h3, h4, h5, h6, h7⟩⟩ := h
  · exact absurd h.1 (by omega)
  · rw [len_bytesV, Nat.mul_one] at hl
    exact ⟨g, cap, cur, h1, h2, h3, h4, by rw [Nat.mul_one] at h7; rw [hl]; exact h7⟩
theorem bat_row {w : World} {g : Nat} {t : TypeId} {cs : Array Value} {q : List (BitVec 8)} (h : Row w g t cs) (hc : cs.toList.take q.length = bytesV q) : BAt w g 0 q := ⟨h.lt, fun j x hx => by
  rw [Nat.zero_add]
  refine h.get ?_
  have hj : j < q.length := (List.getElem?_eq_some_iff.1 hx).1
  rw [← Array.getElem?_toList, ← List.getElem?_take_of_lt hj, hc]
  simp [bytesV, hx]⟩
def wkC : Clm := ⟨1, [], 3, 0#32, 0#32⟩
def wk1 : Asq := ⟨2, clm0, zer 32, [], 0, zer 32⟩
def wk2 : Asq := ⟨2, clm0, zer 32, [97#8, 98#8], 0, zer 32⟩
def wk3 : Asq := ⟨2, clm0, zer 32, [97#8, 98#8], 3, zer 32⟩
def wk4 : Asq := ⟨2, wkC, zer 32, [97#8, 98#8], 3, zer 32⟩
def wk5 : Asq := ⟨2, wkC, zer 32, [97#8, 98#8], 3, 7#8 :: zer 31⟩
def wk6 : Asq := ⟨1, wkC, zer 32, [97#8, 98#8], 3, 7#8 :: zer 31⟩
def wk7 : Asq := ⟨1, wkC, zer 32, [97#8, 98#8], 3, zer 32⟩
theorem okB {X : Asq} (h : (decide (X.t.length = 32) && (decide (X.d.length = 32) && (decide (X.c.n.length ≤ 4) && decide (X.v.length ≤ 4)))) = true) : X.Ok := by
  simp only [Bool.and_eq_true, decide_eq_true_eq] at h
  exact ⟨h.1, h.2.1, Nat.le_trans h.2.2.1 (by decide), Nat.le_trans h.2.2.2 (by decide)⟩
theorem wkOk0 : Asq.Ok ask0 := okB (by decide +kernel)
theorem wkOk1 : wk1.Ok := okB (by decide +kernel)
theorem wkOk2 : wk2.Ok := okB (by decide +kernel)
theorem wkOk3 : wk3.Ok := okB (by decide +kernel)
theorem wkOk4 : wk4.Ok := okB (by decide +kernel)
theorem wkOk5 : wk5.Ok := okB (by decide +kernel)
theorem wkOk6 : wk6.Ok := okB (by decide +kernel)
theorem wkOk7 : wk7.Ok := okB (by decide +kernel)
theorem wk_ab : (⟨#[97, 98]⟩ : ByteArray) = strB [97#8, 98#8] := by rw [strB_eq]; rfl
theorem wk_name : (askC wk1).setIfInBounds 38 (.string ⟨#[97, 98]⟩) = askC wk2 := by rw [wk_ab]; exact put_ask_name wk1 _ wkOk1.t
theorem wk_lit : (#[.int .i64 1, .string ⟨#[]⟩, .int .i64 3, .int .u32 0, .int .u32 0] : Array Value) = clmCells wkC := by unfold wkC clmCells; rw [str_lit0]; rfl
theorem wk_clm : (spl (askC wk3).toList 1 (Value.agg #[.int .i64 1, .string ⟨#[]⟩, .int .i64 3, .int .u32 0, .int .u32 0]).cells.toList).toArray = askC wk4 := by
  rw [wk_lit]
  exact spl_ask_clm wk3 wkC
theorem wk_dat : (askC wk4).setIfInBounds 40 (.int .u8 7) = askC wk5 := put_ask_d wk4 0#8 7#8 (zer 31) wkOk4 rfl
theorem wk_dat7 : (askC wk6).setIfInBounds 40 (.int .u8 0) = askC wk7 := put_ask_d wk6 7#8 0#8 (zer 31) wkOk6 rfl
theorem wk_40 : (askC wk5)[40]? = some (.int .u8 7) := by rfl
theorem wk_m5 : mayA wk5 = true := by decide +kernel
theorem wk_m6 : mayA wk6 = false := by decide +kernel
theorem wk_m7 : mayA wk7 = true := by decide +kernel
theorem wk_l5 : (encA wk5).length = 86 := by decide +kernel
theorem wk_l7 : (encA wk7).length = 54 := by decide +kernel
theorem wk_d5 : decA (encA wk5) = wk5 ∧ decF (encA wk5) = 0 := by decide +kernel
theorem wk_g5 : (encA wk5).getD 0 0#8 = 2#8 ∧ (encA wk5).getD 47 0#8 = 97#8 ∧ (encA wk5).getD 51 0#8 = 3#8 ∧ (encA wk5).getD 52 0#8 = 7#8 := by decide +kernel
set_option maxHeartbeats 3200000 in
theorem askwakes_any (w : World) : Calls Tryd.prog 7 #[] w fun x w' => x = .returned (.bool true) ∧ Below w.heap.size w w' := by
  obtain ⟨B, hB⟩ : ∃ B, encA wk5 = B := ⟨_, rfl⟩
  obtain ⟨D, hD⟩ : ∃ D, encA wk7 = D := ⟨_, rfl⟩
  have HBL : Hid (B.length = 86) := Lib.hid (by rw [← hB]; exact wk_l5)
  have HDL : Hid (D.length = 54) := Lib.hid (by rw [← hD]; exact wk_l7)
  have HGET : Hid (B.getD 0 0#8 = 2#8 ∧ B.getD 47 0#8 = 97#8 ∧ B.getD 51 0#8 = 3#8 ∧ B.getD 52 0#8 = 7#8) := Lib.hid (by rw [← hB]; exact wk_g5)
  have HDQ : Hid (decA B = wk5 ∧ decF B = 0) := Lib.hid (by rw [← hB]; exact wk_d5)
  have C5 := Lib.hid (fun W => askenc_good wk5 W wkOk5 wk_m5)
  have C6 := Lib.hid (fun W => askenc_bad wk6 W wkOk6 wk_m6)
  have C7 := Lib.hid (fun W => askenc_good wk7 W wkOk7 wk_m7)
  rw [hB] at C5
  rw [hD] at C7
  have CD : Hid (∀ A cc w, Slice w (.slice A 86 cc) B → Calls Tryd.prog 10 #[.slice A 86 cc] w fun e w' => e = .returned (.tuple #[.agg (askC wk5), .int .i64 0]) ∧ Below w.heap.size w w') := Lib.hid (fun A cc w hs => by
    have h := askdec_any A 86 cc B w HBL.out hs
    rw [HDQ.out.1, HDQ.out.2] at h; exact h)
  clear hB hD HDQ
  have HS := St.nil w noF
  go_enter Tryd.func7, Tryd.ntmps7
  go_upto_region 2 with (first | ((with_reducible refine wpList_plain ?_ ?_); exact rfl; intro KK hKK; refine wp_st_alloc HS 31 (askC ask0) rfl (.agg (askC ask0)) (by exact zero_ask) (rfl) (fun g1 W1 HSx => hKK _ _ ?_); clear hKK KK HS; have HS : St w noF [⟨g1, 31, askC ask0⟩] W1 := HSx; clear HSx))
  go_upto_region 3 with (first | ((with_reducible refine wpList_plain ?_ ?_); exact rfl; intro KK hKK; refine wp_st_put HS 0 0 3 (.tmp 10) (.const (.int .i64 2)) rfl rfl rfl (.int .i64 2) rfl (by kernel_rfl) rfl rfl (by rw [size_askC wkOk0]; decide) (askC wk1) (put_ask_k ask0 2) (fun W2 HSx => hKK _ _ ?_); clear hKK KK HS; have HS : St w noF [⟨g1, 31, askC wk1⟩] W2 := HSx; clear HSx) | ((with_reducible refine wpList_plain ?_ ?_); exact rfl; intro KK hKK; refine wp_st_put HS 0 38 9 (.tmp 11) (.const (.string ⟨#[97, 98]⟩)) rfl rfl rfl (.string ⟨#[97, 98]⟩) rfl (by kernel_rfl) rfl rfl (by rw [size_askC wkOk1]; decide) (askC wk2) (wk_name) (fun W3 HSx => hKK _ _ ?_); clear hKK KK HS; have HS : St w noF [⟨g1, 31, askC wk2⟩] W3 := HSx; clear HSx) | ((with_reducible refine wpList_plain ?_ ?_); exact rfl; intro KK hKK; refine wp_st_put HS 0 39 3 (.tmp 12) (.const (.int .i64 3)) rfl rfl rfl (.int .i64 3) rfl (by kernel_rfl) rfl rfl (by rw [size_askC wkOk2]; decide) (askC wk3) (put_ask_z wk2 3 wkOk2) (fun W4 HSx => hKK _ _ ?_); clear hKK KK HS; have HS : St w noF [⟨g1, 31, askC wk3⟩] W4 := HSx; clear HSx))
  go_upto_region 4 with (first | ((with_reducible refine wpList_plain ?_ ?_); exact rfl; intro KK hKK; refine wp_st_store HS 0 1 24 (.tmp 15) (.tmp 13) rfl rfl rfl (.agg #[.int .i64 1, .string ⟨#[]⟩, .int .i64 3, .int .u32 0, .int .u32 0]) rfl (by exact size_clm) (by show 1 + 5 ≤ (askC wk3).size; rw [size_askC wkOk3]; decide) (by simp [Value.cells, Value.oneCell']) (askC wk4) (wk_clm) (fun W5 HSx => hKK _ _ ?_); clear hKK KK HS; have HS : St w noF [⟨g1, 31, askC wk4⟩] W5 := HSx; clear HSx))
  go_upto_region 5 with (first | ((with_reducible refine wpList_plain ?_ ?_); exact rfl; intro KK hKK; refine wp_st_put HS 0 40 5 (.tmp 17) (.const (.int .u8 7)) rfl rfl rfl (.int .u8 7) rfl (by kernel_rfl) rfl rfl (by rw [size_askC wkOk4]; decide) (askC wk5) (wk_dat) (fun W6 HSx => hKK _ _ ?_); clear hKK KK HS; have HS : St w noF [⟨g1, 31, askC wk5⟩] W6 := HSx; clear HSx))
  go_wp2_with (first | ((with_reducible refine wpList_plain ?_ ?_); exact rfl; intro KK hKK; refine wp_st_load HS 0 0 31 (.tmp 1) rfl rfl rfl (askC wk5) (slab_whole _) _ Tryd.underlying31 rfl (by rw [size_askC wkOk5]; exact size_ask) (hKK _ _ ?_); clear hKK KK))
  refine (C5.out _).mono ?_
  rintro e w1 ⟨v1, rfl, ho, hb⟩
  have hs := own_slice ho
  obtain ⟨gb, cc, cb, rfl, hgb, HRb, hcc, hcb⟩ := own_rowq ho (by rw [HBL.out]; decide)
  have hlt : g1 < _ := (HS.row 0 rfl).lt
  have hlo := Nat.le_trans HS.below.size hgb
  have HSx := HS.same hb
  clear HS hb C5
  have HS := HSx
  clear HSx
  have HSx := HS.join HRb hlo (by intro b hm; cases List.mem_singleton.1 hm; intro e; dsimp only at e; omega)
  clear HS hlt hlo hgb HRb
  have HS := HSx
  clear HSx ho
  rw [HBL.out] at hs hcc ⊢
  have C := CD.out (some ⟨gb, 0, none⟩) cc w1 hs
  clear hs CD
  go_wp2_with fail
  refine C.mono ?_
  rintro e w2 ⟨rfl, hb⟩
  have HSx := HS.same hb
  clear HS hb C
  have HS := HSx
  clear HSx
  go_upto_region 7 with (first | ((with_reducible refine wpList_plain ?_ ?_); exact rfl; intro KK hKK; refine wp_st_alloc HS 31 (askC ask0) rfl (.agg (askC ask0)) (by exact zero_ask) (rfl) (fun g4 W21 HSx => hKK _ _ ?_); clear hKK KK HS; have HS : St w noF [⟨g1, 31, askC wk5⟩, ⟨gb, 5, cb⟩, ⟨g4, 31, askC ask0⟩] W21 := HSx; clear HSx) | ((with_reducible refine wpList_plain ?_ ?_); exact rfl; intro KK hKK; refine wp_st_store HS 2 0 31 (.tmp 4) (.tmp 26) rfl rfl rfl (.agg (askC wk5)) rfl (by rw [show (Value.agg (askC wk5)).cells.size = 72 from size_askC wkOk5]; exact size_ask) (by rw [Nat.zero_add, show (Value.agg (askC wk5)).cells.size = 72 from size_askC wkOk5, size_askC wkOk0]; decide) (by exact one_ask _) (askC wk5) (spl_agg _ _ _ rfl (by rw [size_askC wkOk0, size_askC wkOk5])) (fun W22 HSx => hKK _ _ ?_); clear hKK KK HS; have HS : St w noF [⟨g1, 31, askC wk5⟩, ⟨gb, 5, cb⟩, ⟨g4, 31, askC wk5⟩] W22 := HSx; clear HSx))
  go_upto_region 8 with (first | ((with_reducible refine wpList_plain ?_ ?_); exact rfl; intro KK hKK; refine wp_st_put HS 0 0 3 (.tmp 28) (.const (.int .i64 1)) rfl rfl rfl (.int .i64 1) rfl (by kernel_rfl) rfl rfl (by rw [size_askC wkOk5]; decide) (askC wk6) (put_ask_k wk5 1) (fun W23 HSx => hKK _ _ ?_); clear hKK KK HS; have HS : St w noF [⟨g1, 31, askC wk6⟩, ⟨gb, 5, cb⟩, ⟨g4, 31, askC wk5⟩] W23 := HSx; clear HSx))
  go_wp2_with (first | ((with_reducible refine wpList_plain ?_ ?_); exact rfl; intro KK hKK; refine wp_st_load HS 0 0 31 (.tmp 1) rfl rfl rfl (askC wk6) (slab_whole _) _ Tryd.underlying31 rfl (by rw [size_askC wkOk6]; exact size_ask) (hKK _ _ ?_); clear hKK KK))
  refine (C6.out _).mono ?_
  rintro e w3 ⟨rfl, hb⟩
  have HSx := HS.same hb
  clear HS hb C6
  have HS := HSx
  clear HSx
  go_upto_region 10 with (first | ((with_reducible refine wpList_plain ?_ ?_); exact rfl; intro KK hKK; refine wp_st_put HS 0 40 5 (.tmp 35) (.const (.int .u8 0)) rfl rfl rfl (.int .u8 0) rfl (by kernel_rfl) rfl rfl (by rw [size_askC wkOk6]; decide) (askC wk7) (wk_dat7) (fun W31 HSx => hKK _ _ ?_); clear hKK KK HS; have HS : St w noF [⟨g1, 31, askC wk7⟩, ⟨gb, 5, cb⟩, ⟨g4, 31, askC wk5⟩] W31 := HSx; clear HSx))
  go_wp2_with (first | ((with_reducible refine wpList_plain ?_ ?_); exact rfl; intro KK hKK; refine wp_st_load HS 0 0 31 (.tmp 1) rfl rfl rfl (askC wk7) (slab_whole _) _ Tryd.underlying31 rfl (by rw [size_askC wkOk7]; exact size_ask) (hKK _ _ ?_); clear hKK KK))
  refine (C7.out _).mono ?_
  rintro e w4 ⟨v8, rfl, ho, hb⟩
  obtain ⟨gd, cd, rfl, _⟩ := own_slice_form ho
  rw [HDL.out]
  have HSx := HS.same hb
  clear HS hb C7 ho
  have HS := HSx
  clear HSx
  have HBA : BAt w4 gb 0 B := bat_row (HS.row 1 rfl) hcb
  have d0 : w4.cell? ⟨gb, 0, none⟩ = some (.int .u8 2) := by have h := HBA.get 0 (by rw [HBL.out]; decide); rw [HGET.out.1, Nat.zero_add] at h; exact h
  have d47 : w4.cell? ⟨gb, 47, none⟩ = some (.int .u8 97) := by have h := HBA.get 47 (by rw [HBL.out]; decide); rw [HGET.out.2.1, Nat.zero_add] at h; exact h
  have d51 : w4.cell? ⟨gb, 51, none⟩ = some (.int .u8 3) := by have h := HBA.get 51 (by rw [HBL.out]; decide); rw [HGET.out.2.2.1, Nat.zero_add] at h; exact h
  have d52 : w4.cell? ⟨gb, 52, none⟩ = some (.int .u8 7) := by have h := HBA.get 52 (by rw [HBL.out]; decide); rw [HGET.out.2.2.2, Nat.zero_add] at h; exact h
  have e0 : w4.cell? ⟨g4, 0, none⟩ = some (.int .i64 2) := (HS.row 2 rfl).get rfl
  have e1 : w4.cell? ⟨g4, 1, none⟩ = some (.int .i64 1) := (HS.row 2 rfl).get rfl
  have e40 : w4.cell? ⟨g4, 40, none⟩ = some (.int .u8 7) := (HS.row 2 rfl).get wk_40
  go_wp2_with fail
  clear d0 d47 d51 d52 e0 e1 e40
  go_ret
  exact ⟨rfl, HS.below⟩
end Go.Proofs.YtobklbfcnbmnmaaDoor

/- The law's small. -/
set_option maxRecDepth 4000
namespace Go.Proofs.YtobklbfcnbmnmaaDoor
open Go Go.RowKit
attribute [local go_sem] strB_size
set_option maxHeartbeats 800000 in
theorem asmall_any (X : Asq) (w : World) (h : X.Ok) : Calls Tryd.prog 6 #[.agg (askC X)] w fun x w' => x = .returned (.bool (decide (X.c.n.length ≤ 100) && decide (X.v.length ≤ 100))) ∧ Below w.heap.size w w' := by
  have HOK := Lib.hid h
  clear h
  have HS := St.nil w noF
  by_cases t1 : X.c.n.length ≤ 100
  · have d1 : decide ((X.c.n.length : Int) ≤ 100) = true := decide_eq_true (by omega)
    rw [decide_eq_true t1, Bool.true_and]
    by_cases t2 : X.v.length ≤ 100
    · have d2 : decide ((X.v.length : Int) ≤ 100) = true := decide_eq_true (by omega)
      rw [decide_eq_true t2]
      go_enter Tryd.func6, Tryd.ntmps6
      go_upto_region 1 with (first | ((with_reducible refine wpList_plain ?_ ?_); exact rfl; intro KK hKK; refine wp_st_box HS 31 (.tmp 0) rfl _ rfl (askC X) (rfl) (fun g1 W1 HSx => hKK _ _ ?_); clear hKK KK HS; have HS : St w noF [⟨g1, 31, askC X⟩] W1 := HSx; clear HSx))
      have c2 : W1.cell? ⟨g1, 2, none⟩ = some (.string (strB X.c.n)) := (HS.row 0 rfl).get rfl
      have c38 : W1.cell? ⟨g1, 38, none⟩ = some (.string (strB X.v)) := (HS.row 0 rfl).get (ask_38 HOK.out)
      go_wp2_with fail
      go_ret
      exact ⟨rfl, HS.below⟩
    · have d2 : decide ((X.v.length : Int) ≤ 100) = false := decide_eq_false (by omega)
      rw [decide_eq_false t2]
      go_enter Tryd.func6, Tryd.ntmps6
      go_upto_region 1 with (first | ((with_reducible refine wpList_plain ?_ ?_); exact rfl; intro KK hKK; refine wp_st_box HS 31 (.tmp 0) rfl _ rfl (askC X) (rfl) (fun g1 W1 HSx => hKK _ _ ?_); clear hKK KK HS; have HS : St w noF [⟨g1, 31, askC X⟩] W1 := HSx; clear HSx))
      have c2 : W1.cell? ⟨g1, 2, none⟩ = some (.string (strB X.c.n)) := (HS.row 0 rfl).get rfl
      have c38 : W1.cell? ⟨g1, 38, none⟩ = some (.string (strB X.v)) := (HS.row 0 rfl).get (ask_38 HOK.out)
      go_wp2_with fail
      go_ret
      exact ⟨rfl, HS.below⟩
  · have d1 : decide ((X.c.n.length : Int) ≤ 100) = false := decide_eq_false (by omega)
    rw [decide_eq_false t1, Bool.false_and]
    go_enter Tryd.func6, Tryd.ntmps6
    go_upto_region 1 with (first | ((with_reducible refine wpList_plain ?_ ?_); exact rfl; intro KK hKK; refine wp_st_box HS 31 (.tmp 0) rfl _ rfl (askC X) (rfl) (fun g1 W1 HSx => hKK _ _ ?_); clear hKK KK HS; have HS : St w noF [⟨g1, 31, askC X⟩] W1 := HSx; clear HSx))
    have c2 : W1.cell? ⟨g1, 2, none⟩ = some (.string (strB X.c.n)) := (HS.row 0 rfl).get rfl
    have c38 : W1.cell? ⟨g1, 38, none⟩ = some (.string (strB X.v)) := (HS.row 0 rfl).get (ask_38 HOK.out)
    go_wp2_with fail
    go_ret
    exact ⟨rfl, HS.below⟩
end Go.Proofs.YtobklbfcnbmnmaaDoor

/- Two requests compared. -/
set_option maxRecDepth 4000
namespace Go.Proofs.YtobklbfcnbmnmaaDoor
open Go Go.RowKit
theorem eql_tok9 (a b : Clm) (p q : List (BitVec 8)) (hp : p.length = 32) (hq : q.length = 32) (w : World) : (Op.equalIn 9999 28 (.agg (tokCells a p)) (.agg (tokCells b q))).run Tryd.prog w = .ok (decide (a = b ∧ p = q)) w := by
  have hS : Tryd.prog.underlying 28 = some (.struct (Tryd.prog.fieldsOf 28)) := by kernel_rfl
  have h3 : ∀ w, (Op.equalIn 9998 26 (.agg (bs p)) (.agg (bs q))).run Tryd.prog w = .ok (decide (p = q)) w := fun w => equal_bytesD 9996 26 32 p q hp hq Tryd.underlying26 w
  have e : decide (a = b ∧ p = q) = (a.p == b.p && (((strB a.n).toList == (strB b.n).toList) && (a.r == b.r && (wd a.u == wd b.u && (wd a.g == wd b.g && decide (p = q)))))) := by
    rw [str_beq]
    by_cases h : a = b
    · subst h; simp
    · rw [decide_eq_false (fun k => h k.1)]
      symm
      cases hx : (a.p == b.p && (decide (a.n = b.n) && (a.r == b.r && (wd a.u == wd b.u && (wd a.g == wd b.g && decide (p = q)))))) with
      | false => rfl
      | true =>
        simp only [Bool.and_eq_true, beq_iff_eq, decide_eq_true_eq] at hx
        obtain ⟨h1, h2, h3, h4, h5, _⟩ := hx
        obtain ⟨p, n, r, u, g⟩ := a
        obtain ⟨p', n', r', u', g'⟩ := b
        simp only at h1 h2 h3 h4 h5
        exact absurd (by rw [h1, h2, h3, wd_inj h4, wd_inj h5]) h
  rw [e, show (9999 : Nat) = 9998 + 1 from rfl, run_equalIn_agg w 9998 28 _ _ hS (by kernel_rfl)]
  simp only [Program.fieldsOf, Tryd.underlying28]
  go_simp
  rw [take_tok, take_tok, drop_tok a p hp, drop_tok b q hq]
  clear e hp hq
  have u1 := Tryd.underlying22
  have u2 := Tryd.underlying3
  have u3 := Tryd.underlying9
  unfold clmCells
  generalize decide (p = q) = D at *
  generalize bs p = P at *
  generalize bs q = Q at *
  generalize wd a.u = a1
  generalize wd a.g = a2
  generalize wd b.u = b1
  generalize wd b.g = b2
  generalize strB a.n = s
  generalize strB b.n = s'
  generalize a.p = k
  generalize b.p = k'
  generalize a.r = r
  generalize b.r = r'
  go_simp
  cases D <;> by_cases h1 : k = k' <;> by_cases h2 : s.toList = s'.toList <;> by_cases h3 : r = r' <;> by_cases h4 : a1 = b1 <;> by_cases h5 : a2 = b2 <;> simp [h1, h2, h3, h4, h5]
theorem ext_tok {X : Asq} (h : X.Ok) : (askC X).extract 1 38 = tokCells X.c X.t := by
  apply Array.ext'
  rw [Array.toList_extract, List.extract_eq_take_drop, show (38 : Nat) - 1 = (tokCells X.c X.t).size by rw [tok_size _ _ h.t]]
  exact ask_tok X
theorem ext_dat {X : Asq} (h : X.Ok) : (askC X).extract 40 72 = bs X.d := by
  apply Array.ext'
  rw [Array.toList_extract, List.extract_eq_take_drop, show (72 : Nat) - 40 = (bs X.d).size by rw [size_bs, h.d]]
  exact ask_dat h
theorem eql_ask (X Y : Asq) (hx : X.Ok) (hy : Y.Ok) (w : World) : (Op.equalIn 10000 31 (.agg (askC X)) (.agg (askC Y))).run Tryd.prog w = .ok (decide (X = Y)) w := by
  have hS : Tryd.prog.underlying 31 = some (.struct (Tryd.prog.fieldsOf 31)) := by kernel_rfl
  have h2 : ∀ w, (Op.equalIn 9999 28 (.agg (tokCells X.c X.t)) (.agg (tokCells Y.c Y.t))).run Tryd.prog w = .ok (decide (X.c = Y.c ∧ X.t = Y.t)) w := fun w => eql_tok9 X.c Y.c X.t Y.t hx.t hy.t w
  have h3 : ∀ w, (Op.equalIn 9999 29 (.agg (bs X.d)) (.agg (bs Y.d))).run Tryd.prog w = .ok (decide (X.d = Y.d)) w := fun w => equal_bytesD 9997 29 32 X.d Y.d hx.d hy.d Tryd.underlying29 w
  have e : decide (X = Y) = (X.k == Y.k && (decide (X.c = Y.c ∧ X.t = Y.t) && (((strB X.v).toList == (strB Y.v).toList) && (X.z == Y.z && decide (X.d = Y.d))))) := by
    rw [str_beq]
    obtain ⟨k, c, t, v, z, d⟩ := X
    obtain ⟨k', c', t', v', z', d'⟩ := Y
    rw [Bool.eq_iff_iff]
    simp only [Bool.and_eq_true, decide_eq_true_eq, beq_iff_eq, Asq.mk.injEq, and_assoc]
  have s1 := size_askC hx
  have s2 := size_askC hy
  have a0 : (askC X)[0]? = some (.int .i64 X.k) := rfl
  have b0 : (askC Y)[0]? = some (.int .i64 Y.k) := rfl
  have a38 := ask_38 hx
  have b38 := ask_38 hy
  have a39 := ask_39 hx
  have b39 := ask_39 hy
  have a1 := ext_tok hx
  have b1 := ext_tok hy
  have a4 := ext_dat hx
  have b4 := ext_dat hy
  rw [e, show (10000 : Nat) = 9999 + 1 from rfl, run_equalIn_agg w 9999 31 _ _ hS (by kernel_rfl)]
  have u2 := Tryd.underlying3
  have u3 := Tryd.underlying9
  simp only [Program.fieldsOf, Tryd.underlying31]
  clear e hS
  generalize askC X = P at *
  generalize askC Y = Q at *
  generalize decide (X.c = Y.c ∧ X.t = Y.t) = D1 at *
  generalize decide (X.d = Y.d) = D2 at *
  generalize tokCells X.c X.t = T1 at *
  generalize tokCells Y.c Y.t = T2 at *
  generalize bs X.d = S1 at *
  generalize bs Y.d = S2 at *
  generalize strB X.v = v at *
  generalize strB Y.v = v' at *
  generalize X.k = k at *
  generalize Y.k = k' at *
  generalize X.z = z at *
  generalize Y.z = z' at *
  clear hx hy
  obtain ⟨l0, a0⟩ := Array.getElem?_eq_some_iff.1 a0
  obtain ⟨m0, b0⟩ := Array.getElem?_eq_some_iff.1 b0
  obtain ⟨l1, a38⟩ := Array.getElem?_eq_some_iff.1 a38
  obtain ⟨m1, b38⟩ := Array.getElem?_eq_some_iff.1 b38
  obtain ⟨l2, a39⟩ := Array.getElem?_eq_some_iff.1 a39
  obtain ⟨m2, b39⟩ := Array.getElem?_eq_some_iff.1 b39
  go_simp
  cases D1 <;> cases D2 <;> by_cases h1 : k = k' <;> by_cases h2 : v.toList = v'.toList <;> by_cases h3 : z = z' <;> simp [h1, h2, h3]
end Go.Proofs.YtobklbfcnbmnmaaDoor
