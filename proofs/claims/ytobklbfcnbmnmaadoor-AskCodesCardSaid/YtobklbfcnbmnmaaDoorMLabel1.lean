/- Merged: AskRef AskFrom AskDec. -/
import Derived.Test.YtobklbfcnbmnmaaDoorMGen1
import Derived.Test.YtobklbfcnbmnmaaDoorMLabel0
import Derived.Test.YtobklbfcnbmnmaaDoorMSeal0
import Derived.Test.YtobklbfcnbmnmaaDoorMGen0
/- The document's ask: Encode. -/
set_option maxRecDepth 4000
namespace Go.Proofs.YtobklbfcnbmnmaaDoor
open Go Go.RowKit
theorem goodNs_one (q : List (BitVec 8)) : goodNs [q] = goodN q := by unfold goodNs; simp
theorem crcTail_two (q : List (BitVec 8)) : crcTail q = two (crcOf q) := rfl
theorem enc_w (X : Asq) (h : X.k = 2) : ([byteI X.k] ++ (clmB X.c ++ X.t) ++ padN X.v ++ [byteI X.z] ++ X.d) ++ crcTail ([byteI X.k] ++ (clmB X.c ++ X.t) ++ padN X.v ++ [byteI X.z] ++ X.d) = encA X := by
  unfold encA bodA hedA
  rw [if_pos h, crcTail_two]
theorem enc_r (X : Asq) (h : ¬ X.k = 2) : ([byteI X.k] ++ (clmB X.c ++ X.t) ++ padN X.v ++ [byteI X.z]) ++ crcTail ([byteI X.k] ++ (clmB X.c ++ X.t) ++ padN X.v ++ [byteI X.z]) = encA X := by
  unfold encA bodA hedA
  rw [if_neg h, List.append_nil, crcTail_two]
set_option maxHeartbeats 1600000 in
theorem raskenc_any (X : Asq) (w : World) (HOK : X.Ok) : Calls Tryd.prog 9 #[.agg (askC X)] w fun e w' =>
    (mayA X = false ∧ e = .returned (.tuple #[.slice none 0 0, .int .i64 11]) ∧ Below w.heap.size w w') ∨ (mayA X = true ∧ ∃ v, e = .returned (.tuple #[v, .int .i64 0]) ∧ w'.ownsRow w.heap.size 5 1 v (encA X).length (bytesV (encA X)) ∧ Below w.heap.size w w') := by
  have HS := St.nil w noF
  have HCT : (clmB X.c ++ X.t).length = 46 := by rw [List.length_append, length_clmB, HOK.t]
  refine enter_env Tryd.func9 rfl Tryd.ntmps9 (Nat.le_of_ble_eq_true rfl) (fun a0 (HA0 : Env 80 [(0, .agg (askC X))] a0) => ?_)
  refine wp_seq ?_
  refine wp_region_lit ?_
  refine wl_does HA0 [] (R := fun v w9 => ∃ g1, v = .pointer (some ⟨g1, 0, none⟩) ∧ St w noF [⟨g1, 31, askC X⟩] w9) (want_n rfl) (dd_box HS rfl (HA0.ev 0 rfl) (cs := (askC X)) rfl (fun g9 w9 h9 => ⟨g9, rfl, h9⟩)) rfl ?_
  rintro _ W1 ⟨g1, rfl, HS1⟩ a1 (HA1 : Env 80 [(1, .pointer (some ⟨g1, 0, none⟩))] a1)
  clear HA0 a0 HS
  refine wl_is HA1 [0] (v := .slice none 0 0) (want_n rfl) (dd_rn (dd_as rfl rfl) ⟨rfl, rfl⟩) rfl (fun a2 (HA2 : Env 80 [(2, .slice none 0 0), (1, .pointer (some ⟨g1, 0, none⟩))] a2) => ?_)
  clear HA1 a1
  refine wl_is HA2 [1] (v := .int .i64 0) (want_n rfl) (dd_rn (dd_as rfl rfl) ⟨rfl, rfl⟩) rfl (fun a3 (HA3 : Env 80 [(3, .int .i64 0), (1, .pointer (some ⟨g1, 0, none⟩))] a3) => ?_)
  clear HA2 a2
  refine wpList_nil ?_
  refine nx ?_
  refine wp_seq ?_
  refine wp_region_lit ?_
  refine wl_is HA3 [1] (v := .pointer (some ⟨g1, 1, none⟩)) (want_n rfl) (dd_rn (dd_field (off := 1) (j := 1) rfl (HA3.ev 1 rfl) (by kernel_rfl) rfl) ⟨rfl, rfl⟩) rfl (fun a4 (HA4 : Env 80 [(9, .pointer (some ⟨g1, 1, none⟩)), (1, .pointer (some ⟨g1, 0, none⟩))] a4) => ?_)
  clear HA3 a3
  refine wl_is HA4 [1] (v := .agg (tokCells X.c X.t)) (want_n rfl) (dd_rn (dd_load HS1 0 1 rfl rfl (HA4.ev 0 rfl) (ask_tok X) Tryd.underlying28 rfl (by rw [show (tokCells X.c X.t).size = 37 from (tok_size _ _ HOK.t)]; kernel_rfl)) ⟨rfl, rfl⟩) rfl (fun a5 (HA5 : Env 80 [(10, .agg (tokCells X.c X.t)), (1, .pointer (some ⟨g1, 0, none⟩))] a5) => ?_)
  clear HA4 a4
  cases hb7 : mayC X.c
  case false =>
    refine wl_does HA5 [1] (R := fun v w9 => v = .tuple #[.slice none 0 0, .int .i64 11] ∧ Below W1.heap.size W1 w9) (want_n rfl) (dd_call Tryd.func19 (by kernel_rfl) (by kernel_rfl) rfl (args1 (HA5.ev 0 rfl)) (rtokenc_bad X.c X.t W1 HOK.n hb7) (fun _ w9 h9 => ⟨_, h9.1, rfl, h9.2⟩)) rfl ?_
    rintro _ W8 ⟨rfl, hb8⟩ a8 (HA8 : Env 80 [(11, .tuple #[.slice none 0 0, .int .i64 11]), (1, .pointer (some ⟨g1, 0, none⟩))] a8)
    have HS8 := HS1.same hb8
    clear HA5 a5
    clear HS1 hb8
    refine wl_is HA8 [1] (v := .tuple #[.slice none 0 0, .int .i64 11]) (want_n rfl) (dd_rn (dd_mv rfl (HA8.ev 0 rfl)) ⟨rfl, rfl⟩) rfl (fun a9 (HA9 : Env 80 [(8, .tuple #[.slice none 0 0, .int .i64 11]), (1, .pointer (some ⟨g1, 0, none⟩))] a9) => ?_)
    clear HA8 a8
    refine wl_is HA9 [0, 1] (v := .slice none 0 0) (want_n rfl) (dd_rn (dd_ext rfl (HA9.ev 0 rfl) rfl) ⟨rfl, rfl⟩) rfl (fun a10 (HA10 : Env 80 [(12, .slice none 0 0), (8, .tuple #[.slice none 0 0, .int .i64 11]), (1, .pointer (some ⟨g1, 0, none⟩))] a10) => ?_)
    clear HA9 a9
    refine wl_is HA10 [0, 2] (v := .int .i64 11) (want_n rfl) (dd_rn (dd_ext rfl (HA10.ev 1 rfl) rfl) ⟨rfl, rfl⟩) rfl (fun a11 (HA11 : Env 80 [(13, .int .i64 11), (12, .slice none 0 0), (1, .pointer (some ⟨g1, 0, none⟩))] a11) => ?_)
    clear HA10 a10
    refine wl_is HA11 [0, 2] (v := .slice none 0 0) (want_n rfl) (dd_rn (dd_as rfl (HA11.ev 1 rfl)) ⟨rfl, rfl⟩) rfl (fun a12 (HA12 : Env 80 [(4, .slice none 0 0), (13, .int .i64 11), (1, .pointer (some ⟨g1, 0, none⟩))] a12) => ?_)
    clear HA11 a11
    refine wl_is HA12 [0, 2] (v := .int .i64 11) (want_n rfl) (dd_rn (dd_as rfl (HA12.ev 1 rfl)) ⟨rfl, rfl⟩) rfl (fun a13 (HA13 : Env 80 [(5, .int .i64 11), (4, .slice none 0 0), (1, .pointer (some ⟨g1, 0, none⟩))] a13) => ?_)
    clear HA12 a12
    refine wpList_nil ?_
    refine nx ?_
    refine wp_seq ?_
    refine wp_seq ?_
    refine wp_region_lit ?_
    refine wl_is HA13 [1, 2] (v := .int .i64 11) (want_n rfl) (dd_rn (dd_mv rfl (HA13.ev 0 rfl)) ⟨rfl, rfl⟩) rfl (fun a14 (HA14 : Env 80 [(14, .int .i64 11), (4, .slice none 0 0), (1, .pointer (some ⟨g1, 0, none⟩))] a14) => ?_)
    clear HA13 a13
    refine wl_is HA14 [1, 2] (v := .bool true) (want_n rfl) (dd_rn (dd_cmp rfl (HA14.ev 0 rfl) rfl (ne_t (by decide))) ⟨rfl, rfl⟩) rfl (fun a15 (HA15 : Env 80 [(15, .bool true), (4, .slice none 0 0), (1, .pointer (some ⟨g1, 0, none⟩))] a15) => ?_)
    clear HA14 a14
    refine wl_is HA15 [1, 2] (v := .bool true) (want_n rfl) (dd_rn (dd_mv rfl (HA15.ev 0 rfl)) ⟨rfl, rfl⟩) rfl (fun a16 (HA16 : Env 80 [(16, .bool true), (4, .slice none 0 0), (1, .pointer (some ⟨g1, 0, none⟩))] a16) => ?_)
    clear HA15 a15
    refine wl_skip HA16 [0, 1, 2] (want_g rfl (t := 16) rfl (HA16.get 0 rfl) rfl) rfl (fun a17 (HA17 : Env 80 [(17, undef), (16, .bool true), (4, .slice none 0 0), (1, .pointer (some ⟨g1, 0, none⟩))] a17) => ?_)
    clear HA16 a16
    refine wl_skip HA17 [1, 2, 3] (want_g rfl (t := 16) rfl (HA17.get 1 rfl) rfl) rfl (fun a18 (HA18 : Env 80 [(18, undef), (16, .bool true), (4, .slice none 0 0), (1, .pointer (some ⟨g1, 0, none⟩))] a18) => ?_)
    clear HA17 a17
    refine wl_skip HA18 [1, 2, 3] (want_g rfl (t := 16) rfl (HA18.get 1 rfl) rfl) rfl (fun a19 (HA19 : Env 80 [(19, undef), (16, .bool true), (4, .slice none 0 0), (1, .pointer (some ⟨g1, 0, none⟩))] a19) => ?_)
    clear HA18 a18
    refine wl_skip HA19 [1, 2, 3] (want_g rfl (t := 16) rfl (HA19.get 1 rfl) rfl) rfl (fun a20 (HA20 : Env 80 [(20, undef), (16, .bool true), (4, .slice none 0 0), (1, .pointer (some ⟨g1, 0, none⟩))] a20) => ?_)
    clear HA19 a19
    refine wl_skip HA20 [0, 1, 2, 3] (want_u rfl (t := 20) rfl (HA20.get 0 rfl)) rfl (fun a21 (HA21 : Env 80 [(21, undef), (20, undef), (16, .bool true), (4, .slice none 0 0), (1, .pointer (some ⟨g1, 0, none⟩))] a21) => ?_)
    clear HA20 a20
    refine wl_skip HA21 [1, 2, 3, 4] (want_u rfl (t := 20) rfl (HA21.get 1 rfl)) rfl (fun a22 (HA22 : Env 80 [(22, undef), (20, undef), (16, .bool true), (4, .slice none 0 0), (1, .pointer (some ⟨g1, 0, none⟩))] a22) => ?_)
    clear HA21 a21
    refine wl_skip HA22 [1, 2, 3, 4] (want_u rfl (t := 20) rfl (HA22.get 1 rfl)) rfl (fun a23 (HA23 : Env 80 [(23, undef), (20, undef), (16, .bool true), (4, .slice none 0 0), (1, .pointer (some ⟨g1, 0, none⟩))] a23) => ?_)
    clear HA22 a22
    refine wl_skip HA23 [2, 3, 4] (want_g rfl (t := 16) rfl (HA23.get 2 rfl) rfl) rfl (fun a24 (HA24 : Env 80 [(24, undef), (16, .bool true), (4, .slice none 0 0), (1, .pointer (some ⟨g1, 0, none⟩))] a24) => ?_)
    clear HA23 a23
    refine wl_is HA24 [2, 3] (v := .bool true) (want_n rfl) (dd_rn (dd_pickT rfl (HA24.ev 1 rfl) rfl) ⟨rfl, rfl⟩) rfl (fun a25 (HA25 : Env 80 [(25, .bool true), (4, .slice none 0 0), (1, .pointer (some ⟨g1, 0, none⟩))] a25) => ?_)
    clear HA24 a24
    refine wl_is HA25 [1, 2] (v := .bool true) (want_n rfl) (dd_rn (dd_mv rfl (HA25.ev 0 rfl)) ⟨rfl, rfl⟩) rfl (fun a26 (HA26 : Env 80 [(26, .bool true), (4, .slice none 0 0), (1, .pointer (some ⟨g1, 0, none⟩))] a26) => ?_)
    clear HA25 a25
    refine wl_skip HA26 [0, 1, 2] (want_g rfl (t := 26) rfl (HA26.get 0 rfl) rfl) rfl (fun a27 (HA27 : Env 80 [(27, undef), (26, .bool true), (4, .slice none 0 0), (1, .pointer (some ⟨g1, 0, none⟩))] a27) => ?_)
    clear HA26 a26
    refine wl_skip HA27 [1, 2, 3] (want_g rfl (t := 26) rfl (HA27.get 1 rfl) rfl) rfl (fun a28 (HA28 : Env 80 [(28, undef), (26, .bool true), (4, .slice none 0 0), (1, .pointer (some ⟨g1, 0, none⟩))] a28) => ?_)
    clear HA27 a27
    refine wl_skip HA28 [1, 2, 3] (want_g rfl (t := 26) rfl (HA28.get 1 rfl) rfl) rfl (fun a29 (HA29 : Env 80 [(29, undef), (26, .bool true), (4, .slice none 0 0), (1, .pointer (some ⟨g1, 0, none⟩))] a29) => ?_)
    clear HA28 a28
    refine wl_skip HA29 [1, 2, 3] (want_g rfl (t := 26) rfl (HA29.get 1 rfl) rfl) rfl (fun a30 (HA30 : Env 80 [(30, undef), (26, .bool true), (4, .slice none 0 0), (1, .pointer (some ⟨g1, 0, none⟩))] a30) => ?_)
    clear HA29 a29
    refine wl_skip HA30 [0, 1, 2, 3] (want_u rfl (t := 30) rfl (HA30.get 0 rfl)) rfl (fun a31 (HA31 : Env 80 [(31, undef), (30, undef), (26, .bool true), (4, .slice none 0 0), (1, .pointer (some ⟨g1, 0, none⟩))] a31) => ?_)
    clear HA30 a30
    refine wl_skip HA31 [1, 2, 3, 4] (want_u rfl (t := 30) rfl (HA31.get 1 rfl)) rfl (fun a32 (HA32 : Env 80 [(32, undef), (30, undef), (26, .bool true), (4, .slice none 0 0), (1, .pointer (some ⟨g1, 0, none⟩))] a32) => ?_)
    clear HA31 a31
    refine wl_skip HA32 [0, 1, 2, 3, 4] (want_u rfl (t := 30) rfl (HA32.get 1 rfl)) rfl (fun a33 (HA33 : Env 80 [(33, undef), (32, undef), (30, undef), (26, .bool true), (4, .slice none 0 0), (1, .pointer (some ⟨g1, 0, none⟩))] a33) => ?_)
    clear HA32 a32
    refine wl_skip HA33 [2, 3, 4, 5] (want_u rfl (t := 30) rfl (HA33.get 2 rfl)) rfl (fun a34 (HA34 : Env 80 [(34, undef), (30, undef), (26, .bool true), (4, .slice none 0 0), (1, .pointer (some ⟨g1, 0, none⟩))] a34) => ?_)
    clear HA33 a33
    refine wl_skip HA34 [2, 3, 4] (want_g rfl (t := 26) rfl (HA34.get 2 rfl) rfl) rfl (fun a35 (HA35 : Env 80 [(35, undef), (26, .bool true), (4, .slice none 0 0), (1, .pointer (some ⟨g1, 0, none⟩))] a35) => ?_)
    clear HA34 a34
    refine wl_is HA35 [2, 3] (v := .bool true) (want_n rfl) (dd_rn (dd_pickT rfl (HA35.ev 1 rfl) rfl) ⟨rfl, rfl⟩) rfl (fun a36 (HA36 : Env 80 [(36, .bool true), (4, .slice none 0 0), (1, .pointer (some ⟨g1, 0, none⟩))] a36) => ?_)
    clear HA35 a35
    refine wl_is HA36 [1, 2] (v := .bool true) (want_n rfl) (dd_rn (dd_mv rfl (HA36.ev 0 rfl)) ⟨rfl, rfl⟩) rfl (fun a37 (HA37 : Env 80 [(37, .bool true), (4, .slice none 0 0), (1, .pointer (some ⟨g1, 0, none⟩))] a37) => ?_)
    clear HA36 a36
    refine wl_skip HA37 [0, 1, 2] (want_g rfl (t := 37) rfl (HA37.get 0 rfl) rfl) rfl (fun a38 (HA38 : Env 80 [(38, undef), (37, .bool true), (4, .slice none 0 0), (1, .pointer (some ⟨g1, 0, none⟩))] a38) => ?_)
    clear HA37 a37
    refine wl_skip HA38 [1, 2, 3] (want_g rfl (t := 37) rfl (HA38.get 1 rfl) rfl) rfl (fun a39 (HA39 : Env 80 [(39, undef), (37, .bool true), (4, .slice none 0 0), (1, .pointer (some ⟨g1, 0, none⟩))] a39) => ?_)
    clear HA38 a38
    refine wl_skip HA39 [1, 2, 3] (want_g rfl (t := 37) rfl (HA39.get 1 rfl) rfl) rfl (fun a40 (HA40 : Env 80 [(40, undef), (37, .bool true), (4, .slice none 0 0), (1, .pointer (some ⟨g1, 0, none⟩))] a40) => ?_)
    clear HA39 a39
    refine wl_skip HA40 [1, 2, 3] (want_g rfl (t := 37) rfl (HA40.get 1 rfl) rfl) rfl (fun a41 (HA41 : Env 80 [(41, undef), (37, .bool true), (4, .slice none 0 0), (1, .pointer (some ⟨g1, 0, none⟩))] a41) => ?_)
    clear HA40 a40
    refine wl_skip HA41 [1, 2, 3] (want_g rfl (t := 37) rfl (HA41.get 1 rfl) rfl) rfl (fun a42 (HA42 : Env 80 [(42, undef), (37, .bool true), (4, .slice none 0 0), (1, .pointer (some ⟨g1, 0, none⟩))] a42) => ?_)
    clear HA41 a41
    refine wl_is HA42 [2, 3] (v := .bool true) (want_n rfl) (dd_rn (dd_pickT rfl (HA42.ev 1 rfl) rfl) ⟨rfl, rfl⟩) rfl (fun a43 (HA43 : Env 80 [(43, .bool true), (4, .slice none 0 0), (1, .pointer (some ⟨g1, 0, none⟩))] a43) => ?_)
    clear HA42 a42
    refine wl_is HA43 [1, 2] (v := .bool true) (want_n rfl) (dd_rn (dd_mv rfl (HA43.ev 0 rfl)) ⟨rfl, rfl⟩) rfl (fun a44 (HA44 : Env 80 [(44, .bool true), (4, .slice none 0 0), (1, .pointer (some ⟨g1, 0, none⟩))] a44) => ?_)
    clear HA43 a43
    refine wl_skip HA44 [0, 1, 2] (want_g rfl (t := 44) rfl (HA44.get 0 rfl) rfl) rfl (fun a45 (HA45 : Env 80 [(45, undef), (44, .bool true), (4, .slice none 0 0), (1, .pointer (some ⟨g1, 0, none⟩))] a45) => ?_)
    clear HA44 a44
    refine wl_skip HA45 [1, 2, 3] (want_g rfl (t := 44) rfl (HA45.get 1 rfl) rfl) rfl (fun a46 (HA46 : Env 80 [(46, undef), (44, .bool true), (4, .slice none 0 0), (1, .pointer (some ⟨g1, 0, none⟩))] a46) => ?_)
    clear HA45 a45
    refine wl_skip HA46 [1, 2, 3] (want_g rfl (t := 44) rfl (HA46.get 1 rfl) rfl) rfl (fun a47 (HA47 : Env 80 [(47, undef), (44, .bool true), (4, .slice none 0 0), (1, .pointer (some ⟨g1, 0, none⟩))] a47) => ?_)
    clear HA46 a46
    refine wl_is HA47 [2, 3] (v := .bool true) (want_n rfl) (dd_rn (dd_pickT rfl (HA47.ev 1 rfl) rfl) ⟨rfl, rfl⟩) rfl (fun a48 (HA48 : Env 80 [(48, .bool true), (4, .slice none 0 0), (1, .pointer (some ⟨g1, 0, none⟩))] a48) => ?_)
    clear HA47 a47
    refine wl_is HA48 [1, 2] (v := .bool true) (want_n rfl) (dd_rn (dd_mv rfl (HA48.ev 0 rfl)) ⟨rfl, rfl⟩) rfl (fun a49 (HA49 : Env 80 [(49, .bool true), (4, .slice none 0 0), (1, .pointer (some ⟨g1, 0, none⟩))] a49) => ?_)
    clear HA48 a48
    refine wl_skip HA49 [0, 1, 2] (want_g rfl (t := 49) rfl (HA49.get 0 rfl) rfl) rfl (fun a50 (HA50 : Env 80 [(50, undef), (49, .bool true), (4, .slice none 0 0), (1, .pointer (some ⟨g1, 0, none⟩))] a50) => ?_)
    clear HA49 a49
    refine wl_skip HA50 [1, 2, 3] (want_g rfl (t := 49) rfl (HA50.get 1 rfl) rfl) rfl (fun a51 (HA51 : Env 80 [(51, undef), (49, .bool true), (4, .slice none 0 0), (1, .pointer (some ⟨g1, 0, none⟩))] a51) => ?_)
    clear HA50 a50
    refine wl_skip HA51 [1, 2, 3] (want_g rfl (t := 49) rfl (HA51.get 1 rfl) rfl) rfl (fun a52 (HA52 : Env 80 [(52, undef), (49, .bool true), (4, .slice none 0 0), (1, .pointer (some ⟨g1, 0, none⟩))] a52) => ?_)
    clear HA51 a51
    refine wl_is HA52 [2, 3] (v := .bool true) (want_n rfl) (dd_rn (dd_pickT rfl (HA52.ev 1 rfl) rfl) ⟨rfl, rfl⟩) rfl (fun a53 (HA53 : Env 80 [(53, .bool true), (4, .slice none 0 0), (1, .pointer (some ⟨g1, 0, none⟩))] a53) => ?_)
    clear HA52 a52
    refine wpList_nil ?_
    refine nx ?_
    refine wp_cond_true (HA53.ev 0 rfl) ?_
    refine wp_seq ?_
    refine wp_region_lit ?_
    refine wl_is HA53 [] (v := .slice none 0 0) (want_n rfl) (dd_rn (dd_as rfl rfl) ⟨rfl, rfl⟩) rfl (fun a54 (HA54 : Env 80 [(2, .slice none 0 0)] a54) => ?_)
    clear HA53 a53
    refine wl_is HA54 [0] (v := .int .i64 11) (want_n rfl) (dd_rn (dd_as rfl rfl) ⟨rfl, rfl⟩) rfl (fun a55 (HA55 : Env 80 [(3, .int .i64 11), (2, .slice none 0 0)] a55) => ?_)
    clear HA54 a54
    refine wpList_nil ?_
    refine nx ?_
    refine wp_ret ?_
    refine tr ?_
    refine ret_run HA55 (res_tt Tryd.results9 (HA55.get 1 rfl) (HA55.get 0 rfl)) ?_
    exact .inl ⟨mayA_no (fun h => by obtain ⟨h1, h2, h3, h4, h5⟩ := h; rw [hb7] at h1; cases h1), rfl, HS8.below⟩
  case true =>
    refine wl_does HA5 [1] (R := fun v w9 => ∃ gt57 ct57 cbt57, v = .tuple #[.slice (some ⟨gt57, 0, none⟩) 46 ct57, .int .i64 0] ∧ W1.heap.size ≤ gt57 ∧ Row w9 gt57 5 cbt57 ∧ OwnC cbt57 ct57 46 1 (bytesV (clmB X.c ++ X.t)) ∧ Below W1.heap.size W1 w9) (want_n rfl) (dd_call Tryd.func19 (by kernel_rfl) (by kernel_rfl) rfl (args1 (HA5.ev 0 rfl)) (rtokenc_good X.c X.t W1 HOK.t HOK.n hb7) (fun _ w9 ⟨v9, he, ho, hb⟩ => by rw [HCT] at ho; obtain ⟨g9, c9, cb9, rfl, h1, h2, h3⟩ := ownc_pos ho (by decide); exact ⟨_, he, g9, c9, cb9, rfl, h1, h2, h3, hb⟩)) rfl ?_
    rintro _ W56 ⟨gt57, ct57, cbt57, rfl, hg57, hr57, Ot57, hb56⟩ a56 (HA56 : Env 80 [(11, .tuple #[.slice (some ⟨gt57, 0, none⟩) 46 ct57, .int .i64 0]), (1, .pointer (some ⟨g1, 0, none⟩))] a56)
    have HS56 := HS1.same hb56
    clear HA5 a5
    have HS56j : St w noF [⟨g1, 31, askC X⟩, ⟨gt57, 5, cbt57⟩] W56 := HS1.joins hb56 hr57 hg57
    clear HS56 hr57 hg57
    clear HS1 hb56
    refine wl_is HA56 [1] (v := .tuple #[.slice (some ⟨gt57, 0, none⟩) 46 ct57, .int .i64 0]) (want_n rfl) (dd_rn (dd_mv rfl (HA56.ev 0 rfl)) ⟨rfl, rfl⟩) rfl (fun a58 (HA58 : Env 80 [(8, .tuple #[.slice (some ⟨gt57, 0, none⟩) 46 ct57, .int .i64 0]), (1, .pointer (some ⟨g1, 0, none⟩))] a58) => ?_)
    clear HA56 a56
    refine wl_is HA58 [0, 1] (v := .slice (some ⟨gt57, 0, none⟩) 46 ct57) (want_n rfl) (dd_rn (dd_ext rfl (HA58.ev 0 rfl) rfl) ⟨rfl, rfl⟩) rfl (fun a59 (HA59 : Env 80 [(12, .slice (some ⟨gt57, 0, none⟩) 46 ct57), (8, .tuple #[.slice (some ⟨gt57, 0, none⟩) 46 ct57, .int .i64 0]), (1, .pointer (some ⟨g1, 0, none⟩))] a59) => ?_)
    clear HA58 a58
    refine wl_is HA59 [0, 2] (v := .int .i64 0) (want_n rfl) (dd_rn (dd_ext rfl (HA59.ev 1 rfl) rfl) ⟨rfl, rfl⟩) rfl (fun a60 (HA60 : Env 80 [(13, .int .i64 0), (12, .slice (some ⟨gt57, 0, none⟩) 46 ct57), (1, .pointer (some ⟨g1, 0, none⟩))] a60) => ?_)
    clear HA59 a59
    refine wl_is HA60 [0, 2] (v := .slice (some ⟨gt57, 0, none⟩) 46 ct57) (want_n rfl) (dd_rn (dd_as rfl (HA60.ev 1 rfl)) ⟨rfl, rfl⟩) rfl (fun a61 (HA61 : Env 80 [(4, .slice (some ⟨gt57, 0, none⟩) 46 ct57), (13, .int .i64 0), (1, .pointer (some ⟨g1, 0, none⟩))] a61) => ?_)
    clear HA60 a60
    refine wl_is HA61 [0, 2] (v := .int .i64 0) (want_n rfl) (dd_rn (dd_as rfl (HA61.ev 1 rfl)) ⟨rfl, rfl⟩) rfl (fun a62 (HA62 : Env 80 [(5, .int .i64 0), (4, .slice (some ⟨gt57, 0, none⟩) 46 ct57), (1, .pointer (some ⟨g1, 0, none⟩))] a62) => ?_)
    clear HA61 a61
    refine wpList_nil ?_
    refine nx ?_
    refine wp_seq ?_
    refine wp_seq ?_
    refine wp_region_lit ?_
    refine wl_is HA62 [1, 2] (v := .int .i64 0) (want_n rfl) (dd_rn (dd_mv rfl (HA62.ev 0 rfl)) ⟨rfl, rfl⟩) rfl (fun a63 (HA63 : Env 80 [(14, .int .i64 0), (4, .slice (some ⟨gt57, 0, none⟩) 46 ct57), (1, .pointer (some ⟨g1, 0, none⟩))] a63) => ?_)
    clear HA62 a62
    refine wl_is HA63 [1, 2] (v := .bool false) (want_n rfl) (dd_rn (dd_cmp rfl (HA63.ev 0 rfl) rfl (ne_f (by decide))) ⟨rfl, rfl⟩) rfl (fun a64 (HA64 : Env 80 [(15, .bool false), (4, .slice (some ⟨gt57, 0, none⟩) 46 ct57), (1, .pointer (some ⟨g1, 0, none⟩))] a64) => ?_)
    clear HA63 a63
    refine wl_is HA64 [1, 2] (v := .bool false) (want_n rfl) (dd_rn (dd_mv rfl (HA64.ev 0 rfl)) ⟨rfl, rfl⟩) rfl (fun a65 (HA65 : Env 80 [(16, .bool false), (4, .slice (some ⟨gt57, 0, none⟩) 46 ct57), (1, .pointer (some ⟨g1, 0, none⟩))] a65) => ?_)
    clear HA64 a64
    refine wl_is HA65 [0, 1, 2] (v := .pointer (some ⟨g1, 0, none⟩)) (want_g rfl (t := 16) rfl (HA65.get 0 rfl) rfl) (dd_rn (dd_field (off := 0) (j := 0) rfl (HA65.ev 2 rfl) (by kernel_rfl) rfl) ⟨rfl, rfl⟩) rfl (fun a66 (HA66 : Env 80 [(17, .pointer (some ⟨g1, 0, none⟩)), (16, .bool false), (4, .slice (some ⟨gt57, 0, none⟩) 46 ct57), (1, .pointer (some ⟨g1, 0, none⟩))] a66) => ?_)
    clear HA65 a65
    refine wl_is HA66 [1, 2, 3] (v := .int .i64 X.k) (want_g rfl (t := 16) rfl (HA66.get 1 rfl) rfl) (dd_rn (dd_get HS56j 0 0 rfl rfl (HA66.ev 0 rfl) rfl Tryd.underlying3 rfl) ⟨rfl, rfl⟩) rfl (fun a67 (HA67 : Env 80 [(18, .int .i64 X.k), (16, .bool false), (4, .slice (some ⟨gt57, 0, none⟩) 46 ct57), (1, .pointer (some ⟨g1, 0, none⟩))] a67) => ?_)
    clear HA66 a66
    by_cases hc69 : (X.k : Int) = 1
    · skip
      refine wl_is HA67 [1, 2, 3] (v := .bool false) (want_g rfl (t := 16) rfl (HA67.get 1 rfl) rfl) (dd_rn (dd_cmp rfl (HA67.ev 0 rfl) rfl (ne_f hc69)) ⟨rfl, rfl⟩) rfl (fun a70 (HA70 : Env 80 [(19, .bool false), (16, .bool false), (4, .slice (some ⟨gt57, 0, none⟩) 46 ct57), (1, .pointer (some ⟨g1, 0, none⟩))] a70) => ?_)
      clear HA67 a67
      refine wl_is HA70 [1, 2, 3] (v := .bool false) (want_g rfl (t := 16) rfl (HA70.get 1 rfl) rfl) (dd_rn (dd_mv rfl (HA70.ev 0 rfl)) ⟨rfl, rfl⟩) rfl (fun a71 (HA71 : Env 80 [(20, .bool false), (16, .bool false), (4, .slice (some ⟨gt57, 0, none⟩) 46 ct57), (1, .pointer (some ⟨g1, 0, none⟩))] a71) => ?_)
      clear HA70 a70
      refine wl_skip HA71 [0, 1, 2, 3] (want_g rfl (t := 20) rfl (HA71.get 0 rfl) rfl) rfl (fun a72 (HA72 : Env 80 [(21, undef), (20, .bool false), (16, .bool false), (4, .slice (some ⟨gt57, 0, none⟩) 46 ct57), (1, .pointer (some ⟨g1, 0, none⟩))] a72) => ?_)
      clear HA71 a71
      refine wl_skip HA72 [1, 2, 3, 4] (want_g rfl (t := 20) rfl (HA72.get 1 rfl) rfl) rfl (fun a73 (HA73 : Env 80 [(22, undef), (20, .bool false), (16, .bool false), (4, .slice (some ⟨gt57, 0, none⟩) 46 ct57), (1, .pointer (some ⟨g1, 0, none⟩))] a73) => ?_)
      clear HA72 a72
      refine wl_skip HA73 [1, 2, 3, 4] (want_g rfl (t := 20) rfl (HA73.get 1 rfl) rfl) rfl (fun a74 (HA74 : Env 80 [(23, undef), (20, .bool false), (16, .bool false), (4, .slice (some ⟨gt57, 0, none⟩) 46 ct57), (1, .pointer (some ⟨g1, 0, none⟩))] a74) => ?_)
      clear HA73 a73
      refine wl_is HA74 [2, 3, 4] (v := .bool false) (want_g rfl (t := 16) rfl (HA74.get 2 rfl) rfl) (dd_rn (dd_pickF rfl (HA74.ev 1 rfl) rfl) ⟨rfl, rfl⟩) rfl (fun a75 (HA75 : Env 80 [(24, .bool false), (16, .bool false), (4, .slice (some ⟨gt57, 0, none⟩) 46 ct57), (1, .pointer (some ⟨g1, 0, none⟩))] a75) => ?_)
      clear HA74 a74
      refine wl_is HA75 [2, 3] (v := .bool false) (want_n rfl) (dd_rn (dd_pickF rfl (HA75.ev 1 rfl) (HA75.ev 0 rfl)) ⟨rfl, rfl⟩) rfl (fun a76 (HA76 : Env 80 [(25, .bool false), (4, .slice (some ⟨gt57, 0, none⟩) 46 ct57), (1, .pointer (some ⟨g1, 0, none⟩))] a76) => ?_)
      clear HA75 a75
      refine wl_is HA76 [1, 2] (v := .bool false) (want_n rfl) (dd_rn (dd_mv rfl (HA76.ev 0 rfl)) ⟨rfl, rfl⟩) rfl (fun a77 (HA77 : Env 80 [(26, .bool false), (4, .slice (some ⟨gt57, 0, none⟩) 46 ct57), (1, .pointer (some ⟨g1, 0, none⟩))] a77) => ?_)
      clear HA76 a76
      refine wl_is HA77 [0, 1, 2] (v := .pointer (some ⟨g1, 0, none⟩)) (want_g rfl (t := 26) rfl (HA77.get 0 rfl) rfl) (dd_rn (dd_field (off := 0) (j := 0) rfl (HA77.ev 2 rfl) (by kernel_rfl) rfl) ⟨rfl, rfl⟩) rfl (fun a78 (HA78 : Env 80 [(27, .pointer (some ⟨g1, 0, none⟩)), (26, .bool false), (4, .slice (some ⟨gt57, 0, none⟩) 46 ct57), (1, .pointer (some ⟨g1, 0, none⟩))] a78) => ?_)
      clear HA77 a77
      refine wl_is HA78 [1, 2, 3] (v := .int .i64 X.k) (want_g rfl (t := 26) rfl (HA78.get 1 rfl) rfl) (dd_rn (dd_get HS56j 0 0 rfl rfl (HA78.ev 0 rfl) rfl Tryd.underlying3 rfl) ⟨rfl, rfl⟩) rfl (fun a79 (HA79 : Env 80 [(28, .int .i64 X.k), (26, .bool false), (4, .slice (some ⟨gt57, 0, none⟩) 46 ct57), (1, .pointer (some ⟨g1, 0, none⟩))] a79) => ?_)
      clear HA78 a78
      refine wl_is HA79 [1, 2, 3] (v := .bool true) (want_g rfl (t := 26) rfl (HA79.get 1 rfl) rfl) (dd_rn (dd_cmp rfl (HA79.ev 0 rfl) rfl (eq_t hc69)) ⟨rfl, rfl⟩) rfl (fun a80 (HA80 : Env 80 [(29, .bool true), (26, .bool false), (4, .slice (some ⟨gt57, 0, none⟩) 46 ct57), (1, .pointer (some ⟨g1, 0, none⟩))] a80) => ?_)
      clear HA79 a79
      refine wl_is HA80 [1, 2, 3] (v := .bool true) (want_g rfl (t := 26) rfl (HA80.get 1 rfl) rfl) (dd_rn (dd_mv rfl (HA80.ev 0 rfl)) ⟨rfl, rfl⟩) rfl (fun a81 (HA81 : Env 80 [(30, .bool true), (26, .bool false), (4, .slice (some ⟨gt57, 0, none⟩) 46 ct57), (1, .pointer (some ⟨g1, 0, none⟩))] a81) => ?_)
      clear HA80 a80
      refine wl_is HA81 [0, 1, 2, 3] (v := .pointer (some ⟨g1, 40, none⟩)) (want_g rfl (t := 30) rfl (HA81.get 0 rfl) rfl) (dd_rn (dd_field (off := 40) (j := 40) rfl (HA81.ev 3 rfl) (by kernel_rfl) rfl) ⟨rfl, rfl⟩) rfl (fun a82 (HA82 : Env 80 [(31, .pointer (some ⟨g1, 40, none⟩)), (30, .bool true), (26, .bool false), (4, .slice (some ⟨gt57, 0, none⟩) 46 ct57), (1, .pointer (some ⟨g1, 0, none⟩))] a82) => ?_)
      clear HA81 a81
      refine wl_is HA82 [1, 2, 3, 4] (v := .agg (bs X.d)) (want_g rfl (t := 30) rfl (HA82.get 1 rfl) rfl) (dd_rn (dd_load HS56j 0 40 rfl rfl (HA82.ev 0 rfl) (ask_dat HOK) Tryd.underlying29 rfl (by rw [show (bs X.d).size = 32 from ((size_bs _).trans HOK.d)]; kernel_rfl)) ⟨rfl, rfl⟩) rfl (fun a83 (HA83 : Env 80 [(32, .agg (bs X.d)), (30, .bool true), (26, .bool false), (4, .slice (some ⟨gt57, 0, none⟩) 46 ct57), (1, .pointer (some ⟨g1, 0, none⟩))] a83) => ?_)
      clear HA82 a82
      refine wl_is HA83 [0, 1, 2, 3, 4] (v := .agg (bs (zer 32))) (want_g rfl (t := 30) rfl (HA83.get 1 rfl) rfl) (dd_rn (dd_bldk rfl (ps := []) (pr0) (cs := bs (zer 32)) (by kernel_rfl)) ⟨rfl, rfl⟩) rfl (fun a84 (HA84 : Env 80 [(33, .agg (bs (zer 32))), (32, .agg (bs X.d)), (30, .bool true), (26, .bool false), (4, .slice (some ⟨gt57, 0, none⟩) 46 ct57), (1, .pointer (some ⟨g1, 0, none⟩))] a84) => ?_)
      clear HA83 a83
      cases hb86 : decide (X.d = blk 0#8)
      case false =>
        refine wl_is HA84 [2, 3, 4, 5] (v := .bool true) (want_g rfl (t := 30) rfl (HA84.get 2 rfl) rfl) (dd_rn (dd_nea (b := false) rfl (HA84.ev 1 rfl) (HA84.ev 0 rfl) (by kernel_rfl) (fun w => by have h9 := eql_blk X.d (blk 0#8) HOK.d (length_blk _) w; rw [hb86] at h9; exact h9) rfl) ⟨rfl, rfl⟩) rfl (fun a87 (HA87 : Env 80 [(34, .bool true), (30, .bool true), (26, .bool false), (4, .slice (some ⟨gt57, 0, none⟩) 46 ct57), (1, .pointer (some ⟨g1, 0, none⟩))] a87) => ?_)
        clear HA84 a84
        refine wl_is HA87 [2, 3, 4] (v := .bool true) (want_g rfl (t := 26) rfl (HA87.get 2 rfl) rfl) (dd_rn (dd_pickT rfl (HA87.ev 1 rfl) (HA87.ev 0 rfl)) ⟨rfl, rfl⟩) rfl (fun a88 (HA88 : Env 80 [(35, .bool true), (26, .bool false), (4, .slice (some ⟨gt57, 0, none⟩) 46 ct57), (1, .pointer (some ⟨g1, 0, none⟩))] a88) => ?_)
        clear HA87 a87
        refine wl_is HA88 [2, 3] (v := .bool true) (want_n rfl) (dd_rn (dd_pickF rfl (HA88.ev 1 rfl) (HA88.ev 0 rfl)) ⟨rfl, rfl⟩) rfl (fun a89 (HA89 : Env 80 [(36, .bool true), (4, .slice (some ⟨gt57, 0, none⟩) 46 ct57), (1, .pointer (some ⟨g1, 0, none⟩))] a89) => ?_)
        clear HA88 a88
        refine wl_is HA89 [1, 2] (v := .bool true) (want_n rfl) (dd_rn (dd_mv rfl (HA89.ev 0 rfl)) ⟨rfl, rfl⟩) rfl (fun a90 (HA90 : Env 80 [(37, .bool true), (4, .slice (some ⟨gt57, 0, none⟩) 46 ct57), (1, .pointer (some ⟨g1, 0, none⟩))] a90) => ?_)
        clear HA89 a89
        refine wl_skip HA90 [0, 1, 2] (want_g rfl (t := 37) rfl (HA90.get 0 rfl) rfl) rfl (fun a91 (HA91 : Env 80 [(38, undef), (37, .bool true), (4, .slice (some ⟨gt57, 0, none⟩) 46 ct57), (1, .pointer (some ⟨g1, 0, none⟩))] a91) => ?_)
        clear HA90 a90
        refine wl_skip HA91 [1, 2, 3] (want_g rfl (t := 37) rfl (HA91.get 1 rfl) rfl) rfl (fun a92 (HA92 : Env 80 [(39, undef), (37, .bool true), (4, .slice (some ⟨gt57, 0, none⟩) 46 ct57), (1, .pointer (some ⟨g1, 0, none⟩))] a92) => ?_)
        clear HA91 a91
        refine wl_skip HA92 [1, 2, 3] (want_g rfl (t := 37) rfl (HA92.get 1 rfl) rfl) rfl (fun a93 (HA93 : Env 80 [(40, undef), (37, .bool true), (4, .slice (some ⟨gt57, 0, none⟩) 46 ct57), (1, .pointer (some ⟨g1, 0, none⟩))] a93) => ?_)
        clear HA92 a92
        refine wl_skip HA93 [1, 2, 3] (want_g rfl (t := 37) rfl (HA93.get 1 rfl) rfl) rfl (fun a94 (HA94 : Env 80 [(41, undef), (37, .bool true), (4, .slice (some ⟨gt57, 0, none⟩) 46 ct57), (1, .pointer (some ⟨g1, 0, none⟩))] a94) => ?_)
        clear HA93 a93
        refine wl_skip HA94 [1, 2, 3] (want_g rfl (t := 37) rfl (HA94.get 1 rfl) rfl) rfl (fun a95 (HA95 : Env 80 [(42, undef), (37, .bool true), (4, .slice (some ⟨gt57, 0, none⟩) 46 ct57), (1, .pointer (some ⟨g1, 0, none⟩))] a95) => ?_)
        clear HA94 a94
        refine wl_is HA95 [2, 3] (v := .bool true) (want_n rfl) (dd_rn (dd_pickT rfl (HA95.ev 1 rfl) rfl) ⟨rfl, rfl⟩) rfl (fun a96 (HA96 : Env 80 [(43, .bool true), (4, .slice (some ⟨gt57, 0, none⟩) 46 ct57), (1, .pointer (some ⟨g1, 0, none⟩))] a96) => ?_)
        clear HA95 a95
        refine wl_is HA96 [1, 2] (v := .bool true) (want_n rfl) (dd_rn (dd_mv rfl (HA96.ev 0 rfl)) ⟨rfl, rfl⟩) rfl (fun a97 (HA97 : Env 80 [(44, .bool true), (4, .slice (some ⟨gt57, 0, none⟩) 46 ct57), (1, .pointer (some ⟨g1, 0, none⟩))] a97) => ?_)
        clear HA96 a96
        refine wl_skip HA97 [0, 1, 2] (want_g rfl (t := 44) rfl (HA97.get 0 rfl) rfl) rfl (fun a98 (HA98 : Env 80 [(45, undef), (44, .bool true), (4, .slice (some ⟨gt57, 0, none⟩) 46 ct57), (1, .pointer (some ⟨g1, 0, none⟩))] a98) => ?_)
        clear HA97 a97
        refine wl_skip HA98 [1, 2, 3] (want_g rfl (t := 44) rfl (HA98.get 1 rfl) rfl) rfl (fun a99 (HA99 : Env 80 [(46, undef), (44, .bool true), (4, .slice (some ⟨gt57, 0, none⟩) 46 ct57), (1, .pointer (some ⟨g1, 0, none⟩))] a99) => ?_)
        clear HA98 a98
        refine wl_skip HA99 [1, 2, 3] (want_g rfl (t := 44) rfl (HA99.get 1 rfl) rfl) rfl (fun a100 (HA100 : Env 80 [(47, undef), (44, .bool true), (4, .slice (some ⟨gt57, 0, none⟩) 46 ct57), (1, .pointer (some ⟨g1, 0, none⟩))] a100) => ?_)
        clear HA99 a99
        refine wl_is HA100 [2, 3] (v := .bool true) (want_n rfl) (dd_rn (dd_pickT rfl (HA100.ev 1 rfl) rfl) ⟨rfl, rfl⟩) rfl (fun a101 (HA101 : Env 80 [(48, .bool true), (4, .slice (some ⟨gt57, 0, none⟩) 46 ct57), (1, .pointer (some ⟨g1, 0, none⟩))] a101) => ?_)
        clear HA100 a100
        refine wl_is HA101 [1, 2] (v := .bool true) (want_n rfl) (dd_rn (dd_mv rfl (HA101.ev 0 rfl)) ⟨rfl, rfl⟩) rfl (fun a102 (HA102 : Env 80 [(49, .bool true), (4, .slice (some ⟨gt57, 0, none⟩) 46 ct57), (1, .pointer (some ⟨g1, 0, none⟩))] a102) => ?_)
        clear HA101 a101
        refine wl_skip HA102 [0, 1, 2] (want_g rfl (t := 49) rfl (HA102.get 0 rfl) rfl) rfl (fun a103 (HA103 : Env 80 [(50, undef), (49, .bool true), (4, .slice (some ⟨gt57, 0, none⟩) 46 ct57), (1, .pointer (some ⟨g1, 0, none⟩))] a103) => ?_)
        clear HA102 a102
        refine wl_skip HA103 [1, 2, 3] (want_g rfl (t := 49) rfl (HA103.get 1 rfl) rfl) rfl (fun a104 (HA104 : Env 80 [(51, undef), (49, .bool true), (4, .slice (some ⟨gt57, 0, none⟩) 46 ct57), (1, .pointer (some ⟨g1, 0, none⟩))] a104) => ?_)
        clear HA103 a103
        refine wl_skip HA104 [1, 2, 3] (want_g rfl (t := 49) rfl (HA104.get 1 rfl) rfl) rfl (fun a105 (HA105 : Env 80 [(52, undef), (49, .bool true), (4, .slice (some ⟨gt57, 0, none⟩) 46 ct57), (1, .pointer (some ⟨g1, 0, none⟩))] a105) => ?_)
        clear HA104 a104
        refine wl_is HA105 [2, 3] (v := .bool true) (want_n rfl) (dd_rn (dd_pickT rfl (HA105.ev 1 rfl) rfl) ⟨rfl, rfl⟩) rfl (fun a106 (HA106 : Env 80 [(53, .bool true), (4, .slice (some ⟨gt57, 0, none⟩) 46 ct57), (1, .pointer (some ⟨g1, 0, none⟩))] a106) => ?_)
        clear HA105 a105
        refine wpList_nil ?_
        refine nx ?_
        refine wp_cond_true (HA106.ev 0 rfl) ?_
        refine wp_seq ?_
        refine wp_region_lit ?_
        refine wl_is HA106 [] (v := .slice none 0 0) (want_n rfl) (dd_rn (dd_as rfl rfl) ⟨rfl, rfl⟩) rfl (fun a107 (HA107 : Env 80 [(2, .slice none 0 0)] a107) => ?_)
        clear HA106 a106
        refine wl_is HA107 [0] (v := .int .i64 11) (want_n rfl) (dd_rn (dd_as rfl rfl) ⟨rfl, rfl⟩) rfl (fun a108 (HA108 : Env 80 [(3, .int .i64 11), (2, .slice none 0 0)] a108) => ?_)
        clear HA107 a107
        refine wpList_nil ?_
        refine nx ?_
        refine wp_ret ?_
        refine tr ?_
        refine ret_run HA108 (res_tt Tryd.results9 (HA108.get 1 rfl) (HA108.get 0 rfl)) ?_
        exact .inl ⟨mayA_no (fun h => by obtain ⟨h1, h2, h3, h4, h5⟩ := h; rcases h2 with h2 | h2; omega; exact of_decide_eq_false hb86 h2.2), rfl, HS56j.below⟩
      case true =>
        refine wl_is HA84 [2, 3, 4, 5] (v := .bool false) (want_g rfl (t := 30) rfl (HA84.get 2 rfl) rfl) (dd_rn (dd_nea (b := true) rfl (HA84.ev 1 rfl) (HA84.ev 0 rfl) (by kernel_rfl) (fun w => by have h9 := eql_blk X.d (blk 0#8) HOK.d (length_blk _) w; rw [hb86] at h9; exact h9) rfl) ⟨rfl, rfl⟩) rfl (fun a109 (HA109 : Env 80 [(34, .bool false), (30, .bool true), (26, .bool false), (4, .slice (some ⟨gt57, 0, none⟩) 46 ct57), (1, .pointer (some ⟨g1, 0, none⟩))] a109) => ?_)
        clear HA84 a84
        refine wl_is HA109 [2, 3, 4] (v := .bool false) (want_g rfl (t := 26) rfl (HA109.get 2 rfl) rfl) (dd_rn (dd_pickT rfl (HA109.ev 1 rfl) (HA109.ev 0 rfl)) ⟨rfl, rfl⟩) rfl (fun a110 (HA110 : Env 80 [(35, .bool false), (26, .bool false), (4, .slice (some ⟨gt57, 0, none⟩) 46 ct57), (1, .pointer (some ⟨g1, 0, none⟩))] a110) => ?_)
        clear HA109 a109
        refine wl_is HA110 [2, 3] (v := .bool false) (want_n rfl) (dd_rn (dd_pickF rfl (HA110.ev 1 rfl) (HA110.ev 0 rfl)) ⟨rfl, rfl⟩) rfl (fun a111 (HA111 : Env 80 [(36, .bool false), (4, .slice (some ⟨gt57, 0, none⟩) 46 ct57), (1, .pointer (some ⟨g1, 0, none⟩))] a111) => ?_)
        clear HA110 a110
        refine wl_is HA111 [1, 2] (v := .bool false) (want_n rfl) (dd_rn (dd_mv rfl (HA111.ev 0 rfl)) ⟨rfl, rfl⟩) rfl (fun a112 (HA112 : Env 80 [(37, .bool false), (4, .slice (some ⟨gt57, 0, none⟩) 46 ct57), (1, .pointer (some ⟨g1, 0, none⟩))] a112) => ?_)
        clear HA111 a111
        refine wl_is HA112 [0, 1, 2] (v := .pointer (some ⟨g1, 38, none⟩)) (want_g rfl (t := 37) rfl (HA112.get 0 rfl) rfl) (dd_rn (dd_field (off := 38) (j := 38) rfl (HA112.ev 2 rfl) (by kernel_rfl) rfl) ⟨rfl, rfl⟩) rfl (fun a113 (HA113 : Env 80 [(38, .pointer (some ⟨g1, 38, none⟩)), (37, .bool false), (4, .slice (some ⟨gt57, 0, none⟩) 46 ct57), (1, .pointer (some ⟨g1, 0, none⟩))] a113) => ?_)
        clear HA112 a112
        refine wl_is HA113 [1, 2, 3] (v := .string (strB X.v)) (want_g rfl (t := 37) rfl (HA113.get 1 rfl) rfl) (dd_rn (dd_get HS56j 0 38 rfl rfl (HA113.ev 0 rfl) (ask_38 HOK) Tryd.underlying9 rfl) ⟨rfl, rfl⟩) rfl (fun a114 (HA114 : Env 80 [(39, .string (strB X.v)), (37, .bool false), (4, .slice (some ⟨gt57, 0, none⟩) 46 ct57), (1, .pointer (some ⟨g1, 0, none⟩))] a114) => ?_)
        clear HA113 a113
        refine wl_does HA114 [1, 2, 3] (R := fun v w9 => ∃ g40, v = .slice (some ⟨g40, 0, none⟩) 1 1 ∧ St w noF [⟨g1, 31, askC X⟩, ⟨gt57, 5, cbt57⟩, ⟨g40, 9, #[.string (strB X.v)]⟩] w9) (want_g rfl (t := 37) rfl (HA114.get 1 rfl) rfl) (dd_lits HS56j #[.string (strB X.v)] rfl (ps := [(0, .string (strB X.v))]) (pr1 (HA114.ev 0 rfl) (pr0)) (z := .string (⟨#[]⟩)) (sz := 1) Tryd.underlying58 (by kernel_rfl) rfl rfl (by kernel_rfl) (fun g9 w9 h9 => ⟨g9, rfl, h9⟩)) rfl ?_
        rintro _ W115 ⟨g40, rfl, HS115⟩ a115 (HA115 : Env 80 [(40, .slice (some ⟨g40, 0, none⟩) 1 1), (37, .bool false), (4, .slice (some ⟨gt57, 0, none⟩) 46 ct57), (1, .pointer (some ⟨g1, 0, none⟩))] a115)
        clear HA114 a114 HS56j
        cases hb117 : goodN X.v
        case false =>
          refine wl_is HA115 [1, 2, 3] (v := .bool false) (want_g rfl (t := 37) rfl (HA115.get 1 rfl) rfl) (dd_call Tryd.func20 (by kernel_rfl) (by kernel_rfl) rfl (args1 (HA115.ev 0 rfl)) (refgoodn_any [X.v] _ W115 (strs_row (HS115.row 2 rfl) HOK.v) (by unfold maxLen; simp)) (fun _ w9 h9 => ⟨_, h9.1, by rw [goodNs_one, hb117], h9.2.symm⟩)) rfl (fun a118 (HA118 : Env 80 [(41, .bool false), (37, .bool false), (4, .slice (some ⟨gt57, 0, none⟩) 46 ct57), (1, .pointer (some ⟨g1, 0, none⟩))] a118) => ?_)
          clear HA115 a115
          refine wl_is HA118 [1, 2, 3] (v := .bool true) (want_g rfl (t := 37) rfl (HA118.get 1 rfl) rfl) (dd_rn (dd_nt rfl (HA118.ev 0 rfl) rfl) ⟨rfl, rfl⟩) rfl (fun a119 (HA119 : Env 80 [(42, .bool true), (37, .bool false), (4, .slice (some ⟨gt57, 0, none⟩) 46 ct57), (1, .pointer (some ⟨g1, 0, none⟩))] a119) => ?_)
          clear HA118 a118
          refine wl_is HA119 [2, 3] (v := .bool true) (want_n rfl) (dd_rn (dd_pickF rfl (HA119.ev 1 rfl) (HA119.ev 0 rfl)) ⟨rfl, rfl⟩) rfl (fun a120 (HA120 : Env 80 [(43, .bool true), (4, .slice (some ⟨gt57, 0, none⟩) 46 ct57), (1, .pointer (some ⟨g1, 0, none⟩))] a120) => ?_)
          clear HA119 a119
          refine wl_is HA120 [1, 2] (v := .bool true) (want_n rfl) (dd_rn (dd_mv rfl (HA120.ev 0 rfl)) ⟨rfl, rfl⟩) rfl (fun a121 (HA121 : Env 80 [(44, .bool true), (4, .slice (some ⟨gt57, 0, none⟩) 46 ct57), (1, .pointer (some ⟨g1, 0, none⟩))] a121) => ?_)
          clear HA120 a120
          refine wl_skip HA121 [0, 1, 2] (want_g rfl (t := 44) rfl (HA121.get 0 rfl) rfl) rfl (fun a122 (HA122 : Env 80 [(45, undef), (44, .bool true), (4, .slice (some ⟨gt57, 0, none⟩) 46 ct57), (1, .pointer (some ⟨g1, 0, none⟩))] a122) => ?_)
          clear HA121 a121
          refine wl_skip HA122 [1, 2, 3] (want_g rfl (t := 44) rfl (HA122.get 1 rfl) rfl) rfl (fun a123 (HA123 : Env 80 [(46, undef), (44, .bool true), (4, .slice (some ⟨gt57, 0, none⟩) 46 ct57), (1, .pointer (some ⟨g1, 0, none⟩))] a123) => ?_)
          clear HA122 a122
          refine wl_skip HA123 [1, 2, 3] (want_g rfl (t := 44) rfl (HA123.get 1 rfl) rfl) rfl (fun a124 (HA124 : Env 80 [(47, undef), (44, .bool true), (4, .slice (some ⟨gt57, 0, none⟩) 46 ct57), (1, .pointer (some ⟨g1, 0, none⟩))] a124) => ?_)
          clear HA123 a123
          refine wl_is HA124 [2, 3] (v := .bool true) (want_n rfl) (dd_rn (dd_pickT rfl (HA124.ev 1 rfl) rfl) ⟨rfl, rfl⟩) rfl (fun a125 (HA125 : Env 80 [(48, .bool true), (4, .slice (some ⟨gt57, 0, none⟩) 46 ct57), (1, .pointer (some ⟨g1, 0, none⟩))] a125) => ?_)
          clear HA124 a124
          refine wl_is HA125 [1, 2] (v := .bool true) (want_n rfl) (dd_rn (dd_mv rfl (HA125.ev 0 rfl)) ⟨rfl, rfl⟩) rfl (fun a126 (HA126 : Env 80 [(49, .bool true), (4, .slice (some ⟨gt57, 0, none⟩) 46 ct57), (1, .pointer (some ⟨g1, 0, none⟩))] a126) => ?_)
          clear HA125 a125
          refine wl_skip HA126 [0, 1, 2] (want_g rfl (t := 49) rfl (HA126.get 0 rfl) rfl) rfl (fun a127 (HA127 : Env 80 [(50, undef), (49, .bool true), (4, .slice (some ⟨gt57, 0, none⟩) 46 ct57), (1, .pointer (some ⟨g1, 0, none⟩))] a127) => ?_)
          clear HA126 a126
          refine wl_skip HA127 [1, 2, 3] (want_g rfl (t := 49) rfl (HA127.get 1 rfl) rfl) rfl (fun a128 (HA128 : Env 80 [(51, undef), (49, .bool true), (4, .slice (some ⟨gt57, 0, none⟩) 46 ct57), (1, .pointer (some ⟨g1, 0, none⟩))] a128) => ?_)
          clear HA127 a127
          refine wl_skip HA128 [1, 2, 3] (want_g rfl (t := 49) rfl (HA128.get 1 rfl) rfl) rfl (fun a129 (HA129 : Env 80 [(52, undef), (49, .bool true), (4, .slice (some ⟨gt57, 0, none⟩) 46 ct57), (1, .pointer (some ⟨g1, 0, none⟩))] a129) => ?_)
          clear HA128 a128
          refine wl_is HA129 [2, 3] (v := .bool true) (want_n rfl) (dd_rn (dd_pickT rfl (HA129.ev 1 rfl) rfl) ⟨rfl, rfl⟩) rfl (fun a130 (HA130 : Env 80 [(53, .bool true), (4, .slice (some ⟨gt57, 0, none⟩) 46 ct57), (1, .pointer (some ⟨g1, 0, none⟩))] a130) => ?_)
          clear HA129 a129
          refine wpList_nil ?_
          refine nx ?_
          refine wp_cond_true (HA130.ev 0 rfl) ?_
          refine wp_seq ?_
          refine wp_region_lit ?_
          refine wl_is HA130 [] (v := .slice none 0 0) (want_n rfl) (dd_rn (dd_as rfl rfl) ⟨rfl, rfl⟩) rfl (fun a131 (HA131 : Env 80 [(2, .slice none 0 0)] a131) => ?_)
          clear HA130 a130
          refine wl_is HA131 [0] (v := .int .i64 11) (want_n rfl) (dd_rn (dd_as rfl rfl) ⟨rfl, rfl⟩) rfl (fun a132 (HA132 : Env 80 [(3, .int .i64 11), (2, .slice none 0 0)] a132) => ?_)
          clear HA131 a131
          refine wpList_nil ?_
          refine nx ?_
          refine wp_ret ?_
          refine tr ?_
          refine ret_run HA132 (res_tt Tryd.results9 (HA132.get 1 rfl) (HA132.get 0 rfl)) ?_
          exact .inl ⟨mayA_no (fun h => by obtain ⟨h1, h2, h3, h4, h5⟩ := h; rw [hb117] at h3; cases h3), rfl, HS115.below⟩
        case true =>
          refine wl_is HA115 [1, 2, 3] (v := .bool true) (want_g rfl (t := 37) rfl (HA115.get 1 rfl) rfl) (dd_call Tryd.func20 (by kernel_rfl) (by kernel_rfl) rfl (args1 (HA115.ev 0 rfl)) (refgoodn_any [X.v] _ W115 (strs_row (HS115.row 2 rfl) HOK.v) (by unfold maxLen; simp)) (fun _ w9 h9 => ⟨_, h9.1, by rw [goodNs_one, hb117], h9.2.symm⟩)) rfl (fun a133 (HA133 : Env 80 [(41, .bool true), (37, .bool false), (4, .slice (some ⟨gt57, 0, none⟩) 46 ct57), (1, .pointer (some ⟨g1, 0, none⟩))] a133) => ?_)
          clear HA115 a115
          refine wl_is HA133 [1, 2, 3] (v := .bool false) (want_g rfl (t := 37) rfl (HA133.get 1 rfl) rfl) (dd_rn (dd_nt rfl (HA133.ev 0 rfl) rfl) ⟨rfl, rfl⟩) rfl (fun a134 (HA134 : Env 80 [(42, .bool false), (37, .bool false), (4, .slice (some ⟨gt57, 0, none⟩) 46 ct57), (1, .pointer (some ⟨g1, 0, none⟩))] a134) => ?_)
          clear HA133 a133
          refine wl_is HA134 [2, 3] (v := .bool false) (want_n rfl) (dd_rn (dd_pickF rfl (HA134.ev 1 rfl) (HA134.ev 0 rfl)) ⟨rfl, rfl⟩) rfl (fun a135 (HA135 : Env 80 [(43, .bool false), (4, .slice (some ⟨gt57, 0, none⟩) 46 ct57), (1, .pointer (some ⟨g1, 0, none⟩))] a135) => ?_)
          clear HA134 a134
          refine wl_is HA135 [1, 2] (v := .bool false) (want_n rfl) (dd_rn (dd_mv rfl (HA135.ev 0 rfl)) ⟨rfl, rfl⟩) rfl (fun a136 (HA136 : Env 80 [(44, .bool false), (4, .slice (some ⟨gt57, 0, none⟩) 46 ct57), (1, .pointer (some ⟨g1, 0, none⟩))] a136) => ?_)
          clear HA135 a135
          refine wl_is HA136 [0, 1, 2] (v := .pointer (some ⟨g1, 39, none⟩)) (want_g rfl (t := 44) rfl (HA136.get 0 rfl) rfl) (dd_rn (dd_field (off := 39) (j := 39) rfl (HA136.ev 2 rfl) (by kernel_rfl) rfl) ⟨rfl, rfl⟩) rfl (fun a137 (HA137 : Env 80 [(45, .pointer (some ⟨g1, 39, none⟩)), (44, .bool false), (4, .slice (some ⟨gt57, 0, none⟩) 46 ct57), (1, .pointer (some ⟨g1, 0, none⟩))] a137) => ?_)
          clear HA136 a136
          refine wl_is HA137 [1, 2, 3] (v := .int .i64 X.z) (want_g rfl (t := 44) rfl (HA137.get 1 rfl) rfl) (dd_rn (dd_get HS115 0 39 rfl rfl (HA137.ev 0 rfl) (ask_39 HOK) Tryd.underlying3 rfl) ⟨rfl, rfl⟩) rfl (fun a138 (HA138 : Env 80 [(46, .int .i64 X.z), (44, .bool false), (4, .slice (some ⟨gt57, 0, none⟩) 46 ct57), (1, .pointer (some ⟨g1, 0, none⟩))] a138) => ?_)
          clear HA137 a137
          by_cases hc140 : (X.z : Int) < 0
          · skip
            refine wl_is HA138 [1, 2, 3] (v := .bool true) (want_g rfl (t := 44) rfl (HA138.get 1 rfl) rfl) (dd_rn (dd_cmp rfl (HA138.ev 0 rfl) rfl (lt_t hc140)) ⟨rfl, rfl⟩) rfl (fun a141 (HA141 : Env 80 [(47, .bool true), (44, .bool false), (4, .slice (some ⟨gt57, 0, none⟩) 46 ct57), (1, .pointer (some ⟨g1, 0, none⟩))] a141) => ?_)
            clear HA138 a138
            refine wl_is HA141 [2, 3] (v := .bool true) (want_n rfl) (dd_rn (dd_pickF rfl (HA141.ev 1 rfl) (HA141.ev 0 rfl)) ⟨rfl, rfl⟩) rfl (fun a142 (HA142 : Env 80 [(48, .bool true), (4, .slice (some ⟨gt57, 0, none⟩) 46 ct57), (1, .pointer (some ⟨g1, 0, none⟩))] a142) => ?_)
            clear HA141 a141
            refine wl_is HA142 [1, 2] (v := .bool true) (want_n rfl) (dd_rn (dd_mv rfl (HA142.ev 0 rfl)) ⟨rfl, rfl⟩) rfl (fun a143 (HA143 : Env 80 [(49, .bool true), (4, .slice (some ⟨gt57, 0, none⟩) 46 ct57), (1, .pointer (some ⟨g1, 0, none⟩))] a143) => ?_)
            clear HA142 a142
            refine wl_skip HA143 [0, 1, 2] (want_g rfl (t := 49) rfl (HA143.get 0 rfl) rfl) rfl (fun a144 (HA144 : Env 80 [(50, undef), (49, .bool true), (4, .slice (some ⟨gt57, 0, none⟩) 46 ct57), (1, .pointer (some ⟨g1, 0, none⟩))] a144) => ?_)
            clear HA143 a143
            refine wl_skip HA144 [1, 2, 3] (want_g rfl (t := 49) rfl (HA144.get 1 rfl) rfl) rfl (fun a145 (HA145 : Env 80 [(51, undef), (49, .bool true), (4, .slice (some ⟨gt57, 0, none⟩) 46 ct57), (1, .pointer (some ⟨g1, 0, none⟩))] a145) => ?_)
            clear HA144 a144
            refine wl_skip HA145 [1, 2, 3] (want_g rfl (t := 49) rfl (HA145.get 1 rfl) rfl) rfl (fun a146 (HA146 : Env 80 [(52, undef), (49, .bool true), (4, .slice (some ⟨gt57, 0, none⟩) 46 ct57), (1, .pointer (some ⟨g1, 0, none⟩))] a146) => ?_)
            clear HA145 a145
            refine wl_is HA146 [2, 3] (v := .bool true) (want_n rfl) (dd_rn (dd_pickT rfl (HA146.ev 1 rfl) rfl) ⟨rfl, rfl⟩) rfl (fun a147 (HA147 : Env 80 [(53, .bool true), (4, .slice (some ⟨gt57, 0, none⟩) 46 ct57), (1, .pointer (some ⟨g1, 0, none⟩))] a147) => ?_)
            clear HA146 a146
            refine wpList_nil ?_
            refine nx ?_
            refine wp_cond_true (HA147.ev 0 rfl) ?_
            refine wp_seq ?_
            refine wp_region_lit ?_
            refine wl_is HA147 [] (v := .slice none 0 0) (want_n rfl) (dd_rn (dd_as rfl rfl) ⟨rfl, rfl⟩) rfl (fun a148 (HA148 : Env 80 [(2, .slice none 0 0)] a148) => ?_)
            clear HA147 a147
            refine wl_is HA148 [0] (v := .int .i64 11) (want_n rfl) (dd_rn (dd_as rfl rfl) ⟨rfl, rfl⟩) rfl (fun a149 (HA149 : Env 80 [(3, .int .i64 11), (2, .slice none 0 0)] a149) => ?_)
            clear HA148 a148
            refine wpList_nil ?_
            refine nx ?_
            refine wp_ret ?_
            refine tr ?_
            refine ret_run HA149 (res_tt Tryd.results9 (HA149.get 1 rfl) (HA149.get 0 rfl)) ?_
            exact .inl ⟨mayA_no (fun h => by obtain ⟨h1, h2, h3, h4, h5⟩ := h; omega), rfl, HS115.below⟩
          · skip
            refine wl_is HA138 [1, 2, 3] (v := .bool false) (want_g rfl (t := 44) rfl (HA138.get 1 rfl) rfl) (dd_rn (dd_cmp rfl (HA138.ev 0 rfl) rfl (lt_f hc140)) ⟨rfl, rfl⟩) rfl (fun a150 (HA150 : Env 80 [(47, .bool false), (44, .bool false), (4, .slice (some ⟨gt57, 0, none⟩) 46 ct57), (1, .pointer (some ⟨g1, 0, none⟩))] a150) => ?_)
            clear HA138 a138
            refine wl_is HA150 [2, 3] (v := .bool false) (want_n rfl) (dd_rn (dd_pickF rfl (HA150.ev 1 rfl) (HA150.ev 0 rfl)) ⟨rfl, rfl⟩) rfl (fun a151 (HA151 : Env 80 [(48, .bool false), (4, .slice (some ⟨gt57, 0, none⟩) 46 ct57), (1, .pointer (some ⟨g1, 0, none⟩))] a151) => ?_)
            clear HA150 a150
            refine wl_is HA151 [1, 2] (v := .bool false) (want_n rfl) (dd_rn (dd_mv rfl (HA151.ev 0 rfl)) ⟨rfl, rfl⟩) rfl (fun a152 (HA152 : Env 80 [(49, .bool false), (4, .slice (some ⟨gt57, 0, none⟩) 46 ct57), (1, .pointer (some ⟨g1, 0, none⟩))] a152) => ?_)
            clear HA151 a151
            refine wl_is HA152 [0, 1, 2] (v := .pointer (some ⟨g1, 39, none⟩)) (want_g rfl (t := 49) rfl (HA152.get 0 rfl) rfl) (dd_rn (dd_field (off := 39) (j := 39) rfl (HA152.ev 2 rfl) (by kernel_rfl) rfl) ⟨rfl, rfl⟩) rfl (fun a153 (HA153 : Env 80 [(50, .pointer (some ⟨g1, 39, none⟩)), (49, .bool false), (4, .slice (some ⟨gt57, 0, none⟩) 46 ct57), (1, .pointer (some ⟨g1, 0, none⟩))] a153) => ?_)
            clear HA152 a152
            refine wl_is HA153 [1, 2, 3] (v := .int .i64 X.z) (want_g rfl (t := 49) rfl (HA153.get 1 rfl) rfl) (dd_rn (dd_get HS115 0 39 rfl rfl (HA153.ev 0 rfl) (ask_39 HOK) Tryd.underlying3 rfl) ⟨rfl, rfl⟩) rfl (fun a154 (HA154 : Env 80 [(51, .int .i64 X.z), (49, .bool false), (4, .slice (some ⟨gt57, 0, none⟩) 46 ct57), (1, .pointer (some ⟨g1, 0, none⟩))] a154) => ?_)
            clear HA153 a153
            by_cases hc156 : (255 : Int) < X.z
            · skip
              refine wl_is HA154 [1, 2, 3] (v := .bool true) (want_g rfl (t := 49) rfl (HA154.get 1 rfl) rfl) (dd_rn (dd_cmp rfl (HA154.ev 0 rfl) rfl (gt_t hc156)) ⟨rfl, rfl⟩) rfl (fun a157 (HA157 : Env 80 [(52, .bool true), (49, .bool false), (4, .slice (some ⟨gt57, 0, none⟩) 46 ct57), (1, .pointer (some ⟨g1, 0, none⟩))] a157) => ?_)
              clear HA154 a154
              refine wl_is HA157 [2, 3] (v := .bool true) (want_n rfl) (dd_rn (dd_pickF rfl (HA157.ev 1 rfl) (HA157.ev 0 rfl)) ⟨rfl, rfl⟩) rfl (fun a158 (HA158 : Env 80 [(53, .bool true), (4, .slice (some ⟨gt57, 0, none⟩) 46 ct57), (1, .pointer (some ⟨g1, 0, none⟩))] a158) => ?_)
              clear HA157 a157
              refine wpList_nil ?_
              refine nx ?_
              refine wp_cond_true (HA158.ev 0 rfl) ?_
              refine wp_seq ?_
              refine wp_region_lit ?_
              refine wl_is HA158 [] (v := .slice none 0 0) (want_n rfl) (dd_rn (dd_as rfl rfl) ⟨rfl, rfl⟩) rfl (fun a159 (HA159 : Env 80 [(2, .slice none 0 0)] a159) => ?_)
              clear HA158 a158
              refine wl_is HA159 [0] (v := .int .i64 11) (want_n rfl) (dd_rn (dd_as rfl rfl) ⟨rfl, rfl⟩) rfl (fun a160 (HA160 : Env 80 [(3, .int .i64 11), (2, .slice none 0 0)] a160) => ?_)
              clear HA159 a159
              refine wpList_nil ?_
              refine nx ?_
              refine wp_ret ?_
              refine tr ?_
              refine ret_run HA160 (res_tt Tryd.results9 (HA160.get 1 rfl) (HA160.get 0 rfl)) ?_
              exact .inl ⟨mayA_no (fun h => by obtain ⟨h1, h2, h3, h4, h5⟩ := h; omega), rfl, HS115.below⟩
            · skip
              refine wl_is HA154 [1, 2, 3] (v := .bool false) (want_g rfl (t := 49) rfl (HA154.get 1 rfl) rfl) (dd_rn (dd_cmp rfl (HA154.ev 0 rfl) rfl (gt_f hc156)) ⟨rfl, rfl⟩) rfl (fun a161 (HA161 : Env 80 [(52, .bool false), (49, .bool false), (4, .slice (some ⟨gt57, 0, none⟩) 46 ct57), (1, .pointer (some ⟨g1, 0, none⟩))] a161) => ?_)
              clear HA154 a154
              refine wl_is HA161 [2, 3] (v := .bool false) (want_n rfl) (dd_rn (dd_pickF rfl (HA161.ev 1 rfl) (HA161.ev 0 rfl)) ⟨rfl, rfl⟩) rfl (fun a162 (HA162 : Env 80 [(53, .bool false), (4, .slice (some ⟨gt57, 0, none⟩) 46 ct57), (1, .pointer (some ⟨g1, 0, none⟩))] a162) => ?_)
              clear HA161 a161
              refine wpList_nil ?_
              refine nx ?_
              refine wp_cond_false (HA162.ev 0 rfl) ?_
              refine wp_skip ?_
              refine nx ?_
              refine wp_seq ?_
              refine wp_region_lit ?_
              refine wl_is HA162 [1, 2] (v := .pointer (some ⟨g1, 38, none⟩)) (want_n rfl) (dd_rn (dd_field (off := 38) (j := 38) rfl (HA162.ev 2 rfl) (by kernel_rfl) rfl) ⟨rfl, rfl⟩) rfl (fun a163 (HA163 : Env 80 [(54, .pointer (some ⟨g1, 38, none⟩)), (4, .slice (some ⟨gt57, 0, none⟩) 46 ct57), (1, .pointer (some ⟨g1, 0, none⟩))] a163) => ?_)
              clear HA162 a162
              refine wl_is HA163 [1, 2] (v := .string (strB X.v)) (want_n rfl) (dd_rn (dd_get HS115 0 38 rfl rfl (HA163.ev 0 rfl) (ask_38 HOK) Tryd.underlying9 rfl) ⟨rfl, rfl⟩) rfl (fun a164 (HA164 : Env 80 [(55, .string (strB X.v)), (4, .slice (some ⟨gt57, 0, none⟩) 46 ct57), (1, .pointer (some ⟨g1, 0, none⟩))] a164) => ?_)
              clear HA163 a163
              refine wl_does HA164 [1, 2] (R := fun v w9 => v = .agg (bs (padN X.v)) ∧ Below W115.heap.size W115 w9) (want_n rfl) (dd_call Tryd.func21 (by kernel_rfl) (by kernel_rfl) rfl (args1 (HA164.ev 0 rfl)) (refpad_any X.v W115 HOK.v) (fun _ w9 h9 => ⟨_, h9.1, rfl, h9.2⟩)) rfl ?_
              rintro _ W165 ⟨rfl, hb165⟩ a165 (HA165 : Env 80 [(56, .agg (bs (padN X.v))), (4, .slice (some ⟨gt57, 0, none⟩) 46 ct57), (1, .pointer (some ⟨g1, 0, none⟩))] a165)
              have HS165 := HS115.same hb165
              clear HA164 a164
              clear HS115 hb165
              refine wl_does HA165 [0, 1, 2] (R := fun v w9 => ∃ g6, v = .pointer (some ⟨g6, 0, none⟩) ∧ St w noF [⟨g1, 31, askC X⟩, ⟨gt57, 5, cbt57⟩, ⟨g40, 9, #[.string (strB X.v)]⟩, ⟨g6, 50, bs (zer 4)⟩] w9) (want_n rfl) (dd_new HS165 (bs (zer 4)) rfl (z := .agg (bs (zer 4))) (by kernel_rfl) rfl (fun g9 w9 h9 => ⟨g9, rfl, h9⟩)) rfl ?_
              rintro _ W166 ⟨g6, rfl, HS166⟩ a166 (HA166 : Env 80 [(6, .pointer (some ⟨g6, 0, none⟩)), (56, .agg (bs (padN X.v))), (4, .slice (some ⟨gt57, 0, none⟩) 46 ct57), (1, .pointer (some ⟨g1, 0, none⟩))] a166)
              clear HA165 a165 HS165
              refine wl_does HA166 [0, 2, 3] (R := fun v9 w9 => St w noF [⟨g1, 31, askC X⟩, ⟨gt57, 5, cbt57⟩, ⟨g40, 9, #[.string (strB X.v)]⟩, ⟨g6, 50, bs (padN X.v)⟩] w9) (want_n rfl) (dd_setrow HS166 3 rfl rfl (HA166.ev 0 rfl) (HA166.ev 1 rfl) (by kernel_rfl) (((size_bs _).trans (length_padN _)) : (bs (padN X.v)).size = 4) (((size_bs _).trans (length_zer 4)) : (bs (zer 4)).size = 4) (one_bs _) (fun w9 h9 => h9)) rfl ?_
              rintro _ W167 HS167 a167 (HA167 : Env 80 [(6, .pointer (some ⟨g6, 0, none⟩)), (4, .slice (some ⟨gt57, 0, none⟩) 46 ct57), (1, .pointer (some ⟨g1, 0, none⟩))] a167)
              clear HA166 a166 HS166
              refine wpList_nil ?_
              refine nx ?_
              refine wp_seq ?_
              refine wp_region_lit ?_
              refine wl_is HA167 [0, 1, 2] (v := .pointer (some ⟨g1, 0, none⟩)) (want_n rfl) (dd_rn (dd_field (off := 0) (j := 0) rfl (HA167.ev 2 rfl) (by kernel_rfl) rfl) ⟨rfl, rfl⟩) rfl (fun a168 (HA168 : Env 80 [(57, .pointer (some ⟨g1, 0, none⟩)), (6, .pointer (some ⟨g6, 0, none⟩)), (4, .slice (some ⟨gt57, 0, none⟩) 46 ct57), (1, .pointer (some ⟨g1, 0, none⟩))] a168) => ?_)
              clear HA167 a167
              refine wl_is HA168 [1, 2, 3] (v := .int .i64 X.k) (want_n rfl) (dd_rn (dd_get HS167 0 0 rfl rfl (HA168.ev 0 rfl) rfl Tryd.underlying3 rfl) ⟨rfl, rfl⟩) rfl (fun a169 (HA169 : Env 80 [(58, .int .i64 X.k), (6, .pointer (some ⟨g6, 0, none⟩)), (4, .slice (some ⟨gt57, 0, none⟩) 46 ct57), (1, .pointer (some ⟨g1, 0, none⟩))] a169) => ?_)
              clear HA168 a168
              refine wl_is HA169 [1, 2, 3] (v := .int .u8 (bd (byteI X.k))) (want_n rfl) (dd_rn (dd_conv (k := .u8) rfl (HA169.ev 0 rfl) Tryd.underlying3 (by kernel_rfl) (wrap_u8_bd _)) ⟨rfl, rfl⟩) rfl (fun a170 (HA170 : Env 80 [(59, .int .u8 (bd (byteI X.k))), (6, .pointer (some ⟨g6, 0, none⟩)), (4, .slice (some ⟨gt57, 0, none⟩) 46 ct57), (1, .pointer (some ⟨g1, 0, none⟩))] a170) => ?_)
              clear HA169 a169
              refine wl_does HA170 [1, 2, 3] (R := fun v w9 => ∃ g60, v = .slice (some ⟨g60, 0, none⟩) 1 1 ∧ St w noF [⟨g1, 31, askC X⟩, ⟨gt57, 5, cbt57⟩, ⟨g40, 9, #[.string (strB X.v)]⟩, ⟨g6, 50, bs (padN X.v)⟩, ⟨g60, 5, #[.int .u8 (bd (byteI X.k))]⟩] w9) (want_n rfl) (dd_lits HS167 #[.int .u8 (bd (byteI X.k))] rfl (ps := [(0, .int .u8 (bd (byteI X.k)))]) (pr1 (HA170.ev 0 rfl) (pr0)) (z := .int .u8 0) (sz := 1) Tryd.underlying32 (by kernel_rfl) rfl rfl (by kernel_rfl) (fun g9 w9 h9 => ⟨g9, rfl, h9⟩)) rfl ?_
              rintro _ W171 ⟨g60, rfl, HS171⟩ a171 (HA171 : Env 80 [(60, .slice (some ⟨g60, 0, none⟩) 1 1), (6, .pointer (some ⟨g6, 0, none⟩)), (4, .slice (some ⟨gt57, 0, none⟩) 46 ct57), (1, .pointer (some ⟨g1, 0, none⟩))] a171)
              clear HA170 a170 HS167
              refine wl_is HA171 [0, 1, 3] (v := .slice (some ⟨gt57, 0, none⟩) 46 ct57) (want_n rfl) (dd_rn (dd_mv rfl (HA171.ev 2 rfl)) ⟨rfl, rfl⟩) rfl (fun a172 (HA172 : Env 80 [(61, .slice (some ⟨gt57, 0, none⟩) 46 ct57), (60, .slice (some ⟨g60, 0, none⟩) 1 1), (6, .pointer (some ⟨g6, 0, none⟩)), (1, .pointer (some ⟨g1, 0, none⟩))] a172) => ?_)
              clear HA171 a171
              refine wl_does HA172 [2, 3] (R := fun v w9 => ∃ g62_174 c62_174 cb62_174, v = .slice (some ⟨g62_174, 0, none⟩) 47 c62_174 ∧ OwnC cb62_174 c62_174 47 1 (bytesV (([(byteI X.k)]) ++ (clmB X.c ++ X.t))) ∧ St w noF [⟨g1, 31, askC X⟩, ⟨gt57, 5, cbt57⟩, ⟨g40, 9, #[.string (strB X.v)]⟩, ⟨g6, 50, bs (padN X.v)⟩, ⟨g62_174, 5, cb62_174⟩] w9) (want_n rfl) (dd_appB HS171 4 rfl (⟨Nat.le_refl _, by decide, rfl, rfl, rfl⟩ : OwnC #[.int .u8 (bd (byteI X.k))] 1 1 1 (bytesV [(byteI X.k)])) rfl (HA172.ev 1 rfl) (HA172.ev 0 rfl) (slice_own (HS171.row 1 rfl) Ot57 HCT) (fun h9 => by cases h9) rfl rfl (by unfold maxLen; omega) (by omega) (fun g9 c9 cb9 w9 o9 h9 => ⟨g9, c9, cb9, rfl, o9, h9⟩)) rfl ?_
              rintro _ W173 ⟨g62_174, c62_174, cb62_174, rfl, O62_174, HS173⟩ a173 (HA173 : Env 80 [(62, .slice (some ⟨g62_174, 0, none⟩) 47 c62_174), (6, .pointer (some ⟨g6, 0, none⟩)), (1, .pointer (some ⟨g1, 0, none⟩))] a173)
              clear HA172 a172 HS171
              refine wl_is HA173 [1, 2] (v := .slice (some ⟨g62_174, 0, none⟩) 47 c62_174) (want_n rfl) (dd_rn (dd_as rfl (HA173.ev 0 rfl)) ⟨rfl, rfl⟩) rfl (fun a175 (HA175 : Env 80 [(7, .slice (some ⟨g62_174, 0, none⟩) 47 c62_174), (6, .pointer (some ⟨g6, 0, none⟩)), (1, .pointer (some ⟨g1, 0, none⟩))] a175) => ?_)
              clear HA173 a173
              refine wpList_nil ?_
              refine nx ?_
              refine wp_seq ?_
              refine wp_cut (fun a9 w9 => ∃ g70_186 : Nat, ∃ c70_186 : Nat, ∃ g69 : Nat, ∃ cb70_186 : Array Value, OwnC cb70_186 c70_186 52 1 (bytesV (((([(byteI X.k)]) ++ (clmB X.c ++ X.t)) ++ (padN X.v)) ++ ([(byteI X.z)]))) ∧ Env 80 [(7, .slice (some ⟨g70_186, 0, none⟩) 52 c70_186), (1, .pointer (some ⟨g1, 0, none⟩))] a9 ∧ St w noF [⟨g1, 31, askC X⟩, ⟨gt57, 5, cbt57⟩, ⟨g40, 9, #[.string (strB X.v)]⟩, ⟨g6, 50, bs (padN X.v)⟩, ⟨g69, 5, #[.int .u8 (bd (byteI X.z))]⟩, ⟨g70_186, 5, cb70_186⟩] w9) ?_ ?_
              · skip
                refine wp_held (fun W => ∃ R9, St w noF (⟨g1, 31, askC X⟩ :: ⟨g40, 9, #[.string (strB X.v)]⟩ :: ⟨g6, 50, bs (padN X.v)⟩ :: R9) W) (by kernel_rfl) rfl ?_
                have HSh176 := HS173.drew
                clear HS173
                refine ha_take HA175 [0, 1, 2] (i := 0) (.slice (some ⟨g62_174, 0, none⟩) 47 c62_174) rfl (by kernel_rfl) (by kernel_rfl) (by kernel_rfl) (pq_then (pq_then pq_body)) (want_n rfl) (fun w9 ⟨R9, HS9⟩ => dd_mv rfl (HA175.ev 0 rfl)) ⟨_, st_sel HSh176 [0, 2, 3, 1, 4] (by decide)⟩ rfl (fun a177 (HA177 : Env 80 [(63, .slice (some ⟨g62_174, 0, none⟩) 47 c62_174), (7, .slice (some ⟨g62_174, 0, none⟩) 47 c62_174), (6, .pointer (some ⟨g6, 0, none⟩)), (1, .pointer (some ⟨g1, 0, none⟩))] a177) => ?_)
                clear HA175 a175
                refine ha_take HA177 [0, 1, 3] (i := 1) (.slice (some ⟨g6, 0, none⟩) 4 4) rfl (by kernel_rfl) (by kernel_rfl) (by kernel_rfl) (pq_then (pq_then pq_body)) (want_n rfl) (fun w9 ⟨R9, HS9⟩ => dd_slA (n := 4) (sz := 1) rfl (HA177.ev 2 rfl) (by kernel_rfl)) ⟨_, st_sel HSh176 [0, 2, 3, 1, 4] (by decide)⟩ rfl (fun a178 (HA178 : Env 80 [(64, .slice (some ⟨g6, 0, none⟩) 4 4), (63, .slice (some ⟨g62_174, 0, none⟩) 47 c62_174), (7, .slice (some ⟨g62_174, 0, none⟩) 47 c62_174), (1, .pointer (some ⟨g1, 0, none⟩))] a178) => ?_)
                clear HA177 a177
                refine ha_take HA178 [0, 1, 2, 3] (i := 3) (.pointer (some ⟨g1, 39, none⟩)) rfl (by kernel_rfl) (by kernel_rfl) (by kernel_rfl) (pq_then (pq_then pq_body)) (want_n rfl) (fun w9 ⟨R9, HS9⟩ => dd_field (off := 39) (j := 39) rfl (HA178.ev 3 rfl) (by kernel_rfl) rfl) ⟨_, st_sel HSh176 [0, 2, 3, 1, 4] (by decide)⟩ rfl (fun a179 (HA179 : Env 80 [(66, .pointer (some ⟨g1, 39, none⟩)), (64, .slice (some ⟨g6, 0, none⟩) 4 4), (63, .slice (some ⟨g62_174, 0, none⟩) 47 c62_174), (7, .slice (some ⟨g62_174, 0, none⟩) 47 c62_174), (1, .pointer (some ⟨g1, 0, none⟩))] a179) => ?_)
                clear HA178 a178
                refine ha_take HA179 [1, 2, 3, 4] (i := 4) (.int .i64 X.z) rfl (by kernel_rfl) (by kernel_rfl) (by kernel_rfl) (pq_then (pq_then pq_body)) (want_n rfl) (fun w9 ⟨R9, HS9⟩ => dd_get HS9 0 39 rfl rfl (HA179.ev 0 rfl) (ask_39 HOK) Tryd.underlying3 rfl) ⟨_, st_sel HSh176 [0, 2, 3, 1, 4] (by decide)⟩ rfl (fun a180 (HA180 : Env 80 [(67, .int .i64 X.z), (64, .slice (some ⟨g6, 0, none⟩) 4 4), (63, .slice (some ⟨g62_174, 0, none⟩) 47 c62_174), (7, .slice (some ⟨g62_174, 0, none⟩) 47 c62_174), (1, .pointer (some ⟨g1, 0, none⟩))] a180) => ?_)
                clear HA179 a179
                refine ha_take HA180 [1, 2, 3, 4] (i := 5) (.int .u8 (bd (byteI X.z))) rfl (by kernel_rfl) (by kernel_rfl) (by kernel_rfl) (pq_then (pq_then pq_body)) (want_n rfl) (fun w9 ⟨R9, HS9⟩ => dd_conv (k := .u8) rfl (HA180.ev 0 rfl) Tryd.underlying3 (by kernel_rfl) (wrap_u8_bd _)) ⟨_, st_sel HSh176 [0, 2, 3, 1, 4] (by decide)⟩ rfl (fun a181 (HA181 : Env 80 [(68, .int .u8 (bd (byteI X.z))), (64, .slice (some ⟨g6, 0, none⟩) 4 4), (63, .slice (some ⟨g62_174, 0, none⟩) 47 c62_174), (7, .slice (some ⟨g62_174, 0, none⟩) 47 c62_174), (1, .pointer (some ⟨g1, 0, none⟩))] a181) => ?_)
                clear HA180 a180
                refine wpAnyH_all (rs := [2, 6]) (by kernel_rfl) (by decide) (hm_cons ?_ (hm_cons ?_ hm_nil))
                · skip
                  refine ho_does HA181 [0, 3, 4] (R := fun v w9 => ∃ g65_183 c65_183 cb65_183, v = .slice (some ⟨g65_183, 0, none⟩) 51 c65_183 ∧ OwnC cb65_183 c65_183 51 1 (bytesV ((([(byteI X.k)]) ++ (clmB X.c ++ X.t)) ++ (padN X.v))) ∧ St w noF [⟨g1, 31, askC X⟩, ⟨gt57, 5, cbt57⟩, ⟨g40, 9, #[.string (strB X.v)]⟩, ⟨g6, 50, bs (padN X.v)⟩, ⟨g65_183, 5, cb65_183⟩] w9) rfl (want_n rfl) (dd_appB HSh176 4 rfl O62_174 rfl (HA181.ev 2 rfl) (HA181.ev 1 rfl) (slice_part (HSh176.row 3 rfl) 0 (bytes_slab (slab_whole _)) (length_padN _) (by decide)) (fun h9 => by cases h9) rfl rfl (by unfold maxLen; omega) (by omega) (fun g9 c9 cb9 w9 o9 h9 => ⟨g9, c9, cb9, rfl, o9, h9⟩)) rfl ?_
                  rintro _ W182 ⟨g65_183, c65_183, cb65_183, rfl, O65_183, HS182⟩ a182 (HA182 : Env 80 [(65, .slice (some ⟨g65_183, 0, none⟩) 51 c65_183), (68, .int .u8 (bd (byteI X.z))), (7, .slice (some ⟨g62_174, 0, none⟩) 47 c62_174), (1, .pointer (some ⟨g1, 0, none⟩))] a182)
                  clear HA181 a181 HSh176
                  refine ⟨⟨_, st_sel HS182 [0, 2, 3, 1, 4] (by decide)⟩, ?_⟩
                  refine wpAnyH_all (rs := [6]) (by kernel_rfl) (by decide) (hm_cons ?_ hm_nil)
                  · skip
                    refine ho_does HA182 [0, 2, 3] (R := fun v w9 => ∃ g69, v = .slice (some ⟨g69, 0, none⟩) 1 1 ∧ St w noF [⟨g1, 31, askC X⟩, ⟨gt57, 5, cbt57⟩, ⟨g40, 9, #[.string (strB X.v)]⟩, ⟨g6, 50, bs (padN X.v)⟩, ⟨g65_183, 5, cb65_183⟩, ⟨g69, 5, #[.int .u8 (bd (byteI X.z))]⟩] w9) rfl (want_n rfl) (dd_lits HS182 #[.int .u8 (bd (byteI X.z))] rfl (ps := [(0, .int .u8 (bd (byteI X.z)))]) (pr1 (HA182.ev 1 rfl) (pr0)) (z := .int .u8 0) (sz := 1) Tryd.underlying32 (by kernel_rfl) rfl rfl (by kernel_rfl) (fun g9 w9 h9 => ⟨g9, rfl, h9⟩)) rfl ?_
                    rintro _ W184 ⟨g69, rfl, HS184⟩ a184 (HA184 : Env 80 [(69, .slice (some ⟨g69, 0, none⟩) 1 1), (65, .slice (some ⟨g65_183, 0, none⟩) 51 c65_183), (7, .slice (some ⟨g62_174, 0, none⟩) 47 c62_174), (1, .pointer (some ⟨g1, 0, none⟩))] a184)
                    clear HA182 a182 HS182
                    refine ⟨⟨_, st_sel HS184 [0, 2, 3, 1, 4, 5] (by decide)⟩, ?_⟩
                    refine wpAnyH_all (rs := [7]) (by kernel_rfl) (by decide) (hm_cons ?_ hm_nil)
                    · skip
                      refine ho_does HA184 [2, 3] (R := fun v w9 => ∃ g70_186 c70_186 cb70_186, v = .slice (some ⟨g70_186, 0, none⟩) 52 c70_186 ∧ OwnC cb70_186 c70_186 52 1 (bytesV (((([(byteI X.k)]) ++ (clmB X.c ++ X.t)) ++ (padN X.v)) ++ ([(byteI X.z)]))) ∧ St w noF [⟨g1, 31, askC X⟩, ⟨gt57, 5, cbt57⟩, ⟨g40, 9, #[.string (strB X.v)]⟩, ⟨g6, 50, bs (padN X.v)⟩, ⟨g69, 5, #[.int .u8 (bd (byteI X.z))]⟩, ⟨g70_186, 5, cb70_186⟩] w9) rfl (want_n rfl) (dd_appB HS184 4 rfl O65_183 rfl (HA184.ev 1 rfl) (HA184.ev 0 rfl) (slice_own (HS184.row 5 rfl) (⟨Nat.le_refl _, by decide, rfl, rfl, rfl⟩ : OwnC #[.int .u8 (bd (byteI X.z))] 1 1 1 (bytesV [(byteI X.z)])) rfl) (fun h9 => by cases h9) rfl rfl (by unfold maxLen; omega) (by omega) (fun g9 c9 cb9 w9 o9 h9 => ⟨g9, c9, cb9, rfl, o9, h9⟩)) rfl ?_
                      rintro _ W185 ⟨g70_186, c70_186, cb70_186, rfl, O70_186, HS185⟩ a185 (HA185 : Env 80 [(70, .slice (some ⟨g70_186, 0, none⟩) 52 c70_186), (7, .slice (some ⟨g62_174, 0, none⟩) 47 c62_174), (1, .pointer (some ⟨g1, 0, none⟩))] a185)
                      clear HA184 a184 HS184
                      refine ⟨⟨_, st_sel HS185 [0, 2, 3, 1, 4, 5] (by decide)⟩, ?_⟩
                      refine ha_take HA185 [2] (i := 8) (.slice (some ⟨g70_186, 0, none⟩) 52 c70_186) rfl (by kernel_rfl) (by kernel_rfl) (by kernel_rfl) (pq_then (pq_then pq_body)) (want_n rfl) (fun w9 ⟨R9, HS9⟩ => dd_as rfl (HA185.ev 0 rfl)) ⟨_, st_sel HS185 [0, 2, 3, 1, 4, 5] (by decide)⟩ rfl (fun a187 (HA187 : Env 80 [(7, .slice (some ⟨g70_186, 0, none⟩) 52 c70_186), (1, .pointer (some ⟨g1, 0, none⟩))] a187) => ?_)
                      clear HA185 a185
                      refine wpAnyH_done (by kernel_rfl) ?_ _
                      exact nx ⟨g70_186, c70_186, _, cb70_186, O70_186, HA187.keep [0, 1], st_sel HS185 [0, 1, 2, 3, 4, 5] (by decide)⟩
                · skip
                  refine ho_does HA181 [1, 2, 3, 4] (R := fun v w9 => ∃ g69, v = .slice (some ⟨g69, 0, none⟩) 1 1 ∧ St w noF [⟨g1, 31, askC X⟩, ⟨gt57, 5, cbt57⟩, ⟨g40, 9, #[.string (strB X.v)]⟩, ⟨g6, 50, bs (padN X.v)⟩, ⟨g62_174, 5, cb62_174⟩, ⟨g69, 5, #[.int .u8 (bd (byteI X.z))]⟩] w9) rfl (want_n rfl) (dd_lits HSh176 #[.int .u8 (bd (byteI X.z))] rfl (ps := [(0, .int .u8 (bd (byteI X.z)))]) (pr1 (HA181.ev 0 rfl) (pr0)) (z := .int .u8 0) (sz := 1) Tryd.underlying32 (by kernel_rfl) rfl rfl (by kernel_rfl) (fun g9 w9 h9 => ⟨g9, rfl, h9⟩)) rfl ?_
                  rintro _ W188 ⟨g69, rfl, HS188⟩ a188 (HA188 : Env 80 [(69, .slice (some ⟨g69, 0, none⟩) 1 1), (64, .slice (some ⟨g6, 0, none⟩) 4 4), (63, .slice (some ⟨g62_174, 0, none⟩) 47 c62_174), (7, .slice (some ⟨g62_174, 0, none⟩) 47 c62_174), (1, .pointer (some ⟨g1, 0, none⟩))] a188)
                  clear HA181 a181 HSh176
                  refine ⟨⟨_, st_sel HS188 [0, 2, 3, 1, 4, 5] (by decide)⟩, ?_⟩
                  refine wpAnyH_all (rs := [2]) (by kernel_rfl) (by decide) (hm_cons ?_ hm_nil)
                  · skip
                    refine ho_does HA188 [0, 3, 4] (R := fun v w9 => ∃ g65_190 c65_190 cb65_190, v = .slice (some ⟨g65_190, 0, none⟩) 51 c65_190 ∧ OwnC cb65_190 c65_190 51 1 (bytesV ((([(byteI X.k)]) ++ (clmB X.c ++ X.t)) ++ (padN X.v))) ∧ St w noF [⟨g1, 31, askC X⟩, ⟨gt57, 5, cbt57⟩, ⟨g40, 9, #[.string (strB X.v)]⟩, ⟨g6, 50, bs (padN X.v)⟩, ⟨g69, 5, #[.int .u8 (bd (byteI X.z))]⟩, ⟨g65_190, 5, cb65_190⟩] w9) rfl (want_n rfl) (dd_appB HS188 4 rfl O62_174 rfl (HA188.ev 2 rfl) (HA188.ev 1 rfl) (slice_part (HS188.row 3 rfl) 0 (bytes_slab (slab_whole _)) (length_padN _) (by decide)) (fun h9 => by cases h9) rfl rfl (by unfold maxLen; omega) (by omega) (fun g9 c9 cb9 w9 o9 h9 => ⟨g9, c9, cb9, rfl, o9, h9⟩)) rfl ?_
                    rintro _ W189 ⟨g65_190, c65_190, cb65_190, rfl, O65_190, HS189⟩ a189 (HA189 : Env 80 [(65, .slice (some ⟨g65_190, 0, none⟩) 51 c65_190), (69, .slice (some ⟨g69, 0, none⟩) 1 1), (7, .slice (some ⟨g62_174, 0, none⟩) 47 c62_174), (1, .pointer (some ⟨g1, 0, none⟩))] a189)
                    clear HA188 a188 HS188
                    refine ⟨⟨_, st_sel HS189 [0, 2, 3, 1, 4, 5] (by decide)⟩, ?_⟩
                    refine wpAnyH_all (rs := [7]) (by kernel_rfl) (by decide) (hm_cons ?_ hm_nil)
                    · skip
                      refine ho_does HA189 [2, 3] (R := fun v w9 => ∃ g70_192 c70_192 cb70_192, v = .slice (some ⟨g70_192, 0, none⟩) 52 c70_192 ∧ OwnC cb70_192 c70_192 52 1 (bytesV (((([(byteI X.k)]) ++ (clmB X.c ++ X.t)) ++ (padN X.v)) ++ ([(byteI X.z)]))) ∧ St w noF [⟨g1, 31, askC X⟩, ⟨gt57, 5, cbt57⟩, ⟨g40, 9, #[.string (strB X.v)]⟩, ⟨g6, 50, bs (padN X.v)⟩, ⟨g69, 5, #[.int .u8 (bd (byteI X.z))]⟩, ⟨g70_192, 5, cb70_192⟩] w9) rfl (want_n rfl) (dd_appB HS189 5 rfl O65_190 rfl (HA189.ev 0 rfl) (HA189.ev 1 rfl) (slice_own (HS189.row 4 rfl) (⟨Nat.le_refl _, by decide, rfl, rfl, rfl⟩ : OwnC #[.int .u8 (bd (byteI X.z))] 1 1 1 (bytesV [(byteI X.z)])) rfl) (fun h9 => by cases h9) rfl rfl (by unfold maxLen; omega) (by omega) (fun g9 c9 cb9 w9 o9 h9 => ⟨g9, c9, cb9, rfl, o9, h9⟩)) rfl ?_
                      rintro _ W191 ⟨g70_192, c70_192, cb70_192, rfl, O70_192, HS191⟩ a191 (HA191 : Env 80 [(70, .slice (some ⟨g70_192, 0, none⟩) 52 c70_192), (7, .slice (some ⟨g62_174, 0, none⟩) 47 c62_174), (1, .pointer (some ⟨g1, 0, none⟩))] a191)
                      clear HA189 a189 HS189
                      refine ⟨⟨_, st_sel HS191 [0, 2, 3, 1, 4, 5] (by decide)⟩, ?_⟩
                      refine ha_take HA191 [2] (i := 8) (.slice (some ⟨g70_192, 0, none⟩) 52 c70_192) rfl (by kernel_rfl) (by kernel_rfl) (by kernel_rfl) (pq_then (pq_then pq_body)) (want_n rfl) (fun w9 ⟨R9, HS9⟩ => dd_as rfl (HA191.ev 0 rfl)) ⟨_, st_sel HS191 [0, 2, 3, 1, 4, 5] (by decide)⟩ rfl (fun a193 (HA193 : Env 80 [(7, .slice (some ⟨g70_192, 0, none⟩) 52 c70_192), (1, .pointer (some ⟨g1, 0, none⟩))] a193) => ?_)
                      clear HA191 a191
                      refine wpAnyH_done (by kernel_rfl) ?_ _
                      exact nx ⟨g70_192, c70_192, _, cb70_192, O70_192, HA193.keep [0, 1], st_sel HS191 [0, 1, 2, 3, 4, 5] (by decide)⟩
              · skip
                rintro aj176 wj176 ⟨g70_186, c70_186, g69, cb70_186, O70_186, HAj176, HSj176⟩
                refine nx ?_
                refine wp_seq ?_
                refine wp_seq ?_
                refine wp_region_lit ?_
                refine wl_is HAj176 [0, 1] (v := .pointer (some ⟨g1, 0, none⟩)) (want_n rfl) (dd_rn (dd_field (off := 0) (j := 0) rfl (HAj176.ev 1 rfl) (by kernel_rfl) rfl) ⟨rfl, rfl⟩) rfl (fun a195 (HA195 : Env 80 [(71, .pointer (some ⟨g1, 0, none⟩)), (7, .slice (some ⟨g70_186, 0, none⟩) 52 c70_186), (1, .pointer (some ⟨g1, 0, none⟩))] a195) => ?_)
                clear HAj176 aj176
                refine wl_is HA195 [1, 2] (v := .int .i64 X.k) (want_n rfl) (dd_rn (dd_get HSj176 0 0 rfl rfl (HA195.ev 0 rfl) rfl Tryd.underlying3 rfl) ⟨rfl, rfl⟩) rfl (fun a196 (HA196 : Env 80 [(72, .int .i64 X.k), (7, .slice (some ⟨g70_186, 0, none⟩) 52 c70_186), (1, .pointer (some ⟨g1, 0, none⟩))] a196) => ?_)
                clear HA195 a195
                by_cases hc198 : (X.k : Int) = 2
                · skip
                  refine wl_is HA196 [1, 2] (v := .bool true) (want_n rfl) (dd_rn (dd_cmp rfl (HA196.ev 0 rfl) rfl (eq_t hc198)) ⟨rfl, rfl⟩) rfl (fun a199 (HA199 : Env 80 [(73, .bool true), (7, .slice (some ⟨g70_186, 0, none⟩) 52 c70_186), (1, .pointer (some ⟨g1, 0, none⟩))] a199) => ?_)
                  clear HA196 a196
                  refine wpList_nil ?_
                  refine nx ?_
                  refine wp_cond_true (HA199.ev 0 rfl) ?_
                  refine wp_region_lit ?_
                  refine wl_is HA199 [2] (v := .slice (some ⟨g70_186, 0, none⟩) 52 c70_186) (want_n rfl) (dd_rn (dd_mv rfl (HA199.ev 1 rfl)) ⟨rfl, rfl⟩) rfl (fun a200 (HA200 : Env 80 [(74, .slice (some ⟨g70_186, 0, none⟩) 52 c70_186), (1, .pointer (some ⟨g1, 0, none⟩))] a200) => ?_)
                  clear HA199 a199
                  refine wl_is HA200 [0] (v := .pointer (some ⟨g1, 40, none⟩)) (want_n rfl) (dd_rn (dd_field (off := 40) (j := 40) rfl (HA200.ev 1 rfl) (by kernel_rfl) rfl) ⟨rfl, rfl⟩) rfl (fun a201 (HA201 : Env 80 [(75, .pointer (some ⟨g1, 40, none⟩)), (74, .slice (some ⟨g70_186, 0, none⟩) 52 c70_186)] a201) => ?_)
                  clear HA200 a200
                  refine wl_is HA201 [1] (v := .slice (some ⟨g1, 40, none⟩) 32 32) (want_n rfl) (dd_rn (dd_slA (n := 32) (sz := 1) rfl (HA201.ev 0 rfl) (by kernel_rfl)) ⟨rfl, rfl⟩) rfl (fun a202 (HA202 : Env 80 [(76, .slice (some ⟨g1, 40, none⟩) 32 32), (74, .slice (some ⟨g70_186, 0, none⟩) 52 c70_186)] a202) => ?_)
                  clear HA201 a201
                  refine wl_does HA202 [] (R := fun v w9 => ∃ g77_204 c77_204 cb77_204, v = .slice (some ⟨g77_204, 0, none⟩) 84 c77_204 ∧ OwnC cb77_204 c77_204 84 1 (bytesV ((((([(byteI X.k)]) ++ (clmB X.c ++ X.t)) ++ (padN X.v)) ++ ([(byteI X.z)])) ++ X.d)) ∧ St w noF [⟨g1, 31, askC X⟩, ⟨gt57, 5, cbt57⟩, ⟨g40, 9, #[.string (strB X.v)]⟩, ⟨g6, 50, bs (padN X.v)⟩, ⟨g69, 5, #[.int .u8 (bd (byteI X.z))]⟩, ⟨g77_204, 5, cb77_204⟩] w9) (want_n rfl) (dd_appB HSj176 5 rfl O70_186 rfl (HA202.ev 1 rfl) (HA202.ev 0 rfl) (slice_part (HSj176.row 0 rfl) 40 (bytes_slab (ask_dat HOK)) HOK.d (by decide)) (fun h9 => by cases h9) rfl rfl (by unfold maxLen; omega) (by omega) (fun g9 c9 cb9 w9 o9 h9 => ⟨g9, c9, cb9, rfl, o9, h9⟩)) rfl ?_
                  rintro _ W203 ⟨g77_204, c77_204, cb77_204, rfl, O77_204, HS203⟩ a203 (HA203 : Env 80 [(77, .slice (some ⟨g77_204, 0, none⟩) 84 c77_204)] a203)
                  clear HA202 a202 HSj176
                  refine wl_is HA203 [] (v := .slice (some ⟨g77_204, 0, none⟩) 84 c77_204) (want_n rfl) (dd_rn (dd_as rfl (HA203.ev 0 rfl)) ⟨rfl, rfl⟩) rfl (fun a205 (HA205 : Env 80 [(7, .slice (some ⟨g77_204, 0, none⟩) 84 c77_204)] a205) => ?_)
                  clear HA203 a203
                  refine wpList_nil ?_
                  refine nx ?_
                  refine wp_seq ?_
                  refine wp_region_lit ?_
                  refine wl_is HA205 [] (v := .slice (some ⟨g77_204, 0, none⟩) 84 c77_204) (want_n rfl) (dd_rn (dd_mv rfl (HA205.ev 0 rfl)) ⟨rfl, rfl⟩) rfl (fun a206 (HA206 : Env 80 [(78, .slice (some ⟨g77_204, 0, none⟩) 84 c77_204)] a206) => ?_)
                  clear HA205 a205
                  refine wl_does HA206 [] (R := fun v w9 => ∃ v208, v = v208 ∧ w9.ownsRow W203.heap.size 5 1 v208 (encA X).length (bytesV (encA X)) ∧ Below W203.heap.size W203 w9) (want_n rfl) (dd_call Tryd.func22 (by kernel_rfl) (by kernel_rfl) rfl (args1 (HA206.ev 0 rfl)) (refsealed_any _ _ W203 (item_own (HS203.row 5 rfl) O77_204 (len_app (len_app (len_app (len_app rfl HCT) (length_padN _)) rfl) HOK.d)) (by rw [(len_app (len_app (len_app (len_app rfl HCT) (length_padN _)) rfl) HOK.d)]; exact Nat.le_of_ble_eq_true rfl)) (fun _ w9 ⟨v9, he, ho, hb⟩ => ⟨_, he, v9, rfl, by rw [enc_w X hc198] at ho; exact ho, hb⟩)) rfl ?_
                  rintro v208 W207 ⟨_, rfl, ho208, hb207⟩ a207 (HA207 : Env 80 [(79, v208)] a207)
                  have HS207 := HS203.same hb207
                  clear HA206 a206
                  have HOX := own_base ho208 HS203.below.size
                  clear HS203 hb207
                  refine wl_is HA207 [] (v := v208) (want_n rfl) (dd_rn (dd_as rfl (HA207.ev 0 rfl)) ⟨rfl, rfl⟩) rfl (fun a209 (HA209 : Env 80 [(2, v208)] a209) => ?_)
                  clear HA207 a207
                  refine wl_is HA209 [0] (v := .int .i64 0) (want_n rfl) (dd_rn (dd_as rfl rfl) ⟨rfl, rfl⟩) rfl (fun a210 (HA210 : Env 80 [(3, .int .i64 0), (2, v208)] a210) => ?_)
                  clear HA209 a209
                  refine wpList_nil ?_
                  refine nx ?_
                  refine wp_ret ?_
                  refine ret_run HA210 (res_tt Tryd.results9 (HA210.get 1 rfl) (HA210.get 0 rfl)) ?_
                  exact .inr ⟨mayA_of hb7 (.inr ⟨hc69, of_decide_eq_true hb86⟩) hb117 (by omega) (by omega), _, rfl, HOX, HS207.below⟩
                · skip
                  refine wl_is HA196 [1, 2] (v := .bool false) (want_n rfl) (dd_rn (dd_cmp rfl (HA196.ev 0 rfl) rfl (eq_f hc198)) ⟨rfl, rfl⟩) rfl (fun a211 (HA211 : Env 80 [(73, .bool false), (7, .slice (some ⟨g70_186, 0, none⟩) 52 c70_186), (1, .pointer (some ⟨g1, 0, none⟩))] a211) => ?_)
                  clear HA196 a196
                  refine wpList_nil ?_
                  refine nx ?_
                  refine wp_cond_false (HA211.ev 0 rfl) ?_
                  refine wp_skip ?_
                  refine nx ?_
                  refine wp_seq ?_
                  refine wp_region_lit ?_
                  refine wl_is HA211 [] (v := .slice (some ⟨g70_186, 0, none⟩) 52 c70_186) (want_n rfl) (dd_rn (dd_mv rfl (HA211.ev 1 rfl)) ⟨rfl, rfl⟩) rfl (fun a212 (HA212 : Env 80 [(78, .slice (some ⟨g70_186, 0, none⟩) 52 c70_186)] a212) => ?_)
                  clear HA211 a211
                  refine wl_does HA212 [] (R := fun v w9 => ∃ v214, v = v214 ∧ w9.ownsRow wj176.heap.size 5 1 v214 (encA X).length (bytesV (encA X)) ∧ Below wj176.heap.size wj176 w9) (want_n rfl) (dd_call Tryd.func22 (by kernel_rfl) (by kernel_rfl) rfl (args1 (HA212.ev 0 rfl)) (refsealed_any _ _ wj176 (item_own (HSj176.row 5 rfl) O70_186 (len_app (len_app (len_app rfl HCT) (length_padN _)) rfl)) (by rw [(len_app (len_app (len_app rfl HCT) (length_padN _)) rfl)]; exact Nat.le_of_ble_eq_true rfl)) (fun _ w9 ⟨v9, he, ho, hb⟩ => ⟨_, he, v9, rfl, by rw [enc_r X hc198] at ho; exact ho, hb⟩)) rfl ?_
                  rintro v214 W213 ⟨_, rfl, ho214, hb213⟩ a213 (HA213 : Env 80 [(79, v214)] a213)
                  have HS213 := HSj176.same hb213
                  clear HA212 a212
                  have HOX := own_base ho214 HSj176.below.size
                  clear HSj176 hb213
                  refine wl_is HA213 [] (v := v214) (want_n rfl) (dd_rn (dd_as rfl (HA213.ev 0 rfl)) ⟨rfl, rfl⟩) rfl (fun a215 (HA215 : Env 80 [(2, v214)] a215) => ?_)
                  clear HA213 a213
                  refine wl_is HA215 [0] (v := .int .i64 0) (want_n rfl) (dd_rn (dd_as rfl rfl) ⟨rfl, rfl⟩) rfl (fun a216 (HA216 : Env 80 [(3, .int .i64 0), (2, v214)] a216) => ?_)
                  clear HA215 a215
                  refine wpList_nil ?_
                  refine nx ?_
                  refine wp_ret ?_
                  refine ret_run HA216 (res_tt Tryd.results9 (HA216.get 1 rfl) (HA216.get 0 rfl)) ?_
                  exact .inr ⟨mayA_of hb7 (.inr ⟨hc69, of_decide_eq_true hb86⟩) hb117 (by omega) (by omega), _, rfl, HOX, HS213.below⟩
    · skip
      refine wl_is HA67 [1, 2, 3] (v := .bool true) (want_g rfl (t := 16) rfl (HA67.get 1 rfl) rfl) (dd_rn (dd_cmp rfl (HA67.ev 0 rfl) rfl (ne_t hc69)) ⟨rfl, rfl⟩) rfl (fun a217 (HA217 : Env 80 [(19, .bool true), (16, .bool false), (4, .slice (some ⟨gt57, 0, none⟩) 46 ct57), (1, .pointer (some ⟨g1, 0, none⟩))] a217) => ?_)
      clear HA67 a67
      refine wl_is HA217 [1, 2, 3] (v := .bool true) (want_g rfl (t := 16) rfl (HA217.get 1 rfl) rfl) (dd_rn (dd_mv rfl (HA217.ev 0 rfl)) ⟨rfl, rfl⟩) rfl (fun a218 (HA218 : Env 80 [(20, .bool true), (16, .bool false), (4, .slice (some ⟨gt57, 0, none⟩) 46 ct57), (1, .pointer (some ⟨g1, 0, none⟩))] a218) => ?_)
      clear HA217 a217
      refine wl_is HA218 [0, 1, 2, 3] (v := .pointer (some ⟨g1, 0, none⟩)) (want_g rfl (t := 20) rfl (HA218.get 0 rfl) rfl) (dd_rn (dd_field (off := 0) (j := 0) rfl (HA218.ev 3 rfl) (by kernel_rfl) rfl) ⟨rfl, rfl⟩) rfl (fun a219 (HA219 : Env 80 [(21, .pointer (some ⟨g1, 0, none⟩)), (20, .bool true), (16, .bool false), (4, .slice (some ⟨gt57, 0, none⟩) 46 ct57), (1, .pointer (some ⟨g1, 0, none⟩))] a219) => ?_)
      clear HA218 a218
      refine wl_is HA219 [1, 2, 3, 4] (v := .int .i64 X.k) (want_g rfl (t := 20) rfl (HA219.get 1 rfl) rfl) (dd_rn (dd_get HS56j 0 0 rfl rfl (HA219.ev 0 rfl) rfl Tryd.underlying3 rfl) ⟨rfl, rfl⟩) rfl (fun a220 (HA220 : Env 80 [(22, .int .i64 X.k), (20, .bool true), (16, .bool false), (4, .slice (some ⟨gt57, 0, none⟩) 46 ct57), (1, .pointer (some ⟨g1, 0, none⟩))] a220) => ?_)
      clear HA219 a219
      by_cases hc222 : (X.k : Int) = 2
      · skip
        refine wl_is HA220 [1, 2, 3, 4] (v := .bool false) (want_g rfl (t := 20) rfl (HA220.get 1 rfl) rfl) (dd_rn (dd_cmp rfl (HA220.ev 0 rfl) rfl (ne_f hc222)) ⟨rfl, rfl⟩) rfl (fun a223 (HA223 : Env 80 [(23, .bool false), (20, .bool true), (16, .bool false), (4, .slice (some ⟨gt57, 0, none⟩) 46 ct57), (1, .pointer (some ⟨g1, 0, none⟩))] a223) => ?_)
        clear HA220 a220
        refine wl_is HA223 [2, 3, 4] (v := .bool false) (want_g rfl (t := 16) rfl (HA223.get 2 rfl) rfl) (dd_rn (dd_pickT rfl (HA223.ev 1 rfl) (HA223.ev 0 rfl)) ⟨rfl, rfl⟩) rfl (fun a224 (HA224 : Env 80 [(24, .bool false), (16, .bool false), (4, .slice (some ⟨gt57, 0, none⟩) 46 ct57), (1, .pointer (some ⟨g1, 0, none⟩))] a224) => ?_)
        clear HA223 a223
        refine wl_is HA224 [2, 3] (v := .bool false) (want_n rfl) (dd_rn (dd_pickF rfl (HA224.ev 1 rfl) (HA224.ev 0 rfl)) ⟨rfl, rfl⟩) rfl (fun a225 (HA225 : Env 80 [(25, .bool false), (4, .slice (some ⟨gt57, 0, none⟩) 46 ct57), (1, .pointer (some ⟨g1, 0, none⟩))] a225) => ?_)
        clear HA224 a224
        refine wl_is HA225 [1, 2] (v := .bool false) (want_n rfl) (dd_rn (dd_mv rfl (HA225.ev 0 rfl)) ⟨rfl, rfl⟩) rfl (fun a226 (HA226 : Env 80 [(26, .bool false), (4, .slice (some ⟨gt57, 0, none⟩) 46 ct57), (1, .pointer (some ⟨g1, 0, none⟩))] a226) => ?_)
        clear HA225 a225
        refine wl_is HA226 [0, 1, 2] (v := .pointer (some ⟨g1, 0, none⟩)) (want_g rfl (t := 26) rfl (HA226.get 0 rfl) rfl) (dd_rn (dd_field (off := 0) (j := 0) rfl (HA226.ev 2 rfl) (by kernel_rfl) rfl) ⟨rfl, rfl⟩) rfl (fun a227 (HA227 : Env 80 [(27, .pointer (some ⟨g1, 0, none⟩)), (26, .bool false), (4, .slice (some ⟨gt57, 0, none⟩) 46 ct57), (1, .pointer (some ⟨g1, 0, none⟩))] a227) => ?_)
        clear HA226 a226
        refine wl_is HA227 [1, 2, 3] (v := .int .i64 X.k) (want_g rfl (t := 26) rfl (HA227.get 1 rfl) rfl) (dd_rn (dd_get HS56j 0 0 rfl rfl (HA227.ev 0 rfl) rfl Tryd.underlying3 rfl) ⟨rfl, rfl⟩) rfl (fun a228 (HA228 : Env 80 [(28, .int .i64 X.k), (26, .bool false), (4, .slice (some ⟨gt57, 0, none⟩) 46 ct57), (1, .pointer (some ⟨g1, 0, none⟩))] a228) => ?_)
        clear HA227 a227
        refine wl_is HA228 [1, 2, 3] (v := .bool false) (want_g rfl (t := 26) rfl (HA228.get 1 rfl) rfl) (dd_rn (dd_cmp rfl (HA228.ev 0 rfl) rfl (eq_f hc69)) ⟨rfl, rfl⟩) rfl (fun a229 (HA229 : Env 80 [(29, .bool false), (26, .bool false), (4, .slice (some ⟨gt57, 0, none⟩) 46 ct57), (1, .pointer (some ⟨g1, 0, none⟩))] a229) => ?_)
        clear HA228 a228
        refine wl_is HA229 [1, 2, 3] (v := .bool false) (want_g rfl (t := 26) rfl (HA229.get 1 rfl) rfl) (dd_rn (dd_mv rfl (HA229.ev 0 rfl)) ⟨rfl, rfl⟩) rfl (fun a230 (HA230 : Env 80 [(30, .bool false), (26, .bool false), (4, .slice (some ⟨gt57, 0, none⟩) 46 ct57), (1, .pointer (some ⟨g1, 0, none⟩))] a230) => ?_)
        clear HA229 a229
        refine wl_skip HA230 [0, 1, 2, 3] (want_g rfl (t := 30) rfl (HA230.get 0 rfl) rfl) rfl (fun a231 (HA231 : Env 80 [(31, undef), (30, .bool false), (26, .bool false), (4, .slice (some ⟨gt57, 0, none⟩) 46 ct57), (1, .pointer (some ⟨g1, 0, none⟩))] a231) => ?_)
        clear HA230 a230
        refine wl_skip HA231 [1, 2, 3, 4] (want_g rfl (t := 30) rfl (HA231.get 1 rfl) rfl) rfl (fun a232 (HA232 : Env 80 [(32, undef), (30, .bool false), (26, .bool false), (4, .slice (some ⟨gt57, 0, none⟩) 46 ct57), (1, .pointer (some ⟨g1, 0, none⟩))] a232) => ?_)
        clear HA231 a231
        refine wl_skip HA232 [0, 1, 2, 3, 4] (want_g rfl (t := 30) rfl (HA232.get 1 rfl) rfl) rfl (fun a233 (HA233 : Env 80 [(33, undef), (32, undef), (30, .bool false), (26, .bool false), (4, .slice (some ⟨gt57, 0, none⟩) 46 ct57), (1, .pointer (some ⟨g1, 0, none⟩))] a233) => ?_)
        clear HA232 a232
        refine wl_skip HA233 [2, 3, 4, 5] (want_g rfl (t := 30) rfl (HA233.get 2 rfl) rfl) rfl (fun a234 (HA234 : Env 80 [(34, undef), (30, .bool false), (26, .bool false), (4, .slice (some ⟨gt57, 0, none⟩) 46 ct57), (1, .pointer (some ⟨g1, 0, none⟩))] a234) => ?_)
        clear HA233 a233
        refine wl_is HA234 [2, 3, 4] (v := .bool false) (want_g rfl (t := 26) rfl (HA234.get 2 rfl) rfl) (dd_rn (dd_pickF rfl (HA234.ev 1 rfl) rfl) ⟨rfl, rfl⟩) rfl (fun a235 (HA235 : Env 80 [(35, .bool false), (26, .bool false), (4, .slice (some ⟨gt57, 0, none⟩) 46 ct57), (1, .pointer (some ⟨g1, 0, none⟩))] a235) => ?_)
        clear HA234 a234
        refine wl_is HA235 [2, 3] (v := .bool false) (want_n rfl) (dd_rn (dd_pickF rfl (HA235.ev 1 rfl) (HA235.ev 0 rfl)) ⟨rfl, rfl⟩) rfl (fun a236 (HA236 : Env 80 [(36, .bool false), (4, .slice (some ⟨gt57, 0, none⟩) 46 ct57), (1, .pointer (some ⟨g1, 0, none⟩))] a236) => ?_)
        clear HA235 a235
        refine wl_is HA236 [1, 2] (v := .bool false) (want_n rfl) (dd_rn (dd_mv rfl (HA236.ev 0 rfl)) ⟨rfl, rfl⟩) rfl (fun a237 (HA237 : Env 80 [(37, .bool false), (4, .slice (some ⟨gt57, 0, none⟩) 46 ct57), (1, .pointer (some ⟨g1, 0, none⟩))] a237) => ?_)
        clear HA236 a236
        refine wl_is HA237 [0, 1, 2] (v := .pointer (some ⟨g1, 38, none⟩)) (want_g rfl (t := 37) rfl (HA237.get 0 rfl) rfl) (dd_rn (dd_field (off := 38) (j := 38) rfl (HA237.ev 2 rfl) (by kernel_rfl) rfl) ⟨rfl, rfl⟩) rfl (fun a238 (HA238 : Env 80 [(38, .pointer (some ⟨g1, 38, none⟩)), (37, .bool false), (4, .slice (some ⟨gt57, 0, none⟩) 46 ct57), (1, .pointer (some ⟨g1, 0, none⟩))] a238) => ?_)
        clear HA237 a237
        refine wl_is HA238 [1, 2, 3] (v := .string (strB X.v)) (want_g rfl (t := 37) rfl (HA238.get 1 rfl) rfl) (dd_rn (dd_get HS56j 0 38 rfl rfl (HA238.ev 0 rfl) (ask_38 HOK) Tryd.underlying9 rfl) ⟨rfl, rfl⟩) rfl (fun a239 (HA239 : Env 80 [(39, .string (strB X.v)), (37, .bool false), (4, .slice (some ⟨gt57, 0, none⟩) 46 ct57), (1, .pointer (some ⟨g1, 0, none⟩))] a239) => ?_)
        clear HA238 a238
        refine wl_does HA239 [1, 2, 3] (R := fun v w9 => ∃ g40, v = .slice (some ⟨g40, 0, none⟩) 1 1 ∧ St w noF [⟨g1, 31, askC X⟩, ⟨gt57, 5, cbt57⟩, ⟨g40, 9, #[.string (strB X.v)]⟩] w9) (want_g rfl (t := 37) rfl (HA239.get 1 rfl) rfl) (dd_lits HS56j #[.string (strB X.v)] rfl (ps := [(0, .string (strB X.v))]) (pr1 (HA239.ev 0 rfl) (pr0)) (z := .string (⟨#[]⟩)) (sz := 1) Tryd.underlying58 (by kernel_rfl) rfl rfl (by kernel_rfl) (fun g9 w9 h9 => ⟨g9, rfl, h9⟩)) rfl ?_
        rintro _ W240 ⟨g40, rfl, HS240⟩ a240 (HA240 : Env 80 [(40, .slice (some ⟨g40, 0, none⟩) 1 1), (37, .bool false), (4, .slice (some ⟨gt57, 0, none⟩) 46 ct57), (1, .pointer (some ⟨g1, 0, none⟩))] a240)
        clear HA239 a239 HS56j
        cases hb242 : goodN X.v
        case false =>
          refine wl_is HA240 [1, 2, 3] (v := .bool false) (want_g rfl (t := 37) rfl (HA240.get 1 rfl) rfl) (dd_call Tryd.func20 (by kernel_rfl) (by kernel_rfl) rfl (args1 (HA240.ev 0 rfl)) (refgoodn_any [X.v] _ W240 (strs_row (HS240.row 2 rfl) HOK.v) (by unfold maxLen; simp)) (fun _ w9 h9 => ⟨_, h9.1, by rw [goodNs_one, hb242], h9.2.symm⟩)) rfl (fun a243 (HA243 : Env 80 [(41, .bool false), (37, .bool false), (4, .slice (some ⟨gt57, 0, none⟩) 46 ct57), (1, .pointer (some ⟨g1, 0, none⟩))] a243) => ?_)
          clear HA240 a240
          refine wl_is HA243 [1, 2, 3] (v := .bool true) (want_g rfl (t := 37) rfl (HA243.get 1 rfl) rfl) (dd_rn (dd_nt rfl (HA243.ev 0 rfl) rfl) ⟨rfl, rfl⟩) rfl (fun a244 (HA244 : Env 80 [(42, .bool true), (37, .bool false), (4, .slice (some ⟨gt57, 0, none⟩) 46 ct57), (1, .pointer (some ⟨g1, 0, none⟩))] a244) => ?_)
          clear HA243 a243
          refine wl_is HA244 [2, 3] (v := .bool true) (want_n rfl) (dd_rn (dd_pickF rfl (HA244.ev 1 rfl) (HA244.ev 0 rfl)) ⟨rfl, rfl⟩) rfl (fun a245 (HA245 : Env 80 [(43, .bool true), (4, .slice (some ⟨gt57, 0, none⟩) 46 ct57), (1, .pointer (some ⟨g1, 0, none⟩))] a245) => ?_)
          clear HA244 a244
          refine wl_is HA245 [1, 2] (v := .bool true) (want_n rfl) (dd_rn (dd_mv rfl (HA245.ev 0 rfl)) ⟨rfl, rfl⟩) rfl (fun a246 (HA246 : Env 80 [(44, .bool true), (4, .slice (some ⟨gt57, 0, none⟩) 46 ct57), (1, .pointer (some ⟨g1, 0, none⟩))] a246) => ?_)
          clear HA245 a245
          refine wl_skip HA246 [0, 1, 2] (want_g rfl (t := 44) rfl (HA246.get 0 rfl) rfl) rfl (fun a247 (HA247 : Env 80 [(45, undef), (44, .bool true), (4, .slice (some ⟨gt57, 0, none⟩) 46 ct57), (1, .pointer (some ⟨g1, 0, none⟩))] a247) => ?_)
          clear HA246 a246
          refine wl_skip HA247 [1, 2, 3] (want_g rfl (t := 44) rfl (HA247.get 1 rfl) rfl) rfl (fun a248 (HA248 : Env 80 [(46, undef), (44, .bool true), (4, .slice (some ⟨gt57, 0, none⟩) 46 ct57), (1, .pointer (some ⟨g1, 0, none⟩))] a248) => ?_)
          clear HA247 a247
          refine wl_skip HA248 [1, 2, 3] (want_g rfl (t := 44) rfl (HA248.get 1 rfl) rfl) rfl (fun a249 (HA249 : Env 80 [(47, undef), (44, .bool true), (4, .slice (some ⟨gt57, 0, none⟩) 46 ct57), (1, .pointer (some ⟨g1, 0, none⟩))] a249) => ?_)
          clear HA248 a248
          refine wl_is HA249 [2, 3] (v := .bool true) (want_n rfl) (dd_rn (dd_pickT rfl (HA249.ev 1 rfl) rfl) ⟨rfl, rfl⟩) rfl (fun a250 (HA250 : Env 80 [(48, .bool true), (4, .slice (some ⟨gt57, 0, none⟩) 46 ct57), (1, .pointer (some ⟨g1, 0, none⟩))] a250) => ?_)
          clear HA249 a249
          refine wl_is HA250 [1, 2] (v := .bool true) (want_n rfl) (dd_rn (dd_mv rfl (HA250.ev 0 rfl)) ⟨rfl, rfl⟩) rfl (fun a251 (HA251 : Env 80 [(49, .bool true), (4, .slice (some ⟨gt57, 0, none⟩) 46 ct57), (1, .pointer (some ⟨g1, 0, none⟩))] a251) => ?_)
          clear HA250 a250
          refine wl_skip HA251 [0, 1, 2] (want_g rfl (t := 49) rfl (HA251.get 0 rfl) rfl) rfl (fun a252 (HA252 : Env 80 [(50, undef), (49, .bool true), (4, .slice (some ⟨gt57, 0, none⟩) 46 ct57), (1, .pointer (some ⟨g1, 0, none⟩))] a252) => ?_)
          clear HA251 a251
          refine wl_skip HA252 [1, 2, 3] (want_g rfl (t := 49) rfl (HA252.get 1 rfl) rfl) rfl (fun a253 (HA253 : Env 80 [(51, undef), (49, .bool true), (4, .slice (some ⟨gt57, 0, none⟩) 46 ct57), (1, .pointer (some ⟨g1, 0, none⟩))] a253) => ?_)
          clear HA252 a252
          refine wl_skip HA253 [1, 2, 3] (want_g rfl (t := 49) rfl (HA253.get 1 rfl) rfl) rfl (fun a254 (HA254 : Env 80 [(52, undef), (49, .bool true), (4, .slice (some ⟨gt57, 0, none⟩) 46 ct57), (1, .pointer (some ⟨g1, 0, none⟩))] a254) => ?_)
          clear HA253 a253
          refine wl_is HA254 [2, 3] (v := .bool true) (want_n rfl) (dd_rn (dd_pickT rfl (HA254.ev 1 rfl) rfl) ⟨rfl, rfl⟩) rfl (fun a255 (HA255 : Env 80 [(53, .bool true), (4, .slice (some ⟨gt57, 0, none⟩) 46 ct57), (1, .pointer (some ⟨g1, 0, none⟩))] a255) => ?_)
          clear HA254 a254
          refine wpList_nil ?_
          refine nx ?_
          refine wp_cond_true (HA255.ev 0 rfl) ?_
          refine wp_seq ?_
          refine wp_region_lit ?_
          refine wl_is HA255 [] (v := .slice none 0 0) (want_n rfl) (dd_rn (dd_as rfl rfl) ⟨rfl, rfl⟩) rfl (fun a256 (HA256 : Env 80 [(2, .slice none 0 0)] a256) => ?_)
          clear HA255 a255
          refine wl_is HA256 [0] (v := .int .i64 11) (want_n rfl) (dd_rn (dd_as rfl rfl) ⟨rfl, rfl⟩) rfl (fun a257 (HA257 : Env 80 [(3, .int .i64 11), (2, .slice none 0 0)] a257) => ?_)
          clear HA256 a256
          refine wpList_nil ?_
          refine nx ?_
          refine wp_ret ?_
          refine tr ?_
          refine ret_run HA257 (res_tt Tryd.results9 (HA257.get 1 rfl) (HA257.get 0 rfl)) ?_
          exact .inl ⟨mayA_no (fun h => by obtain ⟨h1, h2, h3, h4, h5⟩ := h; rw [hb242] at h3; cases h3), rfl, HS240.below⟩
        case true =>
          refine wl_is HA240 [1, 2, 3] (v := .bool true) (want_g rfl (t := 37) rfl (HA240.get 1 rfl) rfl) (dd_call Tryd.func20 (by kernel_rfl) (by kernel_rfl) rfl (args1 (HA240.ev 0 rfl)) (refgoodn_any [X.v] _ W240 (strs_row (HS240.row 2 rfl) HOK.v) (by unfold maxLen; simp)) (fun _ w9 h9 => ⟨_, h9.1, by rw [goodNs_one, hb242], h9.2.symm⟩)) rfl (fun a258 (HA258 : Env 80 [(41, .bool true), (37, .bool false), (4, .slice (some ⟨gt57, 0, none⟩) 46 ct57), (1, .pointer (some ⟨g1, 0, none⟩))] a258) => ?_)
          clear HA240 a240
          refine wl_is HA258 [1, 2, 3] (v := .bool false) (want_g rfl (t := 37) rfl (HA258.get 1 rfl) rfl) (dd_rn (dd_nt rfl (HA258.ev 0 rfl) rfl) ⟨rfl, rfl⟩) rfl (fun a259 (HA259 : Env 80 [(42, .bool false), (37, .bool false), (4, .slice (some ⟨gt57, 0, none⟩) 46 ct57), (1, .pointer (some ⟨g1, 0, none⟩))] a259) => ?_)
          clear HA258 a258
          refine wl_is HA259 [2, 3] (v := .bool false) (want_n rfl) (dd_rn (dd_pickF rfl (HA259.ev 1 rfl) (HA259.ev 0 rfl)) ⟨rfl, rfl⟩) rfl (fun a260 (HA260 : Env 80 [(43, .bool false), (4, .slice (some ⟨gt57, 0, none⟩) 46 ct57), (1, .pointer (some ⟨g1, 0, none⟩))] a260) => ?_)
          clear HA259 a259
          refine wl_is HA260 [1, 2] (v := .bool false) (want_n rfl) (dd_rn (dd_mv rfl (HA260.ev 0 rfl)) ⟨rfl, rfl⟩) rfl (fun a261 (HA261 : Env 80 [(44, .bool false), (4, .slice (some ⟨gt57, 0, none⟩) 46 ct57), (1, .pointer (some ⟨g1, 0, none⟩))] a261) => ?_)
          clear HA260 a260
          refine wl_is HA261 [0, 1, 2] (v := .pointer (some ⟨g1, 39, none⟩)) (want_g rfl (t := 44) rfl (HA261.get 0 rfl) rfl) (dd_rn (dd_field (off := 39) (j := 39) rfl (HA261.ev 2 rfl) (by kernel_rfl) rfl) ⟨rfl, rfl⟩) rfl (fun a262 (HA262 : Env 80 [(45, .pointer (some ⟨g1, 39, none⟩)), (44, .bool false), (4, .slice (some ⟨gt57, 0, none⟩) 46 ct57), (1, .pointer (some ⟨g1, 0, none⟩))] a262) => ?_)
          clear HA261 a261
          refine wl_is HA262 [1, 2, 3] (v := .int .i64 X.z) (want_g rfl (t := 44) rfl (HA262.get 1 rfl) rfl) (dd_rn (dd_get HS240 0 39 rfl rfl (HA262.ev 0 rfl) (ask_39 HOK) Tryd.underlying3 rfl) ⟨rfl, rfl⟩) rfl (fun a263 (HA263 : Env 80 [(46, .int .i64 X.z), (44, .bool false), (4, .slice (some ⟨gt57, 0, none⟩) 46 ct57), (1, .pointer (some ⟨g1, 0, none⟩))] a263) => ?_)
          clear HA262 a262
          by_cases hc265 : (X.z : Int) < 0
          · skip
            refine wl_is HA263 [1, 2, 3] (v := .bool true) (want_g rfl (t := 44) rfl (HA263.get 1 rfl) rfl) (dd_rn (dd_cmp rfl (HA263.ev 0 rfl) rfl (lt_t hc265)) ⟨rfl, rfl⟩) rfl (fun a266 (HA266 : Env 80 [(47, .bool true), (44, .bool false), (4, .slice (some ⟨gt57, 0, none⟩) 46 ct57), (1, .pointer (some ⟨g1, 0, none⟩))] a266) => ?_)
            clear HA263 a263
            refine wl_is HA266 [2, 3] (v := .bool true) (want_n rfl) (dd_rn (dd_pickF rfl (HA266.ev 1 rfl) (HA266.ev 0 rfl)) ⟨rfl, rfl⟩) rfl (fun a267 (HA267 : Env 80 [(48, .bool true), (4, .slice (some ⟨gt57, 0, none⟩) 46 ct57), (1, .pointer (some ⟨g1, 0, none⟩))] a267) => ?_)
            clear HA266 a266
            refine wl_is HA267 [1, 2] (v := .bool true) (want_n rfl) (dd_rn (dd_mv rfl (HA267.ev 0 rfl)) ⟨rfl, rfl⟩) rfl (fun a268 (HA268 : Env 80 [(49, .bool true), (4, .slice (some ⟨gt57, 0, none⟩) 46 ct57), (1, .pointer (some ⟨g1, 0, none⟩))] a268) => ?_)
            clear HA267 a267
            refine wl_skip HA268 [0, 1, 2] (want_g rfl (t := 49) rfl (HA268.get 0 rfl) rfl) rfl (fun a269 (HA269 : Env 80 [(50, undef), (49, .bool true), (4, .slice (some ⟨gt57, 0, none⟩) 46 ct57), (1, .pointer (some ⟨g1, 0, none⟩))] a269) => ?_)
            clear HA268 a268
            refine wl_skip HA269 [1, 2, 3] (want_g rfl (t := 49) rfl (HA269.get 1 rfl) rfl) rfl (fun a270 (HA270 : Env 80 [(51, undef), (49, .bool true), (4, .slice (some ⟨gt57, 0, none⟩) 46 ct57), (1, .pointer (some ⟨g1, 0, none⟩))] a270) => ?_)
            clear HA269 a269
            refine wl_skip HA270 [1, 2, 3] (want_g rfl (t := 49) rfl (HA270.get 1 rfl) rfl) rfl (fun a271 (HA271 : Env 80 [(52, undef), (49, .bool true), (4, .slice (some ⟨gt57, 0, none⟩) 46 ct57), (1, .pointer (some ⟨g1, 0, none⟩))] a271) => ?_)
            clear HA270 a270
            refine wl_is HA271 [2, 3] (v := .bool true) (want_n rfl) (dd_rn (dd_pickT rfl (HA271.ev 1 rfl) rfl) ⟨rfl, rfl⟩) rfl (fun a272 (HA272 : Env 80 [(53, .bool true), (4, .slice (some ⟨gt57, 0, none⟩) 46 ct57), (1, .pointer (some ⟨g1, 0, none⟩))] a272) => ?_)
            clear HA271 a271
            refine wpList_nil ?_
            refine nx ?_
            refine wp_cond_true (HA272.ev 0 rfl) ?_
            refine wp_seq ?_
            refine wp_region_lit ?_
            refine wl_is HA272 [] (v := .slice none 0 0) (want_n rfl) (dd_rn (dd_as rfl rfl) ⟨rfl, rfl⟩) rfl (fun a273 (HA273 : Env 80 [(2, .slice none 0 0)] a273) => ?_)
            clear HA272 a272
            refine wl_is HA273 [0] (v := .int .i64 11) (want_n rfl) (dd_rn (dd_as rfl rfl) ⟨rfl, rfl⟩) rfl (fun a274 (HA274 : Env 80 [(3, .int .i64 11), (2, .slice none 0 0)] a274) => ?_)
            clear HA273 a273
            refine wpList_nil ?_
            refine nx ?_
            refine wp_ret ?_
            refine tr ?_
            refine ret_run HA274 (res_tt Tryd.results9 (HA274.get 1 rfl) (HA274.get 0 rfl)) ?_
            exact .inl ⟨mayA_no (fun h => by obtain ⟨h1, h2, h3, h4, h5⟩ := h; omega), rfl, HS240.below⟩
          · skip
            refine wl_is HA263 [1, 2, 3] (v := .bool false) (want_g rfl (t := 44) rfl (HA263.get 1 rfl) rfl) (dd_rn (dd_cmp rfl (HA263.ev 0 rfl) rfl (lt_f hc265)) ⟨rfl, rfl⟩) rfl (fun a275 (HA275 : Env 80 [(47, .bool false), (44, .bool false), (4, .slice (some ⟨gt57, 0, none⟩) 46 ct57), (1, .pointer (some ⟨g1, 0, none⟩))] a275) => ?_)
            clear HA263 a263
            refine wl_is HA275 [2, 3] (v := .bool false) (want_n rfl) (dd_rn (dd_pickF rfl (HA275.ev 1 rfl) (HA275.ev 0 rfl)) ⟨rfl, rfl⟩) rfl (fun a276 (HA276 : Env 80 [(48, .bool false), (4, .slice (some ⟨gt57, 0, none⟩) 46 ct57), (1, .pointer (some ⟨g1, 0, none⟩))] a276) => ?_)
            clear HA275 a275
            refine wl_is HA276 [1, 2] (v := .bool false) (want_n rfl) (dd_rn (dd_mv rfl (HA276.ev 0 rfl)) ⟨rfl, rfl⟩) rfl (fun a277 (HA277 : Env 80 [(49, .bool false), (4, .slice (some ⟨gt57, 0, none⟩) 46 ct57), (1, .pointer (some ⟨g1, 0, none⟩))] a277) => ?_)
            clear HA276 a276
            refine wl_is HA277 [0, 1, 2] (v := .pointer (some ⟨g1, 39, none⟩)) (want_g rfl (t := 49) rfl (HA277.get 0 rfl) rfl) (dd_rn (dd_field (off := 39) (j := 39) rfl (HA277.ev 2 rfl) (by kernel_rfl) rfl) ⟨rfl, rfl⟩) rfl (fun a278 (HA278 : Env 80 [(50, .pointer (some ⟨g1, 39, none⟩)), (49, .bool false), (4, .slice (some ⟨gt57, 0, none⟩) 46 ct57), (1, .pointer (some ⟨g1, 0, none⟩))] a278) => ?_)
            clear HA277 a277
            refine wl_is HA278 [1, 2, 3] (v := .int .i64 X.z) (want_g rfl (t := 49) rfl (HA278.get 1 rfl) rfl) (dd_rn (dd_get HS240 0 39 rfl rfl (HA278.ev 0 rfl) (ask_39 HOK) Tryd.underlying3 rfl) ⟨rfl, rfl⟩) rfl (fun a279 (HA279 : Env 80 [(51, .int .i64 X.z), (49, .bool false), (4, .slice (some ⟨gt57, 0, none⟩) 46 ct57), (1, .pointer (some ⟨g1, 0, none⟩))] a279) => ?_)
            clear HA278 a278
            by_cases hc281 : (255 : Int) < X.z
            · skip
              refine wl_is HA279 [1, 2, 3] (v := .bool true) (want_g rfl (t := 49) rfl (HA279.get 1 rfl) rfl) (dd_rn (dd_cmp rfl (HA279.ev 0 rfl) rfl (gt_t hc281)) ⟨rfl, rfl⟩) rfl (fun a282 (HA282 : Env 80 [(52, .bool true), (49, .bool false), (4, .slice (some ⟨gt57, 0, none⟩) 46 ct57), (1, .pointer (some ⟨g1, 0, none⟩))] a282) => ?_)
              clear HA279 a279
              refine wl_is HA282 [2, 3] (v := .bool true) (want_n rfl) (dd_rn (dd_pickF rfl (HA282.ev 1 rfl) (HA282.ev 0 rfl)) ⟨rfl, rfl⟩) rfl (fun a283 (HA283 : Env 80 [(53, .bool true), (4, .slice (some ⟨gt57, 0, none⟩) 46 ct57), (1, .pointer (some ⟨g1, 0, none⟩))] a283) => ?_)
              clear HA282 a282
              refine wpList_nil ?_
              refine nx ?_
              refine wp_cond_true (HA283.ev 0 rfl) ?_
              refine wp_seq ?_
              refine wp_region_lit ?_
              refine wl_is HA283 [] (v := .slice none 0 0) (want_n rfl) (dd_rn (dd_as rfl rfl) ⟨rfl, rfl⟩) rfl (fun a284 (HA284 : Env 80 [(2, .slice none 0 0)] a284) => ?_)
              clear HA283 a283
              refine wl_is HA284 [0] (v := .int .i64 11) (want_n rfl) (dd_rn (dd_as rfl rfl) ⟨rfl, rfl⟩) rfl (fun a285 (HA285 : Env 80 [(3, .int .i64 11), (2, .slice none 0 0)] a285) => ?_)
              clear HA284 a284
              refine wpList_nil ?_
              refine nx ?_
              refine wp_ret ?_
              refine tr ?_
              refine ret_run HA285 (res_tt Tryd.results9 (HA285.get 1 rfl) (HA285.get 0 rfl)) ?_
              exact .inl ⟨mayA_no (fun h => by obtain ⟨h1, h2, h3, h4, h5⟩ := h; omega), rfl, HS240.below⟩
            · skip
              refine wl_is HA279 [1, 2, 3] (v := .bool false) (want_g rfl (t := 49) rfl (HA279.get 1 rfl) rfl) (dd_rn (dd_cmp rfl (HA279.ev 0 rfl) rfl (gt_f hc281)) ⟨rfl, rfl⟩) rfl (fun a286 (HA286 : Env 80 [(52, .bool false), (49, .bool false), (4, .slice (some ⟨gt57, 0, none⟩) 46 ct57), (1, .pointer (some ⟨g1, 0, none⟩))] a286) => ?_)
              clear HA279 a279
              refine wl_is HA286 [2, 3] (v := .bool false) (want_n rfl) (dd_rn (dd_pickF rfl (HA286.ev 1 rfl) (HA286.ev 0 rfl)) ⟨rfl, rfl⟩) rfl (fun a287 (HA287 : Env 80 [(53, .bool false), (4, .slice (some ⟨gt57, 0, none⟩) 46 ct57), (1, .pointer (some ⟨g1, 0, none⟩))] a287) => ?_)
              clear HA286 a286
              refine wpList_nil ?_
              refine nx ?_
              refine wp_cond_false (HA287.ev 0 rfl) ?_
              refine wp_skip ?_
              refine nx ?_
              refine wp_seq ?_
              refine wp_region_lit ?_
              refine wl_is HA287 [1, 2] (v := .pointer (some ⟨g1, 38, none⟩)) (want_n rfl) (dd_rn (dd_field (off := 38) (j := 38) rfl (HA287.ev 2 rfl) (by kernel_rfl) rfl) ⟨rfl, rfl⟩) rfl (fun a288 (HA288 : Env 80 [(54, .pointer (some ⟨g1, 38, none⟩)), (4, .slice (some ⟨gt57, 0, none⟩) 46 ct57), (1, .pointer (some ⟨g1, 0, none⟩))] a288) => ?_)
              clear HA287 a287
              refine wl_is HA288 [1, 2] (v := .string (strB X.v)) (want_n rfl) (dd_rn (dd_get HS240 0 38 rfl rfl (HA288.ev 0 rfl) (ask_38 HOK) Tryd.underlying9 rfl) ⟨rfl, rfl⟩) rfl (fun a289 (HA289 : Env 80 [(55, .string (strB X.v)), (4, .slice (some ⟨gt57, 0, none⟩) 46 ct57), (1, .pointer (some ⟨g1, 0, none⟩))] a289) => ?_)
              clear HA288 a288
              refine wl_does HA289 [1, 2] (R := fun v w9 => v = .agg (bs (padN X.v)) ∧ Below W240.heap.size W240 w9) (want_n rfl) (dd_call Tryd.func21 (by kernel_rfl) (by kernel_rfl) rfl (args1 (HA289.ev 0 rfl)) (refpad_any X.v W240 HOK.v) (fun _ w9 h9 => ⟨_, h9.1, rfl, h9.2⟩)) rfl ?_
              rintro _ W290 ⟨rfl, hb290⟩ a290 (HA290 : Env 80 [(56, .agg (bs (padN X.v))), (4, .slice (some ⟨gt57, 0, none⟩) 46 ct57), (1, .pointer (some ⟨g1, 0, none⟩))] a290)
              have HS290 := HS240.same hb290
              clear HA289 a289
              clear HS240 hb290
              refine wl_does HA290 [0, 1, 2] (R := fun v w9 => ∃ g6, v = .pointer (some ⟨g6, 0, none⟩) ∧ St w noF [⟨g1, 31, askC X⟩, ⟨gt57, 5, cbt57⟩, ⟨g40, 9, #[.string (strB X.v)]⟩, ⟨g6, 50, bs (zer 4)⟩] w9) (want_n rfl) (dd_new HS290 (bs (zer 4)) rfl (z := .agg (bs (zer 4))) (by kernel_rfl) rfl (fun g9 w9 h9 => ⟨g9, rfl, h9⟩)) rfl ?_
              rintro _ W291 ⟨g6, rfl, HS291⟩ a291 (HA291 : Env 80 [(6, .pointer (some ⟨g6, 0, none⟩)), (56, .agg (bs (padN X.v))), (4, .slice (some ⟨gt57, 0, none⟩) 46 ct57), (1, .pointer (some ⟨g1, 0, none⟩))] a291)
              clear HA290 a290 HS290
              refine wl_does HA291 [0, 2, 3] (R := fun v9 w9 => St w noF [⟨g1, 31, askC X⟩, ⟨gt57, 5, cbt57⟩, ⟨g40, 9, #[.string (strB X.v)]⟩, ⟨g6, 50, bs (padN X.v)⟩] w9) (want_n rfl) (dd_setrow HS291 3 rfl rfl (HA291.ev 0 rfl) (HA291.ev 1 rfl) (by kernel_rfl) (((size_bs _).trans (length_padN _)) : (bs (padN X.v)).size = 4) (((size_bs _).trans (length_zer 4)) : (bs (zer 4)).size = 4) (one_bs _) (fun w9 h9 => h9)) rfl ?_
              rintro _ W292 HS292 a292 (HA292 : Env 80 [(6, .pointer (some ⟨g6, 0, none⟩)), (4, .slice (some ⟨gt57, 0, none⟩) 46 ct57), (1, .pointer (some ⟨g1, 0, none⟩))] a292)
              clear HA291 a291 HS291
              refine wpList_nil ?_
              refine nx ?_
              refine wp_seq ?_
              refine wp_region_lit ?_
              refine wl_is HA292 [0, 1, 2] (v := .pointer (some ⟨g1, 0, none⟩)) (want_n rfl) (dd_rn (dd_field (off := 0) (j := 0) rfl (HA292.ev 2 rfl) (by kernel_rfl) rfl) ⟨rfl, rfl⟩) rfl (fun a293 (HA293 : Env 80 [(57, .pointer (some ⟨g1, 0, none⟩)), (6, .pointer (some ⟨g6, 0, none⟩)), (4, .slice (some ⟨gt57, 0, none⟩) 46 ct57), (1, .pointer (some ⟨g1, 0, none⟩))] a293) => ?_)
              clear HA292 a292
              refine wl_is HA293 [1, 2, 3] (v := .int .i64 X.k) (want_n rfl) (dd_rn (dd_get HS292 0 0 rfl rfl (HA293.ev 0 rfl) rfl Tryd.underlying3 rfl) ⟨rfl, rfl⟩) rfl (fun a294 (HA294 : Env 80 [(58, .int .i64 X.k), (6, .pointer (some ⟨g6, 0, none⟩)), (4, .slice (some ⟨gt57, 0, none⟩) 46 ct57), (1, .pointer (some ⟨g1, 0, none⟩))] a294) => ?_)
              clear HA293 a293
              refine wl_is HA294 [1, 2, 3] (v := .int .u8 (bd (byteI X.k))) (want_n rfl) (dd_rn (dd_conv (k := .u8) rfl (HA294.ev 0 rfl) Tryd.underlying3 (by kernel_rfl) (wrap_u8_bd _)) ⟨rfl, rfl⟩) rfl (fun a295 (HA295 : Env 80 [(59, .int .u8 (bd (byteI X.k))), (6, .pointer (some ⟨g6, 0, none⟩)), (4, .slice (some ⟨gt57, 0, none⟩) 46 ct57), (1, .pointer (some ⟨g1, 0, none⟩))] a295) => ?_)
              clear HA294 a294
              refine wl_does HA295 [1, 2, 3] (R := fun v w9 => ∃ g60, v = .slice (some ⟨g60, 0, none⟩) 1 1 ∧ St w noF [⟨g1, 31, askC X⟩, ⟨gt57, 5, cbt57⟩, ⟨g40, 9, #[.string (strB X.v)]⟩, ⟨g6, 50, bs (padN X.v)⟩, ⟨g60, 5, #[.int .u8 (bd (byteI X.k))]⟩] w9) (want_n rfl) (dd_lits HS292 #[.int .u8 (bd (byteI X.k))] rfl (ps := [(0, .int .u8 (bd (byteI X.k)))]) (pr1 (HA295.ev 0 rfl) (pr0)) (z := .int .u8 0) (sz := 1) Tryd.underlying32 (by kernel_rfl) rfl rfl (by kernel_rfl) (fun g9 w9 h9 => ⟨g9, rfl, h9⟩)) rfl ?_
              rintro _ W296 ⟨g60, rfl, HS296⟩ a296 (HA296 : Env 80 [(60, .slice (some ⟨g60, 0, none⟩) 1 1), (6, .pointer (some ⟨g6, 0, none⟩)), (4, .slice (some ⟨gt57, 0, none⟩) 46 ct57), (1, .pointer (some ⟨g1, 0, none⟩))] a296)
              clear HA295 a295 HS292
              refine wl_is HA296 [0, 1, 3] (v := .slice (some ⟨gt57, 0, none⟩) 46 ct57) (want_n rfl) (dd_rn (dd_mv rfl (HA296.ev 2 rfl)) ⟨rfl, rfl⟩) rfl (fun a297 (HA297 : Env 80 [(61, .slice (some ⟨gt57, 0, none⟩) 46 ct57), (60, .slice (some ⟨g60, 0, none⟩) 1 1), (6, .pointer (some ⟨g6, 0, none⟩)), (1, .pointer (some ⟨g1, 0, none⟩))] a297) => ?_)
              clear HA296 a296
              refine wl_does HA297 [2, 3] (R := fun v w9 => ∃ g62_299 c62_299 cb62_299, v = .slice (some ⟨g62_299, 0, none⟩) 47 c62_299 ∧ OwnC cb62_299 c62_299 47 1 (bytesV (([(byteI X.k)]) ++ (clmB X.c ++ X.t))) ∧ St w noF [⟨g1, 31, askC X⟩, ⟨gt57, 5, cbt57⟩, ⟨g40, 9, #[.string (strB X.v)]⟩, ⟨g6, 50, bs (padN X.v)⟩, ⟨g62_299, 5, cb62_299⟩] w9) (want_n rfl) (dd_appB HS296 4 rfl (⟨Nat.le_refl _, by decide, rfl, rfl, rfl⟩ : OwnC #[.int .u8 (bd (byteI X.k))] 1 1 1 (bytesV [(byteI X.k)])) rfl (HA297.ev 1 rfl) (HA297.ev 0 rfl) (slice_own (HS296.row 1 rfl) Ot57 HCT) (fun h9 => by cases h9) rfl rfl (by unfold maxLen; omega) (by omega) (fun g9 c9 cb9 w9 o9 h9 => ⟨g9, c9, cb9, rfl, o9, h9⟩)) rfl ?_
              rintro _ W298 ⟨g62_299, c62_299, cb62_299, rfl, O62_299, HS298⟩ a298 (HA298 : Env 80 [(62, .slice (some ⟨g62_299, 0, none⟩) 47 c62_299), (6, .pointer (some ⟨g6, 0, none⟩)), (1, .pointer (some ⟨g1, 0, none⟩))] a298)
              clear HA297 a297 HS296
              refine wl_is HA298 [1, 2] (v := .slice (some ⟨g62_299, 0, none⟩) 47 c62_299) (want_n rfl) (dd_rn (dd_as rfl (HA298.ev 0 rfl)) ⟨rfl, rfl⟩) rfl (fun a300 (HA300 : Env 80 [(7, .slice (some ⟨g62_299, 0, none⟩) 47 c62_299), (6, .pointer (some ⟨g6, 0, none⟩)), (1, .pointer (some ⟨g1, 0, none⟩))] a300) => ?_)
              clear HA298 a298
              refine wpList_nil ?_
              refine nx ?_
              refine wp_seq ?_
              refine wp_cut (fun a9 w9 => ∃ g70_311 : Nat, ∃ c70_311 : Nat, ∃ g69 : Nat, ∃ cb70_311 : Array Value, OwnC cb70_311 c70_311 52 1 (bytesV (((([(byteI X.k)]) ++ (clmB X.c ++ X.t)) ++ (padN X.v)) ++ ([(byteI X.z)]))) ∧ Env 80 [(7, .slice (some ⟨g70_311, 0, none⟩) 52 c70_311), (1, .pointer (some ⟨g1, 0, none⟩))] a9 ∧ St w noF [⟨g1, 31, askC X⟩, ⟨gt57, 5, cbt57⟩, ⟨g40, 9, #[.string (strB X.v)]⟩, ⟨g6, 50, bs (padN X.v)⟩, ⟨g69, 5, #[.int .u8 (bd (byteI X.z))]⟩, ⟨g70_311, 5, cb70_311⟩] w9) ?_ ?_
              · skip
                refine wp_held (fun W => ∃ R9, St w noF (⟨g1, 31, askC X⟩ :: ⟨g40, 9, #[.string (strB X.v)]⟩ :: ⟨g6, 50, bs (padN X.v)⟩ :: R9) W) (by kernel_rfl) rfl ?_
                have HSh301 := HS298.drew
                clear HS298
                refine ha_take HA300 [0, 1, 2] (i := 0) (.slice (some ⟨g62_299, 0, none⟩) 47 c62_299) rfl (by kernel_rfl) (by kernel_rfl) (by kernel_rfl) (pq_then (pq_then pq_body)) (want_n rfl) (fun w9 ⟨R9, HS9⟩ => dd_mv rfl (HA300.ev 0 rfl)) ⟨_, st_sel HSh301 [0, 2, 3, 1, 4] (by decide)⟩ rfl (fun a302 (HA302 : Env 80 [(63, .slice (some ⟨g62_299, 0, none⟩) 47 c62_299), (7, .slice (some ⟨g62_299, 0, none⟩) 47 c62_299), (6, .pointer (some ⟨g6, 0, none⟩)), (1, .pointer (some ⟨g1, 0, none⟩))] a302) => ?_)
                clear HA300 a300
                refine ha_take HA302 [0, 1, 3] (i := 1) (.slice (some ⟨g6, 0, none⟩) 4 4) rfl (by kernel_rfl) (by kernel_rfl) (by kernel_rfl) (pq_then (pq_then pq_body)) (want_n rfl) (fun w9 ⟨R9, HS9⟩ => dd_slA (n := 4) (sz := 1) rfl (HA302.ev 2 rfl) (by kernel_rfl)) ⟨_, st_sel HSh301 [0, 2, 3, 1, 4] (by decide)⟩ rfl (fun a303 (HA303 : Env 80 [(64, .slice (some ⟨g6, 0, none⟩) 4 4), (63, .slice (some ⟨g62_299, 0, none⟩) 47 c62_299), (7, .slice (some ⟨g62_299, 0, none⟩) 47 c62_299), (1, .pointer (some ⟨g1, 0, none⟩))] a303) => ?_)
                clear HA302 a302
                refine ha_take HA303 [0, 1, 2, 3] (i := 3) (.pointer (some ⟨g1, 39, none⟩)) rfl (by kernel_rfl) (by kernel_rfl) (by kernel_rfl) (pq_then (pq_then pq_body)) (want_n rfl) (fun w9 ⟨R9, HS9⟩ => dd_field (off := 39) (j := 39) rfl (HA303.ev 3 rfl) (by kernel_rfl) rfl) ⟨_, st_sel HSh301 [0, 2, 3, 1, 4] (by decide)⟩ rfl (fun a304 (HA304 : Env 80 [(66, .pointer (some ⟨g1, 39, none⟩)), (64, .slice (some ⟨g6, 0, none⟩) 4 4), (63, .slice (some ⟨g62_299, 0, none⟩) 47 c62_299), (7, .slice (some ⟨g62_299, 0, none⟩) 47 c62_299), (1, .pointer (some ⟨g1, 0, none⟩))] a304) => ?_)
                clear HA303 a303
                refine ha_take HA304 [1, 2, 3, 4] (i := 4) (.int .i64 X.z) rfl (by kernel_rfl) (by kernel_rfl) (by kernel_rfl) (pq_then (pq_then pq_body)) (want_n rfl) (fun w9 ⟨R9, HS9⟩ => dd_get HS9 0 39 rfl rfl (HA304.ev 0 rfl) (ask_39 HOK) Tryd.underlying3 rfl) ⟨_, st_sel HSh301 [0, 2, 3, 1, 4] (by decide)⟩ rfl (fun a305 (HA305 : Env 80 [(67, .int .i64 X.z), (64, .slice (some ⟨g6, 0, none⟩) 4 4), (63, .slice (some ⟨g62_299, 0, none⟩) 47 c62_299), (7, .slice (some ⟨g62_299, 0, none⟩) 47 c62_299), (1, .pointer (some ⟨g1, 0, none⟩))] a305) => ?_)
                clear HA304 a304
                refine ha_take HA305 [1, 2, 3, 4] (i := 5) (.int .u8 (bd (byteI X.z))) rfl (by kernel_rfl) (by kernel_rfl) (by kernel_rfl) (pq_then (pq_then pq_body)) (want_n rfl) (fun w9 ⟨R9, HS9⟩ => dd_conv (k := .u8) rfl (HA305.ev 0 rfl) Tryd.underlying3 (by kernel_rfl) (wrap_u8_bd _)) ⟨_, st_sel HSh301 [0, 2, 3, 1, 4] (by decide)⟩ rfl (fun a306 (HA306 : Env 80 [(68, .int .u8 (bd (byteI X.z))), (64, .slice (some ⟨g6, 0, none⟩) 4 4), (63, .slice (some ⟨g62_299, 0, none⟩) 47 c62_299), (7, .slice (some ⟨g62_299, 0, none⟩) 47 c62_299), (1, .pointer (some ⟨g1, 0, none⟩))] a306) => ?_)
                clear HA305 a305
                refine wpAnyH_all (rs := [2, 6]) (by kernel_rfl) (by decide) (hm_cons ?_ (hm_cons ?_ hm_nil))
                · skip
                  refine ho_does HA306 [0, 3, 4] (R := fun v w9 => ∃ g65_308 c65_308 cb65_308, v = .slice (some ⟨g65_308, 0, none⟩) 51 c65_308 ∧ OwnC cb65_308 c65_308 51 1 (bytesV ((([(byteI X.k)]) ++ (clmB X.c ++ X.t)) ++ (padN X.v))) ∧ St w noF [⟨g1, 31, askC X⟩, ⟨gt57, 5, cbt57⟩, ⟨g40, 9, #[.string (strB X.v)]⟩, ⟨g6, 50, bs (padN X.v)⟩, ⟨g65_308, 5, cb65_308⟩] w9) rfl (want_n rfl) (dd_appB HSh301 4 rfl O62_299 rfl (HA306.ev 2 rfl) (HA306.ev 1 rfl) (slice_part (HSh301.row 3 rfl) 0 (bytes_slab (slab_whole _)) (length_padN _) (by decide)) (fun h9 => by cases h9) rfl rfl (by unfold maxLen; omega) (by omega) (fun g9 c9 cb9 w9 o9 h9 => ⟨g9, c9, cb9, rfl, o9, h9⟩)) rfl ?_
                  rintro _ W307 ⟨g65_308, c65_308, cb65_308, rfl, O65_308, HS307⟩ a307 (HA307 : Env 80 [(65, .slice (some ⟨g65_308, 0, none⟩) 51 c65_308), (68, .int .u8 (bd (byteI X.z))), (7, .slice (some ⟨g62_299, 0, none⟩) 47 c62_299), (1, .pointer (some ⟨g1, 0, none⟩))] a307)
                  clear HA306 a306 HSh301
                  refine ⟨⟨_, st_sel HS307 [0, 2, 3, 1, 4] (by decide)⟩, ?_⟩
                  refine wpAnyH_all (rs := [6]) (by kernel_rfl) (by decide) (hm_cons ?_ hm_nil)
                  · skip
                    refine ho_does HA307 [0, 2, 3] (R := fun v w9 => ∃ g69, v = .slice (some ⟨g69, 0, none⟩) 1 1 ∧ St w noF [⟨g1, 31, askC X⟩, ⟨gt57, 5, cbt57⟩, ⟨g40, 9, #[.string (strB X.v)]⟩, ⟨g6, 50, bs (padN X.v)⟩, ⟨g65_308, 5, cb65_308⟩, ⟨g69, 5, #[.int .u8 (bd (byteI X.z))]⟩] w9) rfl (want_n rfl) (dd_lits HS307 #[.int .u8 (bd (byteI X.z))] rfl (ps := [(0, .int .u8 (bd (byteI X.z)))]) (pr1 (HA307.ev 1 rfl) (pr0)) (z := .int .u8 0) (sz := 1) Tryd.underlying32 (by kernel_rfl) rfl rfl (by kernel_rfl) (fun g9 w9 h9 => ⟨g9, rfl, h9⟩)) rfl ?_
                    rintro _ W309 ⟨g69, rfl, HS309⟩ a309 (HA309 : Env 80 [(69, .slice (some ⟨g69, 0, none⟩) 1 1), (65, .slice (some ⟨g65_308, 0, none⟩) 51 c65_308), (7, .slice (some ⟨g62_299, 0, none⟩) 47 c62_299), (1, .pointer (some ⟨g1, 0, none⟩))] a309)
                    clear HA307 a307 HS307
                    refine ⟨⟨_, st_sel HS309 [0, 2, 3, 1, 4, 5] (by decide)⟩, ?_⟩
                    refine wpAnyH_all (rs := [7]) (by kernel_rfl) (by decide) (hm_cons ?_ hm_nil)
                    · skip
                      refine ho_does HA309 [2, 3] (R := fun v w9 => ∃ g70_311 c70_311 cb70_311, v = .slice (some ⟨g70_311, 0, none⟩) 52 c70_311 ∧ OwnC cb70_311 c70_311 52 1 (bytesV (((([(byteI X.k)]) ++ (clmB X.c ++ X.t)) ++ (padN X.v)) ++ ([(byteI X.z)]))) ∧ St w noF [⟨g1, 31, askC X⟩, ⟨gt57, 5, cbt57⟩, ⟨g40, 9, #[.string (strB X.v)]⟩, ⟨g6, 50, bs (padN X.v)⟩, ⟨g69, 5, #[.int .u8 (bd (byteI X.z))]⟩, ⟨g70_311, 5, cb70_311⟩] w9) rfl (want_n rfl) (dd_appB HS309 4 rfl O65_308 rfl (HA309.ev 1 rfl) (HA309.ev 0 rfl) (slice_own (HS309.row 5 rfl) (⟨Nat.le_refl _, by decide, rfl, rfl, rfl⟩ : OwnC #[.int .u8 (bd (byteI X.z))] 1 1 1 (bytesV [(byteI X.z)])) rfl) (fun h9 => by cases h9) rfl rfl (by unfold maxLen; omega) (by omega) (fun g9 c9 cb9 w9 o9 h9 => ⟨g9, c9, cb9, rfl, o9, h9⟩)) rfl ?_
                      rintro _ W310 ⟨g70_311, c70_311, cb70_311, rfl, O70_311, HS310⟩ a310 (HA310 : Env 80 [(70, .slice (some ⟨g70_311, 0, none⟩) 52 c70_311), (7, .slice (some ⟨g62_299, 0, none⟩) 47 c62_299), (1, .pointer (some ⟨g1, 0, none⟩))] a310)
                      clear HA309 a309 HS309
                      refine ⟨⟨_, st_sel HS310 [0, 2, 3, 1, 4, 5] (by decide)⟩, ?_⟩
                      refine ha_take HA310 [2] (i := 8) (.slice (some ⟨g70_311, 0, none⟩) 52 c70_311) rfl (by kernel_rfl) (by kernel_rfl) (by kernel_rfl) (pq_then (pq_then pq_body)) (want_n rfl) (fun w9 ⟨R9, HS9⟩ => dd_as rfl (HA310.ev 0 rfl)) ⟨_, st_sel HS310 [0, 2, 3, 1, 4, 5] (by decide)⟩ rfl (fun a312 (HA312 : Env 80 [(7, .slice (some ⟨g70_311, 0, none⟩) 52 c70_311), (1, .pointer (some ⟨g1, 0, none⟩))] a312) => ?_)
                      clear HA310 a310
                      refine wpAnyH_done (by kernel_rfl) ?_ _
                      exact nx ⟨g70_311, c70_311, _, cb70_311, O70_311, HA312.keep [0, 1], st_sel HS310 [0, 1, 2, 3, 4, 5] (by decide)⟩
                · skip
                  refine ho_does HA306 [1, 2, 3, 4] (R := fun v w9 => ∃ g69, v = .slice (some ⟨g69, 0, none⟩) 1 1 ∧ St w noF [⟨g1, 31, askC X⟩, ⟨gt57, 5, cbt57⟩, ⟨g40, 9, #[.string (strB X.v)]⟩, ⟨g6, 50, bs (padN X.v)⟩, ⟨g62_299, 5, cb62_299⟩, ⟨g69, 5, #[.int .u8 (bd (byteI X.z))]⟩] w9) rfl (want_n rfl) (dd_lits HSh301 #[.int .u8 (bd (byteI X.z))] rfl (ps := [(0, .int .u8 (bd (byteI X.z)))]) (pr1 (HA306.ev 0 rfl) (pr0)) (z := .int .u8 0) (sz := 1) Tryd.underlying32 (by kernel_rfl) rfl rfl (by kernel_rfl) (fun g9 w9 h9 => ⟨g9, rfl, h9⟩)) rfl ?_
                  rintro _ W313 ⟨g69, rfl, HS313⟩ a313 (HA313 : Env 80 [(69, .slice (some ⟨g69, 0, none⟩) 1 1), (64, .slice (some ⟨g6, 0, none⟩) 4 4), (63, .slice (some ⟨g62_299, 0, none⟩) 47 c62_299), (7, .slice (some ⟨g62_299, 0, none⟩) 47 c62_299), (1, .pointer (some ⟨g1, 0, none⟩))] a313)
                  clear HA306 a306 HSh301
                  refine ⟨⟨_, st_sel HS313 [0, 2, 3, 1, 4, 5] (by decide)⟩, ?_⟩
                  refine wpAnyH_all (rs := [2]) (by kernel_rfl) (by decide) (hm_cons ?_ hm_nil)
                  · skip
                    refine ho_does HA313 [0, 3, 4] (R := fun v w9 => ∃ g65_315 c65_315 cb65_315, v = .slice (some ⟨g65_315, 0, none⟩) 51 c65_315 ∧ OwnC cb65_315 c65_315 51 1 (bytesV ((([(byteI X.k)]) ++ (clmB X.c ++ X.t)) ++ (padN X.v))) ∧ St w noF [⟨g1, 31, askC X⟩, ⟨gt57, 5, cbt57⟩, ⟨g40, 9, #[.string (strB X.v)]⟩, ⟨g6, 50, bs (padN X.v)⟩, ⟨g69, 5, #[.int .u8 (bd (byteI X.z))]⟩, ⟨g65_315, 5, cb65_315⟩] w9) rfl (want_n rfl) (dd_appB HS313 4 rfl O62_299 rfl (HA313.ev 2 rfl) (HA313.ev 1 rfl) (slice_part (HS313.row 3 rfl) 0 (bytes_slab (slab_whole _)) (length_padN _) (by decide)) (fun h9 => by cases h9) rfl rfl (by unfold maxLen; omega) (by omega) (fun g9 c9 cb9 w9 o9 h9 => ⟨g9, c9, cb9, rfl, o9, h9⟩)) rfl ?_
                    rintro _ W314 ⟨g65_315, c65_315, cb65_315, rfl, O65_315, HS314⟩ a314 (HA314 : Env 80 [(65, .slice (some ⟨g65_315, 0, none⟩) 51 c65_315), (69, .slice (some ⟨g69, 0, none⟩) 1 1), (7, .slice (some ⟨g62_299, 0, none⟩) 47 c62_299), (1, .pointer (some ⟨g1, 0, none⟩))] a314)
                    clear HA313 a313 HS313
                    refine ⟨⟨_, st_sel HS314 [0, 2, 3, 1, 4, 5] (by decide)⟩, ?_⟩
                    refine wpAnyH_all (rs := [7]) (by kernel_rfl) (by decide) (hm_cons ?_ hm_nil)
                    · skip
                      refine ho_does HA314 [2, 3] (R := fun v w9 => ∃ g70_317 c70_317 cb70_317, v = .slice (some ⟨g70_317, 0, none⟩) 52 c70_317 ∧ OwnC cb70_317 c70_317 52 1 (bytesV (((([(byteI X.k)]) ++ (clmB X.c ++ X.t)) ++ (padN X.v)) ++ ([(byteI X.z)]))) ∧ St w noF [⟨g1, 31, askC X⟩, ⟨gt57, 5, cbt57⟩, ⟨g40, 9, #[.string (strB X.v)]⟩, ⟨g6, 50, bs (padN X.v)⟩, ⟨g69, 5, #[.int .u8 (bd (byteI X.z))]⟩, ⟨g70_317, 5, cb70_317⟩] w9) rfl (want_n rfl) (dd_appB HS314 5 rfl O65_315 rfl (HA314.ev 0 rfl) (HA314.ev 1 rfl) (slice_own (HS314.row 4 rfl) (⟨Nat.le_refl _, by decide, rfl, rfl, rfl⟩ : OwnC #[.int .u8 (bd (byteI X.z))] 1 1 1 (bytesV [(byteI X.z)])) rfl) (fun h9 => by cases h9) rfl rfl (by unfold maxLen; omega) (by omega) (fun g9 c9 cb9 w9 o9 h9 => ⟨g9, c9, cb9, rfl, o9, h9⟩)) rfl ?_
                      rintro _ W316 ⟨g70_317, c70_317, cb70_317, rfl, O70_317, HS316⟩ a316 (HA316 : Env 80 [(70, .slice (some ⟨g70_317, 0, none⟩) 52 c70_317), (7, .slice (some ⟨g62_299, 0, none⟩) 47 c62_299), (1, .pointer (some ⟨g1, 0, none⟩))] a316)
                      clear HA314 a314 HS314
                      refine ⟨⟨_, st_sel HS316 [0, 2, 3, 1, 4, 5] (by decide)⟩, ?_⟩
                      refine ha_take HA316 [2] (i := 8) (.slice (some ⟨g70_317, 0, none⟩) 52 c70_317) rfl (by kernel_rfl) (by kernel_rfl) (by kernel_rfl) (pq_then (pq_then pq_body)) (want_n rfl) (fun w9 ⟨R9, HS9⟩ => dd_as rfl (HA316.ev 0 rfl)) ⟨_, st_sel HS316 [0, 2, 3, 1, 4, 5] (by decide)⟩ rfl (fun a318 (HA318 : Env 80 [(7, .slice (some ⟨g70_317, 0, none⟩) 52 c70_317), (1, .pointer (some ⟨g1, 0, none⟩))] a318) => ?_)
                      clear HA316 a316
                      refine wpAnyH_done (by kernel_rfl) ?_ _
                      exact nx ⟨g70_317, c70_317, _, cb70_317, O70_317, HA318.keep [0, 1], st_sel HS316 [0, 1, 2, 3, 4, 5] (by decide)⟩
              · skip
                rintro aj301 wj301 ⟨g70_311, c70_311, g69, cb70_311, O70_311, HAj301, HSj301⟩
                refine nx ?_
                refine wp_seq ?_
                refine wp_seq ?_
                refine wp_region_lit ?_
                refine wl_is HAj301 [0, 1] (v := .pointer (some ⟨g1, 0, none⟩)) (want_n rfl) (dd_rn (dd_field (off := 0) (j := 0) rfl (HAj301.ev 1 rfl) (by kernel_rfl) rfl) ⟨rfl, rfl⟩) rfl (fun a320 (HA320 : Env 80 [(71, .pointer (some ⟨g1, 0, none⟩)), (7, .slice (some ⟨g70_311, 0, none⟩) 52 c70_311), (1, .pointer (some ⟨g1, 0, none⟩))] a320) => ?_)
                clear HAj301 aj301
                refine wl_is HA320 [1, 2] (v := .int .i64 X.k) (want_n rfl) (dd_rn (dd_get HSj301 0 0 rfl rfl (HA320.ev 0 rfl) rfl Tryd.underlying3 rfl) ⟨rfl, rfl⟩) rfl (fun a321 (HA321 : Env 80 [(72, .int .i64 X.k), (7, .slice (some ⟨g70_311, 0, none⟩) 52 c70_311), (1, .pointer (some ⟨g1, 0, none⟩))] a321) => ?_)
                clear HA320 a320
                refine wl_is HA321 [1, 2] (v := .bool true) (want_n rfl) (dd_rn (dd_cmp rfl (HA321.ev 0 rfl) rfl (eq_t hc222)) ⟨rfl, rfl⟩) rfl (fun a322 (HA322 : Env 80 [(73, .bool true), (7, .slice (some ⟨g70_311, 0, none⟩) 52 c70_311), (1, .pointer (some ⟨g1, 0, none⟩))] a322) => ?_)
                clear HA321 a321
                refine wpList_nil ?_
                refine nx ?_
                refine wp_cond_true (HA322.ev 0 rfl) ?_
                refine wp_region_lit ?_
                refine wl_is HA322 [2] (v := .slice (some ⟨g70_311, 0, none⟩) 52 c70_311) (want_n rfl) (dd_rn (dd_mv rfl (HA322.ev 1 rfl)) ⟨rfl, rfl⟩) rfl (fun a323 (HA323 : Env 80 [(74, .slice (some ⟨g70_311, 0, none⟩) 52 c70_311), (1, .pointer (some ⟨g1, 0, none⟩))] a323) => ?_)
                clear HA322 a322
                refine wl_is HA323 [0] (v := .pointer (some ⟨g1, 40, none⟩)) (want_n rfl) (dd_rn (dd_field (off := 40) (j := 40) rfl (HA323.ev 1 rfl) (by kernel_rfl) rfl) ⟨rfl, rfl⟩) rfl (fun a324 (HA324 : Env 80 [(75, .pointer (some ⟨g1, 40, none⟩)), (74, .slice (some ⟨g70_311, 0, none⟩) 52 c70_311)] a324) => ?_)
                clear HA323 a323
                refine wl_is HA324 [1] (v := .slice (some ⟨g1, 40, none⟩) 32 32) (want_n rfl) (dd_rn (dd_slA (n := 32) (sz := 1) rfl (HA324.ev 0 rfl) (by kernel_rfl)) ⟨rfl, rfl⟩) rfl (fun a325 (HA325 : Env 80 [(76, .slice (some ⟨g1, 40, none⟩) 32 32), (74, .slice (some ⟨g70_311, 0, none⟩) 52 c70_311)] a325) => ?_)
                clear HA324 a324
                refine wl_does HA325 [] (R := fun v w9 => ∃ g77_327 c77_327 cb77_327, v = .slice (some ⟨g77_327, 0, none⟩) 84 c77_327 ∧ OwnC cb77_327 c77_327 84 1 (bytesV ((((([(byteI X.k)]) ++ (clmB X.c ++ X.t)) ++ (padN X.v)) ++ ([(byteI X.z)])) ++ X.d)) ∧ St w noF [⟨g1, 31, askC X⟩, ⟨gt57, 5, cbt57⟩, ⟨g40, 9, #[.string (strB X.v)]⟩, ⟨g6, 50, bs (padN X.v)⟩, ⟨g69, 5, #[.int .u8 (bd (byteI X.z))]⟩, ⟨g77_327, 5, cb77_327⟩] w9) (want_n rfl) (dd_appB HSj301 5 rfl O70_311 rfl (HA325.ev 1 rfl) (HA325.ev 0 rfl) (slice_part (HSj301.row 0 rfl) 40 (bytes_slab (ask_dat HOK)) HOK.d (by decide)) (fun h9 => by cases h9) rfl rfl (by unfold maxLen; omega) (by omega) (fun g9 c9 cb9 w9 o9 h9 => ⟨g9, c9, cb9, rfl, o9, h9⟩)) rfl ?_
                rintro _ W326 ⟨g77_327, c77_327, cb77_327, rfl, O77_327, HS326⟩ a326 (HA326 : Env 80 [(77, .slice (some ⟨g77_327, 0, none⟩) 84 c77_327)] a326)
                clear HA325 a325 HSj301
                refine wl_is HA326 [] (v := .slice (some ⟨g77_327, 0, none⟩) 84 c77_327) (want_n rfl) (dd_rn (dd_as rfl (HA326.ev 0 rfl)) ⟨rfl, rfl⟩) rfl (fun a328 (HA328 : Env 80 [(7, .slice (some ⟨g77_327, 0, none⟩) 84 c77_327)] a328) => ?_)
                clear HA326 a326
                refine wpList_nil ?_
                refine nx ?_
                refine wp_seq ?_
                refine wp_region_lit ?_
                refine wl_is HA328 [] (v := .slice (some ⟨g77_327, 0, none⟩) 84 c77_327) (want_n rfl) (dd_rn (dd_mv rfl (HA328.ev 0 rfl)) ⟨rfl, rfl⟩) rfl (fun a329 (HA329 : Env 80 [(78, .slice (some ⟨g77_327, 0, none⟩) 84 c77_327)] a329) => ?_)
                clear HA328 a328
                refine wl_does HA329 [] (R := fun v w9 => ∃ v331, v = v331 ∧ w9.ownsRow W326.heap.size 5 1 v331 (encA X).length (bytesV (encA X)) ∧ Below W326.heap.size W326 w9) (want_n rfl) (dd_call Tryd.func22 (by kernel_rfl) (by kernel_rfl) rfl (args1 (HA329.ev 0 rfl)) (refsealed_any _ _ W326 (item_own (HS326.row 5 rfl) O77_327 (len_app (len_app (len_app (len_app rfl HCT) (length_padN _)) rfl) HOK.d)) (by rw [(len_app (len_app (len_app (len_app rfl HCT) (length_padN _)) rfl) HOK.d)]; exact Nat.le_of_ble_eq_true rfl)) (fun _ w9 ⟨v9, he, ho, hb⟩ => ⟨_, he, v9, rfl, by rw [enc_w X hc222] at ho; exact ho, hb⟩)) rfl ?_
                rintro v331 W330 ⟨_, rfl, ho331, hb330⟩ a330 (HA330 : Env 80 [(79, v331)] a330)
                have HS330 := HS326.same hb330
                clear HA329 a329
                have HOX := own_base ho331 HS326.below.size
                clear HS326 hb330
                refine wl_is HA330 [] (v := v331) (want_n rfl) (dd_rn (dd_as rfl (HA330.ev 0 rfl)) ⟨rfl, rfl⟩) rfl (fun a332 (HA332 : Env 80 [(2, v331)] a332) => ?_)
                clear HA330 a330
                refine wl_is HA332 [0] (v := .int .i64 0) (want_n rfl) (dd_rn (dd_as rfl rfl) ⟨rfl, rfl⟩) rfl (fun a333 (HA333 : Env 80 [(3, .int .i64 0), (2, v331)] a333) => ?_)
                clear HA332 a332
                refine wpList_nil ?_
                refine nx ?_
                refine wp_ret ?_
                refine ret_run HA333 (res_tt Tryd.results9 (HA333.get 1 rfl) (HA333.get 0 rfl)) ?_
                exact .inr ⟨mayA_of hb7 (.inl hc222) hb242 (by omega) (by omega), _, rfl, HOX, HS330.below⟩
      · skip
        refine wl_is HA220 [1, 2, 3, 4] (v := .bool true) (want_g rfl (t := 20) rfl (HA220.get 1 rfl) rfl) (dd_rn (dd_cmp rfl (HA220.ev 0 rfl) rfl (ne_t hc222)) ⟨rfl, rfl⟩) rfl (fun a334 (HA334 : Env 80 [(23, .bool true), (20, .bool true), (16, .bool false), (4, .slice (some ⟨gt57, 0, none⟩) 46 ct57), (1, .pointer (some ⟨g1, 0, none⟩))] a334) => ?_)
        clear HA220 a220
        refine wl_is HA334 [2, 3, 4] (v := .bool true) (want_g rfl (t := 16) rfl (HA334.get 2 rfl) rfl) (dd_rn (dd_pickT rfl (HA334.ev 1 rfl) (HA334.ev 0 rfl)) ⟨rfl, rfl⟩) rfl (fun a335 (HA335 : Env 80 [(24, .bool true), (16, .bool false), (4, .slice (some ⟨gt57, 0, none⟩) 46 ct57), (1, .pointer (some ⟨g1, 0, none⟩))] a335) => ?_)
        clear HA334 a334
        refine wl_is HA335 [2, 3] (v := .bool true) (want_n rfl) (dd_rn (dd_pickF rfl (HA335.ev 1 rfl) (HA335.ev 0 rfl)) ⟨rfl, rfl⟩) rfl (fun a336 (HA336 : Env 80 [(25, .bool true), (4, .slice (some ⟨gt57, 0, none⟩) 46 ct57), (1, .pointer (some ⟨g1, 0, none⟩))] a336) => ?_)
        clear HA335 a335
        refine wl_is HA336 [1, 2] (v := .bool true) (want_n rfl) (dd_rn (dd_mv rfl (HA336.ev 0 rfl)) ⟨rfl, rfl⟩) rfl (fun a337 (HA337 : Env 80 [(26, .bool true), (4, .slice (some ⟨gt57, 0, none⟩) 46 ct57), (1, .pointer (some ⟨g1, 0, none⟩))] a337) => ?_)
        clear HA336 a336
        refine wl_skip HA337 [0, 1, 2] (want_g rfl (t := 26) rfl (HA337.get 0 rfl) rfl) rfl (fun a338 (HA338 : Env 80 [(27, undef), (26, .bool true), (4, .slice (some ⟨gt57, 0, none⟩) 46 ct57), (1, .pointer (some ⟨g1, 0, none⟩))] a338) => ?_)
        clear HA337 a337
        refine wl_skip HA338 [1, 2, 3] (want_g rfl (t := 26) rfl (HA338.get 1 rfl) rfl) rfl (fun a339 (HA339 : Env 80 [(28, undef), (26, .bool true), (4, .slice (some ⟨gt57, 0, none⟩) 46 ct57), (1, .pointer (some ⟨g1, 0, none⟩))] a339) => ?_)
        clear HA338 a338
        refine wl_skip HA339 [1, 2, 3] (want_g rfl (t := 26) rfl (HA339.get 1 rfl) rfl) rfl (fun a340 (HA340 : Env 80 [(29, undef), (26, .bool true), (4, .slice (some ⟨gt57, 0, none⟩) 46 ct57), (1, .pointer (some ⟨g1, 0, none⟩))] a340) => ?_)
        clear HA339 a339
        refine wl_skip HA340 [1, 2, 3] (want_g rfl (t := 26) rfl (HA340.get 1 rfl) rfl) rfl (fun a341 (HA341 : Env 80 [(30, undef), (26, .bool true), (4, .slice (some ⟨gt57, 0, none⟩) 46 ct57), (1, .pointer (some ⟨g1, 0, none⟩))] a341) => ?_)
        clear HA340 a340
        refine wl_skip HA341 [0, 1, 2, 3] (want_u rfl (t := 30) rfl (HA341.get 0 rfl)) rfl (fun a342 (HA342 : Env 80 [(31, undef), (30, undef), (26, .bool true), (4, .slice (some ⟨gt57, 0, none⟩) 46 ct57), (1, .pointer (some ⟨g1, 0, none⟩))] a342) => ?_)
        clear HA341 a341
        refine wl_skip HA342 [1, 2, 3, 4] (want_u rfl (t := 30) rfl (HA342.get 1 rfl)) rfl (fun a343 (HA343 : Env 80 [(32, undef), (30, undef), (26, .bool true), (4, .slice (some ⟨gt57, 0, none⟩) 46 ct57), (1, .pointer (some ⟨g1, 0, none⟩))] a343) => ?_)
        clear HA342 a342
        refine wl_skip HA343 [0, 1, 2, 3, 4] (want_u rfl (t := 30) rfl (HA343.get 1 rfl)) rfl (fun a344 (HA344 : Env 80 [(33, undef), (32, undef), (30, undef), (26, .bool true), (4, .slice (some ⟨gt57, 0, none⟩) 46 ct57), (1, .pointer (some ⟨g1, 0, none⟩))] a344) => ?_)
        clear HA343 a343
        refine wl_skip HA344 [2, 3, 4, 5] (want_u rfl (t := 30) rfl (HA344.get 2 rfl)) rfl (fun a345 (HA345 : Env 80 [(34, undef), (30, undef), (26, .bool true), (4, .slice (some ⟨gt57, 0, none⟩) 46 ct57), (1, .pointer (some ⟨g1, 0, none⟩))] a345) => ?_)
        clear HA344 a344
        refine wl_skip HA345 [2, 3, 4] (want_g rfl (t := 26) rfl (HA345.get 2 rfl) rfl) rfl (fun a346 (HA346 : Env 80 [(35, undef), (26, .bool true), (4, .slice (some ⟨gt57, 0, none⟩) 46 ct57), (1, .pointer (some ⟨g1, 0, none⟩))] a346) => ?_)
        clear HA345 a345
        refine wl_is HA346 [2, 3] (v := .bool true) (want_n rfl) (dd_rn (dd_pickT rfl (HA346.ev 1 rfl) rfl) ⟨rfl, rfl⟩) rfl (fun a347 (HA347 : Env 80 [(36, .bool true), (4, .slice (some ⟨gt57, 0, none⟩) 46 ct57), (1, .pointer (some ⟨g1, 0, none⟩))] a347) => ?_)
        clear HA346 a346
        refine wl_is HA347 [1, 2] (v := .bool true) (want_n rfl) (dd_rn (dd_mv rfl (HA347.ev 0 rfl)) ⟨rfl, rfl⟩) rfl (fun a348 (HA348 : Env 80 [(37, .bool true), (4, .slice (some ⟨gt57, 0, none⟩) 46 ct57), (1, .pointer (some ⟨g1, 0, none⟩))] a348) => ?_)
        clear HA347 a347
        refine wl_skip HA348 [0, 1, 2] (want_g rfl (t := 37) rfl (HA348.get 0 rfl) rfl) rfl (fun a349 (HA349 : Env 80 [(38, undef), (37, .bool true), (4, .slice (some ⟨gt57, 0, none⟩) 46 ct57), (1, .pointer (some ⟨g1, 0, none⟩))] a349) => ?_)
        clear HA348 a348
        refine wl_skip HA349 [1, 2, 3] (want_g rfl (t := 37) rfl (HA349.get 1 rfl) rfl) rfl (fun a350 (HA350 : Env 80 [(39, undef), (37, .bool true), (4, .slice (some ⟨gt57, 0, none⟩) 46 ct57), (1, .pointer (some ⟨g1, 0, none⟩))] a350) => ?_)
        clear HA349 a349
        refine wl_skip HA350 [1, 2, 3] (want_g rfl (t := 37) rfl (HA350.get 1 rfl) rfl) rfl (fun a351 (HA351 : Env 80 [(40, undef), (37, .bool true), (4, .slice (some ⟨gt57, 0, none⟩) 46 ct57), (1, .pointer (some ⟨g1, 0, none⟩))] a351) => ?_)
        clear HA350 a350
        refine wl_skip HA351 [1, 2, 3] (want_g rfl (t := 37) rfl (HA351.get 1 rfl) rfl) rfl (fun a352 (HA352 : Env 80 [(41, undef), (37, .bool true), (4, .slice (some ⟨gt57, 0, none⟩) 46 ct57), (1, .pointer (some ⟨g1, 0, none⟩))] a352) => ?_)
        clear HA351 a351
        refine wl_skip HA352 [1, 2, 3] (want_g rfl (t := 37) rfl (HA352.get 1 rfl) rfl) rfl (fun a353 (HA353 : Env 80 [(42, undef), (37, .bool true), (4, .slice (some ⟨gt57, 0, none⟩) 46 ct57), (1, .pointer (some ⟨g1, 0, none⟩))] a353) => ?_)
        clear HA352 a352
        refine wl_is HA353 [2, 3] (v := .bool true) (want_n rfl) (dd_rn (dd_pickT rfl (HA353.ev 1 rfl) rfl) ⟨rfl, rfl⟩) rfl (fun a354 (HA354 : Env 80 [(43, .bool true), (4, .slice (some ⟨gt57, 0, none⟩) 46 ct57), (1, .pointer (some ⟨g1, 0, none⟩))] a354) => ?_)
        clear HA353 a353
        refine wl_is HA354 [1, 2] (v := .bool true) (want_n rfl) (dd_rn (dd_mv rfl (HA354.ev 0 rfl)) ⟨rfl, rfl⟩) rfl (fun a355 (HA355 : Env 80 [(44, .bool true), (4, .slice (some ⟨gt57, 0, none⟩) 46 ct57), (1, .pointer (some ⟨g1, 0, none⟩))] a355) => ?_)
        clear HA354 a354
        refine wl_skip HA355 [0, 1, 2] (want_g rfl (t := 44) rfl (HA355.get 0 rfl) rfl) rfl (fun a356 (HA356 : Env 80 [(45, undef), (44, .bool true), (4, .slice (some ⟨gt57, 0, none⟩) 46 ct57), (1, .pointer (some ⟨g1, 0, none⟩))] a356) => ?_)
        clear HA355 a355
        refine wl_skip HA356 [1, 2, 3] (want_g rfl (t := 44) rfl (HA356.get 1 rfl) rfl) rfl (fun a357 (HA357 : Env 80 [(46, undef), (44, .bool true), (4, .slice (some ⟨gt57, 0, none⟩) 46 ct57), (1, .pointer (some ⟨g1, 0, none⟩))] a357) => ?_)
        clear HA356 a356
        refine wl_skip HA357 [1, 2, 3] (want_g rfl (t := 44) rfl (HA357.get 1 rfl) rfl) rfl (fun a358 (HA358 : Env 80 [(47, undef), (44, .bool true), (4, .slice (some ⟨gt57, 0, none⟩) 46 ct57), (1, .pointer (some ⟨g1, 0, none⟩))] a358) => ?_)
        clear HA357 a357
        refine wl_is HA358 [2, 3] (v := .bool true) (want_n rfl) (dd_rn (dd_pickT rfl (HA358.ev 1 rfl) rfl) ⟨rfl, rfl⟩) rfl (fun a359 (HA359 : Env 80 [(48, .bool true), (4, .slice (some ⟨gt57, 0, none⟩) 46 ct57), (1, .pointer (some ⟨g1, 0, none⟩))] a359) => ?_)
        clear HA358 a358
        refine wl_is HA359 [1, 2] (v := .bool true) (want_n rfl) (dd_rn (dd_mv rfl (HA359.ev 0 rfl)) ⟨rfl, rfl⟩) rfl (fun a360 (HA360 : Env 80 [(49, .bool true), (4, .slice (some ⟨gt57, 0, none⟩) 46 ct57), (1, .pointer (some ⟨g1, 0, none⟩))] a360) => ?_)
        clear HA359 a359
        refine wl_skip HA360 [0, 1, 2] (want_g rfl (t := 49) rfl (HA360.get 0 rfl) rfl) rfl (fun a361 (HA361 : Env 80 [(50, undef), (49, .bool true), (4, .slice (some ⟨gt57, 0, none⟩) 46 ct57), (1, .pointer (some ⟨g1, 0, none⟩))] a361) => ?_)
        clear HA360 a360
        refine wl_skip HA361 [1, 2, 3] (want_g rfl (t := 49) rfl (HA361.get 1 rfl) rfl) rfl (fun a362 (HA362 : Env 80 [(51, undef), (49, .bool true), (4, .slice (some ⟨gt57, 0, none⟩) 46 ct57), (1, .pointer (some ⟨g1, 0, none⟩))] a362) => ?_)
        clear HA361 a361
        refine wl_skip HA362 [1, 2, 3] (want_g rfl (t := 49) rfl (HA362.get 1 rfl) rfl) rfl (fun a363 (HA363 : Env 80 [(52, undef), (49, .bool true), (4, .slice (some ⟨gt57, 0, none⟩) 46 ct57), (1, .pointer (some ⟨g1, 0, none⟩))] a363) => ?_)
        clear HA362 a362
        refine wl_is HA363 [2, 3] (v := .bool true) (want_n rfl) (dd_rn (dd_pickT rfl (HA363.ev 1 rfl) rfl) ⟨rfl, rfl⟩) rfl (fun a364 (HA364 : Env 80 [(53, .bool true), (4, .slice (some ⟨gt57, 0, none⟩) 46 ct57), (1, .pointer (some ⟨g1, 0, none⟩))] a364) => ?_)
        clear HA363 a363
        refine wpList_nil ?_
        refine nx ?_
        refine wp_cond_true (HA364.ev 0 rfl) ?_
        refine wp_seq ?_
        refine wp_region_lit ?_
        refine wl_is HA364 [] (v := .slice none 0 0) (want_n rfl) (dd_rn (dd_as rfl rfl) ⟨rfl, rfl⟩) rfl (fun a365 (HA365 : Env 80 [(2, .slice none 0 0)] a365) => ?_)
        clear HA364 a364
        refine wl_is HA365 [0] (v := .int .i64 11) (want_n rfl) (dd_rn (dd_as rfl rfl) ⟨rfl, rfl⟩) rfl (fun a366 (HA366 : Env 80 [(3, .int .i64 11), (2, .slice none 0 0)] a366) => ?_)
        clear HA365 a365
        refine wpList_nil ?_
        refine nx ?_
        refine wp_ret ?_
        refine tr ?_
        refine ret_run HA366 (res_tt Tryd.results9 (HA366.get 1 rfl) (HA366.get 0 rfl)) ?_
        exact .inl ⟨mayA_no (fun h => by obtain ⟨h1, h2, h3, h4, h5⟩ := h; omega), rfl, HS56j.below⟩
end Go.Proofs.YtobklbfcnbmnmaaDoor

/- The program's ask: the request that bytes tell. -/
set_option maxRecDepth 4000
namespace Go.Proofs.YtobklbfcnbmnmaaDoor
open Go Go.RowKit
def askQ (q : List (BitVec 8)) : Asq := ⟨bd (q.getD 0 0#8), decC ((q.drop 1).take 46), decG ((q.drop 1).take 46), (cutN ((q.drop 47).take 4)).1, bd (q.getD 51 0#8), if q.length = 86 then (q.drop 52).take 32 else zer 32⟩
set_option maxRecDepth 20000 in
set_option maxHeartbeats 3200000 in
theorem from54 (g o cc : Nat) (q : List (BitVec 8)) (w : World) (hB : BAt w g o q) (hl : q.length = 54) (hc : 54 ≤ cc) :
    Calls Tryd.prog 23 #[.slice (some ⟨g, o, none⟩) 54 cc] w fun x w' => x = .returned (.agg (askC (askQ q))) ∧ Below w.heap.size w w' := by
  obtain ⟨x0, hx0⟩ : ∃ x, q.getD 0 0#8 = x := ⟨_, rfl⟩
  obtain ⟨x51, hx51⟩ : ∃ x, q.getD 51 0#8 = x := ⟨_, rfl⟩
  obtain ⟨cq, hcq⟩ : ∃ c, decC ((q.drop 1).take 46) = c := ⟨_, rfl⟩
  obtain ⟨gq, hgq⟩ : ∃ c, decG ((q.drop 1).take 46) = c := ⟨_, rfl⟩
  obtain ⟨b4, hb4⟩ : ∃ b, (q.drop 47).take 4 = b := ⟨_, rfl⟩
  obtain ⟨nm, hnm⟩ : ∃ n, (cutN b4).1 = n := ⟨_, rfl⟩
  have HB4Q := Lib.hid hb4
  have HNM := Lib.hid hnm
  have HB4 : Hid (b4.length = 4) := Lib.hid (by rw [← hb4, List.length_take, List.length_drop, hl]; rfl)
  have HNL : Hid (nm.length ≤ maxLen) := Lib.hid (by rw [← hnm]; exact Nat.le_trans (cut_len HB4.out) (by decide))
  have HCN : Hid (cq.n.length ≤ maxLen) := Lib.hid (by rw [← hcq]; exact Nat.le_trans (decC_len _) (by decide))
  have HASK : Hid (askC ⟨bd x0, cq, gq, nm, bd x51, zer 32⟩ = askC (askQ q)) := Lib.hid (by unfold askQ; rw [hx0, hx51, hcq, hgq, hb4, hnm, hl]; rfl)
  have HX0 := Lib.hid hx0
  have HX51 := Lib.hid hx51
  have HCQ := Lib.hid hcq
  have HGQE := Lib.hid hgq
  have HGQ : Hid (gq.length = 32) := Lib.hid (by rw [← hgq]; exact length_decG _)
  have HQL := Lib.hid hl
  have HCC := Lib.hid hc
  have HBA := Lib.hid hB
  clear hx0 hx51 hcq hgq hl hc hB hb4 hnm
  have HS := St.nil w noF
  go_enter Tryd.func23, Tryd.ntmps23
  go_upto_region 1 with (first | ((with_reducible refine wpList_plain ?_ ?_); exact rfl; intro KK hKK; refine wp_st_alloc HS 31 (askC ask0) rfl (.agg (askC ask0)) (by exact zero_ask) (rfl) (fun g2 W1 HSx => hKK _ _ ?_); clear hKK KK HS; have HS : St w noF [⟨g2, 31, askC ask0⟩] W1 := HSx; clear HSx))
  obtain ⟨B0, hB0⟩ : ∃ B0, W1.heap.size = B0 := ⟨_, rfl⟩
  have HBA1 : BAt W1 g o q := HBA.out.call HS.below
  have HB0 : Hid (w.heap.size ≤ B0) := Lib.hid (by rw [← hB0]; exact HS.below.size)
  have HLT : Hid (∀ b ∈ ([⟨g2, 31, askC ask0⟩] : List Blk), b.g < B0) := Lib.hid (by rw [← hB0]; exact fun b hb => HS.lt hb)
  have HGB : Hid (g < B0) := Lib.hid (by rw [← hB0]; exact HBA1.lt)
  have hF0 : Wl [(fun W => St w noF [⟨g2, 31, askC ask0⟩] W ∧ BAt W g o q ∧ B0 ≤ W.heap.size), (fun W => St w noF [⟨g2, 31, askC ask0⟩] W ∧ BAt W g o q ∧ B0 ≤ W.heap.size)] 0 (World.drew _) := ⟨HS.drew, HBA1.call (Below.refl _ _).drew, by rw [← hB0]; exact (Below.refl 0 _).drew.size⟩
  clear HS HBA1 hB0
  refine wp_region_phas [is (.slice (some ⟨g, o, none⟩) 54 cc), is (.pointer (some ⟨g, o, none⟩)), is (.int .u8 (bd x0)), is (.int .i64 (bd x0)), is (.slice (some ⟨g, o, none⟩) 54 cc), is (.pointer (some ⟨g, o + 51, none⟩)), is (.int .u8 (bd x51)), is (.int .i64 (bd x51)), is (.agg (askC ⟨bd x0, clm0, zer 32, [], bd x51, zer 32⟩)), (fun v W => ∃ k, v = Value.pointer (some ⟨k, 0, none⟩) ∧ Row W k 31 (askC ask0) ∧ B0 ≤ k), (fun v W => ∃ k, v = Value.pointer (some ⟨k, 0, none⟩) ∧ Row W k 31 (askC ⟨bd x0, clm0, zer 32, [], bd x51, zer 32⟩) ∧ B0 ≤ k)] [true, true, true, true, true, true, true, true, true, false, false] [(fun W => St w noF [⟨g2, 31, askC ask0⟩] W ∧ BAt W g o q ∧ B0 ≤ W.heap.size), (fun W => St w noF [⟨g2, 31, askC ask0⟩] W ∧ BAt W g o q ∧ B0 ≤ W.heap.size)] [false, false, false, false, false, false, false, false, false, false, true] [some 0, some 0, some 0, some 0, some 0, some 0, some 0, some 0, some 0, some 0, some 0] [none, none, none, none, none, none, none, none, none, none, some 9] [some 4, some 5, some 6, some 7, some 8, some 9, some 10, some 11, some 12, some 3, none] 11 1 (fun _ => true) rfl rfl (by kernel_rfl) (by kernel_rfl) (by kernel_rfl) (by kernel_rfl) (by kernel_rfl) ?_ ?_ ?_ ?_ ?_ ?_
  · repeat first | exact wok_nil | refine wok_cons (by first | exact fun _ _ h k => ⟨h.1.same k, h.2.1.call k, Nat.le_trans h.2.2 k.size⟩) ?_
  · repeat first | exact vok_nil | refine vok_rig (by first | exact fun _ _ _ h => h) ?_ | refine vok_soft (by first | exact fun _ _ _ h _ => h | exact fun _ _ _ h k => ⟨h.choose, h.choose_spec.1, h.choose_spec.2.1.call k, h.choose_spec.2.2⟩) ?_
  · exact hF0
  · repeat first | exact all_end (by decide) | refine all_cons (by first | exact rfl | exact ⟨rfl, fun _ _ h => Or.inl h⟩ | exact ⟨rfl, fun _ _ h => Or.inr ⟨h, rfl⟩⟩) ?_
  · refine alla_old rfl (step_mild 0 rfl rfl rfl (fun a x_ W hout hin hP => ?_)) ?_
    · have e0 : a.tmps[0]? = some (.slice (some ⟨g, o, none⟩) 54 cc) := (hout 0 (by kernel_rfl)).trans rfl
      exact does_move rfl e0 ⟨Same.refl _, rfl⟩
    refine alla_old rfl (step_mild 0 rfl rfl rfl (fun a x_ W hout hin hP => ?_)) ?_
    · have e4 := hin.is 0 4 (by kernel_rfl) (by decide) (by kernel_rfl) (by kernel_rfl) _ rfl
      clear hin hout
      intro K Q hK
      go_simp
      exact hK _ _ ⟨Same.refl _, rfl⟩
    refine alla_old rfl (step_mild 0 rfl rfl rfl (fun a x_ W hout hin hP => ?_)) ?_
    · have e5 := hin.is 1 5 (by kernel_rfl) (by decide) (by kernel_rfl) (by kernel_rfl) _ rfl
      have hc : W.cell? ⟨g, o, none⟩ = some (.int .u8 (bd x0)) := HX0.out ▸ hP.2.1.get 0 (by rw [HQL.out]; decide)
      clear hP
      clear hin hout
      intro K Q hK
      go_simp
      exact hK _ _ ⟨Same.refl _, rfl⟩
    refine alla_old rfl (step_mild 0 rfl rfl rfl (fun a x_ W hout hin hP => ?_)) ?_
    · have e6 := hin.is 2 6 (by kernel_rfl) (by decide) (by kernel_rfl) (by kernel_rfl) _ rfl
      have hw := i64_bd x0
      clear hin hout
      intro K Q hK
      go_simp
      exact hK _ _ ⟨Same.refl _, rfl⟩
    refine alla_old rfl (step_mild 0 rfl rfl rfl (fun a x_ W hout hin hP => ?_)) ?_
    · have e0 : a.tmps[0]? = some (.slice (some ⟨g, o, none⟩) 54 cc) := (hout 0 (by kernel_rfl)).trans rfl
      exact does_move rfl e0 ⟨Same.refl _, rfl⟩
    refine alla_old rfl (step_mild 0 rfl rfl rfl (fun a x_ W hout hin hP => ?_)) ?_
    · have e8 := hin.is 4 8 (by kernel_rfl) (by decide) (by kernel_rfl) (by kernel_rfl) _ rfl
      clear hin hout
      intro K Q hK
      go_simp
      exact hK _ _ ⟨Same.refl _, rfl⟩
    refine alla_old rfl (step_mild 0 rfl rfl rfl (fun a x_ W hout hin hP => ?_)) ?_
    · have e9 := hin.is 5 9 (by kernel_rfl) (by decide) (by kernel_rfl) (by kernel_rfl) _ rfl
      have hc : W.cell? ⟨g, o + 51, none⟩ = some (.int .u8 (bd x51)) := HX51.out ▸ hP.2.1.get 51 (by rw [HQL.out]; decide)
      clear hP
      clear hin hout
      intro K Q hK
      go_simp
      exact hK _ _ ⟨Same.refl _, rfl⟩
    refine alla_old rfl (step_mild 0 rfl rfl rfl (fun a x_ W hout hin hP => ?_)) ?_
    · have e10 := hin.is 6 10 (by kernel_rfl) (by decide) (by kernel_rfl) (by kernel_rfl) _ rfl
      have hw := i64_bd x51
      clear hin hout
      intro K Q hK
      go_simp
      exact hK _ _ ⟨Same.refl _, rfl⟩
    refine alla_old rfl (step_mild 0 rfl rfl rfl (fun a x_ W hout hin hP => ?_)) ?_
    · have e7 := hin.is 3 7 (by kernel_rfl) (by decide) (by kernel_rfl) (by kernel_rfl) _ rfl
      have e11 := hin.is 7 11 (by kernel_rfl) (by decide) (by kernel_rfl) (by kernel_rfl) _ rfl
      clear hin hout
      intro K Q hK
      go_simp
      exact hK _ _ ⟨Same.refl _, by rw [← askLit_eq]; rfl⟩
    refine alla_old rfl (step_mild 0 rfl rfl rfl (fun a x_ W hout hin hP => ?_)) ?_
    · have hbse := hP.2.2
      clear hP hin hout
      intro K Q hK
      have hz : (Tryd.prog.info? 31).bind (·.zero) = some (.agg (askC ask0)) := zero_ask
      refine wp_new_row 31 (askC ask0) rfl hz ?_
      exact hK _ _ ⟨Same.alloc _ _, _, rfl, Row.fresh _ _ _, hbse⟩
    refine alla_wild 0 rfl rfl rfl (fun a x_ W hout hin hP => ?_) ?_
    · obtain ⟨hw9, hx9⟩ := hin 9 (by kernel_rfl) (by decide)
      have hw9 := hw9 (.inr ⟨rfl, by kernel_rfl⟩)
      have hx9 := hx9 3 (by kernel_rfl)
      have e12 := hin.is 8 12 (by kernel_rfl) (by decide) (by kernel_rfl) (by kernel_rfl) _ rfl
      obtain ⟨g6, hg6, r6, hb6⟩ := hw9
      rw [hg6] at hx9
      clear hin hout
      intro K Q hK
      refine wp_store_row 31 (.tmp 3) (.tmp 12) rfl g6 (askC ⟨bd x0, clm0, zer 32, [], bd x51, zer 32⟩) (eval_of_get hx9) (eval_of_get e12) 31 (askC ask0) r6 (by rw [size_askC (ok_zero _ _)]; exact size_ask) (by rw [size_askC (ok_zero _ _), show (askC ask0).size = 72 from size_askC (ok_zero 0 0)]) (one_ask _) ?_
      have hgr := grown_setRow W g6 (askC ⟨bd x0, clm0, zer 32, [], bd x51, zer 32⟩)
      exact hK (x_ 9) _ ⟨⟨hP.1.far hgr (Nat.le_trans HB0.out hb6) (fun b hb => by have := HLT.out b hb; omega), hP.2.1.far hgr (by have := HGB.out; omega), Nat.le_trans hP.2.2 hgr.size⟩, ⟨g6, hg6, r6.setRow _, hb6⟩, al_one rfl rfl⟩
    exact all_end (by decide)
  · intro x_ W hP hV hal
    obtain ⟨g6, h10, r6, hb6⟩ := hV 10 (by decide) (.inr (by kernel_rfl))
    have h9 : x_ 9 = .pointer (some ⟨g6, 0, none⟩) := (hal 10 (by decide) 9 rfl).symm.trans h10
    have HSJ : St w noF [⟨g2, 31, askC ask0⟩, ⟨g6, 31, askC ⟨bd x0, clm0, zer 32, [], bd x51, zer 32⟩⟩] W := hP.1.join r6 (Nat.le_trans HB0.out hb6) (fun b hb => by have := HLT.out b hb; omega)
    have HBX := Lib.hid hP.2.1
    clear hV hP hal h10 r6 hb6
    simp only [putL, Act.put, List.setIfInBounds_toArray, List.set_cons_succ, List.set_cons_zero, h9]
    simp only [Nat.zero_add, Nat.reduceAdd]
    refine wpAnyH_done (by kernel_rfl) ?_ _
    clear h9
    have HS := HSJ
    clear HSJ
    have C := tokdec_any (some ⟨g, o + 1, none⟩) (cc - 1) ((q.drop 1).take 46) 46 (by rw [List.length_take, List.length_drop, HQL.out]; rfl) W (((HBX.out.drop 1).take 46).slice (by rw [List.length_take, List.length_drop, HQL.out]; rfl) (by have := HCC.out; omega))
    rw [HCQ.out, HGQE.out] at C
    have hcc := HCC.out
    go_wp2_with fail
    refine C.mono ?_
    rintro x w3 ⟨rfl, hb⟩
    have HSx := HS.same hb
    have HBX3 := Lib.hid (HBX.out.call hb)
    clear HS hb C HBX
    have HS := HSx
    have HBX := HBX3
    clear HSx HBX3
    go_upto_region 3 with (first | ((with_reducible refine wpList_plain ?_ ?_); exact rfl; intro KK hKK; refine wp_st_store HS 1 1 28 (.tmp 19) (.tmp 17) rfl rfl rfl (.agg (tokCells cq gq)) rfl (by rw [show (Value.agg (tokCells cq gq)).cells.size = 37 from tok_size _ _ HGQ.out]; exact size_tok) (by show 1 + (tokCells cq gq).size ≤ (askC ⟨bd x0, clm0, zer 32, [], bd x51, zer 32⟩).size; rw [tok_size _ _ HGQ.out, size_askC (ok_zero _ _)]; decide) (one_tok _ _) (askC ⟨bd x0, cq, gq, [], bd x51, zer 32⟩) (spl_ask_tok ⟨bd x0, clm0, zer 32, [], bd x51, zer 32⟩ cq gq (length_zer 32) HGQ.out) (fun W21 HSx => hKK _ _ ?_); clear hKK KK HS; have HS : St w noF [⟨g2, 31, askC ask0⟩, ⟨g6, 31, askC ⟨bd x0, cq, gq, [], bd x51, zer 32⟩⟩] W21 := HSx; clear HSx))
    have HOK1 : Hid (Asq.Ok ⟨bd x0, cq, gq, [], bd x51, zer 32⟩) := Lib.hid ⟨HGQ.out, length_zer 32, HCN.out, by unfold maxLen; simp⟩
    have HOK2 : Hid (Asq.Ok ⟨bd x0, cq, gq, nm, bd x51, zer 32⟩) := Lib.hid ⟨HGQ.out, length_zer 32, HCN.out, HNL.out⟩
    clear HBX
    have HRB : Hid (W21.rangeAt g (o + 47) (bytesV b4)) := Lib.hid (HB4Q.out ▸ (HBA.out.call HS.below).range 47 4 (by rw [HQL.out]; decide))
    have C := cut_any b4 W21 HB4.out
    rw [HNM.out] at C
    have hat : ∀ w, (Instr.arrayAt 50 (.slice (some ⟨g, o + 47, none⟩) 7 (cc - 47))).run Tryd.prog w = .ok (.pointer (some ⟨g, o + 47, none⟩)) w := fun w => run_arrayAt w 50 _ 4 _ 7 (cc - 47) Tryd.underlying50 (by decide)
    go_wp2_with (first | ((with_reducible refine wpList_plain ?_ ?_); exact rfl; intro KK hKK; refine wp_load_mid 50 (.tmp 23) rfl g (o + 47) rfl (bytesV b4) _ HRB.out Tryd.underlying50 rfl (by rw [len_bytesV, HB4.out]; exact size_b4) (hKK _ _ ?_); clear hKK KK))
    refine C.mono ?_
    rintro x w4 ⟨rfl, hb⟩
    have HSx := HS.same hb
    clear HS hb C HRB
    have HS := HSx
    clear HSx
    go_upto_region 4 with (first | ((with_reducible refine wpList_plain ?_ ?_); exact rfl; intro KK hKK; refine wp_st_put HS 1 38 9 (.tmp 28) (.tmp 26) rfl rfl rfl (.string (strB nm)) rfl (by kernel_rfl) rfl rfl (by rw [size_askC (HOK1.out)]; decide) (askC ⟨bd x0, cq, gq, nm, bd x51, zer 32⟩) (put_ask_name ⟨bd x0, cq, gq, [], bd x51, zer 32⟩ nm HGQ.out) (fun W31 HSx => hKK _ _ ?_); clear hKK KK HS; have HS : St w noF [⟨g2, 31, askC ask0⟩, ⟨g6, 31, askC ⟨bd x0, cq, gq, nm, bd x51, zer 32⟩⟩] W31 := HSx; clear HSx))
    go_wp2_with (first | ((with_reducible refine wpList_plain ?_ ?_); exact rfl; intro KK hKK; refine wp_st_load HS 1 0 31 (.tmp 3) rfl rfl rfl (askC ⟨bd x0, cq, gq, nm, bd x51, zer 32⟩) (slab_whole _) _ Tryd.underlying31 rfl (by rw [size_askC (HOK2.out)]; exact size_ask) (hKK _ _ ?_); clear hKK KK) | ((with_reducible refine wpList_plain ?_ ?_); exact rfl; intro KK hKK; refine wp_st_store HS 0 0 31 (.tmp 2) (.tmp 37) rfl rfl rfl (.agg (askC ⟨bd x0, cq, gq, nm, bd x51, zer 32⟩)) rfl (by rw [show (Value.agg (askC ⟨bd x0, cq, gq, nm, bd x51, zer 32⟩)).cells.size = 72 from size_askC HOK2.out]; exact size_ask) (by show 0 + (askC ⟨bd x0, cq, gq, nm, bd x51, zer 32⟩).size ≤ (askC ask0).size; rw [size_askC HOK2.out, show (askC ask0).size = 72 from size_askC (ok_zero 0 0)]; decide) (one_ask _) (askC ⟨bd x0, cq, gq, nm, bd x51, zer 32⟩) (spl_agg _ _ _ rfl (by rw [size_askC HOK2.out, show (askC ask0).size = 72 from size_askC (ok_zero 0 0)])) (fun W51 HSx => hKK _ _ ?_); clear hKK KK HS; have HS : St w noF [⟨g2, 31, askC ⟨bd x0, cq, gq, nm, bd x51, zer 32⟩⟩, ⟨g6, 31, askC ⟨bd x0, cq, gq, nm, bd x51, zer 32⟩⟩] W51 := HSx; clear HSx))
    refine bodyPost_ret (results_cell_row Tryd.results23 _ _ g2 31 (askC ⟨bd x0, cq, gq, nm, bd x51, zer 32⟩) (0, 0) _ rfl (HS.row 0 rfl) Tryd.underlying31 rfl (by rw [size_askC (HOK2.out)]; exact size_ask)) rfl ?_
    exact ⟨by rw [HASK.out], HS.below⟩
set_option maxRecDepth 20000 in
set_option maxHeartbeats 3200000 in
theorem from86 (g o cc : Nat) (q : List (BitVec 8)) (w : World) (hB : BAt w g o q) (hl : q.length = 86) (hc : 86 ≤ cc) :
    Calls Tryd.prog 23 #[.slice (some ⟨g, o, none⟩) 86 cc] w fun x w' => x = .returned (.agg (askC (askQ q))) ∧ Below w.heap.size w w' := by
  obtain ⟨x0, hx0⟩ : ∃ x, q.getD 0 0#8 = x := ⟨_, rfl⟩
  obtain ⟨x51, hx51⟩ : ∃ x, q.getD 51 0#8 = x := ⟨_, rfl⟩
  obtain ⟨cq, hcq⟩ : ∃ c, decC ((q.drop 1).take 46) = c := ⟨_, rfl⟩
  obtain ⟨gq, hgq⟩ : ∃ c, decG ((q.drop 1).take 46) = c := ⟨_, rfl⟩
  obtain ⟨b4, hb4⟩ : ∃ b, (q.drop 47).take 4 = b := ⟨_, rfl⟩
  obtain ⟨nm, hnm⟩ : ∃ n, (cutN b4).1 = n := ⟨_, rfl⟩
  have HB4Q := Lib.hid hb4
  have HNM := Lib.hid hnm
  have HB4 : Hid (b4.length = 4) := Lib.hid (by rw [← hb4, List.length_take, List.length_drop, hl]; rfl)
  have HNL : Hid (nm.length ≤ maxLen) := Lib.hid (by rw [← hnm]; exact Nat.le_trans (cut_len HB4.out) (by decide))
  have HCN : Hid (cq.n.length ≤ maxLen) := Lib.hid (by rw [← hcq]; exact Nat.le_trans (decC_len _) (by decide))
  obtain ⟨dq, hdq⟩ : ∃ d, (q.drop 52).take 32 = d := ⟨_, rfl⟩
  have HDQE := Lib.hid hdq
  have HDQ : Hid (dq.length = 32) := Lib.hid (by rw [← hdq, List.length_take, List.length_drop, hl]; rfl)
  have HASK : Hid (askC ⟨bd x0, cq, gq, nm, bd x51, dq⟩ = askC (askQ q)) := Lib.hid (by unfold askQ; rw [hx0, hx51, hcq, hgq, hb4, hnm, hl]; rw [if_pos rfl, hdq])
  have HX0 := Lib.hid hx0
  have HX51 := Lib.hid hx51
  have HCQ := Lib.hid hcq
  have HGQE := Lib.hid hgq
  have HGQ : Hid (gq.length = 32) := Lib.hid (by rw [← hgq]; exact length_decG _)
  have HQL := Lib.hid hl
  have HCC := Lib.hid hc
  have HBA := Lib.hid hB
  clear hx0 hx51 hcq hgq hl hc hB hb4 hnm hdq
  have HS := St.nil w noF
  go_enter Tryd.func23, Tryd.ntmps23
  go_upto_region 1 with (first | ((with_reducible refine wpList_plain ?_ ?_); exact rfl; intro KK hKK; refine wp_st_alloc HS 31 (askC ask0) rfl (.agg (askC ask0)) (by exact zero_ask) (rfl) (fun g2 W1 HSx => hKK _ _ ?_); clear hKK KK HS; have HS : St w noF [⟨g2, 31, askC ask0⟩] W1 := HSx; clear HSx))
  obtain ⟨B0, hB0⟩ : ∃ B0, W1.heap.size = B0 := ⟨_, rfl⟩
  have HBA1 : BAt W1 g o q := HBA.out.call HS.below
  have HB0 : Hid (w.heap.size ≤ B0) := Lib.hid (by rw [← hB0]; exact HS.below.size)
  have HLT : Hid (∀ b ∈ ([⟨g2, 31, askC ask0⟩] : List Blk), b.g < B0) := Lib.hid (by rw [← hB0]; exact fun b hb => HS.lt hb)
  have HGB : Hid (g < B0) := Lib.hid (by rw [← hB0]; exact HBA1.lt)
  have hF0 : Wl [(fun W => St w noF [⟨g2, 31, askC ask0⟩] W ∧ BAt W g o q ∧ B0 ≤ W.heap.size), (fun W => St w noF [⟨g2, 31, askC ask0⟩] W ∧ BAt W g o q ∧ B0 ≤ W.heap.size)] 0 (World.drew _) := ⟨HS.drew, HBA1.call (Below.refl _ _).drew, by rw [← hB0]; exact (Below.refl 0 _).drew.size⟩
  clear HS HBA1 hB0
  refine wp_region_phas [is (.slice (some ⟨g, o, none⟩) 86 cc), is (.pointer (some ⟨g, o, none⟩)), is (.int .u8 (bd x0)), is (.int .i64 (bd x0)), is (.slice (some ⟨g, o, none⟩) 86 cc), is (.pointer (some ⟨g, o + 51, none⟩)), is (.int .u8 (bd x51)), is (.int .i64 (bd x51)), is (.agg (askC ⟨bd x0, clm0, zer 32, [], bd x51, zer 32⟩)), (fun v W => ∃ k, v = Value.pointer (some ⟨k, 0, none⟩) ∧ Row W k 31 (askC ask0) ∧ B0 ≤ k), (fun v W => ∃ k, v = Value.pointer (some ⟨k, 0, none⟩) ∧ Row W k 31 (askC ⟨bd x0, clm0, zer 32, [], bd x51, zer 32⟩) ∧ B0 ≤ k)] [true, true, true, true, true, true, true, true, true, false, false] [(fun W => St w noF [⟨g2, 31, askC ask0⟩] W ∧ BAt W g o q ∧ B0 ≤ W.heap.size), (fun W => St w noF [⟨g2, 31, askC ask0⟩] W ∧ BAt W g o q ∧ B0 ≤ W.heap.size)] [false, false, false, false, false, false, false, false, false, false, true] [some 0, some 0, some 0, some 0, some 0, some 0, some 0, some 0, some 0, some 0, some 0] [none, none, none, none, none, none, none, none, none, none, some 9] [some 4, some 5, some 6, some 7, some 8, some 9, some 10, some 11, some 12, some 3, none] 11 1 (fun _ => true) rfl rfl (by kernel_rfl) (by kernel_rfl) (by kernel_rfl) (by kernel_rfl) (by kernel_rfl) ?_ ?_ ?_ ?_ ?_ ?_
  · repeat first | exact wok_nil | refine wok_cons (by first | exact fun _ _ h k => ⟨h.1.same k, h.2.1.call k, Nat.le_trans h.2.2 k.size⟩) ?_
  · repeat first | exact vok_nil | refine vok_rig (by first | exact fun _ _ _ h => h) ?_ | refine vok_soft (by first | exact fun _ _ _ h _ => h | exact fun _ _ _ h k => ⟨h.choose, h.choose_spec.1, h.choose_spec.2.1.call k, h.choose_spec.2.2⟩) ?_
  · exact hF0
  · repeat first | exact all_end (by decide) | refine all_cons (by first | exact rfl | exact ⟨rfl, fun _ _ h => Or.inl h⟩ | exact ⟨rfl, fun _ _ h => Or.inr ⟨h, rfl⟩⟩) ?_
  · refine alla_old rfl (step_mild 0 rfl rfl rfl (fun a x_ W hout hin hP => ?_)) ?_
    · have e0 : a.tmps[0]? = some (.slice (some ⟨g, o, none⟩) 86 cc) := (hout 0 (by kernel_rfl)).trans rfl
      exact does_move rfl e0 ⟨Same.refl _, rfl⟩
    refine alla_old rfl (step_mild 0 rfl rfl rfl (fun a x_ W hout hin hP => ?_)) ?_
    · have e4 := hin.is 0 4 (by kernel_rfl) (by decide) (by kernel_rfl) (by kernel_rfl) _ rfl
      clear hin hout
      intro K Q hK
      go_simp
      exact hK _ _ ⟨Same.refl _, rfl⟩
    refine alla_old rfl (step_mild 0 rfl rfl rfl (fun a x_ W hout hin hP => ?_)) ?_
    · have e5 := hin.is 1 5 (by kernel_rfl) (by decide) (by kernel_rfl) (by kernel_rfl) _ rfl
      have hc : W.cell? ⟨g, o, none⟩ = some (.int .u8 (bd x0)) := HX0.out ▸ hP.2.1.get 0 (by rw [HQL.out]; decide)
      clear hP
      clear hin hout
      intro K Q hK
      go_simp
      exact hK _ _ ⟨Same.refl _, rfl⟩
    refine alla_old rfl (step_mild 0 rfl rfl rfl (fun a x_ W hout hin hP => ?_)) ?_
    · have e6 := hin.is 2 6 (by kernel_rfl) (by decide) (by kernel_rfl) (by kernel_rfl) _ rfl
      have hw := i64_bd x0
      clear hin hout
      intro K Q hK
      go_simp
      exact hK _ _ ⟨Same.refl _, rfl⟩
    refine alla_old rfl (step_mild 0 rfl rfl rfl (fun a x_ W hout hin hP => ?_)) ?_
    · have e0 : a.tmps[0]? = some (.slice (some ⟨g, o, none⟩) 86 cc) := (hout 0 (by kernel_rfl)).trans rfl
      exact does_move rfl e0 ⟨Same.refl _, rfl⟩
    refine alla_old rfl (step_mild 0 rfl rfl rfl (fun a x_ W hout hin hP => ?_)) ?_
    · have e8 := hin.is 4 8 (by kernel_rfl) (by decide) (by kernel_rfl) (by kernel_rfl) _ rfl
      clear hin hout
      intro K Q hK
      go_simp
      exact hK _ _ ⟨Same.refl _, rfl⟩
    refine alla_old rfl (step_mild 0 rfl rfl rfl (fun a x_ W hout hin hP => ?_)) ?_
    · have e9 := hin.is 5 9 (by kernel_rfl) (by decide) (by kernel_rfl) (by kernel_rfl) _ rfl
      have hc : W.cell? ⟨g, o + 51, none⟩ = some (.int .u8 (bd x51)) := HX51.out ▸ hP.2.1.get 51 (by rw [HQL.out]; decide)
      clear hP
      clear hin hout
      intro K Q hK
      go_simp
      exact hK _ _ ⟨Same.refl _, rfl⟩
    refine alla_old rfl (step_mild 0 rfl rfl rfl (fun a x_ W hout hin hP => ?_)) ?_
    · have e10 := hin.is 6 10 (by kernel_rfl) (by decide) (by kernel_rfl) (by kernel_rfl) _ rfl
      have hw := i64_bd x51
      clear hin hout
      intro K Q hK
      go_simp
      exact hK _ _ ⟨Same.refl _, rfl⟩
    refine alla_old rfl (step_mild 0 rfl rfl rfl (fun a x_ W hout hin hP => ?_)) ?_
    · have e7 := hin.is 3 7 (by kernel_rfl) (by decide) (by kernel_rfl) (by kernel_rfl) _ rfl
      have e11 := hin.is 7 11 (by kernel_rfl) (by decide) (by kernel_rfl) (by kernel_rfl) _ rfl
      clear hin hout
      intro K Q hK
      go_simp
      exact hK _ _ ⟨Same.refl _, by rw [← askLit_eq]; rfl⟩
    refine alla_old rfl (step_mild 0 rfl rfl rfl (fun a x_ W hout hin hP => ?_)) ?_
    · have hbse := hP.2.2
      clear hP hin hout
      intro K Q hK
      have hz : (Tryd.prog.info? 31).bind (·.zero) = some (.agg (askC ask0)) := zero_ask
      refine wp_new_row 31 (askC ask0) rfl hz ?_
      exact hK _ _ ⟨Same.alloc _ _, _, rfl, Row.fresh _ _ _, hbse⟩
    refine alla_wild 0 rfl rfl rfl (fun a x_ W hout hin hP => ?_) ?_
    · obtain ⟨hw9, hx9⟩ := hin 9 (by kernel_rfl) (by decide)
      have hw9 := hw9 (.inr ⟨rfl, by kernel_rfl⟩)
      have hx9 := hx9 3 (by kernel_rfl)
      have e12 := hin.is 8 12 (by kernel_rfl) (by decide) (by kernel_rfl) (by kernel_rfl) _ rfl
      obtain ⟨g6, hg6, r6, hb6⟩ := hw9
      rw [hg6] at hx9
      clear hin hout
      intro K Q hK
      refine wp_store_row 31 (.tmp 3) (.tmp 12) rfl g6 (askC ⟨bd x0, clm0, zer 32, [], bd x51, zer 32⟩) (eval_of_get hx9) (eval_of_get e12) 31 (askC ask0) r6 (by rw [size_askC (ok_zero _ _)]; exact size_ask) (by rw [size_askC (ok_zero _ _), show (askC ask0).size = 72 from size_askC (ok_zero 0 0)]) (one_ask _) ?_
      have hgr := grown_setRow W g6 (askC ⟨bd x0, clm0, zer 32, [], bd x51, zer 32⟩)
      exact hK (x_ 9) _ ⟨⟨hP.1.far hgr (Nat.le_trans HB0.out hb6) (fun b hb => by have := HLT.out b hb; omega), hP.2.1.far hgr (by have := HGB.out; omega), Nat.le_trans hP.2.2 hgr.size⟩, ⟨g6, hg6, r6.setRow _, hb6⟩, al_one rfl rfl⟩
    exact all_end (by decide)
  · intro x_ W hP hV hal
    obtain ⟨g6, h10, r6, hb6⟩ := hV 10 (by decide) (.inr (by kernel_rfl))
    have h9 : x_ 9 = .pointer (some ⟨g6, 0, none⟩) := (hal 10 (by decide) 9 rfl).symm.trans h10
    have HSJ : St w noF [⟨g2, 31, askC ask0⟩, ⟨g6, 31, askC ⟨bd x0, clm0, zer 32, [], bd x51, zer 32⟩⟩] W := hP.1.join r6 (Nat.le_trans HB0.out hb6) (fun b hb => by have := HLT.out b hb; omega)
    have HBX := Lib.hid hP.2.1
    clear hV hP hal h10 r6 hb6
    simp only [putL, Act.put, List.setIfInBounds_toArray, List.set_cons_succ, List.set_cons_zero, h9]
    simp only [Nat.zero_add, Nat.reduceAdd]
    refine wpAnyH_done (by kernel_rfl) ?_ _
    clear h9
    have HS := HSJ
    clear HSJ
    have C := tokdec_any (some ⟨g, o + 1, none⟩) (cc - 1) ((q.drop 1).take 46) 46 (by rw [List.length_take, List.length_drop, HQL.out]; rfl) W (((HBX.out.drop 1).take 46).slice (by rw [List.length_take, List.length_drop, HQL.out]; rfl) (by have := HCC.out; omega))
    rw [HCQ.out, HGQE.out] at C
    have hcc := HCC.out
    go_wp2_with fail
    refine C.mono ?_
    rintro x w3 ⟨rfl, hb⟩
    have HSx := HS.same hb
    have HBX3 := Lib.hid (HBX.out.call hb)
    clear HS hb C HBX
    have HS := HSx
    have HBX := HBX3
    clear HSx HBX3
    go_upto_region 3 with (first | ((with_reducible refine wpList_plain ?_ ?_); exact rfl; intro KK hKK; refine wp_st_store HS 1 1 28 (.tmp 19) (.tmp 17) rfl rfl rfl (.agg (tokCells cq gq)) rfl (by rw [show (Value.agg (tokCells cq gq)).cells.size = 37 from tok_size _ _ HGQ.out]; exact size_tok) (by show 1 + (tokCells cq gq).size ≤ (askC ⟨bd x0, clm0, zer 32, [], bd x51, zer 32⟩).size; rw [tok_size _ _ HGQ.out, size_askC (ok_zero _ _)]; decide) (one_tok _ _) (askC ⟨bd x0, cq, gq, [], bd x51, zer 32⟩) (spl_ask_tok ⟨bd x0, clm0, zer 32, [], bd x51, zer 32⟩ cq gq (length_zer 32) HGQ.out) (fun W21 HSx => hKK _ _ ?_); clear hKK KK HS; have HS : St w noF [⟨g2, 31, askC ask0⟩, ⟨g6, 31, askC ⟨bd x0, cq, gq, [], bd x51, zer 32⟩⟩] W21 := HSx; clear HSx))
    have HOK1 : Hid (Asq.Ok ⟨bd x0, cq, gq, [], bd x51, zer 32⟩) := Lib.hid ⟨HGQ.out, length_zer 32, HCN.out, by unfold maxLen; simp⟩
    have HOK2 : Hid (Asq.Ok ⟨bd x0, cq, gq, nm, bd x51, zer 32⟩) := Lib.hid ⟨HGQ.out, length_zer 32, HCN.out, HNL.out⟩
    clear HBX
    have HRB : Hid (W21.rangeAt g (o + 47) (bytesV b4)) := Lib.hid (HB4Q.out ▸ (HBA.out.call HS.below).range 47 4 (by rw [HQL.out]; decide))
    have C := cut_any b4 W21 HB4.out
    rw [HNM.out] at C
    have hat : ∀ w, (Instr.arrayAt 50 (.slice (some ⟨g, o + 47, none⟩) 39 (cc - 47))).run Tryd.prog w = .ok (.pointer (some ⟨g, o + 47, none⟩)) w := fun w => run_arrayAt w 50 _ 4 _ 39 (cc - 47) Tryd.underlying50 (by decide)
    go_wp2_with (first | ((with_reducible refine wpList_plain ?_ ?_); exact rfl; intro KK hKK; refine wp_load_mid 50 (.tmp 23) rfl g (o + 47) rfl (bytesV b4) _ HRB.out Tryd.underlying50 rfl (by rw [len_bytesV, HB4.out]; exact size_b4) (hKK _ _ ?_); clear hKK KK))
    refine C.mono ?_
    rintro x w4 ⟨rfl, hb⟩
    have HSx := HS.same hb
    clear HS hb C HRB
    have HS := HSx
    clear HSx
    go_upto_region 4 with (first | ((with_reducible refine wpList_plain ?_ ?_); exact rfl; intro KK hKK; refine wp_st_put HS 1 38 9 (.tmp 28) (.tmp 26) rfl rfl rfl (.string (strB nm)) rfl (by kernel_rfl) rfl rfl (by rw [size_askC (HOK1.out)]; decide) (askC ⟨bd x0, cq, gq, nm, bd x51, zer 32⟩) (put_ask_name ⟨bd x0, cq, gq, [], bd x51, zer 32⟩ nm HGQ.out) (fun W31 HSx => hKK _ _ ?_); clear hKK KK HS; have HS : St w noF [⟨g2, 31, askC ask0⟩, ⟨g6, 31, askC ⟨bd x0, cq, gq, nm, bd x51, zer 32⟩⟩] W31 := HSx; clear HSx))
    have HOK3 : Hid (Asq.Ok ⟨bd x0, cq, gq, nm, bd x51, dq⟩) := Lib.hid ⟨HGQ.out, HDQ.out, HCN.out, HNL.out⟩
    have HRD : Hid (W31.rangeAt g (o + 52) (bytesV dq)) := Lib.hid (HDQE.out ▸ (HBA.out.call HS.below).range 52 32 (by rw [HQL.out]; decide))
    have hat : ∀ w, (Instr.arrayAt 29 (.slice (some ⟨g, o + 52, none⟩) 34 (cc - 52))).run Tryd.prog w = .ok (.pointer (some ⟨g, o + 52, none⟩)) w := fun w => run_arrayAt w 29 _ 32 _ 34 (cc - 52) Tryd.underlying29 (by decide)
    go_upto_region 6 with (first | ((with_reducible refine wpList_plain ?_ ?_); exact rfl; intro KK hKK; refine wp_load_mid 29 (.tmp 34) rfl g (o + 52) rfl (bytesV dq) _ HRD.out Tryd.underlying29 rfl (by rw [len_bytesV, HDQ.out]; exact size_blk) (hKK _ _ ?_); clear hKK KK) | ((with_reducible refine wpList_plain ?_ ?_); exact rfl; intro KK hKK; refine wp_st_store HS 1 40 29 (.tmp 36) (.tmp 35) rfl rfl rfl (.agg (bs dq)) rfl (by rw [show (Value.agg (bs dq)).cells.size = 32 from by show (bs dq).size = 32; rw [size_bs, HDQ.out]]; exact size_blk) (by show 40 + (bs dq).size ≤ (askC ⟨bd x0, cq, gq, nm, bd x51, zer 32⟩).size; rw [size_bs, HDQ.out, size_askC HOK2.out]; decide) (one_bs _) (askC ⟨bd x0, cq, gq, nm, bd x51, dq⟩) (spl_ask_dat ⟨bd x0, cq, gq, nm, bd x51, zer 32⟩ dq HOK2.out HDQ.out) (fun W41 HSx => hKK _ _ ?_); clear hKK KK HS; have HS : St w noF [⟨g2, 31, askC ask0⟩, ⟨g6, 31, askC ⟨bd x0, cq, gq, nm, bd x51, dq⟩⟩] W41 := HSx; clear HSx))
    go_wp2_with (first | ((with_reducible refine wpList_plain ?_ ?_); exact rfl; intro KK hKK; refine wp_st_load HS 1 0 31 (.tmp 3) rfl rfl rfl (askC ⟨bd x0, cq, gq, nm, bd x51, dq⟩) (slab_whole _) _ Tryd.underlying31 rfl (by rw [size_askC (HOK3.out)]; exact size_ask) (hKK _ _ ?_); clear hKK KK) | ((with_reducible refine wpList_plain ?_ ?_); exact rfl; intro KK hKK; refine wp_st_store HS 0 0 31 (.tmp 2) (.tmp 37) rfl rfl rfl (.agg (askC ⟨bd x0, cq, gq, nm, bd x51, dq⟩)) rfl (by rw [show (Value.agg (askC ⟨bd x0, cq, gq, nm, bd x51, dq⟩)).cells.size = 72 from size_askC HOK3.out]; exact size_ask) (by show 0 + (askC ⟨bd x0, cq, gq, nm, bd x51, dq⟩).size ≤ (askC ask0).size; rw [size_askC HOK3.out, show (askC ask0).size = 72 from size_askC (ok_zero 0 0)]; decide) (one_ask _) (askC ⟨bd x0, cq, gq, nm, bd x51, dq⟩) (spl_agg _ _ _ rfl (by rw [size_askC HOK3.out, show (askC ask0).size = 72 from size_askC (ok_zero 0 0)])) (fun W51 HSx => hKK _ _ ?_); clear hKK KK HS; have HS : St w noF [⟨g2, 31, askC ⟨bd x0, cq, gq, nm, bd x51, dq⟩⟩, ⟨g6, 31, askC ⟨bd x0, cq, gq, nm, bd x51, dq⟩⟩] W51 := HSx; clear HSx))
    refine bodyPost_ret (results_cell_row Tryd.results23 _ _ g2 31 (askC ⟨bd x0, cq, gq, nm, bd x51, dq⟩) (0, 0) _ rfl (HS.row 0 rfl) Tryd.underlying31 rfl (by rw [size_askC (HOK3.out)]; exact size_ask)) rfl ?_
    exact ⟨by rw [HASK.out], HS.below⟩
end Go.Proofs.YtobklbfcnbmnmaaDoor

/- The program's ask: the request of bytes, or that there is none. -/
set_option maxRecDepth 4000
namespace Go.Proofs.YtobklbfcnbmnmaaDoor
open Go Go.RowKit
def askOk (q : List (BitVec 8)) : Bool := (decide (q.length = 54) || decide (q.length = 86)) && (mayA (askQ q) && decide (encA (askQ q) = q))
def decA (q : List (BitVec 8)) : Asq := if askOk q then askQ q else ask0
def decF (q : List (BitVec 8)) : Int := if askOk q then 0 else 11
theorem adec_no {q : List (BitVec 8)} (h : mayA (askQ q) = false ∨ encA (askQ q) ≠ q) : decA q = ask0 ∧ decF q = 11 := by
  have hk : askOk q = false := by
    unfold askOk
    rcases h with h | h
    · rw [h]; simp
    · rw [decide_eq_false h]; simp
  unfold decA decF
  rw [hk]
  exact ⟨rfl, rfl⟩
theorem adec_len {q : List (BitVec 8)} (h : ¬ (q.length = 54 ∨ q.length = 86)) : decA q = ask0 ∧ decF q = 11 := by
  have hk : askOk q = false := by
    unfold askOk
    rw [decide_eq_false (fun e => h (.inl e)), decide_eq_false (fun e => h (.inr e))]; rfl
  unfold decA decF
  rw [hk]
  exact ⟨rfl, rfl⟩
theorem adec_yes {q : List (BitVec 8)} (h1 : q.length = 54 ∨ q.length = 86) (h2 : mayA (askQ q) = true) (h3 : encA (askQ q) = q) : decA q = askQ q ∧ decF q = 0 := by
  have hk : askOk q = true := by
    unfold askOk
    rw [h2, decide_eq_true h3]
    rcases h1 with h1 | h1
    · rw [decide_eq_true h1]; rfl
    · rw [decide_eq_true h1, Bool.or_true]; rfl
  unfold decA decF
  rw [hk]
  exact ⟨rfl, rfl⟩
theorem ok_askQ {q : List (BitVec 8)} {N : Nat} (h : q.length = N) (hN : N = 54 ∨ N = 86 := by first | exact .inl rfl | exact .inr rfl) : Asq.Ok (askQ q) := by
  have h4 : ((q.drop 47).take 4).length = 4 := by rw [List.length_take, List.length_drop]; omega
  refine ⟨length_decG _, ?_, Nat.le_trans (decC_len _) (by decide), Nat.le_trans (cut_len h4) (by decide)⟩
  show (if q.length = 86 then (q.drop 52).take 32 else zer 32).length = 32
  split
  · rw [List.length_take, List.length_drop]; omega
  · exact length_zer 32
set_option maxHeartbeats 800000 in
theorem askdec_short (A : Option Addr) (n cc : Nat) (q : List (BitVec 8)) (w : World) (hl : q.length = n) (h54 : n ≠ 54) (h86 : n ≠ 86) :
    Calls Tryd.prog 10 #[.slice A n cc] w fun x w' => x = .returned (.tuple #[.agg (askC (decA q)), .int .i64 (decF q)]) ∧ Below w.heap.size w w' := by
  obtain ⟨hd1, hd2⟩ := adec_len (q := q) (by omega)
  rw [hd1, hd2]
  have e1 : ((n : Int) != 54) = true := bne_iff_ne.2 (by omega)
  have e2 : ((n : Int) != 86) = true := bne_iff_ne.2 (by omega)
  clear hd1 hd2 h54 h86 hl
  have HS := St.nil w noF
  go_enter Tryd.func10, Tryd.ntmps10
  go_upto_region 1 with (first | ((with_reducible refine wpList_plain ?_ ?_); exact rfl; intro KK hKK; refine wp_st_alloc HS 31 (askC ask0) rfl (.agg (askC ask0)) (by exact zero_ask) (rfl) (fun g2 W1 HSx => hKK _ _ ?_); clear hKK KK HS; have HS : St w noF [⟨g2, 31, askC ask0⟩] W1 := HSx; clear HSx))
  go_wp2_with (first | ((with_reducible refine wpList_plain ?_ ?_); exact rfl; intro KK hKK; refine wp_st_store HS 0 0 31 (.tmp 2) (.tmp 15) rfl rfl rfl (.agg (askLit 0 0)) rfl (by rw [show (Value.agg (askLit 0 0)).cells.size = 72 from by rw [askLit_eq]; exact size_askC (show Asq.Ok ask0 from ok_zero 0 0)]; exact size_ask) (by rw [Nat.zero_add, show (Value.agg (askLit 0 0)).cells.size = 72 from by rw [askLit_eq]; exact size_askC (show Asq.Ok ask0 from ok_zero 0 0), show (askC ask0).size = 72 from size_askC (show Asq.Ok ask0 from ok_zero 0 0)]; decide) (by rw [askLit_eq]; exact one_ask _) (askC ask0) (spl_agg _ _ _ (askLit_eq 0 0) (by rw [show (askC ask0).size = 72 from size_askC (show Asq.Ok ask0 from ok_zero 0 0), askLit_eq]; exact (size_askC (show Asq.Ok ask0 from ok_zero 0 0)).symm)) (fun W11 HSx => hKK _ _ ?_); clear hKK KK HS; have HS : St w noF [⟨g2, 31, askC ask0⟩] W11 := HSx; clear HSx))
  exact bodyPost_ret (v := .tuple #[.agg (askC ask0), .int .i64 11]) (results_cell_tmp Tryd.results10 _ _ g2 31 (askC ask0) (0, 0) _ rfl (HS.row 0 rfl) Tryd.underlying31 rfl (by rw [size_askC (show Asq.Ok ask0 from ok_zero 0 0)]; exact size_ask)) rfl ⟨rfl, HS.below⟩
set_option maxHeartbeats 3200000 in
theorem askdec54 (g o cc : Nat) (q : List (BitVec 8)) (w : World) (hB : BAt w g o q) (hl : q.length = 54) (hc : 54 ≤ cc) :
    Calls Tryd.prog 10 #[.slice (some ⟨g, o, none⟩) 54 cc] w fun x w' => x = .returned (.tuple #[.agg (askC (decA q)), .int .i64 (decF q)]) ∧ Below w.heap.size w w' := by
  have HB := Lib.hid hB
  have HQL := Lib.hid hl
  have HCC := Lib.hid hc
  have HOK : Hid (Asq.Ok (askQ q)) := Lib.hid (ok_askQ hl)
  have CF := Lib.hid (fun W (hb : Below w.heap.size w W) => from54 g o cc q W (hB.below hb hB.lt) hl hc)
  have HSQ : Hid (∀ W, Below w.heap.size w W → Slice W (.slice (some ⟨g, o, none⟩) 54 cc) q) := Lib.hid (fun W hb => (hB.below hb hB.lt).slice hl hc)
  clear hB hl hc
  have HS := St.nil w noF
  go_enter Tryd.func10, Tryd.ntmps10
  go_upto_region 1 with (first | ((with_reducible refine wpList_plain ?_ ?_); exact rfl; intro KK hKK; refine wp_st_alloc HS 31 (askC ask0) rfl (.agg (askC ask0)) (by exact zero_ask) (rfl) (fun g2 W1 HSx => hKK _ _ ?_); clear hKK KK HS; have HS : St w noF [⟨g2, 31, askC ask0⟩] W1 := HSx; clear HSx))
  go_upto_region 3 with fail
  have C := CF.out W1 HS.below
  go_wp2_with fail
  refine C.mono ?_
  rintro x w3 ⟨rfl, hb⟩
  have HSx := HS.same hb
  clear HS hb C
  have HS := HSx
  clear HSx
  go_upto_region 4 with (first | ((with_reducible refine wpList_plain ?_ ?_); exact rfl; intro KK hKK; refine wp_st_alloc HS 31 (askC ask0) rfl (.agg (askC ask0)) (by exact zero_ask) (rfl) (fun g4 W21 HSx => hKK _ _ ?_); clear hKK KK HS; have HS : St w noF [⟨g2, 31, askC ask0⟩, ⟨g4, 31, askC ask0⟩] W21 := HSx; clear HSx) | ((with_reducible refine wpList_plain ?_ ?_); exact rfl; intro KK hKK; refine wp_st_store HS 1 0 31 (.tmp 4) (.tmp 17) rfl rfl rfl (.agg (askC (askQ q))) rfl (by rw [show (Value.agg (askC (askQ q))).cells.size = 72 from size_askC HOK.out]; exact size_ask) (by rw [Nat.zero_add, show (Value.agg (askC (askQ q))).cells.size = 72 from size_askC HOK.out, show (askC ask0).size = 72 from size_askC (show Asq.Ok ask0 from ok_zero 0 0)]; decide) (one_ask _) (askC (askQ q)) (spl_agg _ _ _ rfl (by rw [show (askC ask0).size = 72 from size_askC (show Asq.Ok ask0 from ok_zero 0 0)]; exact (size_askC HOK.out).symm)) (fun W22 HSx => hKK _ _ ?_); clear hKK KK HS; have HS : St w noF [⟨g2, 31, askC ask0⟩, ⟨g4, 31, askC (askQ q)⟩] W22 := HSx; clear HSx))
  cases hm : mayA (askQ q) with
  | false =>
    have HD : Hid (decA q = ask0 ∧ decF q = 11) := Lib.hid (adec_no (.inl hm))
    have C := askenc_bad (askQ q) W22 HOK.out hm
    clear hm
    go_wp2_with (first | ((with_reducible refine wpList_plain ?_ ?_); exact rfl; intro KK hKK; refine wp_st_load HS 1 0 31 (.tmp 4) rfl rfl rfl (askC (askQ q)) (slab_whole _) _ Tryd.underlying31 rfl (by rw [size_askC HOK.out]; exact size_ask) (hKK _ _ ?_); clear hKK KK))
    refine C.mono ?_
    rintro x w4 ⟨rfl, hb⟩
    have HSx := HS.same hb
    clear HS hb C
    have HS := HSx
    clear HSx
    go_wp2_with (first | ((with_reducible refine wpList_plain ?_ ?_); exact rfl; intro KK hKK; refine wp_st_store HS 0 0 31 (.tmp 2) (.tmp 31) rfl rfl rfl (.agg (askLit 0 0)) rfl (by rw [show (Value.agg (askLit 0 0)).cells.size = 72 from by rw [askLit_eq]; exact size_askC (show Asq.Ok ask0 from ok_zero 0 0)]; exact size_ask) (by rw [Nat.zero_add, show (Value.agg (askLit 0 0)).cells.size = 72 from by rw [askLit_eq]; exact size_askC (show Asq.Ok ask0 from ok_zero 0 0), show (askC ask0).size = 72 from size_askC (show Asq.Ok ask0 from ok_zero 0 0)]; decide) (by rw [askLit_eq]; exact one_ask _) (askC ask0) (spl_agg _ _ _ (askLit_eq 0 0) (by rw [show (askC ask0).size = 72 from size_askC (show Asq.Ok ask0 from ok_zero 0 0), askLit_eq]; exact (size_askC (show Asq.Ok ask0 from ok_zero 0 0)).symm)) (fun W41 HSx => hKK _ _ ?_); clear hKK KK HS; have HS : St w noF [⟨g2, 31, askC ask0⟩, ⟨g4, 31, askC (askQ q)⟩] W41 := HSx; clear HSx))
    exact bodyPost_ret (v := .tuple #[.agg (askC ask0), .int .i64 11]) (results_cell_tmp Tryd.results10 _ _ g2 31 (askC ask0) (0, 0) _ rfl (HS.row 0 rfl) Tryd.underlying31 rfl (by rw [size_askC (show Asq.Ok ask0 from ok_zero 0 0)]; exact size_ask)) rfl ⟨by rw [HD.out.1, HD.out.2], HS.below⟩
  | true =>
    have C := askenc_good (askQ q) W22 HOK.out hm
    have HMM := Lib.hid hm
    clear hm
    go_wp2_with (first | ((with_reducible refine wpList_plain ?_ ?_); exact rfl; intro KK hKK; refine wp_st_load HS 1 0 31 (.tmp 4) rfl rfl rfl (askC (askQ q)) (slab_whole _) _ Tryd.underlying31 rfl (by rw [size_askC HOK.out]; exact size_ask) (hKK _ _ ?_); clear hKK KK))
    refine C.mono ?_
    rintro x w4 ⟨v4, rfl, ho, hb⟩
    have HSx := HS.same hb
    obtain ⟨A4, c4, rfl, _⟩ := own_slice_form ho
    have hsl := own_slice ho
    have hlen := own_nil ho
    have CE := equal_any (encA (askQ q)) q _ _ w4 hsl (HSQ.out w4 HSx.below)
    clear HS hb C ho hlen hsl
    have HS := HSx
    clear HSx
    by_cases hbq : encA (askQ q) = q
    · have HD : Hid (decA q = (askQ q) ∧ decF q = 0) := Lib.hid (adec_yes (by rw [HQL.out]; first | exact .inl rfl | exact .inr rfl) HMM.out hbq)
      rw [decide_eq_true hbq] at CE
      clear hbq
      go_wp2_with fail
      refine CE.mono ?_
      rintro x w5 ⟨rfl, rfl⟩
      clear CE
      go_wp2_with (first | ((with_reducible refine wpList_plain ?_ ?_); exact rfl; intro KK hKK; refine wp_st_load HS 1 0 31 (.tmp 4) rfl rfl rfl (askC (askQ q)) (slab_whole _) _ Tryd.underlying31 rfl (by rw [size_askC HOK.out]; exact size_ask) (hKK _ _ ?_); clear hKK KK) | ((with_reducible refine wpList_plain ?_ ?_); exact rfl; intro KK hKK; refine wp_st_store HS 0 0 31 (.tmp 2) (.tmp 32) rfl rfl rfl (.agg (askC (askQ q))) rfl (by rw [show (Value.agg (askC (askQ q))).cells.size = 72 from size_askC HOK.out]; exact size_ask) (by rw [Nat.zero_add, show (Value.agg (askC (askQ q))).cells.size = 72 from size_askC HOK.out, show (askC ask0).size = 72 from size_askC (show Asq.Ok ask0 from ok_zero 0 0)]; decide) (one_ask _) (askC (askQ q)) (spl_agg _ _ _ rfl (by rw [show (askC ask0).size = 72 from size_askC (show Asq.Ok ask0 from ok_zero 0 0)]; exact (size_askC HOK.out).symm)) (fun W61 HSx => hKK _ _ ?_); clear hKK KK HS; have HS : St w noF [⟨g2, 31, askC (askQ q)⟩, ⟨g4, 31, askC (askQ q)⟩] W61 := HSx; clear HSx))
      exact bodyPost_ret (v := .tuple #[.agg (askC (askQ q)), .int .i64 0]) (results_cell_tmp Tryd.results10 _ _ g2 31 (askC (askQ q)) (0, 0) _ rfl (HS.row 0 rfl) Tryd.underlying31 rfl (by rw [size_askC HOK.out]; exact size_ask)) rfl ⟨by rw [HD.out.1, HD.out.2], HS.below⟩
    · have HD : Hid (decA q = ask0 ∧ decF q = 11) := Lib.hid (adec_no (.inr hbq))
      rw [decide_eq_false hbq] at CE
      clear hbq
      go_wp2_with fail
      refine CE.mono ?_
      rintro x w5 ⟨rfl, rfl⟩
      clear CE
      go_wp2_with (first | ((with_reducible refine wpList_plain ?_ ?_); exact rfl; intro KK hKK; refine wp_st_store HS 0 0 31 (.tmp 2) (.tmp 31) rfl rfl rfl (.agg (askLit 0 0)) rfl (by rw [show (Value.agg (askLit 0 0)).cells.size = 72 from by rw [askLit_eq]; exact size_askC (show Asq.Ok ask0 from ok_zero 0 0)]; exact size_ask) (by rw [Nat.zero_add, show (Value.agg (askLit 0 0)).cells.size = 72 from by rw [askLit_eq]; exact size_askC (show Asq.Ok ask0 from ok_zero 0 0), show (askC ask0).size = 72 from size_askC (show Asq.Ok ask0 from ok_zero 0 0)]; decide) (by rw [askLit_eq]; exact one_ask _) (askC ask0) (spl_agg _ _ _ (askLit_eq 0 0) (by rw [show (askC ask0).size = 72 from size_askC (show Asq.Ok ask0 from ok_zero 0 0), askLit_eq]; exact (size_askC (show Asq.Ok ask0 from ok_zero 0 0)).symm)) (fun W51 HSx => hKK _ _ ?_); clear hKK KK HS; have HS : St w noF [⟨g2, 31, askC ask0⟩, ⟨g4, 31, askC (askQ q)⟩] W51 := HSx; clear HSx))
      exact bodyPost_ret (v := .tuple #[.agg (askC ask0), .int .i64 11]) (results_cell_tmp Tryd.results10 _ _ g2 31 (askC ask0) (0, 0) _ rfl (HS.row 0 rfl) Tryd.underlying31 rfl (by rw [size_askC (show Asq.Ok ask0 from ok_zero 0 0)]; exact size_ask)) rfl ⟨by rw [HD.out.1, HD.out.2], HS.below⟩
set_option maxHeartbeats 3200000 in
theorem askdec86 (g o cc : Nat) (q : List (BitVec 8)) (w : World) (hB : BAt w g o q) (hl : q.length = 86) (hc : 86 ≤ cc) :
    Calls Tryd.prog 10 #[.slice (some ⟨g, o, none⟩) 86 cc] w fun x w' => x = .returned (.tuple #[.agg (askC (decA q)), .int .i64 (decF q)]) ∧ Below w.heap.size w w' := by
  have HB := Lib.hid hB
  have HQL := Lib.hid hl
  have HCC := Lib.hid hc
  have HOK : Hid (Asq.Ok (askQ q)) := Lib.hid (ok_askQ hl)
  have CF := Lib.hid (fun W (hb : Below w.heap.size w W) => from86 g o cc q W (hB.below hb hB.lt) hl hc)
  have HSQ : Hid (∀ W, Below w.heap.size w W → Slice W (.slice (some ⟨g, o, none⟩) 86 cc) q) := Lib.hid (fun W hb => (hB.below hb hB.lt).slice hl hc)
  clear hB hl hc
  have HS := St.nil w noF
  go_enter Tryd.func10, Tryd.ntmps10
  go_upto_region 1 with (first | ((with_reducible refine wpList_plain ?_ ?_); exact rfl; intro KK hKK; refine wp_st_alloc HS 31 (askC ask0) rfl (.agg (askC ask0)) (by exact zero_ask) (rfl) (fun g2 W1 HSx => hKK _ _ ?_); clear hKK KK HS; have HS : St w noF [⟨g2, 31, askC ask0⟩] W1 := HSx; clear HSx))
  go_upto_region 3 with fail
  have C := CF.out W1 HS.below
  go_wp2_with fail
  refine C.mono ?_
  rintro x w3 ⟨rfl, hb⟩
  have HSx := HS.same hb
  clear HS hb C
  have HS := HSx
  clear HSx
  go_upto_region 4 with (first | ((with_reducible refine wpList_plain ?_ ?_); exact rfl; intro KK hKK; refine wp_st_alloc HS 31 (askC ask0) rfl (.agg (askC ask0)) (by exact zero_ask) (rfl) (fun g4 W21 HSx => hKK _ _ ?_); clear hKK KK HS; have HS : St w noF [⟨g2, 31, askC ask0⟩, ⟨g4, 31, askC ask0⟩] W21 := HSx; clear HSx) | ((with_reducible refine wpList_plain ?_ ?_); exact rfl; intro KK hKK; refine wp_st_store HS 1 0 31 (.tmp 4) (.tmp 17) rfl rfl rfl (.agg (askC (askQ q))) rfl (by rw [show (Value.agg (askC (askQ q))).cells.size = 72 from size_askC HOK.out]; exact size_ask) (by rw [Nat.zero_add, show (Value.agg (askC (askQ q))).cells.size = 72 from size_askC HOK.out, show (askC ask0).size = 72 from size_askC (show Asq.Ok ask0 from ok_zero 0 0)]; decide) (one_ask _) (askC (askQ q)) (spl_agg _ _ _ rfl (by rw [show (askC ask0).size = 72 from size_askC (show Asq.Ok ask0 from ok_zero 0 0)]; exact (size_askC HOK.out).symm)) (fun W22 HSx => hKK _ _ ?_); clear hKK KK HS; have HS : St w noF [⟨g2, 31, askC ask0⟩, ⟨g4, 31, askC (askQ q)⟩] W22 := HSx; clear HSx))
  cases hm : mayA (askQ q) with
  | false =>
    have HD : Hid (decA q = ask0 ∧ decF q = 11) := Lib.hid (adec_no (.inl hm))
    have C := askenc_bad (askQ q) W22 HOK.out hm
    clear hm
    go_wp2_with (first | ((with_reducible refine wpList_plain ?_ ?_); exact rfl; intro KK hKK; refine wp_st_load HS 1 0 31 (.tmp 4) rfl rfl rfl (askC (askQ q)) (slab_whole _) _ Tryd.underlying31 rfl (by rw [size_askC HOK.out]; exact size_ask) (hKK _ _ ?_); clear hKK KK))
    refine C.mono ?_
    rintro x w4 ⟨rfl, hb⟩
    have HSx := HS.same hb
    clear HS hb C
    have HS := HSx
    clear HSx
    go_wp2_with (first | ((with_reducible refine wpList_plain ?_ ?_); exact rfl; intro KK hKK; refine wp_st_store HS 0 0 31 (.tmp 2) (.tmp 31) rfl rfl rfl (.agg (askLit 0 0)) rfl (by rw [show (Value.agg (askLit 0 0)).cells.size = 72 from by rw [askLit_eq]; exact size_askC (show Asq.Ok ask0 from ok_zero 0 0)]; exact size_ask) (by rw [Nat.zero_add, show (Value.agg (askLit 0 0)).cells.size = 72 from by rw [askLit_eq]; exact size_askC (show Asq.Ok ask0 from ok_zero 0 0), show (askC ask0).size = 72 from size_askC (show Asq.Ok ask0 from ok_zero 0 0)]; decide) (by rw [askLit_eq]; exact one_ask _) (askC ask0) (spl_agg _ _ _ (askLit_eq 0 0) (by rw [show (askC ask0).size = 72 from size_askC (show Asq.Ok ask0 from ok_zero 0 0), askLit_eq]; exact (size_askC (show Asq.Ok ask0 from ok_zero 0 0)).symm)) (fun W41 HSx => hKK _ _ ?_); clear hKK KK HS; have HS : St w noF [⟨g2, 31, askC ask0⟩, ⟨g4, 31, askC (askQ q)⟩] W41 := HSx; clear HSx))
    exact bodyPost_ret (v := .tuple #[.agg (askC ask0), .int .i64 11]) (results_cell_tmp Tryd.results10 _ _ g2 31 (askC ask0) (0, 0) _ rfl (HS.row 0 rfl) Tryd.underlying31 rfl (by rw [size_askC (show Asq.Ok ask0 from ok_zero 0 0)]; exact size_ask)) rfl ⟨by rw [HD.out.1, HD.out.2], HS.below⟩
  | true =>
    have C := askenc_good (askQ q) W22 HOK.out hm
    have HMM := Lib.hid hm
    clear hm
    go_wp2_with (first | ((with_reducible refine wpList_plain ?_ ?_); exact rfl; intro KK hKK; refine wp_st_load HS 1 0 31 (.tmp 4) rfl rfl rfl (askC (askQ q)) (slab_whole _) _ Tryd.underlying31 rfl (by rw [size_askC HOK.out]; exact size_ask) (hKK _ _ ?_); clear hKK KK))
    refine C.mono ?_
    rintro x w4 ⟨v4, rfl, ho, hb⟩
    have HSx := HS.same hb
    obtain ⟨A4, c4, rfl, _⟩ := own_slice_form ho
    have hsl := own_slice ho
    have hlen := own_nil ho
    have CE := equal_any (encA (askQ q)) q _ _ w4 hsl (HSQ.out w4 HSx.below)
    clear HS hb C ho hlen hsl
    have HS := HSx
    clear HSx
    by_cases hbq : encA (askQ q) = q
    · have HD : Hid (decA q = (askQ q) ∧ decF q = 0) := Lib.hid (adec_yes (by rw [HQL.out]; first | exact .inl rfl | exact .inr rfl) HMM.out hbq)
      rw [decide_eq_true hbq] at CE
      clear hbq
      go_wp2_with fail
      refine CE.mono ?_
      rintro x w5 ⟨rfl, rfl⟩
      clear CE
      go_wp2_with (first | ((with_reducible refine wpList_plain ?_ ?_); exact rfl; intro KK hKK; refine wp_st_load HS 1 0 31 (.tmp 4) rfl rfl rfl (askC (askQ q)) (slab_whole _) _ Tryd.underlying31 rfl (by rw [size_askC HOK.out]; exact size_ask) (hKK _ _ ?_); clear hKK KK) | ((with_reducible refine wpList_plain ?_ ?_); exact rfl; intro KK hKK; refine wp_st_store HS 0 0 31 (.tmp 2) (.tmp 32) rfl rfl rfl (.agg (askC (askQ q))) rfl (by rw [show (Value.agg (askC (askQ q))).cells.size = 72 from size_askC HOK.out]; exact size_ask) (by rw [Nat.zero_add, show (Value.agg (askC (askQ q))).cells.size = 72 from size_askC HOK.out, show (askC ask0).size = 72 from size_askC (show Asq.Ok ask0 from ok_zero 0 0)]; decide) (one_ask _) (askC (askQ q)) (spl_agg _ _ _ rfl (by rw [show (askC ask0).size = 72 from size_askC (show Asq.Ok ask0 from ok_zero 0 0)]; exact (size_askC HOK.out).symm)) (fun W61 HSx => hKK _ _ ?_); clear hKK KK HS; have HS : St w noF [⟨g2, 31, askC (askQ q)⟩, ⟨g4, 31, askC (askQ q)⟩] W61 := HSx; clear HSx))
      exact bodyPost_ret (v := .tuple #[.agg (askC (askQ q)), .int .i64 0]) (results_cell_tmp Tryd.results10 _ _ g2 31 (askC (askQ q)) (0, 0) _ rfl (HS.row 0 rfl) Tryd.underlying31 rfl (by rw [size_askC HOK.out]; exact size_ask)) rfl ⟨by rw [HD.out.1, HD.out.2], HS.below⟩
    · have HD : Hid (decA q = ask0 ∧ decF q = 11) := Lib.hid (adec_no (.inr hbq))
      rw [decide_eq_false hbq] at CE
      clear hbq
      go_wp2_with fail
      refine CE.mono ?_
      rintro x w5 ⟨rfl, rfl⟩
      clear CE
      go_wp2_with (first | ((with_reducible refine wpList_plain ?_ ?_); exact rfl; intro KK hKK; refine wp_st_store HS 0 0 31 (.tmp 2) (.tmp 31) rfl rfl rfl (.agg (askLit 0 0)) rfl (by rw [show (Value.agg (askLit 0 0)).cells.size = 72 from by rw [askLit_eq]; exact size_askC (show Asq.Ok ask0 from ok_zero 0 0)]; exact size_ask) (by rw [Nat.zero_add, show (Value.agg (askLit 0 0)).cells.size = 72 from by rw [askLit_eq]; exact size_askC (show Asq.Ok ask0 from ok_zero 0 0), show (askC ask0).size = 72 from size_askC (show Asq.Ok ask0 from ok_zero 0 0)]; decide) (by rw [askLit_eq]; exact one_ask _) (askC ask0) (spl_agg _ _ _ (askLit_eq 0 0) (by rw [show (askC ask0).size = 72 from size_askC (show Asq.Ok ask0 from ok_zero 0 0), askLit_eq]; exact (size_askC (show Asq.Ok ask0 from ok_zero 0 0)).symm)) (fun W51 HSx => hKK _ _ ?_); clear hKK KK HS; have HS : St w noF [⟨g2, 31, askC ask0⟩, ⟨g4, 31, askC (askQ q)⟩] W51 := HSx; clear HSx))
      exact bodyPost_ret (v := .tuple #[.agg (askC ask0), .int .i64 11]) (results_cell_tmp Tryd.results10 _ _ g2 31 (askC ask0) (0, 0) _ rfl (HS.row 0 rfl) Tryd.underlying31 rfl (by rw [size_askC (show Asq.Ok ask0 from ok_zero 0 0)]; exact size_ask)) rfl ⟨by rw [HD.out.1, HD.out.2], HS.below⟩
theorem askdec_any (A : Option Addr) (n cc : Nat) (q : List (BitVec 8)) (w : World) (hl : q.length = n) (hs : Slice w (.slice A n cc) q) :
    Calls Tryd.prog 10 #[.slice A n cc] w fun x w' => x = .returned (.tuple #[.agg (askC (decA q)), .int .i64 (decF q)]) ∧ Below w.heap.size w w' := by
  by_cases h54 : n = 54
  · subst h54
    obtain ⟨g, o, rfl, hB, hc⟩ := slice_bat hs (by omega)
    exact askdec54 g o cc q w hB hl (by omega)
  by_cases h86 : n = 86
  · subst h86
    obtain ⟨g, o, rfl, hB, hc⟩ := slice_bat hs (by omega)
    exact askdec86 g o cc q w hB hl (by omega)
  exact askdec_short A n cc q w hl h54 h86
end Go.Proofs.YtobklbfcnbmnmaaDoor
