/- The statement TagJoins: its walk. -/
import Derived.Test.YtnfceejmkcohnaaDoorTagWakes
import Derived.Test.YtnfceejmkcohnaaDoorOpenCh
import Derived.Test.YtnfceejmkcohnaaDoorFair
namespace Go.Proofs.YtnfceejmkcohnaaDoor
open Go Go.RowKit
def sln (n : Nat) : Value → World → Prop := fun v _ => ∃ A c, v = .slice A n c
theorem sln_stays (B n : Nat) : Stays B (sln n) := fun _ _ _ h _ => h
theorem digs_sln {w : World} {v : Value} {ds : List (List (BitVec 8))} (h : Digs w v ds) : ∃ A c, v = .slice A ds.length c := by
  obtain ⟨A, c, h, _⟩ := h; exact ⟨A, c, h⟩
theorem sum_two (p q : List (BitVec 8)) (v : Value) (w : World) (hT : Tab w) (hv : Parts w v [p, q]) (hl : p.length + q.length ≤ 1000000) (D : List (BitVec 8)) (hD : sha (p ++ q) = D) :
    Calls Tryd.prog 17 #[v] w fun e w' => e = .returned (.agg (bs D)) ∧ Below w.heap.size w w' := by
  subst hD
  have h := sum_any [p, q] v w hT hv (by simp) (by simp; omega)
  rwa [show ([p, q] : List (List (BitVec 8))).flatten = p ++ q by simp] at h
def JR (w wr : World) (v : Value) (h : List (BitVec 8)) (u : Value) (M : List (BitVec 8)) : Prop :=
  wr.ownsRow (w.heap.size + 1) 5 1 v M.length (bytesV M) ∧ Row wr w.heap.size 27 (chCells h u) ∧ Below w.heap.size w wr
theorem JR.step {w wr w4 : World} {v v1 u : Value} {h M q L : List (BitVec 8)} (hr : JR w wr v h u M) (hL : L = M ++ q) (own : w4.ownsRow (w.heap.size + 1) 5 1 v1 (M.length + q.length) (bytesV M ++ bytesV q)) (hb : Below (w.heap.size + 1) wr w4) : JR w w4 v1 h u L := by
  subst hL
  obtain ⟨_, h2, h3⟩ := hr
  exact ⟨by simpa [bytesV] using own, h2.below hb (by omega), h3.trans (hb.mono (by omega))⟩
set_option maxRecDepth 20000 in
set_option maxHeartbeats 1600000 in
theorem joins_walk (h : List (BitVec 8)) (u : Value) (rs0 : List (List (BitVec 8))) (w : World) (hT : Tab w) (hh : h.length = 32) (hv : Hand w u rs0) (hn : rs0.length ≤ maxLen) (hnil : ∀ n c, u = .slice none n c → c = 0) :
    Calls Tryd.prog 6 #[.agg (chCells h u)] w fun e w' => e = .returned (.bool true) ∧ Below w.heap.size w w' := by
  have HT := Lib.hid hT
  have HLh := Lib.hid hh
  have HV := Lib.hid hv
  have HN0 := Lib.hid hn
  have HNIL := Lib.hid hnil
  obtain ⟨A, c, rfl, hp0⟩ := hv
  have HP0 := Lib.hid hp0
  have hb1 := (Below.refl w.heap.size w).alloc (Nat.le_refl _) (.cells (chCells h (.slice A rs0.length c)) 27)
  have rc1 := Row.fresh w 27 (chCells h (.slice A rs0.length c))
  have cu := ch_list rc1 hh
  have HRC1 := Lib.hid rc1
  clear hT hh hn hnil hp0 rc1
  obtain ⟨n, hN⟩ : ∃ n, rs0.length = n := ⟨_, rfl⟩
  have HN := Lib.hid hN
  rw [hN] at cu HRC1 HV HNIL hb1 ⊢
  clear hN
  go_enter Tryd.func6, Tryd.ntmps6
  go_wp2_with fail
  refine (fair_any rs0 _ (w.alloc (.cells (chCells h (.slice A n c)) 27)) (HV.out.below hb1 (Nat.le_refl _)) HN0.out).mono ?_
  rintro e w1 ⟨bf, rfl, hf, rfl⟩
  cases bf with
  | false =>
    go_wp2_with fail
    refine (twakes_any _ (HT.out.below hb1 HT.out.pos)).mono ?_
    rintro e w2 ⟨rfl, hb⟩
    go_wp2_with fail
    go_ret
    exact ⟨rfl, hb1.trans (hb.mono (by simp))⟩
  | true =>
    obtain ⟨hn60, hM0⟩ := hf rfl
    clear hf
    have C0 : JR w (w.alloc (.cells (chCells h (.slice A n c)) 27)) (.slice none 0 0) h (.slice A n c) (rs0.take 0).flatten := ⟨World.ownsRow_nil _ _ _ _, HRC1.out, hb1⟩
    rw [HN.out] at hn60
    have hM : rs0.flatten.length ≤ 3000 := hM0
    have HFL : Hid (∀ k, k < n → ∃ q, rs0[k]? = some q ∧ q.length ≤ 3000 ∧ (rs0.take (k + 1)).flatten = (rs0.take k).flatten ++ q ∧ (rs0.take k).flatten.length ≤ 3000) := Lib.hid fun k hk => by
      have hk' : k < rs0.length := by rw [HN.out]; exact hk
      have h1 := flat_le rs0 k hk'
      rw [List.length_append] at h1
      exact ⟨rs0[k], List.getElem?_eq_getElem hk', by omega, flat_succ rs0 k hk', by omega⟩
    have HQ : Hid (∀ q ∈ rs0, q.length ≤ 1000000) := Lib.hid fun q hq => by have := mem_flat rs0 q hq; omega
    clear hM0 cu HRC1 hb1
    go_wp2_with fail
    go_loopw [3, 4] (fun v i wr => ∃ k : Nat, k ≤ n ∧ i = .int .i64 k ∧ JR w wr v h (.slice A n c) (rs0.take k).flatten) (fun _ i _ => n - (intOf i).toNat)
    case atStart => exact ⟨0, by omega, rfl, C0⟩
    case round =>
      clear C0
      obtain ⟨k, hk, rfl, hR⟩ := hrel
      have HR := Lib.hid hR
      obtain ⟨own, rc, hbr⟩ := hR
      have cu := ch_list rc HLh.out
      by_cases hlt : k < n
      · obtain ⟨q, hq, hql, hfs, hfl⟩ := HFL.out k hlt
        obtain ⟨b, o, rfl, hbl, hc⟩ := HP0.out (by intro h; rw [h] at hq; simp at hq)
        obtain ⟨uq, huq, hI⟩ := hc k q hq
        obtain ⟨Ai, ci, rfl, hS, hA, _⟩ := hI.below hbr (Nat.le_refl _)
        have hu2 := (hbr.cell (p := ⟨b, o + k, none⟩) hbl).trans huq
        have hsz : w.heap.size + 1 ≤ wr.heap.size := rc.lt
        have HFS := Lib.hid hfs
        clear hc huq hI rc hfs hq
        generalize (rs0.take k).flatten = N at *
        go_wp2_with (first | (at_builtin; refine wpList_append_slice rfl (.tmp 19) (.tmp 24) rfl (w.heap.size + 1) _ N.length (bytesV N) rfl own Ai q.length ci q rfl hS hA (by omega) hsz ?_; intro v1 w4 own1 hb4))
        exact ⟨⟨k + 1, by omega, by go_num, HR.out.step HFS.out own1 hb4⟩, by simp [intOf]; omega⟩
      · obtain rfl : n = k := by omega
        have eM : (rs0.take n).flatten = rs0.flatten := by rw [← HN.out, List.take_length]
        rw [eM] at own HR
        clear eM HFL
        generalize hMg : rs0.flatten = M at *
        obtain ⟨A3, c3, rfl⟩ := own_form own
        have s3 := own_slice own
        have rh := ch_head rc
        have hpw := HV.out.parts.below hbr (Nat.le_refl _)
        go_wp2_with (first | (refine wpList_load_mid rfl 24 _ rfl w.heap.size 0 rfl (bs h).toList _ rh Tryd.underlying24 rfl (by rw [len_bs, HLh.out]; exact size_d) ?_))
        refine (step_any h rs0 _ wr (HT.out.below hbr HT.out.pos) HLh.out hpw HNIL.out (by rw [HN.out]; omega) (by rw [hMg]; omega)).mono ?_
        rintro e w2 ⟨rfl, hb2⟩
        rw [hMg]
        have HLS : Hid ((sha (h ++ M)).length = 32) := Lib.hid (length_sha _)
        obtain ⟨S, hS⟩ : ∃ S, sha (h ++ M) = S := ⟨_, rfl⟩
        have HS := Lib.hid hS
        rw [hS] at HLS ⊢
        clear hS hMg
        have rc2 := (rc.call hb2).alloc (.cells (bs S) 24)
        have rh3 := ch_head rc2
        have s32 := s3.below (hb2.alloc hb2.size (.cells (bs S) 24)) (Nat.le_refl _)
        have hb02 := hbr.trans ((hb2.alloc hb2.size (.cells (bs S) 24)).mono hbr.size)
        have rs2 := (Row.fresh w2 24 (bs S)).alloc (.cells #[.slice A3 M.length c3] 22)
        have rc3 := rc2.alloc (.cells #[.slice A3 M.length c3] 22)
        have hp3 := parts1 s32
        rw [show (w2.alloc (.cells (bs S) 24)).heap.size = w2.heap.size + 1 by simp] at hp3
        have hb03 := hb02.alloc hb02.size (.cells #[.slice A3 M.length c3] 22)
        have s33 := s32.below ((Below.refl _ _).alloc (Nat.le_refl _) (.cells #[.slice A3 M.length c3] 22)) (Nat.le_refl _)
        have HP : Hid (Parts w (.slice A n c) rs0) := Lib.hid HV.out.parts
        clear own HR rc hb2 hbr rh cu s3 hpw s32 rc2 hb02 HP0
        go_wp2_with (first | (refine wpList_store_row rfl 24 _ _ rfl w2.heap.size (bs S) rfl rfl 24 _ (Row.fresh _ _ _) (by rw [size_bs, HLS.out]; exact size_d) (by rw [size_bs, HLS.out]; rfl) (one_bs _) ?_; rw [World.setRow_alloc_new]) | (refine wpList_load_mid rfl 24 _ rfl w.heap.size 0 rfl (bs h).toList _ rh3 Tryd.underlying24 rfl (by rw [len_bs, HLh.out]; exact size_d) ?_; clear rh3))
        generalize (w2.alloc (.cells (bs S) 24)).alloc (.cells #[.slice A3 M.length c3] 22) = w3 at *
        refine (chain_any h [M] _ w3 (HT.out.below hb03 HT.out.pos) HLh.out hp3 (by simp) (by simp; omega)).mono ?_
        rintro e w4 ⟨u6, rfl, hD, hb4⟩
        have eC : chainOf h [M] [M].length = [S] := by rw [← HS.out]; rfl
        rw [eC] at hD
        obtain ⟨A6, c6, rfl, hD⟩ := hD
        obtain ⟨b6, o6, rfl, _, hr6⟩ := hD (by simp)
        have r6 : w4.rangeAt b6 o6 (bs S).toList := by simpa using hr6 0 S rfl
        have HRC := Lib.hid (rc3.call hb4)
        have rh := ch_head HRC.out
        have rs : w4.rangeAt w2.heap.size 0 (bs S).toList := fun j v hv => by rw [Nat.zero_add, (rs2.call hb4).cell]; simpa using hv
        have HS3 := Lib.hid (s33.below hb4 (Nat.le_refl _))
        have hb04 := hb03.trans (hb4.mono hb03.size)
        have Rh := Lib.hid rh
        have Rs := Lib.hid rs
        have R6 := Lib.hid r6
        clear hr6 hD eC rc3 rs2 s33 hp3 hb03 hb4 rh rs r6
        go_wp2_with fail
        refine wp_region_vs (w4.heap.size) [is (.agg (bs S)), is (.pointer (some ⟨w.heap.size, 0, none⟩)), is (.agg (bs h)), is (.slice A3 M.length c3), pts [M], is (.agg (bs S)), is (.bool true), is (.bool true), is (.slice (some ⟨b6, o6, none⟩) 1 c6), is (.int .i64 1), is (.bool true), is (.bool true), is (.bool true), is (.slice (some ⟨b6, o6, none⟩) 1 c6), is (.pointer (some ⟨b6, o6, none⟩)), is (.agg (bs S)), is (.agg (bs S)), is (.bool true), is (.bool true), is (.bool true), is (.agg (bs S)), is (.pointer (some ⟨w.heap.size, 0, none⟩)), is (.slice (some ⟨w.heap.size, 0, none⟩) 32 32), is (.slice A3 M.length c3), pts [h, M], is (.agg (bs S)), is (.bool true), is (.bool true), is (.bool true), is (.pointer (some ⟨w.heap.size, 0, none⟩)), is (.agg (bs h)), is (.pointer (some ⟨w.heap.size, 32, none⟩)), is (.slice A n c), (sln n), is (.int .i64 (n : Int)), is (.pointer (some ⟨w.heap.size, 32, none⟩)), is (.slice A n c), is (.int .i64 (n : Int)), is (.bool true), is (.bool true), is (.bool true), is (.bool true), is (.bool true), is (.bool true)] [some 36, some 37, some 38, some 39, some 40, some 41, some 42, some 43, some 44, some 45, some 46, some 47, some 48, some 49, some 50, some 51, some 52, some 53, some 54, some 55, some 56, some 57, some 58, some 59, some 60, some 61, some 62, some 63, some 64, some 65, some 66, some 67, some 68, some 69, some 70, some 71, some 72, some 73, some 74, some 75, some 76, some 77, some 78, some 2] 44 44 (fun _ => true) rfl rfl rfl (by kernel_rfl) (by kernel_rfl) ?_ ?_ ?_ ?_
        · repeat first | exact stays_nil _ | refine stays_cons (by first | exact is_stays _ _ | exact lit_stays _ _ | exact sl_stays _ _ | exact pts_stays _ _ | exact hnd_stays _ _ | exact any_stays _ | exact sln_stays _ _) ?_
        · repeat first | exact all_end (by decide) | refine all_cons (by first | exact rfl | exact fun _ _ _ h => h) ?_
        · refine all_step rfl (fun a x W hR hout hin => ?_) ?_
          · have e5 : a.tmps[5]? = some (.pointer (some ⟨w2.heap.size, 0, none⟩)) := (hout 5 (by kernel_rfl)).trans rfl
            clear hin hout
            intro K Q hK
            refine wp_load_mid 24 (.tmp 5) rfl w2.heap.size 0 (eval_of_get e5) (bs S).toList _ (fun j u hu => hR.cell (a := ⟨w2.heap.size, 0 + j, none⟩) (Rs.out j u hu)) Tryd.underlying24 rfl (by rw [len_bs, HLS.out]; exact size_d) ?_
            exact hK _ _ ⟨Keeps.refl _ _, by simp [Vs, is]⟩
          refine all_step rfl (fun a x W hR hout hin => ?_) ?_
          · have e1 : a.tmps[1]? = some (.pointer (some ⟨w.heap.size, 0, none⟩)) := (hout 1 (by kernel_rfl)).trans rfl
            clear hin hout
            intro K Q hK
            go_simp
            exact hK _ _ ⟨Keeps.refl _ _, rfl⟩
          refine all_step rfl (fun a x W hR hout hin => ?_) ?_
          · have e37 := hin.is 1 37 (by kernel_rfl) (by decide) (by kernel_rfl) _ rfl
            clear hin hout
            intro K Q hK
            refine wp_load_mid 24 (.tmp 37) rfl w.heap.size 0 (eval_of_get e37) (bs h).toList _ (fun j u hu => hR.cell (a := ⟨w.heap.size, 0 + j, none⟩) (Rh.out j u hu)) Tryd.underlying24 rfl (by rw [len_bs, HLh.out]; exact size_d) ?_
            exact hK _ _ ⟨Keeps.refl _ _, by simp [Vs, is]⟩
          refine all_step rfl (fun a x W hR hout hin => ?_) ?_
          · have e3 : a.tmps[3]? = some (.slice A3 M.length c3) := (hout 3 (by kernel_rfl)).trans rfl
            exact does_move rfl e3 ⟨Keeps.refl _ _, rfl⟩
          refine all_step rfl (fun a x W hR hout hin => ?_) ?_
          · have e39 := hin.is 3 39 (by kernel_rfl) (by decide) (by kernel_rfl) _ rfl
            have s3 : Slice W (.slice A3 M.length c3) M := HS3.out.below ((Below.refl w4.heap.size w4).drew.trans hR.below) (Nat.le_refl _)
            clear hin hout
            intro K Q hK
            go_simp
            exact hK _ _ ⟨Keeps.alloc _ _ hR.below.size, parts1 s3⟩
          refine all_step rfl (fun a x W hR hout hin => ?_) ?_
          · have e38 := hin.is 2 38 (by kernel_rfl) (by decide) (by kernel_rfl) _ rfl
            obtain ⟨v40, e40, hv40⟩ := hin.get 4 40 (by kernel_rfl) (by decide) (by kernel_rfl)
            have hT : Tab W := HT.out.below (hb04.trans ((Below.refl w.heap.size w4).drew.trans (hR.below.mono hb04.size))) HT.out.pos
            clear hin hout
            intro K Q hK
            go_simp
            refine (step_one h M v40 W hT HLh.out hv40 (by omega) S HS.out).mono ?_
            rintro e W' ⟨rfl, hb⟩
            exact hK _ _ ⟨Keeps.call hb hR.below.size, rfl⟩
          refine all_step rfl (fun a x W hR hout hin => ?_) ?_
          · have e36 := hin.is 0 36 (by kernel_rfl) (by decide) (by kernel_rfl) _ rfl
            have e41 := hin.is 5 41 (by kernel_rfl) (by decide) (by kernel_rfl) _ rfl
            have q := eql_dig S HLS.out W
            clear hin hout
            intro K Q hK
            go_simp
            exact hK _ _ ⟨Keeps.refl _ _, rfl⟩
          refine all_step rfl (fun a x W hR hout hin => ?_) ?_
          · have e42 := hin.is 6 42 (by kernel_rfl) (by decide) (by kernel_rfl) _ rfl
            exact does_move rfl e42 ⟨Keeps.refl _ _, rfl⟩
          refine all_step rfl (fun a x W hR hout hin => ?_) ?_
          · have e6 : a.tmps[6]? = some (.slice (some ⟨b6, o6, none⟩) 1 c6) := (hout 6 (by kernel_rfl)).trans rfl
            exact does_move rfl e6 ⟨Keeps.refl _ _, rfl⟩
          refine all_step rfl (fun a x W hR hout hin => ?_) ?_
          · have e44 := hin.is 8 44 (by kernel_rfl) (by decide) (by kernel_rfl) _ rfl
            clear hin hout
            intro K Q hK
            go_simp
            exact hK _ _ ⟨Keeps.refl _ _, rfl⟩
          refine all_step rfl (fun a x W hR hout hin => ?_) ?_
          · have e45 := hin.is 9 45 (by kernel_rfl) (by decide) (by kernel_rfl) _ rfl
            clear hin hout
            intro K Q hK
            go_simp
            exact hK _ _ ⟨Keeps.refl _ _, rfl⟩
          refine all_step rfl (fun a x W hR hout hin => ?_) ?_
          · have e43 := hin.is 7 43 (by kernel_rfl) (by decide) (by kernel_rfl) _ rfl
            have e46 := hin.is 10 46 (by kernel_rfl) (by decide) (by kernel_rfl) _ rfl
            exact does_pick rfl e43 ⟨Keeps.refl _ _, eval_of_get e46⟩
          refine all_step rfl (fun a x W hR hout hin => ?_) ?_
          · have e47 := hin.is 11 47 (by kernel_rfl) (by decide) (by kernel_rfl) _ rfl
            exact does_move rfl e47 ⟨Keeps.refl _ _, rfl⟩
          refine all_step rfl (fun a x W hR hout hin => ?_) ?_
          · have e6 : a.tmps[6]? = some (.slice (some ⟨b6, o6, none⟩) 1 c6) := (hout 6 (by kernel_rfl)).trans rfl
            exact does_move rfl e6 ⟨Keeps.refl _ _, rfl⟩
          refine all_step rfl (fun a x W hR hout hin => ?_) ?_
          · have e49 := hin.is 13 49 (by kernel_rfl) (by decide) (by kernel_rfl) _ rfl
            clear hin hout
            intro K Q hK
            go_simp
            exact hK _ _ ⟨Keeps.refl _ _, rfl⟩
          refine all_step rfl (fun a x W hR hout hin => ?_) ?_
          · have e50 := hin.is 14 50 (by kernel_rfl) (by decide) (by kernel_rfl) _ rfl
            clear hin hout
            intro K Q hK
            refine wp_load_mid 24 (.tmp 50) rfl b6 o6 (eval_of_get e50) (bs S).toList _ (fun j u hu => hR.cell (a := ⟨b6, o6 + j, none⟩) (R6.out j u hu)) Tryd.underlying24 rfl (by rw [len_bs, HLS.out]; exact size_d) ?_
            exact hK _ _ ⟨Keeps.refl _ _, by simp [Vs, is]⟩
          refine all_step rfl (fun a x W hR hout hin => ?_) ?_
          · have e5 : a.tmps[5]? = some (.pointer (some ⟨w2.heap.size, 0, none⟩)) := (hout 5 (by kernel_rfl)).trans rfl
            clear hin hout
            intro K Q hK
            refine wp_load_mid 24 (.tmp 5) rfl w2.heap.size 0 (eval_of_get e5) (bs S).toList _ (fun j u hu => hR.cell (a := ⟨w2.heap.size, 0 + j, none⟩) (Rs.out j u hu)) Tryd.underlying24 rfl (by rw [len_bs, HLS.out]; exact size_d) ?_
            exact hK _ _ ⟨Keeps.refl _ _, by simp [Vs, is]⟩
          refine all_step rfl (fun a x W hR hout hin => ?_) ?_
          · have e51 := hin.is 15 51 (by kernel_rfl) (by decide) (by kernel_rfl) _ rfl
            have e52 := hin.is 16 52 (by kernel_rfl) (by decide) (by kernel_rfl) _ rfl
            have q := eql_dig S HLS.out W
            clear hin hout
            intro K Q hK
            go_simp
            exact hK _ _ ⟨Keeps.refl _ _, rfl⟩
          refine all_step rfl (fun a x W hR hout hin => ?_) ?_
          · have e48 := hin.is 12 48 (by kernel_rfl) (by decide) (by kernel_rfl) _ rfl
            have e53 := hin.is 17 53 (by kernel_rfl) (by decide) (by kernel_rfl) _ rfl
            exact does_pick rfl e48 ⟨Keeps.refl _ _, eval_of_get e53⟩
          refine all_step rfl (fun a x W hR hout hin => ?_) ?_
          · have e54 := hin.is 18 54 (by kernel_rfl) (by decide) (by kernel_rfl) _ rfl
            exact does_move rfl e54 ⟨Keeps.refl _ _, rfl⟩
          refine all_step rfl (fun a x W hR hout hin => ?_) ?_
          · have e5 : a.tmps[5]? = some (.pointer (some ⟨w2.heap.size, 0, none⟩)) := (hout 5 (by kernel_rfl)).trans rfl
            clear hin hout
            intro K Q hK
            refine wp_load_mid 24 (.tmp 5) rfl w2.heap.size 0 (eval_of_get e5) (bs S).toList _ (fun j u hu => hR.cell (a := ⟨w2.heap.size, 0 + j, none⟩) (Rs.out j u hu)) Tryd.underlying24 rfl (by rw [len_bs, HLS.out]; exact size_d) ?_
            exact hK _ _ ⟨Keeps.refl _ _, by simp [Vs, is]⟩
          refine all_step rfl (fun a x W hR hout hin => ?_) ?_
          · have e1 : a.tmps[1]? = some (.pointer (some ⟨w.heap.size, 0, none⟩)) := (hout 1 (by kernel_rfl)).trans rfl
            clear hin hout
            intro K Q hK
            go_simp
            exact hK _ _ ⟨Keeps.refl _ _, rfl⟩
          refine all_step rfl (fun a x W hR hout hin => ?_) ?_
          · have e57 := hin.is 21 57 (by kernel_rfl) (by decide) (by kernel_rfl) _ rfl
            clear hin hout
            intro K Q hK
            go_simp
            exact hK _ _ ⟨Keeps.refl _ _, rfl⟩
          refine all_step rfl (fun a x W hR hout hin => ?_) ?_
          · have e3 : a.tmps[3]? = some (.slice A3 M.length c3) := (hout 3 (by kernel_rfl)).trans rfl
            exact does_move rfl e3 ⟨Keeps.refl _ _, rfl⟩
          refine all_step rfl (fun a x W hR hout hin => ?_) ?_
          · have e58 := hin.is 22 58 (by kernel_rfl) (by decide) (by kernel_rfl) _ rfl
            have e59 := hin.is 23 59 (by kernel_rfl) (by decide) (by kernel_rfl) _ rfl
            have s3 : Slice W (.slice A3 M.length c3) M := HS3.out.below ((Below.refl w4.heap.size w4).drew.trans hR.below) (Nat.le_refl _)
            have sh : Slice W (.slice (some ⟨w.heap.size, 0, none⟩) 32 32) h := ch_slice (HRC.out.drew.below hR.below HRC.out.lt) HLh.out
            clear hin hout
            intro K Q hK
            go_simp
            exact hK _ _ ⟨Keeps.alloc _ _ hR.below.size, parts2 sh s3⟩
          refine all_step rfl (fun a x W hR hout hin => ?_) ?_
          · obtain ⟨v60, e60, hv60⟩ := hin.get 24 60 (by kernel_rfl) (by decide) (by kernel_rfl)
            have hT : Tab W := HT.out.below (hb04.trans ((Below.refl w.heap.size w4).drew.trans (hR.below.mono hb04.size))) HT.out.pos
            clear hin hout
            intro K Q hK
            go_simp
            refine (sum_two h M v60 W hT hv60 (by rw [HLh.out]; omega) S HS.out).mono ?_
            rintro e W' ⟨rfl, hb⟩
            exact hK _ _ ⟨Keeps.call hb hR.below.size, rfl⟩
          refine all_step rfl (fun a x W hR hout hin => ?_) ?_
          · have e56 := hin.is 20 56 (by kernel_rfl) (by decide) (by kernel_rfl) _ rfl
            have e61 := hin.is 25 61 (by kernel_rfl) (by decide) (by kernel_rfl) _ rfl
            have q := eql_dig S HLS.out W
            clear hin hout
            intro K Q hK
            go_simp
            exact hK _ _ ⟨Keeps.refl _ _, rfl⟩
          refine all_step rfl (fun a x W hR hout hin => ?_) ?_
          · have e55 := hin.is 19 55 (by kernel_rfl) (by decide) (by kernel_rfl) _ rfl
            have e62 := hin.is 26 62 (by kernel_rfl) (by decide) (by kernel_rfl) _ rfl
            exact does_pick rfl e55 ⟨Keeps.refl _ _, eval_of_get e62⟩
          refine all_step rfl (fun a x W hR hout hin => ?_) ?_
          · have e63 := hin.is 27 63 (by kernel_rfl) (by decide) (by kernel_rfl) _ rfl
            exact does_move rfl e63 ⟨Keeps.refl _ _, rfl⟩
          refine all_step rfl (fun a x W hR hout hin => ?_) ?_
          · have e1 : a.tmps[1]? = some (.pointer (some ⟨w.heap.size, 0, none⟩)) := (hout 1 (by kernel_rfl)).trans rfl
            clear hin hout
            intro K Q hK
            go_simp
            exact hK _ _ ⟨Keeps.refl _ _, rfl⟩
          refine all_step rfl (fun a x W hR hout hin => ?_) ?_
          · have e65 := hin.is 29 65 (by kernel_rfl) (by decide) (by kernel_rfl) _ rfl
            clear hin hout
            intro K Q hK
            refine wp_load_mid 24 (.tmp 65) rfl w.heap.size 0 (eval_of_get e65) (bs h).toList _ (fun j u hu => hR.cell (a := ⟨w.heap.size, 0 + j, none⟩) (Rh.out j u hu)) Tryd.underlying24 rfl (by rw [len_bs, HLh.out]; exact size_d) ?_
            exact hK _ _ ⟨Keeps.refl _ _, by simp [Vs, is]⟩
          refine all_step rfl (fun a x W hR hout hin => ?_) ?_
          · have e1 : a.tmps[1]? = some (.pointer (some ⟨w.heap.size, 0, none⟩)) := (hout 1 (by kernel_rfl)).trans rfl
            clear hin hout
            intro K Q hK
            go_simp
            exact hK _ _ ⟨Keeps.refl _ _, rfl⟩
          refine all_step rfl (fun a x W hR hout hin => ?_) ?_
          · have e67 := hin.is 31 67 (by kernel_rfl) (by decide) (by kernel_rfl) _ rfl
            have hu4 : W.cell? ⟨w.heap.size, 32, none⟩ = some (.slice A n c) := hR.cell (a := ⟨w.heap.size, 32, none⟩) (ch_list HRC.out HLh.out)
            clear hin hout
            intro K Q hK
            go_simp
            exact hK _ _ ⟨Keeps.refl _ _, rfl⟩
          refine all_step rfl (fun a x W hR hout hin => ?_) ?_
          · have e66 := hin.is 30 66 (by kernel_rfl) (by decide) (by kernel_rfl) _ rfl
            have e68 := hin.is 32 68 (by kernel_rfl) (by decide) (by kernel_rfl) _ rfl
            have hT : Tab W := HT.out.below (hb04.trans ((Below.refl w.heap.size w4).drew.trans (hR.below.mono hb04.size))) HT.out.pos
            have hp : Parts W (.slice A n c) rs0 := HP.out.below (hb04.trans ((Below.refl w.heap.size w4).drew.trans (hR.below.mono hb04.size))) (Nat.le_refl _)
            clear hin hout
            intro K Q hK
            go_simp
            refine (chain_any h rs0 _ W hT HLh.out hp (by rw [HN.out]; omega) HQ.out).mono ?_
            rintro e W' ⟨u', rfl, hD, hb⟩
            exact hK _ _ ⟨Keeps.call hb hR.below.size, by have := digs_sln hD; rw [length_chainOf, HN.out] at this; exact this⟩
          refine all_step rfl (fun a x W hR hout hin => ?_) ?_
          · obtain ⟨v69, e69, hv69⟩ := hin.get 33 69 (by kernel_rfl) (by decide) (by kernel_rfl)
            obtain ⟨A69, c69, rfl⟩ := hv69
            clear hin hout
            intro K Q hK
            go_simp
            exact hK _ _ ⟨Keeps.refl _ _, rfl⟩
          refine all_step rfl (fun a x W hR hout hin => ?_) ?_
          · have e1 : a.tmps[1]? = some (.pointer (some ⟨w.heap.size, 0, none⟩)) := (hout 1 (by kernel_rfl)).trans rfl
            clear hin hout
            intro K Q hK
            go_simp
            exact hK _ _ ⟨Keeps.refl _ _, rfl⟩
          refine all_step rfl (fun a x W hR hout hin => ?_) ?_
          · have e71 := hin.is 35 71 (by kernel_rfl) (by decide) (by kernel_rfl) _ rfl
            have hu4 : W.cell? ⟨w.heap.size, 32, none⟩ = some (.slice A n c) := hR.cell (a := ⟨w.heap.size, 32, none⟩) (ch_list HRC.out HLh.out)
            clear hin hout
            intro K Q hK
            go_simp
            exact hK _ _ ⟨Keeps.refl _ _, rfl⟩
          refine all_step rfl (fun a x W hR hout hin => ?_) ?_
          · have e72 := hin.is 36 72 (by kernel_rfl) (by decide) (by kernel_rfl) _ rfl
            clear hin hout
            intro K Q hK
            go_simp
            exact hK _ _ ⟨Keeps.refl _ _, rfl⟩
          refine all_step rfl (fun a x W hR hout hin => ?_) ?_
          · have e70 := hin.is 34 70 (by kernel_rfl) (by decide) (by kernel_rfl) _ rfl
            have e73 := hin.is 37 73 (by kernel_rfl) (by decide) (by kernel_rfl) _ rfl
            clear hin hout
            intro K Q hK
            go_simp
            exact hK _ _ ⟨Keeps.refl _ _, by simp [Vs, is]⟩
          refine all_step rfl (fun a x W hR hout hin => ?_) ?_
          · have e64 := hin.is 28 64 (by kernel_rfl) (by decide) (by kernel_rfl) _ rfl
            have e74 := hin.is 38 74 (by kernel_rfl) (by decide) (by kernel_rfl) _ rfl
            exact does_pick rfl e64 ⟨Keeps.refl _ _, eval_of_get e74⟩
          refine all_step rfl (fun a x W hR hout hin => ?_) ?_
          · have e75 := hin.is 39 75 (by kernel_rfl) (by decide) (by kernel_rfl) _ rfl
            exact does_move rfl e75 ⟨Keeps.refl _ _, rfl⟩
          refine all_step rfl (fun a x W hR hout hin => ?_) ?_
          · have hT : Tab W := HT.out.below (hb04.trans ((Below.refl w.heap.size w4).drew.trans (hR.below.mono hb04.size))) HT.out.pos
            clear hin hout
            intro K Q hK
            go_simp
            refine (twakes_any W hT).mono ?_
            rintro e W' ⟨rfl, hb⟩
            exact hK _ _ ⟨Keeps.call hb hR.below.size, rfl⟩
          refine all_step rfl (fun a x W hR hout hin => ?_) ?_
          · have e76 := hin.is 40 76 (by kernel_rfl) (by decide) (by kernel_rfl) _ rfl
            have e77 := hin.is 41 77 (by kernel_rfl) (by decide) (by kernel_rfl) _ rfl
            exact does_pick rfl e76 ⟨Keeps.refl _ _, eval_of_get e77⟩
          refine all_step rfl (fun a x W hR hout hin => ?_) ?_
          · have e78 := hin.is 42 78 (by kernel_rfl) (by decide) (by kernel_rfl) _ rfl
            exact does_assign rfl e78 ⟨Keeps.refl _ _, rfl⟩
          exact all_end (by decide)
        · intro x W hKW hV
          have h43 : x 43 = .bool true := hV 43 (by decide)
          clear hV
          simp only [putL, Act.put, List.setIfInBounds_toArray, List.set_cons_succ, List.set_cons_zero, h43]
          refine wpAnyH_done (by kernel_rfl) ?_ _
          have hbW := hb04.trans ((Below.refl w.heap.size w4).drew.trans (hKW.below.mono hb04.size))
          clear hKW h43
          go_wp2_with fail
          go_ret
          exact ⟨rfl, hbW⟩
end Go.Proofs.YtnfceejmkcohnaaDoor
