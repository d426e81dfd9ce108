/- Merged: WalPrg WalOpen WalPure3. -/
import Derived.Test.YtdobempppobopaaMWal0
import Derived.Test.YtdobempppobopaaMDisk0
import Derived.Test.YtdobempppobopaaMGen1
/- The program's wal: Get; what the statements need to know of it. -/
set_option maxRecDepth 4000
namespace Go.Proofs.Ytdobempppobopaa
open Go Go.RowKit
theorem toldp_no {w w' : World} {k : Int} (hb : Below w.heap.size w w') : ToldP w rec0 k (.returned (.tuple #[.agg (recW rec0 (.slice none 0 0)), .int .i64 k])) w' :=
  ⟨none, 0, rfl, ⟨none, 0, rfl, Nat.le_refl _, fun x hx => (List.not_mem_nil hx).elim, fun h => absurd rfl h⟩, hb, fun k hk => by cases hk⟩
/- the puts while their images are told -/
def lg (q : List (BitVec 8)) (D : Nat → List (BitVec 8)) (n k : Nat) : List (Int × List (BitVec 8)) := (List.range n).map fun i => (atK q i, if i < k then D i else zer 32)
theorem lg_len (q : List (BitVec 8)) (D : Nat → List (BitVec 8)) (n k : Nat) : (lg q D n k).length = n := by simp [lg]
theorem lg_32 (q : List (BitVec 8)) (D : Nat → List (BitVec 8)) (n k : Nat) (h : ∀ i, i < n → (D i).length = 32) : ∀ x ∈ lg q D n k, x.2.length = 32 := by
  intro x hx
  obtain ⟨i, hi, rfl⟩ := List.mem_map.1 hx
  dsimp only
  split
  · exact h i (List.mem_range.1 hi)
  · exact length_zer 32
theorem lg_at (q : List (BitVec 8)) (D : Nat → List (BitVec 8)) (n k : Nat) (h : k < n) : (lg q D n k)[k]? = some (atK q k, zer 32) := by simp [lg, h]
theorem lg_set (q : List (BitVec 8)) (D : Nat → List (BitVec 8)) (n k : Nat) : (lg q D n k).set k (atK q k, D k) = lg q D n (k + 1) := by
  apply List.ext_getElem (by simp [lg])
  intro i h1 h2
  rw [List.getElem_set]
  simp only [lg, List.getElem_map, List.getElem_range]
  by_cases e : k = i
  · subst e; rw [if_pos rfl, if_pos (by omega)]
  · rw [if_neg e]
    by_cases hlt : i < k
    · rw [if_pos hlt, if_pos (by omega)]
    · rw [if_neg hlt, if_neg (by omega)]
theorem lg_0 (q : List (BitVec 8)) (D : Nat → List (BitVec 8)) (n : Nat) : ((List.range n).map (atK q)).map (fun i => (i, zer 32)) = lg q D n 0 := by
  unfold lg
  rw [List.map_map]
  apply List.map_congr_left
  intro i _
  rw [if_neg (by omega)]; rfl
theorem lg_all (q : List (BitVec 8)) (D : Nat → List (BitVec 8)) (n : Nat) : lg q D n n = (List.range n).map fun i => (atK q i, D i) := by
  unfold lg
  apply List.map_congr_left
  intro i hi
  rw [if_pos (List.mem_range.1 hi)]
theorem isHead_cnt {b : List (BitVec 8)} (h : isHead b = true) : cnt b ≤ 5 := by
  apply Decidable.byContradiction
  intro hn
  rw [isHead_many hn] at h
  cases h
set_option maxRecDepth 20000 in
set_option maxHeartbeats 1200000 in
theorem walget_any (D : DiskOps) (base : Nat) (w : World) (p : Value) (M : DiskM) (F : Nat → Prop) (f : Int) (h : D.A base w p M F) (hf : -9223372036854775808 ≤ f ∧ f < 9223372036854775808) (hl : M.l.length ≤ few) :
    Calls Try.prog 15 #[p, .int .i64 f] w (ToldP w (walGet M f).1 (walGet M f).2) := by
  obtain ⟨O, hO⟩ : ∃ O, D = O := ⟨_, rfl⟩
  subst hO
  have hz := zeros_rw
  have HA := Lib.hid h
  have HF := Lib.hid hf
  have HL := Lib.hid hl
  have HRES : Hid (walGet M f = if mayB M f then (if M.down then (rec0, 20) else if isHead (M.now f.toNat) then (recAt M f.toNat, 0) else (rec0, 11)) else (rec0, 1)) := Lib.hid rfl
  have HOK := Lib.hid (D.ok h)
  have HS := St.nil w noF
  clear h hf hl
  go_enter Try.func15, Try.ntmps15
  go_upto_region 1 with (first | ((with_reducible refine wpList_plain ?_ ?_); exact rfl; intro KK hKK; refine wp_st_alloc HS 36 (recW rec0 (.slice none 0 0)) rfl (.agg (recW rec0 (.slice none 0 0))) (by kernel_rfl) (rfl) (fun g4 W1 HSx => hKK _ _ ?_); clear hKK KK HS; have HS : St w noF [⟨g4, 36, recW rec0 (.slice none 0 0)⟩] W1 := HSx; clear HSx))
  have C1 := haslog_any _ D base p M F (D.still HA.out HS.below) f HF.out
  go_wp2_with fail
  refine C1.mono ?_
  rintro e w1 ⟨rfl, b1⟩
  have HSx := HS.same b1
  clear HS b1 C1
  have HS := HSx
  clear HSx
  cases hmay : mayB M f with
  | false =>
    have hR : walGet M f = (rec0, 1) := by rw [HRES.out, hmay]; rfl
    have HQ1 := Lib.hid hR
    clear hR hmay
    go_wp2_with (first | ((with_reducible refine wpList_plain ?_ ?_); exact rfl; intro KK hKK; refine wp_st_store HS 0 0 36 (.tmp 4) (.tmp 14) rfl rfl rfl (.agg #[.int .u32 0, .int .u32 0, .slice none 0 0]) rfl (by exact info_rec) (by exact Nat.le_refl 3) (by exact one_rw rec0 none 0 0) (recW rec0 (.slice none 0 0)) (spl_agg _ _ _ zeros_rw rfl) (fun W2 HSx => hKK _ _ ?_); clear hKK KK HS; have HS : St w noF [⟨g4, 36, recW rec0 (.slice none 0 0)⟩] W2 := HSx; clear HSx))
    exact bodyPost_ret (v := .tuple #[.agg (recW rec0 (.slice none 0 0)), .int .i64 1]) (results_cell_tmp Try.results15 _ _ g4 36 (recW rec0 (.slice none 0 0)) (0, 0) _ rfl (HS.row 0 rfl) Try.underlying36 rfl (by exact info_rec)) rfl (by first | exact toldp_no HS.below | (rw [HQ1.out]; exact toldp_no HS.below))
  | true =>
    have HM6 : Hid (0 ≤ f ∧ f + 6 ≤ (M.s.length : Int)) := Lib.hid (by unfold mayB at hmay; simpa using hmay)
    obtain ⟨f, rfl⟩ := Int.eq_ofNat_of_zero_le HM6.out.1
    have HFS : Hid (f + 6 ≤ M.s.length ∧ M.s.length ≤ 1024) := Lib.hid ⟨by have := HM6.out; omega, HOK.out.hi⟩
    have hhas : M.has (f : Int) = true := by unfold DiskM.has; have := HFS.out; simp; omega
    cases hdn : M.down with
    | true =>
      have hR : walGet M (f : Int) = (rec0, 20) := by rw [HRES.out, hmay, hdn]; rfl
      have C2 := D.read' (f : Int) (D.still HA.out HS.below) HL.out HF.out (blk 0#8) 20 (by unfold DiskM.rRes; rw [hhas, hdn]; rfl)
      have HQ1 := Lib.hid hR
      clear hR hmay hhas hdn
      have hzb := zeros_blk
      go_wp2_with fail
      refine C2.mono ?_
      rintro e w2 ⟨rfl, b2⟩
      have HSx := HS.same b2
      clear HS b2 C2
      have HS := HSx
      clear HSx
      go_wp2_with (first | ((with_reducible refine wpList_plain ?_ ?_); exact rfl; intro KK hKK; refine wp_st_alloc HS 52 (bs (blk 0#8)) rfl (.agg (bs (blk 0#8))) (by kernel_rfl) (rfl) (fun g6 W2 HSx => hKK _ _ ?_); clear hKK KK HS; have HS : St w noF [⟨g4, 36, recW rec0 (.slice none 0 0)⟩, ⟨g6, 52, bs (blk 0#8)⟩] W2 := HSx; clear HSx) | ((with_reducible refine wpList_plain ?_ ?_); exact rfl; intro KK hKK; refine wp_st_store HS 1 0 52 (.tmp 6) (.tmp 19) rfl rfl rfl (.agg (bs (blk 0#8))) rfl (by exact size_b32 (length_blk 0#8)) (by rw [Nat.zero_add]; exact Nat.le_of_eq (same_b32 (length_blk 0#8)).symm) (by exact one_bs _) (bs (blk 0#8)) (spl_agg _ _ _ rfl (same_b32 (length_blk 0#8))) (fun W3 HSx => hKK _ _ ?_); clear hKK KK HS; have HS : St w noF [⟨g4, 36, recW rec0 (.slice none 0 0)⟩, ⟨g6, 52, bs (blk 0#8)⟩] W3 := HSx; clear HSx) | ((with_reducible refine wpList_plain ?_ ?_); exact rfl; intro KK hKK; refine wp_st_store HS 0 0 36 (.tmp 4) (.tmp 23) rfl rfl rfl (.agg #[.int .u32 0, .int .u32 0, .slice none 0 0]) rfl (by exact info_rec) (by exact Nat.le_refl 3) (by exact one_rw rec0 none 0 0) (recW rec0 (.slice none 0 0)) (spl_agg _ _ _ zeros_rw rfl) (fun W4 HSx => hKK _ _ ?_); clear hKK KK HS; have HS : St w noF [⟨g4, 36, recW rec0 (.slice none 0 0)⟩, ⟨g6, 52, bs (blk 0#8)⟩] W4 := HSx; clear HSx))
      exact bodyPost_ret (v := .tuple #[.agg (recW rec0 (.slice none 0 0)), .int .i64 20]) (results_cell_tmp Try.results15 _ _ g4 36 (recW rec0 (.slice none 0 0)) (0, 0) _ rfl (HS.row 0 rfl) Try.underlying36 rfl (by exact info_rec)) rfl (by rw [HQ1.out]; exact toldp_no HS.below)
    | false =>
      obtain ⟨b, hb⟩ : ∃ b, M.now f = b := ⟨_, rfl⟩
      have HBL : Hid (b.length = 32) := Lib.hid (by rw [← hb]; exact now_length HOK.out (by have := HFS.out; omega))
      have C2 := D.read' (f : Int) (D.still HA.out HS.below) HL.out HF.out b 0 (by unfold DiskM.rRes; rw [hhas, hdn, Int.toNat_natCast, hb]; rfl)
      have hR : walGet M (f : Int) = if isHead b then (recAt M f, 0) else (rec0, 11) := by rw [HRES.out, hmay, hdn, Int.toNat_natCast, hb]; rfl
      have HDN := Lib.hid hdn
      have HB := Lib.hid hb
      have HR0 := Lib.hid hR
      clear hmay hhas hdn hb hR
      have hzb := zeros_blk
      go_wp2_with fail
      refine C2.mono ?_
      rintro e w2 ⟨rfl, b2⟩
      have HSx := HS.same b2
      clear HS b2 C2
      have HS := HSx
      clear HSx
      go_upto_region 6 with (first | ((with_reducible refine wpList_plain ?_ ?_); exact rfl; intro KK hKK; refine wp_st_alloc HS 52 (bs (blk 0#8)) rfl (.agg (bs (blk 0#8))) (by kernel_rfl) (rfl) (fun g6 W2 HSx => hKK _ _ ?_); clear hKK KK HS; have HS : St w noF [⟨g4, 36, recW rec0 (.slice none 0 0)⟩, ⟨g6, 52, bs (blk 0#8)⟩] W2 := HSx; clear HSx) | ((with_reducible refine wpList_plain ?_ ?_); exact rfl; intro KK hKK; refine wp_st_store HS 1 0 52 (.tmp 6) (.tmp 19) rfl rfl rfl (.agg (bs (b))) rfl (by exact size_b32 HBL.out) (by rw [Nat.zero_add]; exact Nat.le_of_eq (same_b32 HBL.out).symm) (by exact one_bs _) (bs (b)) (spl_agg _ _ _ rfl (same_b32 HBL.out)) (fun W3 HSx => hKK _ _ ?_); clear hKK KK HS; have HS : St w noF [⟨g4, 36, recW rec0 (.slice none 0 0)⟩, ⟨g6, 52, bs (b)⟩] W3 := HSx; clear HSx) | ((with_reducible refine wpList_plain ?_ ?_); exact rfl; intro KK hKK; refine wp_st_load HS 1 0 52 (.tmp 6) rfl rfl rfl (bs b) (slab_whole _) _ Try.underlying52 rfl (size_b32 HBL.out) (hKK _ _ ?_); clear hKK KK))
      clear hzb
      go_wp2_with (first | ((with_reducible refine wpList_plain ?_ ?_); exact rfl; intro KK hKK; refine wp_st_alloc HS 52 (bs (blk 0#8)) rfl (.agg (bs (blk 0#8))) (by kernel_rfl) (rfl) (fun g6 W2 HSx => hKK _ _ ?_); clear hKK KK HS; have HS : St w noF [⟨g4, 36, recW rec0 (.slice none 0 0)⟩, ⟨g6, 52, bs (blk 0#8)⟩] W2 := HSx; clear HSx) | ((with_reducible refine wpList_plain ?_ ?_); exact rfl; intro KK hKK; refine wp_st_store HS 1 0 52 (.tmp 6) (.tmp 19) rfl rfl rfl (.agg (bs (b))) rfl (by exact size_b32 HBL.out) (by rw [Nat.zero_add]; exact Nat.le_of_eq (same_b32 HBL.out).symm) (by exact one_bs _) (bs (b)) (spl_agg _ _ _ rfl (same_b32 HBL.out)) (fun W3 HSx => hKK _ _ ?_); clear hKK KK HS; have HS : St w noF [⟨g4, 36, recW rec0 (.slice none 0 0)⟩, ⟨g6, 52, bs (b)⟩] W3 := HSx; clear HSx) | ((with_reducible refine wpList_plain ?_ ?_); exact rfl; intro KK hKK; refine wp_st_load HS 1 0 52 (.tmp 6) rfl rfl rfl (bs b) (slab_whole _) _ Try.underlying52 rfl (size_b32 HBL.out) (hKK _ _ ?_); clear hKK KK))
      refine (without_any b _ HBL.out).mono ?_
      intro e w3 hp
      unfold HeadTold at hp
      have hR := HR0.out
      cases hi : isHead b with
      | false =>
        rw [hi, if_neg (by decide)] at hp
        obtain ⟨rfl, b3⟩ := hp
        rw [hi, if_neg (by decide)] at hR
        have HQ1 := Lib.hid hR
        clear hR hi
        have HSx := HS.same b3
        clear HS b3
        have HS := HSx
        clear HSx
        go_wp2_with (first | ((with_reducible refine wpList_plain ?_ ?_); exact rfl; intro KK hKK; refine wp_st_alloc HS 36 (recW rec0 (.slice none 0 0)) rfl (.agg (recW rec0 (.slice none 0 0))) (by kernel_rfl) (rfl) (fun g8 W4 HSx => hKK _ _ ?_); clear hKK KK HS; have HS : St w noF [⟨g4, 36, recW rec0 (.slice none 0 0)⟩, ⟨g6, 52, bs (b)⟩, ⟨g8, 36, recW rec0 (.slice none 0 0)⟩] W4 := HSx; clear HSx) | ((with_reducible refine wpList_plain ?_ ?_); exact rfl; intro KK hKK; refine wp_st_store HS 2 0 36 (.tmp 8) (.tmp 28) rfl rfl rfl (.agg (recW rec0 (.slice none 0 0))) rfl (by exact info_rec) (by exact Nat.le_refl 3) (by exact one_rw rec0 none 0 0) (recW rec0 (.slice none 0 0)) (spl_agg _ _ _ rfl rfl) (fun W5 HSx => hKK _ _ ?_); clear hKK KK HS; have HS : St w noF [⟨g4, 36, recW rec0 (.slice none 0 0)⟩, ⟨g6, 52, bs (b)⟩, ⟨g8, 36, recW rec0 (.slice none 0 0)⟩] W5 := HSx; clear HSx) | ((with_reducible refine wpList_plain ?_ ?_); exact rfl; intro KK hKK; refine wp_st_store HS 0 0 36 (.tmp 4) (.tmp 32) rfl rfl rfl (.agg #[.int .u32 0, .int .u32 0, .slice none 0 0]) rfl (by exact info_rec) (by exact Nat.le_refl 3) (by exact one_rw rec0 none 0 0) (recW rec0 (.slice none 0 0)) (spl_agg _ _ _ zeros_rw rfl) (fun W6 HSx => hKK _ _ ?_); clear hKK KK HS; have HS : St w noF [⟨g4, 36, recW rec0 (.slice none 0 0)⟩, ⟨g6, 52, bs (b)⟩, ⟨g8, 36, recW rec0 (.slice none 0 0)⟩] W6 := HSx; clear HSx))
        exact bodyPost_ret (v := .tuple #[.agg (recW rec0 (.slice none 0 0)), .int .i64 11]) (results_cell_tmp Try.results15 _ _ g4 36 (recW rec0 (.slice none 0 0)) (0, 0) _ rfl (HS.row 0 rfl) Try.underlying36 rfl (by exact info_rec)) rfl (by rw [HQ1.out]; exact toldp_no HS.below)
      | true =>
        have HI := Lib.hid hi
        rw [hi, if_pos rfl] at hp hR
        obtain ⟨gP, rfl, rP, hgP, b3⟩ := hp
        have HRR := Lib.hid hR
        obtain ⟨n, hn⟩ : ∃ n, cnt b = n := ⟨_, rfl⟩
        obtain ⟨q, hq⟩ : ∃ q, bodyOf b = q := ⟨_, rfl⟩
        obtain ⟨e0, he0⟩ : ∃ e0, num ((bodyOf b).take 4) = e0 := ⟨_, rfl⟩
        obtain ⟨s0, hs0⟩ : ∃ s0, num (((bodyOf b).drop 4).take 4) = s0 := ⟨_, rfl⟩
        obtain ⟨DD, hDD⟩ : ∃ DD : Nat → List (BitVec 8), (fun k => M.now (f + 1 + k)) = DD := ⟨_, rfl⟩
        have HDF : Hid (∀ k, M.now (f + 1 + k) = DD k) := Lib.hid (fun k => congrFun hDD k)
        have HN5 : Hid (n ≤ 5) := Lib.hid (by rw [← hn]; exact isHead_cnt hi)
        have HDL : Hid (∀ i, i < n → (DD i).length = 32) := Lib.hid (fun i hin => by rw [← hDD]; exact now_length HOK.out (by have := HFS.out; have := HN5.out; omega))
        have hat : atsOf b = (List.range n).map (atK q) := by unfold atsOf; rw [hn, hq]; rfl
        have HRA : Hid (recAt M f = ⟨e0, s0, lg q DD n n⟩) := Lib.hid (by rw [lg_all, ← hDD, ← he0, ← hs0, ← hn, ← hq, ← HB.out]; rfl)
        rw [hat, lg_0 q DD n] at rP
        rw [hn, he0, hs0]
        have HSx : St w noF [⟨g4, 36, recW rec0 (.slice none 0 0)⟩, ⟨g6, 52, bs (b)⟩, ⟨gP, 70, pcs (lg q DD n 0)⟩] w3 := HS.add b3 rP hgP
        clear hR hi hn hq he0 hs0 hDD hat HS b3 rP hgP
        have HS := HSx
        clear HSx
        go_upto_region 9 with (first | ((with_reducible refine wpList_plain ?_ ?_); exact rfl; intro KK hKK; refine wp_st_alloc HS 36 (recW rec0 (.slice none 0 0)) rfl (.agg (recW rec0 (.slice none 0 0))) (by kernel_rfl) (rfl) (fun g8 W41 HSx => hKK _ _ ?_); clear hKK KK HS; have HS : St w noF [⟨g4, 36, recW rec0 (.slice none 0 0)⟩, ⟨g6, 52, bs (b)⟩, ⟨gP, 70, pcs (lg q DD n 0)⟩, ⟨g8, 36, recW rec0 (.slice none 0 0)⟩] W41 := HSx; clear HSx) | ((with_reducible refine wpList_plain ?_ ?_); exact rfl; intro KK hKK; refine wp_st_store HS 3 0 36 (.tmp 8) (.tmp 28) rfl rfl rfl (.agg (recW ⟨e0, s0, []⟩ (.slice (some ⟨gP, 0, none⟩) n n))) rfl (by exact info_rec) (by exact Nat.le_refl 3) (by exact one_rw _ _ _ _) (recW ⟨e0, s0, []⟩ (.slice (some ⟨gP, 0, none⟩) n n)) (spl_agg _ _ _ rfl rfl) (fun W42 HSx => hKK _ _ ?_); clear hKK KK HS; have HS : St w noF [⟨g4, 36, recW rec0 (.slice none 0 0)⟩, ⟨g6, 52, bs (b)⟩, ⟨gP, 70, pcs (lg q DD n 0)⟩, ⟨g8, 36, recW ⟨e0, s0, []⟩ (.slice (some ⟨gP, 0, none⟩) n n)⟩] W42 := HSx; clear HSx))
        have c2 : W42.cell? ⟨g8, 2, none⟩ = some (.slice (some ⟨gP, 0, none⟩) n n) := (HS.row 3 rfl).get rfl
        go_upto_region 10 with fail
        clear c2
        have hn5 : n ≤ 5 := HN5.out
        have HS8 := Lib.hid HS
        clear HS
        go_loopw [37] (fun i wr => ∃ k : Nat, k ≤ n ∧ i = .int .i64 k ∧ St w noF [⟨g4, 36, recW rec0 (.slice none 0 0)⟩, ⟨g6, 52, bs (b)⟩, ⟨gP, 70, pcs (lg q DD n k)⟩, ⟨g8, 36, recW ⟨e0, s0, []⟩ (.slice (some ⟨gP, 0, none⟩) n n)⟩] wr) (fun i _ => n - (intOf i).toNat)
        case atStart => exact ⟨0, by omega, rfl, HS8.out⟩
        case round =>
          clear HS8
          obtain ⟨k, hk, rfl, HS⟩ := hrel
          by_cases hlt : k < n
          · have hk0 : (0 : Int) ≤ (k : Int) := by omega
            have hk1 : (k : Int) < (n : Int) := by omega
            have HKN := Lib.hid hlt
            have HDK := Lib.hid (HDL.out k hlt)
            have HIM : Hid ((0 : Int) ≤ (f : Int) ∧ (f : Int) ≤ 2000 ∧ (0 : Int) ≤ (k : Int) ∧ (k : Int) ≤ 2000) := Lib.hid ⟨by omega, by have := HFS.out; omega, by omega, by have := HN5.out; omega⟩
            have HRD : Hid (∀ W, Below w.heap.size w W → Calls Try.prog 26 #[p, .int .i64 ((f : Int) + 1 + (k : Int))] W (Asks W (.tuple #[.agg (bs (DD k)), .int .i64 0]))) := Lib.hid (fun W hb => by
              refine D.read' ((f : Int) + 1 + (k : Int)) (D.still HA.out hb) HL.out (by have := HFS.out; have := HN5.out; omega) (DD k) 0 ?_
              have h1 : M.has ((f : Int) + 1 + (k : Int)) = true := by unfold DiskM.has; have := HFS.out; have := HN5.out; simp; omega
              unfold DiskM.rRes
              rw [h1, HDN.out, show ((f : Int) + 1 + (k : Int)).toNat = f + 1 + k by omega]
              exact congrArg (fun x => (x, (0 : Int))) (HDF.out k))
            go_upto_region 12 with fail
            have hF0 : Wl [fun W => St w noF [⟨g4, 36, recW rec0 (.slice none 0 0)⟩, ⟨g6, 52, bs (b)⟩, ⟨gP, 70, pcs (lg q DD n k)⟩, ⟨g8, 36, recW ⟨e0, s0, []⟩ (.slice (some ⟨gP, 0, none⟩) n n)⟩] W, fun W => St w noF [⟨g4, 36, recW rec0 (.slice none 0 0)⟩, ⟨g6, 52, bs (b)⟩, ⟨gP, 70, pcs (lg q DD n (k + 1))⟩, ⟨g8, 36, recW ⟨e0, s0, []⟩ (.slice (some ⟨gP, 0, none⟩) n n)⟩] W] 0 (World.drew _) := HS.drew
            clear HS
            refine wp_region_phs [is (.pointer (some ⟨g8, 2, none⟩)), is (.slice (some ⟨gP, 0, none⟩) n n), is (.int .i64 (k : Int)), is (p), is (.int .i64 (f : Int)), is (.int .i64 (k : Int)), is (.int .i64 ((f : Int) + 1 + (k : Int))), is (.tuple #[.agg (bs (DD k)), .int .i64 0]), is (.tuple #[.agg (bs (DD k)), .int .i64 0]), is (.agg (bs (DD k))), is (.int .i64 0), is (.pointer (some ⟨gP, k * 33, none⟩)), is (.pointer (some ⟨gP, k * 33 + 1, none⟩)), anyV, is (.int .i64 0)] [true, true, true, true, true, true, true, true, true, true, true, true, true, true, true] [(fun W => St w noF [⟨g4, 36, recW rec0 (.slice none 0 0)⟩, ⟨g6, 52, bs (b)⟩, ⟨gP, 70, pcs (lg q DD n k)⟩, ⟨g8, 36, recW ⟨e0, s0, []⟩ (.slice (some ⟨gP, 0, none⟩) n n)⟩] W), (fun W => St w noF [⟨g4, 36, recW rec0 (.slice none 0 0)⟩, ⟨g6, 52, bs (b)⟩, ⟨gP, 70, pcs (lg q DD n (k + 1))⟩, ⟨g8, 36, recW ⟨e0, s0, []⟩ (.slice (some ⟨gP, 0, none⟩) n n)⟩] W)] [false, false, false, false, false, false, false, false, false, false, false, false, false, true, false] [some 0, some 0, some 0, some 0, some 0, some 0, some 0, some 0, some 0, some 0, none, some 0, some 0, some 0, some 1] [some 41, some 42, some 43, some 44, some 45, some 46, some 47, some 48, some 40, some 49, some 50, some 51, some 52, none, some 7] 15 1 (fun _ => true) rfl rfl (by kernel_rfl) (by kernel_rfl) (by kernel_rfl) (by kernel_rfl) ?_ ?_ ?_ ?_ ?_ ?_
            · repeat first | exact wok_nil | refine wok_cons (by first | exact fun _ _ h k => h.same k) ?_
            · repeat first | exact vok_nil | refine vok_rig (by first | exact fun _ _ _ h => h) ?_ | refine vok_soft (by first | exact fun _ _ _ h _ => h) ?_
            · exact hF0
            · repeat first | exact all_end (by decide) | refine all_cons (by first | exact rfl | exact ⟨rfl, fun _ _ h => Or.inl h⟩ | exact ⟨rfl, fun _ _ h => Or.inr ⟨h, rfl⟩⟩) ?_
            · refine allp_mild 0 rfl rfl rfl (fun a x W hout hin hP => ?_) ?_
              · have e8 : a.tmps[8]? = some (.pointer (some ⟨g8, 0, none⟩)) := (hout 8 (by kernel_rfl)).trans rfl
                clear hin hout
                intro K Q hK
                go_simp
                exact hK _ _ ⟨Same.refl _, rfl⟩
              refine allp_mild 0 rfl rfl rfl (fun a x W hout hin hP => ?_) ?_
              · have e41 := hin.is 0 41 (by kernel_rfl) (by decide) (by kernel_rfl) (by kernel_rfl) _ rfl
                have hc : W.cell? ⟨g8, 2, none⟩ = some (.slice (some ⟨gP, 0, none⟩) n n) := (hP.row 3 rfl).get rfl
                clear hP
                clear hin hout
                intro K Q hK
                go_simp
                exact hK _ _ ⟨Same.refl _, rfl⟩
              refine allp_mild 0 rfl rfl rfl (fun a x W hout hin hP => ?_) ?_
              · have e9 : a.tmps[9]? = some (.int .i64 (k : Int)) := (hout 9 (by kernel_rfl)).trans rfl
                exact does_move rfl e9 ⟨Same.refl _, rfl⟩
              refine allp_mild 0 rfl rfl rfl (fun a x W hout hin hP => ?_) ?_
              · have e0 : a.tmps[0]? = some (p) := (hout 0 (by kernel_rfl)).trans rfl
                exact does_move rfl e0 ⟨Same.refl _, rfl⟩
              refine allp_mild 0 rfl rfl rfl (fun a x W hout hin hP => ?_) ?_
              · have e1 : a.tmps[1]? = some (.int .i64 (f : Int)) := (hout 1 (by kernel_rfl)).trans rfl
                exact does_move rfl e1 ⟨Same.refl _, rfl⟩
              refine allp_mild 0 rfl rfl rfl (fun a x W hout hin hP => ?_) ?_
              · have e9 : a.tmps[9]? = some (.int .i64 (k : Int)) := (hout 9 (by kernel_rfl)).trans rfl
                exact does_move rfl e9 ⟨Same.refl _, rfl⟩
              refine allp_mild 0 rfl rfl rfl (fun a x W hout hin hP => ?_) ?_
              · have e45 := hin.is 4 45 (by kernel_rfl) (by decide) (by kernel_rfl) (by kernel_rfl) _ rfl
                have e46 := hin.is 5 46 (by kernel_rfl) (by decide) (by kernel_rfl) (by kernel_rfl) _ rfl
                have C := image_any (f : Int) (k : Int) W HIM.out.1 HIM.out.2.1 HIM.out.2.2.1 HIM.out.2.2.2
                clear hP
                clear hin hout
                intro K Q hK
                go_simp
                refine C.mono ?_
                rintro e W' ⟨rfl, rfl⟩
                exact hK _ _ ⟨Same.refl _, rfl⟩
              refine allp_mild 0 rfl rfl rfl (fun a x W hout hin hP => ?_) ?_
              · have e44 := hin.is 3 44 (by kernel_rfl) (by decide) (by kernel_rfl) (by kernel_rfl) _ rfl
                have e47 := hin.is 6 47 (by kernel_rfl) (by decide) (by kernel_rfl) (by kernel_rfl) _ rfl
                have C := HRD.out W hP.below
                clear hP
                clear hin hout
                intro K Q hK
                go_simp
                refine C.mono ?_
                rintro e W' ⟨rfl, hb⟩
                exact hK _ _ ⟨hb, rfl⟩
              refine allp_mild 0 rfl rfl rfl (fun a x W hout hin hP => ?_) ?_
              · have e48 := hin.is 7 48 (by kernel_rfl) (by decide) (by kernel_rfl) (by kernel_rfl) _ rfl
                exact does_move rfl e48 ⟨Same.refl _, rfl⟩
              refine allp_mild 0 rfl rfl rfl (fun a x W hout hin hP => ?_) ?_
              · have e40 := hin.is 8 40 (by kernel_rfl) (by decide) (by kernel_rfl) (by kernel_rfl) _ rfl
                clear hin hout
                intro K Q hK
                go_simp
                exact hK _ _ ⟨Same.refl _, rfl⟩
              refine allp_pure rfl rfl (fun a x W hout hin => ?_) ?_
              · have e40 := hin.is 8 40 (by kernel_rfl) (by decide) (by kernel_rfl) (by kernel_rfl) _ rfl
                clear hin hout
                intro K Q hK
                go_simp
                exact hK _ _ ⟨rfl, rfl⟩
              refine allp_mild 0 rfl rfl rfl (fun a x W hout hin hP => ?_) ?_
              · have e42 := hin.is 1 42 (by kernel_rfl) (by decide) (by kernel_rfl) (by kernel_rfl) _ rfl
                have e43 := hin.is 2 43 (by kernel_rfl) (by decide) (by kernel_rfl) (by kernel_rfl) _ rfl
                clear hin hout
                intro K Q hK
                go_simp
                exact hK _ _ ⟨Same.refl _, rfl⟩
              refine allp_mild 0 rfl rfl rfl (fun a x W hout hin hP => ?_) ?_
              · have e51 := hin.is 11 51 (by kernel_rfl) (by decide) (by kernel_rfl) (by kernel_rfl) _ rfl
                clear hin hout
                intro K Q hK
                go_simp
                exact hK _ _ ⟨Same.refl _, rfl⟩
              refine allp_wild 0 rfl rfl rfl (fun a x W hout hin hP => ?_) ?_
              · have e52 := hin.is 12 52 (by kernel_rfl) (by decide) (by kernel_rfl) (by kernel_rfl) _ rfl
                have e49 := hin.is 9 49 (by kernel_rfl) (by decide) (by kernel_rfl) (by kernel_rfl) _ rfl
                clear hin hout
                intro K Q hK
                exact wp_st_store hP 2 (k * 33 + 1) 52 (.tmp 52) (.tmp 49) rfl rfl (eval_of_get e52) (.agg (bs (DD k))) (eval_of_get e49) (by exact size_b32 HDK.out) (by show k * 33 + 1 + (bs (DD k)).size ≤ (pcs (lg q DD n k)).size; rw [size_pcs (lg_32 q DD n k HDL.out), lg_len, size_bs, HDK.out]; have := HKN.out; omega) (by exact one_bs _) (pcs (lg q DD n (k + 1))) (by rw [show Value.cells (.agg (bs (DD k))) = bs (DD k) from rfl, bs_toList, pcs_data (lg_32 q DD n k HDL.out) (lg_at q DD n k HKN.out) (DD k) HDK.out, lg_set q DD n k]) (fun W' HSx => hK _ _ ⟨HSx, trivial⟩)
              refine allp_mild 1 rfl rfl rfl (fun a x W hout hin hP => ?_) ?_
              · have e50 := hin.is 10 50 (by kernel_rfl) (by decide) (by kernel_rfl) (by kernel_rfl) _ rfl
                exact does_assign rfl e50 ⟨Same.refl _, rfl⟩
              exact all_end (by decide)
            · intro x W hP hV
              have HS9 := Lib.hid (show St w noF [⟨g4, 36, recW rec0 (.slice none 0 0)⟩, ⟨g6, 52, bs (b)⟩, ⟨gP, 70, pcs (lg q DD n (k + 1))⟩, ⟨g8, 36, recW ⟨e0, s0, []⟩ (.slice (some ⟨gP, 0, none⟩) n n)⟩] W from hP)
              have h14 : x 14 = .int .i64 0 := hV 14 (by decide) (.inl (by kernel_rfl))
              clear hP hV
              simp only [putL, Act.put, List.setIfInBounds_toArray, List.set_cons_succ, List.set_cons_zero, h14]
              refine wpAnyH_done (by kernel_rfl) ?_ _
              clear h14
              go_wp2_with fail
              exact ⟨⟨k + 1, by omega, by go_num, HS9.out⟩, by simp [intOf] <;> omega⟩
          · obtain rfl : k = n := by omega
            have hq : decide ((k : Int) < (k : Int)) = false := decide_eq_false (by omega)
            clear hlt
            go_wp2_with (first | ((with_reducible refine wpList_plain ?_ ?_); exact rfl; intro KK hKK; refine wp_st_load HS 3 0 36 (.tmp 8) rfl rfl rfl (recW ⟨e0, s0, []⟩ (.slice (some ⟨gP, 0, none⟩) k k)) (slab_whole _) _ Try.underlying36 rfl (by exact info_rec) (hKK _ _ ?_); clear hKK KK) | ((with_reducible refine wpList_plain ?_ ?_); exact rfl; intro KK hKK; refine wp_st_store HS 0 0 36 (.tmp 4) (.tmp 58) rfl rfl rfl (.agg (recW ⟨e0, s0, []⟩ (.slice (some ⟨gP, 0, none⟩) k k))) rfl (by exact info_rec) (by exact Nat.le_refl 3) (by exact one_rw _ _ _ _) (recW ⟨e0, s0, []⟩ (.slice (some ⟨gP, 0, none⟩) k k)) (spl_agg _ _ _ rfl rfl) (fun W61 HSx => hKK _ _ ?_); clear hKK KK HS; have HS : St w noF [⟨g4, 36, recW ⟨e0, s0, []⟩ (.slice (some ⟨gP, 0, none⟩) k k)⟩, ⟨g6, 52, bs (b)⟩, ⟨gP, 70, pcs (lg q DD k k)⟩, ⟨g8, 36, recW ⟨e0, s0, []⟩ (.slice (some ⟨gP, 0, none⟩) k k)⟩] W61 := HSx; clear HSx))
            exact bodyPost_ret (v := .tuple #[.agg (recW ⟨e0, s0, []⟩ (.slice (some ⟨gP, 0, none⟩) k k)), .int .i64 0]) (results_cell_tmp Try.results15 _ _ g4 36 (recW ⟨e0, s0, []⟩ (.slice (some ⟨gP, 0, none⟩) k k)) (0, 0) _ rfl (HS.row 0 rfl) Try.underlying36 rfl (by exact info_rec)) rfl (by rw [HRR.out, HRA.out]; exact ⟨some ⟨gP, 0, none⟩, k, by rw [lg_len]; rfl, by rw [lg_len]; have := puts_pcs (c := k) (HS.row 2 rfl) (by rw [lg_len]; exact Nat.le_refl _) (fun x hx => ⟨lg_32 q DD k k HDL.out x hx, by obtain ⟨i, _, rfl⟩ := List.mem_map.1 hx; have := atK_b q i; dsimp only; omega⟩); rwa [lg_len] at this, HS.below, fun j hj => by cases hj; exact (HS.own 2 _ rfl).elim (fun h => h.elim) id⟩)
set_option maxHeartbeats 400000 in
theorem walget_nil (D : DiskOps) (w : World) (f : Int) (hf : -9223372036854775808 ≤ f ∧ f < 9223372036854775808) : Calls Try.prog 15 #[nilPtr, .int .i64 f] w (ToldP w rec0 1) := by
  have hz := zeros_rw
  have HF := Lib.hid hf
  have HS := St.nil w noF
  clear hf
  go_enter Try.func15, Try.ntmps15
  go_upto_region 1 with (first | ((with_reducible refine wpList_plain ?_ ?_); exact rfl; intro KK hKK; refine wp_st_alloc HS 36 (recW rec0 (.slice none 0 0)) rfl (.agg (recW rec0 (.slice none 0 0))) (by kernel_rfl) (rfl) (fun g4 W1 HSx => hKK _ _ ?_); clear hKK KK HS; have HS : St w noF [⟨g4, 36, recW rec0 (.slice none 0 0)⟩] W1 := HSx; clear HSx))
  have C1 := haslog_nil W1 D f HF.out
  go_wp2_with fail
  refine C1.mono ?_
  rintro e w1 ⟨rfl, b1⟩
  have HSx := HS.same b1
  clear HS b1 C1
  have HS := HSx
  clear HSx
  go_wp2_with (first | ((with_reducible refine wpList_plain ?_ ?_); exact rfl; intro KK hKK; refine wp_st_store HS 0 0 36 (.tmp 4) (.tmp 14) rfl rfl rfl (.agg #[.int .u32 0, .int .u32 0, .slice none 0 0]) rfl (by exact info_rec) (by exact Nat.le_refl 3) (by exact one_rw rec0 none 0 0) (recW rec0 (.slice none 0 0)) (spl_agg _ _ _ zeros_rw rfl) (fun W2 HSx => hKK _ _ ?_); clear hKK KK HS; have HS : St w noF [⟨g4, 36, recW rec0 (.slice none 0 0)⟩] W2 := HSx; clear HSx))
  exact bodyPost_ret (v := .tuple #[.agg (recW rec0 (.slice none 0 0)), .int .i64 1]) (results_cell_tmp Try.results15 _ _ g4 36 (recW rec0 (.slice none 0 0)) (0, 0) _ rfl (HS.row 0 rfl) Try.underlying36 rfl (by exact info_rec)) rfl (by first | exact toldp_no HS.below | (rw [HQ1.out]; exact toldp_no HS.below))
theorem walOps : WalOps diskOps where
  good := walgood_any
  put := fun base w p M F f e0 s0 A c l h hf hv hl hA hM _ => walput_any diskOps base w p M F f e0 s0 A c l h hf hv hl hA hM
  putNil := fun w f e0 s0 A c l hf _ _ => walput_nil diskOps w f e0 s0 A c l hf
  get := walget_any diskOps
  getNil := walget_nil diskOps
end Go.Proofs.Ytdobempppobopaa

/- Arguments that are records opened. -/
set_option maxRecDepth 4000
namespace Go.Proofs.Ytdobempppobopaa
open Go Go.ChangeShapes Go.WideShapes Go.ChangeAt Go.RowKit
def rdRec : Rd (BitVec 32 × BitVec 32 × List (Int × List (BitVec 8)) × Unit) := rdCons 1 rdU32 (rdCons 1 rdU32 (rdCons 1 (rdSl 33 rdPut) rdNil))
theorem cellsU32r : Try.prog.cellsOf 33 = 1 := by kernel_rfl
theorem cellsPutsr : Try.prog.cellsOf 34 = 1 := by kernel_rfl
theorem opens_rec : Opens Try.prog 36 rdRec :=
  opens_struct Try.underlying36 (by kernel_rfl) (opensF_cons rfl cellsU32r (opens_u32 Try.underlying33) (opensF_cons rfl cellsU32r (opens_u32 Try.underlying33) (opensF_cons rfl cellsPutsr opens_puts opensF_nil)))
theorem rec_at {W : World} {ds : List Value} {x : BitVec 32 × BitVec 32 × List (Int × List (BitVec 8)) × Unit} (h : rdRec W ds x) : ∃ A c, ds.toArray = recW ⟨x.1, x.2.1, x.2.2.1⟩ (.slice A x.2.2.1.length c) ∧ PutsAt W (.slice A x.2.2.1.length c) x.2.2.1 ∧ x.2.2.1.length ≤ maxLen := by
  obtain ⟨e, s, l, u⟩ := x
  obtain ⟨c0, d0, rfl, _, h0, c1, d1, rfl, _, h1, c2, d2, rfl, _, h2, h3⟩ := h
  have h0 : c0 = [.int .u32 (wd e)] := h0
  have h1 : c1 = [.int .u32 (wd s)] := h1
  have h3 : d2 = [] := h3
  subst h0 h1 h3
  have h2' := h2
  obtain ⟨A, c, rfl, _, _, hm, _⟩ := h2'
  exact ⟨A, c, rfl, puts_at h2, hm⟩
theorem open_rec {H : Type} {enc : TypeId × Value → H} {W : World} {r : Reach} {base : Nat} {v : Value} {d : DataW H} {ps : List MemPlace} (hval : Value.okWide Try.prog W r base 36 v)
    (h : DataW.Trod enc Try.prog W 0 (fun _ => true) true 36 v d ps) (hlt : ∀ x ∈ ps, x.block < W.heap.size) :
    ∃ e s A c l, v = .agg (recW ⟨e, s, l⟩ (.slice A l.length c)) ∧ PutsAt W (.slice A l.length c) l ∧ l.length ≤ maxLen := by
  obtain ⟨cs, x, rfl, hx⟩ := open_argRec Try.underlying36 opens_rec hval h hlt
  obtain ⟨A, c, h1, h2, h3⟩ := rec_at hx
  exact ⟨x.1, x.2.1, A, c, x.2.2.1, by rw [← h1], h2, h3⟩
theorem cellsRec : Try.prog.cellsOf 36 = 3 := by kernel_rfl
theorem opens_recs : Opens Try.prog 73 (rdSl 3 rdRec) := opens_sl Try.underlying73 cellsRec (by decide) opens_rec
theorem open_recs {H : Type} {enc : TypeId × Value → H} {W : World} {r : Reach} {base : Nat} {v : Value} {d : DataW H} {ps : List MemPlace} (hval : Value.okWide Try.prog W r base 73 v)
    (h : DataW.Trod enc Try.prog W 0 (fun _ => true) true 73 v d ps) (hlt : ∀ x ∈ ps, x.block < W.heap.size) :
    ∃ A c l, v = .slice A l.length c ∧ rdSl 3 rdRec W [.slice A l.length c] l := open_argSl Try.underlying73 opens_recs hval h hlt
end Go.Proofs.Ytdobempppobopaa

/- A Put that was cut, and an Up: what Get tells then. No program is named here. -/
set_option maxRecDepth 4000
namespace Go.Proofs.Ytdobempppobopaa
theorem ats_range (l : List Int) (g : Nat → List (BitVec 8)) : ((List.range l.length).map fun k => (l.getD k 0, g k)).map (·.1) = l := by
  apply List.ext_getElem (by simp)
  intro k h1 h2
  rw [List.getElem_map, List.getElem_map, List.getElem_range, List.getD_eq_getElem?_getD, List.getElem?_eq_getElem h2]; rfl
/- the old header still stands -/
theorem get_old {M : DiskM} {f0 : Nat} {was : Rec} (hm : f0 + 6 ≤ M.s.length) (hl : M.l = []) (hd : M.down = false) (hg : goodB was.ats = true) (hh : M.s.getD f0 [] = headB was.e was.s was.ats) :
    (walGet M (f0 : Int)).2 = 0 ∧ (walGet M (f0 : Int)).1.e = was.e ∧ (walGet M (f0 : Int)).1.s = was.s ∧ (walGet M (f0 : Int)).1.ats = was.ats := by
  rw [get_head hm hl hd hg hh]
  exact ⟨rfl, rfl, rfl, ats_range _ _⟩
theorem kept_one (x : Nat × List (BitVec 8)) (keep : List (BitVec 8)) : DiskM.kept [x] keep = [] ∨ DiskM.kept [x] keep = [x] := by
  unfold DiskM.kept
  cases keep with
  | nil => left; rfl
  | cons y keep =>
    rw [List.zip_cons_cons, List.zip_nil_left, List.filter_cons]
    split
    · right; rfl
    · left; rfl
theorem torn {M : DiskM} {f0 : Nat} {was now : Rec} (keep : List (BitVec 8)) (hm : f0 + 6 ≤ M.s.length) (hl : M.l = []) (hd : M.down = false) (hgw : goodB was.ats = true) (hgn : goodB now.ats = true) (hh : M.s.getD f0 [] = headB was.e was.s was.ats) (hf : 0 ≤ M.f) :
    (walPut M (f0 : Int) now).1 = (if (now.l.length : Int) + 3 ≤ M.f then 0 else 20) ∧ (walGet ((walPut M (f0 : Int) now).2.upped keep) (f0 : Int)).2 = 0 ∧
    ((walGet ((walPut M (f0 : Int) now).2.upped keep) (f0 : Int)).1 = now ∨ (¬ (now.l.length : Int) + 3 ≤ M.f ∧ (walGet ((walPut M (f0 : Int) now).2.upped keep) (f0 : Int)).1.e = was.e ∧ (walGet ((walPut M (f0 : Int) now).2.upped keep) (f0 : Int)).1.s = was.s ∧ (walGet ((walPut M (f0 : Int) now).2.upped keep) (f0 : Int)).1.ats = was.ats)) := by
  have hn : now.l.length ≤ 5 := by
    unfold goodB at hgn
    simp only [Bool.and_eq_true, decide_eq_true_eq] at hgn
    unfold Rec.ats at hgn
    rw [List.length_map] at hgn
    exact hgn.2.2
  obtain ⟨bl, hbl⟩ : ∃ bl, now.l.map (·.2) = bl := ⟨_, rfl⟩
  have hbn : bl.length = now.l.length := by rw [← hbl, List.length_map]
  obtain ⟨H, hH⟩ : ∃ H, headB now.e now.s now.ats = H := ⟨_, rfl⟩
  obtain ⟨s1, hs1⟩ : ∃ s1, DiskM.put M.s (imgsL (f0 + 1) bl) = s1 := ⟨_, rfl⟩
  have hlen : s1.length = M.s.length := by rw [← hs1, DiskM.length_put]
  have hold : s1.getD f0 [] = headB was.e was.s was.ats := by
    rw [← hs1, put_far _ _ _ (fun y hy => by have := imgsL_mem bl (f0 + 1) y hy; omega), hh]
  have himg : ∀ k, k < now.l.length → s1.getD (f0 + 1 + k) [] = (now.l.map (·.2)).getD k [] := fun k hk => by
    rw [← hs1, hbl]; exact put_at bl (f0 + 1) M.s k (by omega) (by omega)
  have hnew : (s1.set f0 H).getD f0 [] = H := by rw [List.getD_eq_getElem?_getD, List.getElem?_set_self (by omega)]; rfl
  have himg2 : ∀ k, k < now.l.length → (s1.set f0 H).getD (f0 + 1 + k) [] = (now.l.map (·.2)).getD k [] := fun k hk => by
    rw [← himg k hk, List.getD_eq_getElem?_getD, List.getElem?_set_ne (by omega), List.getD_eq_getElem?_getD]
  rw [put_run M f0 now hm hgn hl hd, hbl, hs1, hH]
  by_cases c1 : (now.l.length : Int) + 3 ≤ M.f
  · rw [if_pos (Or.inr c1), if_pos c1]
    have hg := get_put (M := DiskM.upped ⟨s1.set f0 H, [], left M.f (now.l.length + 3), false⟩ keep) (f0 := f0) (r := now) (by show f0 + 6 ≤ (s1.set f0 H).length; rw [List.length_set]; omega) rfl rfl hgn (by rw [hH]; exact hnew) himg2
    rw [hg]
    exact ⟨rfl, rfl, .inl rfl⟩
  · rw [if_neg (by omega), if_neg c1]
    by_cases c2 : M.f = (now.l.length : Int) + 2
    · rw [if_pos c2]
      rcases kept_one (f0, H) keep with hk | hk
      · have hg := get_old (M := DiskM.upped ⟨s1, [(f0, H)], 0, true⟩ keep) (f0 := f0) (was := was) (by show f0 + 6 ≤ (DiskM.put s1 (DiskM.kept [(f0, H)] keep)).length; rw [DiskM.length_put]; omega) rfl rfl hgw (by show (DiskM.put s1 (DiskM.kept [(f0, H)] keep)).getD f0 [] = _; rw [hk]; exact hold)
        exact ⟨rfl, hg.1, .inr ⟨c1, hg.2.1, hg.2.2.1, hg.2.2.2⟩⟩
      · have hg := get_put (M := DiskM.upped ⟨s1, [(f0, H)], 0, true⟩ keep) (f0 := f0) (r := now) (by show f0 + 6 ≤ (DiskM.put s1 (DiskM.kept [(f0, H)] keep)).length; rw [DiskM.length_put]; omega) rfl rfl hgn (by show (DiskM.put s1 (DiskM.kept [(f0, H)] keep)).getD f0 [] = _; rw [hk, hH]; exact hnew) (fun k hk2 => by show (DiskM.put s1 (DiskM.kept [(f0, H)] keep)).getD _ [] = _; rw [hk]; exact himg2 k hk2)
        rw [hg]
        exact ⟨rfl, rfl, .inl rfl⟩
    · rw [if_neg c2]
      by_cases c3 : M.f = (now.l.length : Int) + 1
      · rw [if_pos c3]
        have hg := get_old (M := DiskM.upped ⟨s1, [], 0, true⟩ keep) (f0 := f0) (was := was) (by show f0 + 6 ≤ s1.length; omega) rfl rfl hgw hold
        exact ⟨rfl, hg.1, .inr ⟨c1, hg.2.1, hg.2.2.1, hg.2.2.2⟩⟩
      · rw [if_neg c3]
        have hg := get_old (M := DiskM.upped ⟨M.s, (imgsL (f0 + 1) bl).take M.f.toNat, 0, true⟩ keep) (f0 := f0) (was := was) (by show f0 + 6 ≤ (DiskM.put M.s (DiskM.kept _ keep)).length; rw [DiskM.length_put]; omega) rfl rfl hgw (by
          show (DiskM.put M.s (DiskM.kept ((imgsL (f0 + 1) bl).take M.f.toNat) keep)).getD f0 [] = _
          rw [put_far _ _ _ (fun y hy => by have := imgsL_mem bl (f0 + 1) y (List.mem_of_mem_take (DiskM.kept_mem hy)); omega), hh])
        exact ⟨rfl, hg.1, .inr ⟨c1, hg.2.1, hg.2.2.1, hg.2.2.2⟩⟩
/- a Put on a disk without a fuse -/
theorem put_free {M : DiskM} {f0 : Nat} {r : Rec} (hm : f0 + 6 ≤ M.s.length) (hl : M.l = []) (hd : M.down = false) (hg : goodB r.ats = true) (hf : M.f < 0) :
    ∃ s2, walPut M (f0 : Int) r = (0, ⟨s2, [], M.f, false⟩) ∧ s2.length = M.s.length ∧ s2.getD f0 [] = headB r.e r.s r.ats ∧ (∀ k, k < r.l.length → s2.getD (f0 + 1 + k) [] = (r.l.map (·.2)).getD k []) ∧ ∀ i, (i < f0 ∨ f0 + 6 ≤ i) → s2.getD i [] = M.s.getD i [] := by
  have hn : r.l.length ≤ 5 := by
    unfold goodB at hg
    simp only [Bool.and_eq_true, decide_eq_true_eq] at hg
    unfold Rec.ats at hg
    rw [List.length_map] at hg
    exact hg.2.2
  obtain ⟨bl, hbl⟩ : ∃ bl, r.l.map (·.2) = bl := ⟨_, rfl⟩
  have hbn : bl.length = r.l.length := by rw [← hbl, List.length_map]
  have hlen : (DiskM.put M.s (imgsL (f0 + 1) bl)).length = M.s.length := DiskM.length_put _ _
  refine ⟨(DiskM.put M.s (imgsL (f0 + 1) bl)).set f0 (headB r.e r.s r.ats), ?_, by rw [List.length_set, hlen], ?_, fun k hk => ?_, fun i hi => ?_⟩
  · rw [put_run M f0 r hm hg hl hd, hbl, if_pos (Or.inl hf)]
    unfold left
    rw [if_pos hf]
  · rw [List.getD_eq_getElem?_getD, List.getElem?_set_self (by omega)]; rfl
  · rw [hbl, List.getD_eq_getElem?_getD, List.getElem?_set_ne (by omega), ← List.getD_eq_getElem?_getD]
    exact put_at bl (f0 + 1) M.s k (by omega) (by omega)
  · rw [List.getD_eq_getElem?_getD, List.getElem?_set_ne (by omega), ← List.getD_eq_getElem?_getD]
    exact put_far _ _ _ (fun y hy => by have := imgsL_mem bl (f0 + 1) y hy; omega)
end Go.Proofs.Ytdobempppobopaa
