/- Merged: WalWakes WalTwo. -/
import Derived.Deep.DeepCutAuto
import Derived.Deep.CutBlock
import Derived.Test.YtcdcongeogmfkaaMWal0
import Derived.Test.YtcdcongeogmfkaaMGen0
/- The example of wal's statements. -/
set_option maxRecDepth 4000
namespace Go.Proofs.Ytcdcongeogmfkaa
open Go Go.RowKit
def wkL : List (Int × List (BitVec 8)) := [(5, blk 7#8), (0, blk 8#8)]
def wwA : DiskM := DiskM.new 9
def wwB : DiskM := (walPut wwA 2 ⟨3#32, 4#32, wkL⟩).2
def wwC : DiskM := wwB.upped []
theorem ww_1 : walGet wwA 2 = (rec0, 11) := by decide +kernel
theorem ww_2 : (walPut wwA 2 ⟨3#32, 4#32, wkL⟩).1 = 0 ∧ wwB.l.length = 0 := by decide +kernel
theorem ww_3 : walPut wwB 4 ⟨3#32, 4#32, wkL⟩ = (1, wwB) := by
  have h : (mayB wwB 4 && goodB (Rec.ats ⟨3#32, 4#32, wkL⟩)) = false := by decide +kernel
  unfold walPut; rw [h]; rfl
theorem ww_4 : walGet wwC 2 = (⟨3#32, 4#32, wkL⟩, 0) := by decide +kernel
theorem ww_5 : goodB (wkL.map (·.1)) = true ∧ goodB ([(5, blk 7#8), (5, blk 7#8)].map (·.1)) = false ∧ goodB (([] : List (Int × List (BitVec 8))).map (·.1)) = false := by decide +kernel
theorem ww_cells : ((pcell (5, blk 7#8)).toArray.toList ++ (pcell (0, blk 8#8)).toArray.toList).toArray = (wkL.map pcell).flatten.toArray := by simp [wkL]
theorem ww_take : (((wkL.map pcell).flatten.toArray.toList.drop 0).take (pcell (5, blk 7#8)).length) = pcell (5, blk 7#8) := by
  show (pcell (5, blk 7#8) ++ (pcell (0, blk 8#8) ++ [])).take _ = _
  exact List.take_left
theorem wk_bounds : ∀ x ∈ wkL, x.2.length = 32 ∧ -9223372036854775808 ≤ x.1 ∧ x.1 < 9223372036854775808 := by decide
theorem wk_bounds2 : ∀ x ∈ [((5 : Int), blk 7#8), (5, blk 7#8)], x.2.length = 32 ∧ -9223372036854775808 ≤ x.1 ∧ x.1 < 9223372036854775808 := by decide
theorem size_recW : (Try.prog.info? 36).map (·.size) = some 3 := by kernel_rfl
theorem one_recW (r : Rec) (A : Option Addr) {n c : Nat} : (recW r (.slice A n c)).all (·.oneCell') = true := by simp [recW, Value.oneCell']
theorem zeros_recW : (#[.int .u32 0, .int .u32 0, .slice none 0 0] : Array Value) = recW rec0 (.slice none 0 0) := by rfl
theorem puts_none (w : World) (n : Nat) (hn : n = 0) (A : Option Addr) (c : Nat) : PutsAt w (.slice A n c) [] := by subst hn; exact ⟨A, c, rfl, Nat.zero_le _, fun x hx => (List.not_mem_nil hx).elim, fun h => absurd rfl h⟩
set_option maxRecDepth 20000 in
set_option maxHeartbeats 1600000 in
theorem wwakes_any (D : DiskOps) (O : WalOps D) (w : World) : Calls Try.prog 9 #[] w fun e w' => e = .returned (.bool true) ∧ Below w.heap.size w w' := by
  have C0 := D.new w.heap.size w 9 (Nat.le_refl _) (by decide)
  rw [makes_yes _ _ _ _ (by decide)] at C0
  have HG1 : Hid (∀ (v : Value) (W : World), PutsAt W v wkL → Calls Try.prog 24 #[v] W fun e w' => e = .returned (.bool true) ∧ Below W.heap.size W w') := Lib.hid (fun v W h => by have := O.good wkL v W h (by decide); rw [ww_5.1] at this; exact this)
  have HG2 : Hid (∀ (v : Value) (W : World), PutsAt W v [(5, blk 7#8), (5, blk 7#8)] → Calls Try.prog 24 #[v] W fun e w' => e = .returned (.bool false) ∧ Below W.heap.size W w') := Lib.hid (fun v W h => by have := O.good _ v W h (by decide); rw [ww_5.2.1] at this; exact this)
  have HG3 : Hid (∀ (W : World), Calls Try.prog 24 #[.slice none 0 0] W fun e w' => e = .returned (.bool false) ∧ Below W.heap.size W w') := Lib.hid (fun W => by have := O.good [] (.slice none 0 0) W (puts_none W 0 rfl none 0) (by decide); rw [ww_5.2.2] at this; exact this)
  have HKP : Hid (∀ (u v : Value) (W : World), PutsAt W u wkL → PutsAt W v wkL → Calls Try.prog 17 #[u, v] W fun e w' => e = .returned (.bool true) ∧ Below W.heap.size W w') := Lib.hid (fun u v W h1 h2 => by have := keepputs_any wkL wkL u v W h1 h2 (by decide); rw [decide_eq_true rfl] at this; exact this)
  have hz := zeros_recW
  go_enter Try.func9, Try.ntmps9
  go_wp2_with fail
  refine C0.mono ?_
  rintro e w1 ⟨g, F1, rfl, hA, hb1, hF1⟩
  have hA : D.A w.heap.size w1 (.pointer (some ⟨g, 0, none⟩)) wwA F1 := hA
  have C1 := O.get w.heap.size w1 _ wwA F1 2 hA (by decide) (by decide)
  rw [ww_1] at C1
  have HA1 := Lib.hid hA
  have HB1 := Lib.hid hb1
  clear C0 hA hb1 hF1
  go_wp2_with fail
  refine C1.mono ?_
  rintro e w2 ⟨A2, c2, rfl, _, hb2, _⟩
  have hs0 : (Value.slice A2 (rec0, (11 : Int)).1.l.length c2) = .slice A2 0 c2 := rfl
  rw [hs0]
  have HB2 := Lib.hid ((HB1.out.trans (hb2.mono HB1.out.size)).trans ((Same.alloc w2 (.cells (recW rec0 (.slice A2 0 c2)) 36)).mono (HB1.out.trans (hb2.mono HB1.out.size)).size))
  have HA2 := Lib.hid (D.still (D.still HA1.out hb2) (Same.alloc w2 (.cells (recW rec0 (.slice A2 0 c2)) 36)))
  clear C1 hb2 HA1 HB1 hs0
  go_upto_region 3 with (refine wpList_store_row rfl 36 _ _ rfl w2.heap.size (recW rec0 (.slice A2 0 c2)) rfl rfl 36 _ (Row.fresh _ _ _) (by exact size_recW) rfl (one_recW _ _) ?_; rw [World.setRow_alloc_new])
  generalize w2.alloc (.cells (recW rec0 (.slice A2 0 c2)) 36) = w3 at *
  clear hz
  go_wp2_with fail
  refine (fill_any 7#8 w3).mono ?_
  rintro e w4 ⟨rfl, hb4⟩
  have HB4 := Lib.hid (HB2.out.trans (hb4.mono HB2.out.size))
  have HA4 := Lib.hid (D.still HA2.out hb4)
  clear hb4 HA2 HB2
  go_wp2_with (first | ((with_reducible refine wpList_plain ?_ ?_); exact rfl; intro KK hKK; refine wp_buildStruct 70 _ rfl places_put [.int .i64 5, .agg (bs (blk 7#8))] rfl (by rw [show ([Value.int .i64 5, .agg (bs (blk 7#8))].map (·.cells.size)) = [1, 32] by simp [Value.cells, size_bs, length_blk]]; rfl) (by simp [Value.cells, size_bs, length_blk]) (hKK _ _ ?_); clear hKK KK; rw [pcell_eq]))
  refine (fill_any 8#8 w4).mono ?_
  rintro e w5 ⟨rfl, hb5⟩
  have HB5 := Lib.hid (HB4.out.trans (hb5.mono HB4.out.size))
  have HA5 := Lib.hid (D.still HA4.out hb5)
  clear hb5 HA4 HB4
  have HAP := Lib.hid (D.still HA5.out (Same.alloc w5 (.cells (wkL.map pcell).flatten.toArray 70)))
  have HBP := Lib.hid (HB5.out.trans ((Same.alloc w5 (.cells (wkL.map pcell).flatten.toArray 70)).mono HB5.out.size))
  have RP := Lib.hid (Row.fresh w5 70 (wkL.map pcell).flatten.toArray)
  have HFP : Hid (¬ F1 w5.heap.size) := Lib.hid (fun h => by have := (D.lt HA5.out _ h).2; omega)
  clear HA5 HB5
  go_upto_region 4 with (first | ((with_reducible refine wpList_plain ?_ ?_); exact rfl; intro KK hKK; refine wp_buildStruct 70 _ rfl places_put [.int .i64 0, .agg (bs (blk 8#8))] rfl (by rw [show ([Value.int .i64 0, .agg (bs (blk 8#8))].map (·.cells.size)) = [1, 32] by simp [Value.cells, size_bs, length_blk]]; rfl) (by simp [Value.cells, size_bs, length_blk]) (hKK _ _ ?_); clear hKK KK; rw [pcell_eq]) | ((with_reducible refine wpList_plain ?_ ?_); exact rfl; intro KK hKK; refine wp_buildTwo 34 70 (.tmp 18) (.tmp 20) rfl (pcell (5, blk 7#8)).toArray (pcell (0, blk 8#8)).toArray _ 33 rfl rfl Try.underlying34 info_put2 (by rw [List.size_toArray, len_pcell (length_blk _)]) (by rw [List.size_toArray, len_pcell (length_blk _)]) (by decide) (by decide) (hKK _ _ ?_); clear hKK KK; rw [ww_cells]; generalize w5.heap.size = gp at *; generalize w5.alloc (.cells (wkL.map pcell).flatten.toArray 70) = wP at *) | (refine wpList_store_row rfl 36 _ _ rfl wP.heap.size (recW ⟨3#32, 4#32, wkL⟩ (.slice (some ⟨gp, 0, none⟩) 2 2)) rfl rfl 36 _ (Row.fresh _ _ _) (by exact size_recW) rfl (one_recW _ _) ?_; rw [World.setRow_alloc_new]))
  have R5 := Lib.hid (Row.fresh wP 36 (recW ⟨3#32, 4#32, wkL⟩ (.slice (some ⟨gp, 0, none⟩) 2 2)))
  have RPx := Lib.hid (RP.out.alloc (.cells (recW ⟨3#32, 4#32, wkL⟩ (.slice (some ⟨gp, 0, none⟩) 2 2)) 36))
  have HAx := Lib.hid (D.still HAP.out (Same.alloc wP (.cells (recW ⟨3#32, 4#32, wkL⟩ (.slice (some ⟨gp, 0, none⟩) 2 2)) 36)))
  have HBx := Lib.hid (HBP.out.trans ((Same.alloc wP (.cells (recW ⟨3#32, 4#32, wkL⟩ (.slice (some ⟨gp, 0, none⟩) 2 2)) 36)).mono HBP.out.size))
  have HF5 : Hid (¬ F1 wP.heap.size) := Lib.hid (fun h => by have := (D.lt HAP.out _ h).2; omega)
  have HGP : Hid (gp < wP.heap.size) := Lib.hid RP.out.lt
  clear RP HAP HBP
  generalize wP.heap.size = g5 at *
  generalize wP.alloc (.cells (recW ⟨3#32, 4#32, wkL⟩ (.slice (some ⟨gp, 0, none⟩) 2 2)) 36) = wR at *
  have hps := puts_row (l := wkL) (c := 2) RPx.out (Nat.le_refl _) wk_bounds
  have C1 := O.put w.heap.size wR _ wwA F1 2 3#32 4#32 _ 2 wkL HAx.out (by decide) hps (by decide) (fun _ k hk => by cases hk; exact ⟨RPx.out.lt, HFP.out⟩) (by decide) HBx.out.size
  rw [ww_2.1] at C1
  have r5 := R5.out
  clear hps
  go_wp2_with (first | (refine wpList_guarded (by rfl) (fun K hK => ?_); refine wp_load_row 36 _ rfl g5 rfl 36 (recW ⟨3#32, 4#32, wkL⟩ (.slice (some ⟨gp, 0, none⟩) 2 2)) (0, 0) _ r5 Try.underlying36 rfl size_recW (hK _ _ ?_)))
  refine C1.mono ?_
  rintro e w6 ⟨rfl, F6, hA6, hC6, hF6⟩
  have hA6 : D.A w.heap.size w6 (.pointer (some ⟨g, 0, none⟩)) wwB F6 := hA6
  have HA6 := Lib.hid hA6
  have R56 := Lib.hid (R5.out.chg hC6 HF5.out)
  have RP6 := Lib.hid (RPx.out.chg hC6 HFP.out)
  have HB6 := Lib.hid (HBx.out.trans (acts_below (D.lt HAx.out) hC6 HBx.out.size))
  have HF56 : Hid (¬ F6 g5) := Lib.hid (fun h => by rcases hF6 g5 h with h1 | h1; exact HF5.out h1; have := R5.out.lt; omega)
  have HFP6 : Hid (¬ F6 gp) := Lib.hid (fun h => by rcases hF6 gp h with h1 | h1; exact HFP.out h1; have := RPx.out.lt; omega)
  clear C1 hA6 hC6 hF6 R5 RPx HAx HBx HF5 HFP r5
  have hps := puts_row (l := wkL) (c := 2) RP6.out (Nat.le_refl _) wk_bounds
  have C1 := O.put w.heap.size w6 _ wwB F6 4 3#32 4#32 _ 2 wkL HA6.out (by decide) hps (by decide) (fun _ k hk => by cases hk; exact ⟨RP6.out.lt, HFP6.out⟩) (by rw [ww_2.2]; decide) HB6.out.size
  rw [ww_3] at C1
  have r5 := R56.out
  clear hps
  go_wp2_with (first | (refine wpList_guarded (by rfl) (fun K hK => ?_); refine wp_load_row 36 _ rfl g5 rfl 36 (recW ⟨3#32, 4#32, wkL⟩ (.slice (some ⟨gp, 0, none⟩) 2 2)) (0, 0) _ r5 Try.underlying36 rfl size_recW (hK _ _ ?_)))
  refine C1.mono ?_
  rintro e w7 ⟨rfl, F7, hA7, hC7, hF7⟩
  have hA7 : D.A w.heap.size w7 (.pointer (some ⟨g, 0, none⟩)) wwB F7 := hA7
  have R57 := Lib.hid (R56.out.chg hC7 HF56.out)
  have RP7 := Lib.hid (RP6.out.chg hC7 HFP6.out)
  have HB7 := Lib.hid (HB6.out.trans (acts_below (D.lt HA6.out) hC7 HB6.out.size))
  have HF57 : Hid (¬ F7 g5) := Lib.hid (fun h => by rcases hF7 g5 h with h1 | h1; exact HF56.out h1; have := R56.out.lt; omega)
  have HFP7 : Hid (¬ F7 gp) := Lib.hid (fun h => by rcases hF7 gp h with h1 | h1; exact HFP6.out h1; have := RP6.out.lt; omega)
  have HA7 := Lib.hid hA7
  have C2 := D.up w.heap.size w7 _ wwB F7 (.slice none 0 0) [] hA7 (by rw [ww_2.2]; decide) (slice_nil w7) (by decide) (fun k hk => by cases hk)
  clear C1 hA7 hC7 hF7 R56 RP6 HA6 HB6 HF56 HFP6 r5
  go_wp2_with fail
  refine C2.mono ?_
  rintro e w8 ⟨rfl, F8, hA8, hC8, hF8⟩
  have hA8 : D.A w.heap.size w8 (.pointer (some ⟨g, 0, none⟩)) wwC F8 := hA8
  have R58 := Lib.hid (R57.out.chg hC8 HF57.out)
  have RP8 := Lib.hid (RP7.out.chg hC8 HFP7.out)
  have HB8 := Lib.hid (HB7.out.trans (acts_below (D.lt HA7.out) hC8 HB7.out.size))
  have C3 := O.get w.heap.size w8 _ wwC F8 2 hA8 (by decide) (by decide)
  rw [ww_4] at C3
  clear C2 hA8 hC8 hF8 R57 RP7 HB7 HF57 HFP7 HA7
  go_wp2_with fail
  refine C3.mono ?_
  rintro e w9 ⟨A6, c6, rfl, hp9, hb9, _⟩
  have hs0 : (Value.slice A6 ((⟨3#32, 4#32, wkL⟩ : Rec), (0 : Int)).1.l.length c6) = .slice A6 2 c6 := rfl
  rw [hs0] at hp9
  rw [hs0]
  have R59 := Lib.hid ((R58.out.call hb9).alloc (.cells (recW ⟨3#32, 4#32, wkL⟩ (.slice A6 2 c6)) 36))
  have RP9 := Lib.hid ((RP8.out.call hb9).alloc (.cells (recW ⟨3#32, 4#32, wkL⟩ (.slice A6 2 c6)) 36))
  have R69 := Lib.hid (Row.fresh w9 36 (recW ⟨3#32, 4#32, wkL⟩ (.slice A6 2 c6)))
  have HB9 := Lib.hid ((HB8.out.trans (hb9.mono HB8.out.size)).trans ((Same.alloc w9 (.cells (recW ⟨3#32, 4#32, wkL⟩ (.slice A6 2 c6)) 36)).mono (HB8.out.trans (hb9.mono HB8.out.size)).size))
  have HP9 := Lib.hid (hp9.below (Same.alloc w9 (.cells (recW ⟨3#32, 4#32, wkL⟩ (.slice A6 2 c6)) 36)) (Nat.le_refl _))
  have hz := zeros_recW
  clear C3 hp9 hb9 R58 RP8 HB8 hs0
  go_upto_region 8 with (refine wpList_store_row rfl 36 _ _ rfl w9.heap.size (recW ⟨3#32, 4#32, wkL⟩ (.slice A6 2 c6)) rfl rfl 36 _ (Row.fresh _ _ _) (by exact size_recW) rfl (one_recW _ _) ?_; rw [World.setRow_alloc_new])
  clear hz
  generalize w9.heap.size = g6 at *
  generalize w9.alloc (.cells (recW ⟨3#32, 4#32, wkL⟩ (.slice A6 2 c6)) 36) = w10 at *
  have hF0 : Wl [fun W => Row W g5 36 (recW ⟨3#32, 4#32, wkL⟩ (.slice (some ⟨gp, 0, none⟩) 2 2)) ∧ Row W g6 36 (recW ⟨3#32, 4#32, wkL⟩ (.slice A6 2 c6)) ∧ Row W gp 70 (wkL.map pcell).flatten.toArray ∧ PutsAt W (.slice A6 2 c6) wkL ∧ Below w.heap.size w W] 0 w10.drew := ⟨R59.out.drew, R69.out.drew, RP9.out.drew, HP9.out.below (Below.refl _ _).drew (Nat.le_refl _), HB9.out.drew⟩
  clear R59 R69 RP9 HP9 HB9
  refine wp_region_phs [is (.int .i64 0), is (.bool true), is (.bool true), is (.pointer (some ⟨g6, 0, none⟩)), is (.int .u32 3), is (.bool true), is (.bool true), is (.bool true), is (.pointer (some ⟨g6, 1, none⟩)), is (.int .u32 4), is (.bool true), is (.bool true), is (.bool true), is (.pointer (some ⟨g6, 2, none⟩)), is (.slice A6 2 c6), is (.pointer (some ⟨g5, 2, none⟩)), is (.slice (some ⟨gp, 0, none⟩) 2 2), is (.bool true), is (.bool true), is (.bool true), is (.pointer (some ⟨g5, 2, none⟩)), is (.slice (some ⟨gp, 0, none⟩) 2 2), is (.bool true), is (.bool true), is (.bool true), is (.pointer (some ⟨g5, 2, none⟩)), is (.slice (some ⟨gp, 0, none⟩) 2 2), is (.pointer (some ⟨gp, 0, none⟩)), is (.agg (pcell (5, blk 7#8)).toArray), is (.pointer (some ⟨g5, 2, none⟩)), is (.slice (some ⟨gp, 0, none⟩) 2 2), is (.pointer (some ⟨gp, 0, none⟩)), is (.agg (pcell (5, blk 7#8)).toArray), (fun v W => PutsAt W v [(5, blk 7#8), (5, blk 7#8)]), is (.bool false), is (.bool true), is (.bool true), is (.bool true), is (.bool false), is (.bool true), is (.bool true), is (.bool true)] [true, true, true, true, true, true, true, true, true, true, true, true, true, true, true, true, true, true, true, true, true, true, true, true, true, true, true, true, true, true, true, true, true, false, true, true, true, true, true, true, true, true] [(fun W => Row W g5 36 (recW ⟨3#32, 4#32, wkL⟩ (.slice (some ⟨gp, 0, none⟩) 2 2)) ∧ Row W g6 36 (recW ⟨3#32, 4#32, wkL⟩ (.slice A6 2 c6)) ∧ Row W gp 70 (wkL.map pcell).flatten.toArray ∧ PutsAt W (.slice A6 2 c6) wkL ∧ Below w.heap.size w W)] [false, false, false, false, false, false, false, false, false, false, false, false, false, false, false, false, false, false, false, false, false, false, false, false, false, false, false, false, false, false, false, false, false, false, false, false, false, false, false, false, false, false] [some 0, some 0, some 0, some 0, some 0, some 0, some 0, some 0, some 0, some 0, some 0, some 0, some 0, some 0, some 0, some 0, some 0, some 0, some 0, some 0, some 0, some 0, some 0, some 0, some 0, some 0, some 0, some 0, some 0, some 0, some 0, some 0, some 0, some 0, some 0, some 0, some 0, some 0, some 0, some 0, some 0, some 0] [some 48, some 49, some 50, some 51, some 52, some 53, some 54, some 55, some 56, some 57, some 58, some 59, some 60, some 61, some 62, some 63, some 64, some 65, some 66, some 67, some 68, some 69, some 70, some 71, some 72, some 73, some 74, some 75, some 76, some 77, some 78, some 79, some 80, some 81, some 82, some 83, some 84, some 85, some 86, some 87, some 88, some 0] 42 0 (fun _ => true) rfl rfl (by kernel_rfl) (by kernel_rfl) (by kernel_rfl) (by kernel_rfl) ?_ ?_ ?_ ?_ ?_ ?_
  · repeat first | exact wok_nil | refine wok_cons (by first | exact fun _ _ h k => ⟨h.1.call k, h.2.1.call k, h.2.2.1.call k, h.2.2.2.1.below k (Nat.le_refl _), h.2.2.2.2.trans (k.mono h.2.2.2.2.size)⟩) ?_
  · repeat first | exact vok_nil | refine vok_rig (by first | exact fun _ _ _ h => h) ?_ | refine vok_soft (by first | exact fun _ _ _ h _ => h | exact fun _ _ _ h k => PutsAt.below h k (Nat.le_refl _)) ?_
  · exact hF0
  · repeat first | exact all_end (by decide) | refine all_cons (by first | exact rfl | exact ⟨rfl, fun _ _ h => Or.inl h⟩ | exact ⟨rfl, fun _ _ h => Or.inr ⟨h, rfl⟩⟩) ?_
  · refine allp_mild 0 rfl rfl rfl (fun a x W hout hin hP => ?_) ?_
    · have e7 : a.tmps[7]? = some (.int .i64 0) := (hout 7 (by kernel_rfl)).trans rfl
      exact does_move rfl e7 ⟨Same.refl _, rfl⟩
    refine allp_mild 0 rfl rfl rfl (fun a x W hout hin hP => ?_) ?_
    · have e48 := hin.is 0 48 (by kernel_rfl) (by decide) (by kernel_rfl) (by kernel_rfl) _ rfl
      clear hin hout
      intro K0 Q hK
      go_simp
      exact hK _ _ ⟨Same.refl _, rfl⟩
    refine allp_mild 0 rfl rfl rfl (fun a x W hout hin hP => ?_) ?_
    · have e49 := hin.is 1 49 (by kernel_rfl) (by decide) (by kernel_rfl) (by kernel_rfl) _ rfl
      exact does_move rfl e49 ⟨Same.refl _, rfl⟩
    refine allp_mild 0 rfl rfl rfl (fun a x W hout hin hP => ?_) ?_
    · have e6 : a.tmps[6]? = some (.pointer (some ⟨g6, 0, none⟩)) := (hout 6 (by kernel_rfl)).trans rfl
      clear hin hout
      intro K Q hK
      go_simp
      exact hK _ _ ⟨Same.refl _, rfl⟩
    refine allp_mild 0 rfl rfl rfl (fun a x W hout hin hP => ?_) ?_
    · have e51 := hin.is 3 51 (by kernel_rfl) (by decide) (by kernel_rfl) (by kernel_rfl) _ rfl
      have hc : W.cell? ⟨g6, 0, none⟩ = some (.int .u32 3) := hP.2.1.get rfl
      clear hP
      clear hin hout
      intro K0 Q hK
      go_simp
      exact hK _ _ ⟨Same.refl _, rfl⟩
    refine allp_mild 0 rfl rfl rfl (fun a x W hout hin hP => ?_) ?_
    · have e52 := hin.is 4 52 (by kernel_rfl) (by decide) (by kernel_rfl) (by kernel_rfl) _ rfl
      clear hin hout
      intro K0 Q hK
      go_simp
      exact hK _ _ ⟨Same.refl _, rfl⟩
    refine allp_mild 0 rfl rfl rfl (fun a x W hout hin hP => ?_) ?_
    · have e50 := hin.is 2 50 (by kernel_rfl) (by decide) (by kernel_rfl) (by kernel_rfl) _ rfl
      have e53 := hin.is 5 53 (by kernel_rfl) (by decide) (by kernel_rfl) (by kernel_rfl) _ rfl
      exact does_pick rfl e50 ⟨Same.refl _, eval_of_get e53⟩
    refine allp_mild 0 rfl rfl rfl (fun a x W hout hin hP => ?_) ?_
    · have e54 := hin.is 6 54 (by kernel_rfl) (by decide) (by kernel_rfl) (by kernel_rfl) _ rfl
      exact does_move rfl e54 ⟨Same.refl _, rfl⟩
    refine allp_mild 0 rfl rfl rfl (fun a x W hout hin hP => ?_) ?_
    · have e6 : a.tmps[6]? = some (.pointer (some ⟨g6, 0, none⟩)) := (hout 6 (by kernel_rfl)).trans rfl
      clear hin hout
      intro K Q hK
      go_simp
      exact hK _ _ ⟨Same.refl _, rfl⟩
    refine allp_mild 0 rfl rfl rfl (fun a x W hout hin hP => ?_) ?_
    · have e56 := hin.is 8 56 (by kernel_rfl) (by decide) (by kernel_rfl) (by kernel_rfl) _ rfl
      have hc : W.cell? ⟨g6, 1, none⟩ = some (.int .u32 4) := hP.2.1.get rfl
      clear hP
      clear hin hout
      intro K0 Q hK
      go_simp
      exact hK _ _ ⟨Same.refl _, rfl⟩
    refine allp_mild 0 rfl rfl rfl (fun a x W hout hin hP => ?_) ?_
    · have e57 := hin.is 9 57 (by kernel_rfl) (by decide) (by kernel_rfl) (by kernel_rfl) _ rfl
      clear hin hout
      intro K0 Q hK
      go_simp
      exact hK _ _ ⟨Same.refl _, rfl⟩
    refine allp_mild 0 rfl rfl rfl (fun a x W hout hin hP => ?_) ?_
    · have e55 := hin.is 7 55 (by kernel_rfl) (by decide) (by kernel_rfl) (by kernel_rfl) _ rfl
      have e58 := hin.is 10 58 (by kernel_rfl) (by decide) (by kernel_rfl) (by kernel_rfl) _ rfl
      exact does_pick rfl e55 ⟨Same.refl _, eval_of_get e58⟩
    refine allp_mild 0 rfl rfl rfl (fun a x W hout hin hP => ?_) ?_
    · have e59 := hin.is 11 59 (by kernel_rfl) (by decide) (by kernel_rfl) (by kernel_rfl) _ rfl
      exact does_move rfl e59 ⟨Same.refl _, rfl⟩
    refine allp_mild 0 rfl rfl rfl (fun a x W hout hin hP => ?_) ?_
    · have e6 : a.tmps[6]? = some (.pointer (some ⟨g6, 0, none⟩)) := (hout 6 (by kernel_rfl)).trans rfl
      clear hin hout
      intro K Q hK
      go_simp
      exact hK _ _ ⟨Same.refl _, rfl⟩
    refine allp_mild 0 rfl rfl rfl (fun a x W hout hin hP => ?_) ?_
    · have e61 := hin.is 13 61 (by kernel_rfl) (by decide) (by kernel_rfl) (by kernel_rfl) _ rfl
      have hc : W.cell? ⟨g6, 2, none⟩ = some (.slice A6 2 c6) := hP.2.1.get rfl
      clear hP
      clear hin hout
      intro K0 Q hK
      go_simp
      exact hK _ _ ⟨Same.refl _, rfl⟩
    refine allp_mild 0 rfl rfl rfl (fun a x W hout hin hP => ?_) ?_
    · have e5 : a.tmps[5]? = some (.pointer (some ⟨g5, 0, none⟩)) := (hout 5 (by kernel_rfl)).trans rfl
      clear hin hout
      intro K Q hK
      go_simp
      exact hK _ _ ⟨Same.refl _, rfl⟩
    refine allp_mild 0 rfl rfl rfl (fun a x W hout hin hP => ?_) ?_
    · have e63 := hin.is 15 63 (by kernel_rfl) (by decide) (by kernel_rfl) (by kernel_rfl) _ rfl
      have hc : W.cell? ⟨g5, 2, none⟩ = some (.slice (some ⟨gp, 0, none⟩) 2 2) := hP.1.get rfl
      clear hP
      clear hin hout
      intro K0 Q hK
      go_simp
      exact hK _ _ ⟨Same.refl _, rfl⟩
    refine allp_mild 0 rfl rfl rfl (fun a x W hout hin hP => ?_) ?_
    · have e62 := hin.is 14 62 (by kernel_rfl) (by decide) (by kernel_rfl) (by kernel_rfl) _ rfl
      have e64 := hin.is 16 64 (by kernel_rfl) (by decide) (by kernel_rfl) (by kernel_rfl) _ rfl
      have C := HKP.out _ _ W hP.2.2.2.1 (puts_row (l := wkL) (c := 2) hP.2.2.1 (Nat.le_refl _) wk_bounds)
      clear hP
      clear hin hout
      intro K0 Q hK
      go_simp
      refine C.mono ?_
      rintro e W' ⟨rfl, hb⟩
      exact hK _ _ ⟨hb, rfl⟩
    refine allp_mild 0 rfl rfl rfl (fun a x W hout hin hP => ?_) ?_
    · have e60 := hin.is 12 60 (by kernel_rfl) (by decide) (by kernel_rfl) (by kernel_rfl) _ rfl
      have e65 := hin.is 17 65 (by kernel_rfl) (by decide) (by kernel_rfl) (by kernel_rfl) _ rfl
      exact does_pick rfl e60 ⟨Same.refl _, eval_of_get e65⟩
    refine allp_mild 0 rfl rfl rfl (fun a x W hout hin hP => ?_) ?_
    · have e66 := hin.is 18 66 (by kernel_rfl) (by decide) (by kernel_rfl) (by kernel_rfl) _ rfl
      exact does_move rfl e66 ⟨Same.refl _, rfl⟩
    refine allp_mild 0 rfl rfl rfl (fun a x W hout hin hP => ?_) ?_
    · have e5 : a.tmps[5]? = some (.pointer (some ⟨g5, 0, none⟩)) := (hout 5 (by kernel_rfl)).trans rfl
      clear hin hout
      intro K Q hK
      go_simp
      exact hK _ _ ⟨Same.refl _, rfl⟩
    refine allp_mild 0 rfl rfl rfl (fun a x W hout hin hP => ?_) ?_
    · have e68 := hin.is 20 68 (by kernel_rfl) (by decide) (by kernel_rfl) (by kernel_rfl) _ rfl
      have hc : W.cell? ⟨g5, 2, none⟩ = some (.slice (some ⟨gp, 0, none⟩) 2 2) := hP.1.get rfl
      clear hP
      clear hin hout
      intro K0 Q hK
      go_simp
      exact hK _ _ ⟨Same.refl _, rfl⟩
    refine allp_mild 0 rfl rfl rfl (fun a x W hout hin hP => ?_) ?_
    · have e69 := hin.is 21 69 (by kernel_rfl) (by decide) (by kernel_rfl) (by kernel_rfl) _ rfl
      have C := HG1.out _ W (puts_row (l := wkL) (c := 2) hP.2.2.1 (Nat.le_refl _) wk_bounds)
      clear hP
      clear hin hout
      intro K0 Q hK
      go_simp
      refine C.mono ?_
      rintro e W' ⟨rfl, hb⟩
      exact hK _ _ ⟨hb, rfl⟩
    refine allp_mild 0 rfl rfl rfl (fun a x W hout hin hP => ?_) ?_
    · have e67 := hin.is 19 67 (by kernel_rfl) (by decide) (by kernel_rfl) (by kernel_rfl) _ rfl
      have e70 := hin.is 22 70 (by kernel_rfl) (by decide) (by kernel_rfl) (by kernel_rfl) _ rfl
      exact does_pick rfl e67 ⟨Same.refl _, eval_of_get e70⟩
    refine allp_mild 0 rfl rfl rfl (fun a x W hout hin hP => ?_) ?_
    · have e71 := hin.is 23 71 (by kernel_rfl) (by decide) (by kernel_rfl) (by kernel_rfl) _ rfl
      exact does_move rfl e71 ⟨Same.refl _, rfl⟩
    refine allp_mild 0 rfl rfl rfl (fun a x W hout hin hP => ?_) ?_
    · have e5 : a.tmps[5]? = some (.pointer (some ⟨g5, 0, none⟩)) := (hout 5 (by kernel_rfl)).trans rfl
      clear hin hout
      intro K Q hK
      go_simp
      exact hK _ _ ⟨Same.refl _, rfl⟩
    refine allp_mild 0 rfl rfl rfl (fun a x W hout hin hP => ?_) ?_
    · have e73 := hin.is 25 73 (by kernel_rfl) (by decide) (by kernel_rfl) (by kernel_rfl) _ rfl
      have hc : W.cell? ⟨g5, 2, none⟩ = some (.slice (some ⟨gp, 0, none⟩) 2 2) := hP.1.get rfl
      clear hP
      clear hin hout
      intro K0 Q hK
      go_simp
      exact hK _ _ ⟨Same.refl _, rfl⟩
    refine allp_mild 0 rfl rfl rfl (fun a x W hout hin hP => ?_) ?_
    · have e74 := hin.is 26 74 (by kernel_rfl) (by decide) (by kernel_rfl) (by kernel_rfl) _ rfl
      clear hin hout
      intro K Q hK
      go_simp
      exact hK _ _ ⟨Same.refl _, rfl⟩
    refine allp_mild 0 rfl rfl rfl (fun a x W hout hin hP => ?_) ?_
    · have e75 := hin.is 27 75 (by kernel_rfl) (by decide) (by kernel_rfl) (by kernel_rfl) _ rfl
      clear hin hout
      intro K0 Q hK
      exact wp_load_mid 70 (.tmp 75) rfl gp 0 (eval_of_get e75) (pcell (5, blk 7#8)) _ (Row.slab hP.2.2.1 0 (pcell (5, blk 7#8)) ww_take) Try.underlying70 rfl (by rw [len_pcell (length_blk _)]; exact size_put33) (hK _ _ ⟨Same.refl _, rfl⟩)
    refine allp_mild 0 rfl rfl rfl (fun a x W hout hin hP => ?_) ?_
    · have e5 : a.tmps[5]? = some (.pointer (some ⟨g5, 0, none⟩)) := (hout 5 (by kernel_rfl)).trans rfl
      clear hin hout
      intro K Q hK
      go_simp
      exact hK _ _ ⟨Same.refl _, rfl⟩
    refine allp_mild 0 rfl rfl rfl (fun a x W hout hin hP => ?_) ?_
    · have e77 := hin.is 29 77 (by kernel_rfl) (by decide) (by kernel_rfl) (by kernel_rfl) _ rfl
      have hc : W.cell? ⟨g5, 2, none⟩ = some (.slice (some ⟨gp, 0, none⟩) 2 2) := hP.1.get rfl
      clear hP
      clear hin hout
      intro K0 Q hK
      go_simp
      exact hK _ _ ⟨Same.refl _, rfl⟩
    refine allp_mild 0 rfl rfl rfl (fun a x W hout hin hP => ?_) ?_
    · have e78 := hin.is 30 78 (by kernel_rfl) (by decide) (by kernel_rfl) (by kernel_rfl) _ rfl
      clear hin hout
      intro K Q hK
      go_simp
      exact hK _ _ ⟨Same.refl _, rfl⟩
    refine allp_mild 0 rfl rfl rfl (fun a x W hout hin hP => ?_) ?_
    · have e79 := hin.is 31 79 (by kernel_rfl) (by decide) (by kernel_rfl) (by kernel_rfl) _ rfl
      clear hin hout
      intro K0 Q hK
      exact wp_load_mid 70 (.tmp 79) rfl gp 0 (eval_of_get e79) (pcell (5, blk 7#8)) _ (Row.slab hP.2.2.1 0 (pcell (5, blk 7#8)) ww_take) Try.underlying70 rfl (by rw [len_pcell (length_blk _)]; exact size_put33) (hK _ _ ⟨Same.refl _, rfl⟩)
    refine allp_mild 0 rfl rfl rfl (fun a x W hout hin hP => ?_) ?_
    · have e76 := hin.is 28 76 (by kernel_rfl) (by decide) (by kernel_rfl) (by kernel_rfl) _ rfl
      have e80 := hin.is 32 80 (by kernel_rfl) (by decide) (by kernel_rfl) (by kernel_rfl) _ rfl
      clear hin hout hP
      intro K0 Q hK
      refine wp_buildTwo 34 70 (.tmp 76) (.tmp 80) rfl (pcell (5, blk 7#8)).toArray (pcell (5, blk 7#8)).toArray _ 33 (eval_of_get e76) (eval_of_get e80) Try.underlying34 info_put2 (by rw [List.size_toArray, len_pcell (length_blk _)]) (by rw [List.size_toArray, len_pcell (length_blk _)]) (by decide) (by decide) ?_
      exact hK _ _ ⟨Same.alloc _ _, puts_row (l := [(5, blk 7#8), (5, blk 7#8)]) (by simpa using Row.fresh W 70 _) (Nat.le_refl 2) wk_bounds2⟩
    refine allp_mild 0 rfl rfl rfl (fun a x W hout hin hP => ?_) ?_
    · obtain ⟨v81, e81, hv81⟩ := hin.get 33 81 (by kernel_rfl) (by decide) (by kernel_rfl) (.inr ⟨rfl, by kernel_rfl⟩)
      have C := HG2.out _ W hv81
      clear hP
      clear hin hout
      intro K0 Q hK
      go_simp
      refine C.mono ?_
      rintro e W' ⟨rfl, hb⟩
      exact hK _ _ ⟨hb, rfl⟩
    refine allp_mild 0 rfl rfl rfl (fun a x W hout hin hP => ?_) ?_
    · have e82 := hin.is 34 82 (by kernel_rfl) (by decide) (by kernel_rfl) (by kernel_rfl) _ rfl
      exact does_not rfl e82 ⟨Same.refl _, rfl⟩
    refine allp_mild 0 rfl rfl rfl (fun a x W hout hin hP => ?_) ?_
    · have e72 := hin.is 24 72 (by kernel_rfl) (by decide) (by kernel_rfl) (by kernel_rfl) _ rfl
      have e83 := hin.is 35 83 (by kernel_rfl) (by decide) (by kernel_rfl) (by kernel_rfl) _ rfl
      exact does_pick rfl e72 ⟨Same.refl _, eval_of_get e83⟩
    refine allp_mild 0 rfl rfl rfl (fun a x W hout hin hP => ?_) ?_
    · have e84 := hin.is 36 84 (by kernel_rfl) (by decide) (by kernel_rfl) (by kernel_rfl) _ rfl
      exact does_move rfl e84 ⟨Same.refl _, rfl⟩
    refine allp_mild 0 rfl rfl rfl (fun a x W hout hin hP => ?_) ?_
    · have C := HG3.out W
      clear hP
      clear hin hout
      intro K0 Q hK
      go_simp
      refine C.mono ?_
      rintro e W' ⟨rfl, hb⟩
      exact hK _ _ ⟨hb, rfl⟩
    refine allp_mild 0 rfl rfl rfl (fun a x W hout hin hP => ?_) ?_
    · have e86 := hin.is 38 86 (by kernel_rfl) (by decide) (by kernel_rfl) (by kernel_rfl) _ rfl
      exact does_not rfl e86 ⟨Same.refl _, rfl⟩
    refine allp_mild 0 rfl rfl rfl (fun a x W hout hin hP => ?_) ?_
    · have e85 := hin.is 37 85 (by kernel_rfl) (by decide) (by kernel_rfl) (by kernel_rfl) _ rfl
      have e87 := hin.is 39 87 (by kernel_rfl) (by decide) (by kernel_rfl) (by kernel_rfl) _ rfl
      exact does_pick rfl e85 ⟨Same.refl _, eval_of_get e87⟩
    refine allp_mild 0 rfl rfl rfl (fun a x W hout hin hP => ?_) ?_
    · have e88 := hin.is 40 88 (by kernel_rfl) (by decide) (by kernel_rfl) (by kernel_rfl) _ rfl
      exact does_assign rfl e88 ⟨Same.refl _, rfl⟩
    exact all_end (by decide)
  · intro x W hP hV
    have h41 : x 41 = .bool true := hV 41 (by decide) (.inl (by kernel_rfl))
    have HP := Lib.hid hP.2.2.2.2
    clear hV hP
    simp only [putL, Act.put, List.setIfInBounds_toArray, List.set_cons_succ, List.set_cons_zero, h41]
    refine wpAnyH_done (by kernel_rfl) ?_ _
    clear h41
    go_wp2_with fail
    go_ret
    exact ⟨rfl, HP.out⟩
end Go.Proofs.Ytcdcongeogmfkaa

/- Both disks of a log's story, apart from each other, or none of either. -/
set_option maxRecDepth 4000
namespace Go.Proofs.Ytcdcongeogmfkaa
open Go Go.RowKit
/- the program's disk at p holds M, the document's at q holds N, apart from each other; the step x lies in a block of the call's own -/
structure Two (D : DiskOps) (base : Nat) (p q : Value) (w W : World) (M N : DiskM) (F G : Nat → Prop) : Prop where
  prog : D.A base W p M F
  ref : RefAt base W q N G
  apart : ∀ k, F k → ¬ G k
  below : Below base w W
  bse : base ≤ W.heap.size
def Full (D : DiskOps) (base : Nat) (p q : Value) (gx : Nat) (cs : Array Value) (w W : World) (M N : DiskM) : Prop :=
  ∃ F G, Two D base p q w W M N F G ∧ Row W gx 39 cs ∧ ¬ F gx ∧ ¬ G gx
section
variable {D : DiskOps} {base gx gx' : Nat} {p q : Value} {cs : Array Value} {w W W' : World} {M M' N N' : DiskM} {F F' G G' : Nat → Prop}
theorem Two.still (h : Two D base p q w W M N F G) (hb : Below W.heap.size W W') : Two D base p q w W' M N F G :=
  ⟨D.still h.prog hb, ref_keep h.ref (Chg.of_below (F := fun _ => False) hb) (fun _ _ => id), h.apart, h.below.trans (hb.mono h.bse), Nat.le_trans h.bse hb.size⟩
theorem Two.left (h : Two D base p q w W M N F G) (hA : D.A base W' p M' F') (hC : Chg F W W') (hF : ∀ i, F' i → F i ∨ W.heap.size ≤ i) : Two D base p q w W' M' N F' G :=
  ⟨hA, ref_keep h.ref hC (fun k hk hf => h.apart k hf hk), fun k hk hg => by rcases hF k hk with h1 | h1; exact h.apart k h1 hg; have := (ref_lt h.ref k hg).2; omega, h.below.trans (acts_below (D.lt h.prog) hC h.bse), Nat.le_trans h.bse hC.size⟩
theorem Two.right (h : Two D base p q w W M N F G) (hA : RefAt base W' q N' G') (hC : Chg G W W') (hF : ∀ i, G' i → G i ∨ W.heap.size ≤ i) : Two D base p q w W' M N' F G' :=
  ⟨D.keep h.prog hC h.apart, hA, fun k hk hg => by rcases hF k hg with h1 | h1; exact h.apart k hk h1; have := (D.lt h.prog k hk).2; omega, h.below.trans (acts_below (ref_lt h.ref) hC h.bse), Nat.le_trans h.bse hC.size⟩
theorem Full.still (h : Full D base p q gx cs w W M N) (hb : Below W.heap.size W W') : Full D base p q gx cs w W' M N := by
  obtain ⟨F, G, h, r, hf, hg⟩ := h
  exact ⟨F, G, h.still hb, r.call hb, hf, hg⟩
theorem Full.left (h : Full D base p q gx cs w W M N) {r : Value} {f : FuncId} {vs : Array Value} (hC : ∀ F, D.A base W p M F → Calls Try.prog f vs W (Acts D.A base W p F M' r)) : Calls Try.prog f vs W fun e W' => e = .returned r ∧ Full D base p q gx cs w W' M' N := by
  obtain ⟨F, G, h, rx, hf, hg⟩ := h
  refine (hC F h.prog).mono ?_
  rintro e W' ⟨rfl, F', hA, hC, hF⟩
  exact ⟨rfl, F', G, h.left hA hC hF, rx.chg hC hf, (fun h1 => by rcases hF gx h1 with h2 | h2; exact hf h2; have := rx.lt; omega), hg⟩
theorem Full.right (h : Full D base p q gx cs w W M N) {r : Value} {f : FuncId} {vs : Array Value} (hC : ∀ G, RefAt base W q N G → Calls Try.prog f vs W (Acts RefAt base W q G N' r)) : Calls Try.prog f vs W fun e W' => e = .returned r ∧ Full D base p q gx cs w W' M N' := by
  obtain ⟨F, G, h, rx, hf, hg⟩ := h
  refine (hC G h.ref).mono ?_
  rintro e W' ⟨rfl, G', hA, hC, hF⟩
  exact ⟨rfl, F, G', h.right hA hC hF, rx.chg hC hg, hf, (fun h1 => by rcases hF gx h1 with h2 | h2; exact hg h2; have := rx.lt; omega)⟩
theorem Full.below (h : Full D base p q gx cs w W M N) : Below base w W := by
  obtain ⟨F, G, h, _⟩ := h
  exact h.below
theorem Full.bse (h : Full D base p q gx cs w W M N) : base ≤ W.heap.size := by
  obtain ⟨F, G, h, _⟩ := h
  exact h.bse
theorem Full.row (h : Full D base p q gx cs w W M N) : Row W gx 39 cs := by
  obtain ⟨F, G, _, h, _⟩ := h
  exact h
theorem Full.write (h : Full D base p q gx cs w W M N) (i : Int) (b : List (BitVec 8)) (hb : b.length = 32) (hl : M.l.length ≤ few) (hi : -9223372036854775808 ≤ i ∧ i < 9223372036854775808) : Calls Try.prog 21 #[p, .int .i64 i, .agg (bs b)] W fun e W' => e = .returned (.int .i64 (M.wRes i b).1) ∧ Full D base p q gx cs w W' (M.wRes i b).2 N :=
  h.left fun F hA => D.write base W p M F i b hA hb hl hi
theorem Full.fuse (h : Full D base p q gx cs w W M N) (n : Int) (hn : -9223372036854775808 ≤ n ∧ n < 9223372036854775808) : Calls Try.prog 23 #[p, .int .i64 n] W fun e W' => e = .returned (.tuple #[]) ∧ Full D base p q gx cs w W' (M.fused n) N :=
  h.left fun F hA => D.fuse base W p M F n hA hn
end
def Duo (D : DiskOps) (base : Nat) (p q : Value) (w W : World) : Bool → DiskM → DiskM → (Nat → Prop) → (Nat → Prop) → Prop
  | false, M, N, F, G => Two D base p q w W M N F G
  | true, _, _, F, G => p = nilPtr ∧ q = nilPtr ∧ Below base w W ∧ base ≤ W.heap.size ∧ (∀ k, ¬ F k) ∧ ∀ k, ¬ G k
def putR (b : Bool) (M : DiskM) (f : Int) (r : Rec) : Int × DiskM := if b then (1, M) else walPut M f r
def getR (b : Bool) (M : DiskM) (f : Int) : Rec × Int := if b then (rec0, 1) else walGet M f
section
variable {D : DiskOps} {base gx : Nat} {p q : Value} {cs : Array Value} {w W W' : World} {b : Bool} {M M' N N' : DiskM} {F F' G G' : Nat → Prop}
theorem Duo.two (h : Two D base p q w W M N F G) : Duo D base p q w W false M N F G := h
theorem Duo.none (h : Below base w W) (hb : base ≤ W.heap.size) : Duo D base nilPtr nilPtr w W true M N (fun _ => False) (fun _ => False) := ⟨rfl, rfl, h, hb, fun _ => id, fun _ => id⟩
theorem Duo.still (h : Duo D base p q w W b M N F G) (hb : Below W.heap.size W W') : Duo D base p q w W' b M N F G := by
  cases b with
  | false => exact Two.still h hb
  | true => obtain ⟨h1, h2, h3, h4, h5, h6⟩ := h; exact ⟨h1, h2, h3.trans (hb.mono h4), Nat.le_trans h4 hb.size, h5, h6⟩
theorem Duo.below (h : Duo D base p q w W b M N F G) : Below base w W := by
  cases b with
  | false => exact Two.below h
  | true => exact h.2.2.1
theorem Duo.bse (h : Duo D base p q w W b M N F G) : base ≤ W.heap.size := by
  cases b with
  | false => exact Two.bse h
  | true => exact h.2.2.2.1
theorem Duo.put (O : WalOps D) (h : Duo D base p q w W b M N F G) (f : Int) (e0 s0 : BitVec 32) (A : Option Addr) (c : Nat) (l : List (Int × List (BitVec 8))) (hf : -9223372036854775808 ≤ f ∧ f < 9223372036854775808) (hv : PutsAt W (.slice A l.length c) l) (hl : l.length ≤ maxLen)
    (hA : l ≠ [] → ∀ k, (Value.slice A l.length c).ownBlock = some k → k < W.heap.size ∧ ¬ F k) (hM : M.l.length + 10 ≤ few) :
    Calls Try.prog 12 #[p, .int .i64 f, .agg (recW ⟨e0, s0, l⟩ (.slice A l.length c))] W fun e W' => e = .returned (.int .i64 (putR b M f ⟨e0, s0, l⟩).1) ∧ ∃ F', Duo D base p q w W' b (putR b M f ⟨e0, s0, l⟩).2 N F' G ∧ Chg F W W' ∧ ∀ k, F' k → F k ∨ W.heap.size ≤ k := by
  cases b with
  | false =>
    refine (O.put base W p M F f e0 s0 A c l (Two.prog h) hf hv hl hA hM (Two.bse h)).mono ?_
    rintro e W' ⟨rfl, F', h1, h2, h3⟩
    exact ⟨rfl, F', Two.left h h1 h2 h3, h2, h3⟩
  | true =>
    obtain ⟨rfl, rfl, h3, h4, h5, h6⟩ := h
    refine (O.putNil W f e0 s0 A c l hf hv hl).mono ?_
    rintro e W' ⟨rfl, hb⟩
    exact ⟨rfl, F, ⟨rfl, rfl, h3.trans (hb.mono h4), Nat.le_trans h4 hb.size, h5, h6⟩, Chg.of_below hb, fun k hk => .inl hk⟩
theorem Duo.get (O : WalOps D) (h : Duo D base p q w W b M N F G) (f : Int) (hf : -9223372036854775808 ≤ f ∧ f < 9223372036854775808) (hM : M.l.length ≤ few) : Calls Try.prog 15 #[p, .int .i64 f] W (ToldP W (getR b M f).1 (getR b M f).2) := by
  cases b with
  | false => exact O.get base W p M F f (Two.prog h) hf hM
  | true => obtain ⟨rfl, rfl, _⟩ := h; exact O.getNil W f hf
/- with the step, which lies in a block of the call's own; BF, BG: where the disks' blocks may be -/
def Full8 (D : DiskOps) (b : Bool) (base : Nat) (p q : Value) (gx : Nat) (cs : Array Value) (w W : World) (BF BG : Nat → Prop) (M N : DiskM) : Prop :=
  ∃ F G, Duo D base p q w W b M N F G ∧ Row W gx 39 cs ∧ ¬ F gx ∧ ¬ G gx ∧ (∀ k, F k → BF k) ∧ ∀ k, G k → BG k
variable {BF BG : Nat → Prop}
theorem Full8.still (h : Full8 D b base p q gx cs w W BF BG M N) (hb : Below W.heap.size W W') : Full8 D b base p q gx cs w W' BF BG M N := by
  obtain ⟨F, G, h, r, hf, hg, h1, h2⟩ := h
  exact ⟨F, G, h.still hb, r.call hb, hf, hg, h1, h2⟩
theorem Full8.below (h : Full8 D b base p q gx cs w W BF BG M N) : Below base w W := by obtain ⟨F, G, h, _⟩ := h; exact h.below
theorem Full8.bse (h : Full8 D b base p q gx cs w W BF BG M N) : base ≤ W.heap.size := by obtain ⟨F, G, h, _⟩ := h; exact h.bse
theorem Full8.row (h : Full8 D b base p q gx cs w W BF BG M N) : Row W gx 39 cs := by obtain ⟨F, G, _, r, _⟩ := h; exact r
theorem Full8.put (O : WalOps D) {B9 : Nat} (h : Full8 D b base p q gx cs w W (fun k => k < B9) BG M N) (f : Int) (e0 s0 : BitVec 32) (A : Option Addr) (n c : Nat) (l : List (Int × List (BitVec 8))) (hn : l.length = n) (hf : -9223372036854775808 ≤ f ∧ f < 9223372036854775808) (hv : PutsAt W (.slice A n c) l) (hl : n ≤ maxLen)
    (hA : l ≠ [] → ∀ k, (Value.slice A n c).ownBlock = some k → B9 ≤ k ∧ k < W.heap.size) (hM : M.l.length + 10 ≤ few) :
    Calls Try.prog 12 #[p, .int .i64 f, .agg (recW ⟨e0, s0, l⟩ (.slice A n c))] W fun e W' => e = .returned (.int .i64 (putR b M f ⟨e0, s0, l⟩).1) ∧ Full8 D b base p q gx cs w W' (fun _ => True) BG (putR b M f ⟨e0, s0, l⟩).2 N ∧ W.heap.size ≤ W'.heap.size := by
  subst hn
  obtain ⟨F, G, h, r, hf1, hg1, h1, h2⟩ := h
  refine (h.put O f e0 s0 A c l hf hv hl (fun hne k hk => ⟨(hA hne k hk).2, fun hF => by have := h1 k hF; have := (hA hne k hk).1; omega⟩) hM).mono ?_
  rintro e W' ⟨rfl, F', h3, h4, h5⟩
  exact ⟨rfl, ⟨F', G, h3, r.chg h4 hf1, (fun hk => by rcases h5 gx hk with hk | hk; exact hf1 hk; have := r.lt; omega), hg1, fun _ _ => trivial, h2⟩, h4.size⟩
theorem Full8.get (O : WalOps D) (h : Full8 D b base p q gx cs w W BF BG M N) (f : Int) (hf : -9223372036854775808 ≤ f ∧ f < 9223372036854775808) (hM : M.l.length ≤ few) : Calls Try.prog 15 #[p, .int .i64 f] W (ToldP W (getR b M f).1 (getR b M f).2) := by
  obtain ⟨F, G, h, _⟩ := h; exact h.get O f hf hM
theorem Full8.nil (h : Full8 D true base p q gx cs w W BF BG M N) : p = nilPtr ∧ q = nilPtr := by
  obtain ⟨F, G, ⟨h1, h2, _⟩, _⟩ := h; exact ⟨h1, h2⟩
theorem orElse_l {a : Int × DiskM} {k : DiskM → Int × DiskM} {x y : Nat} (h : a.2.l.length ≤ x) (hk : ∀ M : DiskM, M.l.length ≤ x → (k M).2.l.length ≤ y) (hxy : x ≤ y) : (orElse a k).2.l.length ≤ y := by
  unfold orElse; split
  · exact hk _ h
  · exact Nat.le_trans h hxy
theorem orElse_s {a : Int × DiskM} {k : DiskM → Int × DiskM} {n : Nat} (h : a.2.s.length = n) (hk : ∀ M : DiskM, M.s.length = n → (k M).2.s.length = n) : (orElse a k).2.s.length = n := by
  unfold orElse; split
  · exact hk _ h
  · exact h
theorem imgs8_l : ∀ (bs' : List (List (BitVec 8))) (M : DiskM) (f : Int), (imgs M f bs').2.l.length ≤ M.l.length + bs'.length
  | [], _, _ => Nat.le_refl _
  | b' :: l, M, f => by
    refine orElse_l (x := M.l.length + 1) (wRes_l M f b' (Nat.le_refl _)) (fun M' h => Nat.le_trans (imgs8_l l M' (f + 1)) ?_) ?_ <;> simp only [List.length_cons] <;> omega
theorem imgs8_s : ∀ (bs' : List (List (BitVec 8))) (M : DiskM) (f : Int), (imgs M f bs').2.s.length = M.s.length
  | [], _, _ => rfl
  | b' :: l, M, f => orElse_s (congrArg List.length (wRes_s M f b')) (fun M' h => (imgs8_s l M' (f + 1)).trans h)
theorem putR_l (b : Bool) (M : DiskM) (f : Int) (r : Rec) : (putR b M f r).2.l.length ≤ M.l.length + 6 := by
  unfold putR; split
  · simp
  · unfold walPut; split
    · rename_i hg
      have h5 : (r.l.map (·.2)).length ≤ 5 := by
        rw [Bool.and_eq_true] at hg
        have := hg.2
        unfold goodB at this
        simp only [Bool.and_eq_true, decide_eq_true_eq] at this
        have := this.2.2
        unfold Rec.ats at this
        rw [List.length_map] at this ⊢; exact this
      refine orElse_l (x := M.l.length + 5) (Nat.le_trans (imgs8_l _ M _) (by omega)) (fun M1 h1 => orElse_l (x := M.l.length + 5) (Nat.le_trans (fRes_l M1) h1) (fun M2 h2 => orElse_l (x := M.l.length + 6) (wRes_l M2 f _ h2) (fun M3 h3 => Nat.le_trans (fRes_l M3) h3) (Nat.le_refl _)) (by omega)) (by omega)
    · simp
theorem getR_l (b : Bool) (M : DiskM) (f : Int) : (getR b M f).1.l.length ≤ 255 := by
  unfold getR; split
  · simp [rec0]
  · unfold walGet; split
    · split
      · simp [rec0]
      · split
        · unfold recAt
          simp only [List.length_map, List.length_range]
          unfold cnt
          have := ((bodyOf (M.now f.toNat)).getD 8 0#8).isLt
          omega
        · simp [rec0]
    · simp [rec0]
theorem putR_s (b : Bool) (M : DiskM) (f : Int) (r : Rec) : (putR b M f r).2.s.length = M.s.length := by
  unfold putR; split
  · rfl
  · unfold walPut; split
    · exact orElse_s (imgs8_s _ M _) (fun M1 h1 => orElse_s ((fRes_s M1).trans h1) (fun M2 h2 => orElse_s ((congrArg List.length (wRes_s M2 f _)).trans h2) (fun M3 h3 => (fRes_s M3).trans h3)))
    · rfl
end
theorem stays_u32r : rdU32.Stays := fun _ _ _ _ _ h _ _ => h
theorem stays_put : rdPut.Stays := stays_map (stays_cons' (stays_int _) (stays_cons' (stays_row _) stays_rnil))
theorem stays_rec : rdRec.Stays := stays_cons' stays_u32r (stays_cons' stays_u32r (stays_cons' (stays_sl stays_put) stays_rnil))
theorem stays_step8 : rdStep8.Stays := stays_map (stays_cons' (stays_int _) (stays_cons' (stays_int _) (stays_cons' stays_rec (stays_cons' (stays_sl stays_u8) (stays_cons' (stays_sl stays_u8) stays_rnil)))))
theorem stays_steps8 : (rdSl 7 rdStep8).Stays := stays_sl stays_step8
end Go.Proofs.Ytcdcongeogmfkaa
