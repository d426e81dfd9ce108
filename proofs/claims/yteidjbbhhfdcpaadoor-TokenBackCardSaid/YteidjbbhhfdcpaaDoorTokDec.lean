/- The program's token of bytes, or that there is none. -/
import Derived.Test.YteidjbbhhfdcpaaDoorTokPrg
import Derived.Test.YteidjbbhhfdcpaaDoorLowC
import Derived.Test.YteidjbbhhfdcpaaDoorStMore
import Derived.Test.YteidjbbhhfdcpaaDoorFill
import Derived.Deep.AppendLies
import Derived.Laws.Cover3
set_option maxRecDepth 4000
namespace Go.Proofs.YteidjbbhhfdcpaaDoor
open Go Go.RowKit
theorem size_tok : (Tryd.prog.info? 28).map (·.size) = some 37 := by kernel_rfl
theorem size_dig : (Tryd.prog.info? 26).map (·.size) = some 32 := by kernel_rfl
theorem places_clm : placesOf Tryd.prog 24 = some (5, [(0, 1), (1, 1), (2, 1), (3, 1), (4, 1)]) := by kernel_rfl
theorem places_tok : placesOf Tryd.prog 28 = some (37, [(0, 5), (5, 32)]) := by kernel_rfl
def tok0V : Value := .agg (#[.int .i64 0, .string ⟨#[]⟩, .int .i64 0, .int .u32 0, .int .u32 0] ++ bs (zer 32))
theorem tok0_eq : tok0V = .agg (tokCells clm0 (zer 32)) := by unfold tok0V tokCells clmCells clm0; rw [str_lit0]; rfl
theorem zero_tok : (Tryd.prog.info? 28).bind (·.zero) = some (.agg (tokCells clm0 (zer 32))) := by rw [← tok0_eq]; kernel_rfl
theorem zeros_tok : (#[.int .i64 0, .string ⟨#[]⟩, .int .i64 0, .int .u32 0, .int .u32 0, .int .u8 0, .int .u8 0, .int .u8 0, .int .u8 0, .int .u8 0, .int .u8 0, .int .u8 0, .int .u8 0, .int .u8 0, .int .u8 0, .int .u8 0, .int .u8 0, .int .u8 0, .int .u8 0, .int .u8 0, .int .u8 0, .int .u8 0, .int .u8 0, .int .u8 0, .int .u8 0, .int .u8 0, .int .u8 0, .int .u8 0, .int .u8 0, .int .u8 0, .int .u8 0, .int .u8 0, .int .u8 0, .int .u8 0, .int .u8 0, .int .u8 0, .int .u8 0] : Array Value) = tokCells clm0 (zer 32) := by
  have h := tok0_eq
  unfold tok0V at h
  injection h
theorem tok_size (c : Clm) (t : List (BitVec 8)) (h : t.length = 32) : (tokCells c t).size = 37 := by unfold tokCells; rw [Array.size_append, size_bs, h]; rfl
theorem one_tok (c : Clm) (t : List (BitVec 8)) : (tokCells c t).all (·.oneCell') = true := by
  unfold tokCells
  rw [Array.all_append, one_bs, Bool.and_true]
  unfold clmCells; simp [Value.oneCell']
theorem zeros_one : (Value.agg #[.int .i64 0, .string ⟨#[]⟩, .int .i64 0, .int .u32 0, .int .u32 0, .int .u8 0, .int .u8 0, .int .u8 0, .int .u8 0, .int .u8 0, .int .u8 0, .int .u8 0, .int .u8 0, .int .u8 0, .int .u8 0, .int .u8 0, .int .u8 0, .int .u8 0, .int .u8 0, .int .u8 0, .int .u8 0, .int .u8 0, .int .u8 0, .int .u8 0, .int .u8 0, .int .u8 0, .int .u8 0, .int .u8 0, .int .u8 0, .int .u8 0, .int .u8 0, .int .u8 0, .int .u8 0, .int .u8 0, .int .u8 0, .int .u8 0, .int .u8 0]).cells.all (·.oneCell') = true := by rw [zeros_tok]; exact one_tok clm0 (zer 32)
theorem flat_tok (c : Clm) (t : List (BitVec 8)) : (([.agg (clmCells c), .agg (bs t)] : List Value).flatMap fun v => v.cells.toList).toArray = tokCells c t := by
  unfold tokCells; simp [Value.cells]
theorem i64_bd (x : BitVec 8) : IntKind.i64.wrap (bd x) = bd x := i64_id _ (by have := bd_lo x; omega) (by have := bd_hi x; omega)
theorem BAt.range {w : World} {g o : Nat} {q : List (BitVec 8)} (h : BAt w g o q) (k n : Nat) (_ : k + n ≤ q.length) : w.rangeAt g (o + k) (bytesV ((q.drop k).take n)) := fun j v hv => by
  simp only [bytesV, List.getElem?_map, Option.map_eq_some_iff] at hv
  obtain ⟨x, hx, rfl⟩ := hv
  exact ((h.drop k).take n).at_ j x hx
theorem BAt.far {w w' : World} {g o k : Nat} {q : List (BitVec 8)} (h : BAt w g o q) (hg : w.grownBy w' (some k)) (hne : g ≠ k) : BAt w' g o q :=
  ⟨Nat.lt_of_lt_of_le h.lt hg.size, fun j x hx => (hg.cell_far ⟨g, o + j, none⟩ h.lt (by simpa using hne)).trans (h.at_ j x hx)⟩
theorem wp_new_row {P : Program} {o : Oper} {a : Act} {w : World} {K : Act → World → Prop} {Q : Exit → Act → World → Prop} (e : TypeId) (cs : Array Value) (ho : o.op = .alloc e) (hz : (P.info? e).bind (·.zero) = some (.agg cs))
    (h : K (a.put o.dst (.pointer (some ⟨w.heap.size, 0, none⟩))) (w.alloc (.cells cs e))) : o.wp P a w K Q := by
  cases hq : P.info? e with
  | none => simp [hq] at hz
  | some i =>
    have hi : i.zero = some (.agg cs) := by simpa [hq] using hz
    have hrun : (Instr.alloc e true (.tuple #[])).run P w = .ok (.pointer (some ⟨w.heap.size, 0, none⟩)) (w.alloc (.cells cs e)) := by
      simp [Instr.alloc, zeroValue, typeInfo, hq, hi, newVar, newRow, Value.cells]
    unfold Oper.wp execOp
    simp [ho, hrun]
    exact h
/- what 46 bytes tell -/
def clmQ (q : List (BitVec 8)) : Clm := ⟨bd (q.getD 0 0#8), (cutN ((q.drop 1).take 4)).1, bd (q.getD 5 0#8), lv 0 (q.drop 6), lv 0 (q.drop 10)⟩
def tokOk (q : List (BitVec 8)) : Bool := decide (q.length = 46) && (cutN ((q.drop 1).take 4)).2 && mayC (clmQ q)
set_option maxHeartbeats 800000 in
theorem tokdec_len (A : Option Addr) (n cc : Nat) (w : World) (hn : ¬ n = 46) :
    Calls Tryd.prog 12 #[.slice A n cc] w fun e w' => e = .returned (.tuple #[.agg (tokCells clm0 (zer 32)), .int .i64 11]) ∧ Below w.heap.size w w' := by
  have hne : ((n : Int) == 46) = false := beq_eq_false_iff_ne.2 (by omega)
  have HS := St.nil w noF
  go_enter Tryd.func12, Tryd.ntmps12
  go_upto_region 1 with (first | ((with_reducible refine wpList_plain ?_ ?_); exact rfl; intro KK hKK; refine wp_st_alloc HS 28 (tokCells clm0 (zer 32)) rfl (.agg (tokCells clm0 (zer 32))) (by exact zero_tok) (rfl) (fun g2 W1 HSx => hKK _ _ ?_); clear hKK KK HS; have HS : St w noF [⟨g2, 28, tokCells clm0 (zer 32)⟩] W1 := HSx; clear HSx))
  have HS := HS
  go_wp2_with (first | ((with_reducible refine wpList_plain ?_ ?_); exact rfl; intro KK hKK; refine wp_st_store HS 0 0 28 (.tmp 2) (.tmp 10) rfl rfl rfl (.agg #[.int .i64 0, .string ⟨#[]⟩, .int .i64 0, .int .u32 0, .int .u32 0, .int .u8 0, .int .u8 0, .int .u8 0, .int .u8 0, .int .u8 0, .int .u8 0, .int .u8 0, .int .u8 0, .int .u8 0, .int .u8 0, .int .u8 0, .int .u8 0, .int .u8 0, .int .u8 0, .int .u8 0, .int .u8 0, .int .u8 0, .int .u8 0, .int .u8 0, .int .u8 0, .int .u8 0, .int .u8 0, .int .u8 0, .int .u8 0, .int .u8 0, .int .u8 0, .int .u8 0, .int .u8 0, .int .u8 0, .int .u8 0, .int .u8 0, .int .u8 0]) rfl (by exact size_tok) (by rw [tok_size _ _ (length_zer 32)]; exact Nat.le_refl 37) (by exact zeros_one) (tokCells clm0 (zer 32)) (spl_agg _ _ _ zeros_tok (by rw [tok_size _ _ (length_zer 32)]; rfl)) (fun W31 HSx => hKK _ _ ?_); clear hKK KK HS; have HS : St w noF [⟨g2, 28, tokCells clm0 (zer 32)⟩] W31 := HSx; clear HSx))
  exact bodyPost_ret (v := .tuple #[.agg (tokCells clm0 (zer 32)), .int .i64 11]) (results_cell_tmp Tryd.results12 _ _ g2 28 (tokCells clm0 (zer 32)) (0, 0) _ rfl (HS.row 0 rfl) Tryd.underlying28 rfl (by first | exact size_tok | exact HTZ.out)) rfl ⟨rfl, HS.below⟩
set_option maxRecDepth 20000 in
set_option maxHeartbeats 1600000 in
theorem tokdec_no (g o cc : Nat) (q : List (BitVec 8)) (w : World) (hB : BAt w g o q) (hl : q.length = 46) (hc : 46 ≤ cc) (hok : (cutN ((q.drop 1).take 4)).2 = false) :
    Calls Tryd.prog 12 #[.slice (some ⟨g, o, none⟩) 46 cc] w fun e w' => e = .returned (.tuple #[.agg (tokCells clm0 (zer 32)), .int .i64 11]) ∧ Below w.heap.size w w' := by
  have HBA := Lib.hid hB
  have HQL := Lib.hid hl
  have HCC := Lib.hid hc
  have k1 : ¬ cc = 1 := by omega
  have k6 : ¬ cc = 6 := by omega
  have k10 : ¬ cc = 10 := by omega
  have k14 : ¬ cc = 14 := by omega
  have l1 : 1 ≤ cc := by omega
  have l6 : 6 ≤ cc := by omega
  have l10 : 10 ≤ cc := by omega
  have l14 : 14 ≤ cc := by omega
  have l46 : 46 ≤ cc := by omega
  have i1 : (1 : Int) ≤ (cc : Int) := by omega
  have hat : ∀ w, (Instr.arrayAt 49 (.slice (some ⟨g, o + 1, none⟩) 45 (cc - 1))).run Tryd.prog w = .ok (.pointer (some ⟨g, o + 1, none⟩)) w := fun w => run_arrayAt w 49 _ 4 _ 45 (cc - 1) Tryd.underlying49 (by decide)
  have i46 : (46 : Int) ≤ (cc : Int) := by omega
  obtain ⟨b4, hb4⟩ : ∃ b4, (q.drop 1).take 4 = b4 := ⟨_, rfl⟩
  have HB4 : Hid (b4.length = 4) := Lib.hid (by rw [← hb4, List.length_take, List.length_drop, hl]; rfl)
  have HB4Q := Lib.hid hb4
  obtain ⟨tg, htg⟩ : ∃ tg, (q.drop 14).take 32 = tg := ⟨_, rfl⟩
  have HTL : Hid (tg.length = 32) := Lib.hid (by rw [← htg, List.length_take, List.length_drop, hl]; rfl)
  have HTG := Lib.hid htg
  have HTE : Hid (q.drop 14 = tg) := Lib.hid (by rw [← htg, List.take_of_length_le (by rw [List.length_drop, hl]; decide)])
  obtain ⟨x0, hx0⟩ : ∃ x, q.getD 0 0#8 = x := ⟨_, rfl⟩
  obtain ⟨x5, hx5⟩ : ∃ x, q.getD 5 0#8 = x := ⟨_, rfl⟩
  obtain ⟨u, hu⟩ : ∃ u, lv 0 (q.drop 6) = u := ⟨_, rfl⟩
  obtain ⟨v, hv⟩ : ∃ v, lv 0 (q.drop 10) = v := ⟨_, rfl⟩
  have HX0 := Lib.hid hx0
  have HX5 := Lib.hid hx5
  have HU := Lib.hid hu
  have HV := Lib.hid hv
  obtain ⟨nm, hnm⟩ : ∃ nm, (cutN b4).1 = nm := ⟨_, rfl⟩
  obtain ⟨c, hcq⟩ : ∃ c, clmQ q = c := ⟨_, rfl⟩
  have HCQ : Hid (c = ⟨bd x0, nm, bd x5, u, v⟩) := Lib.hid (by rw [← hcq, ← hx0, ← hx5, ← hu, ← hv, ← hnm, ← hb4]; rfl)
  have HTS := Lib.hid (tok_size c tg HTL.out)
  have HTZ : Hid ((Tryd.prog.info? 28).map (·.size) = some (tokCells c tg).size) := Lib.hid (by rw [HTS.out]; exact size_tok)
  have HCUT := Lib.hid (fun W => cut_any b4 W HB4.out)
  rw [hb4] at hok
  rw [show cutN b4 = (nm, false) from Prod.ext hnm hok] at HCUT
  clear hB hl hc hb4 htg hx0 hx5 hu hv hnm hcq hok
  have HS := St.nil w noF
  go_enter Tryd.func12, Tryd.ntmps12
  go_upto_region 1 with (first | ((with_reducible refine wpList_plain ?_ ?_); exact rfl; intro KK hKK; refine wp_st_alloc HS 28 (tokCells clm0 (zer 32)) rfl (.agg (tokCells clm0 (zer 32))) (by exact zero_tok) (rfl) (fun g2 W1 HSx => hKK _ _ ?_); clear hKK KK HS; have HS : St w noF [⟨g2, 28, tokCells clm0 (zer 32)⟩] W1 := HSx; clear HSx))
  have HS := HS
  obtain ⟨B0, hB0⟩ : ∃ B0, W1.heap.size = B0 := ⟨_, rfl⟩
  have HBA1 : BAt W1 g o q := HBA.out.call HS.below
  have HRB : Hid (W1.rangeAt g (o + 1) (bytesV b4)) := Lib.hid (HB4Q.out ▸ HBA1.range 1 4 (by rw [HQL.out]; decide))
  have HB0 : Hid (w.heap.size ≤ B0) := Lib.hid (by rw [← hB0]; exact HS.below.size)
  have HLT : Hid (∀ b ∈ ([⟨g2, 28, tokCells clm0 (zer 32)⟩] : List Blk), b.g < B0) := Lib.hid (by rw [← hB0]; exact fun b hb => HS.lt hb)
  have HGB : Hid (g < B0) := Lib.hid (by rw [← hB0]; exact HBA1.lt)
  have HBB : Hid (B0 ≤ W1.heap.size) := Lib.hid (Nat.le_of_eq hB0.symm)
  clear hB0
  go_wp2_with (first | ((with_reducible refine wpList_plain ?_ ?_); exact rfl; intro KK hKK; refine wp_load_mid 49 (.tmp 14) rfl g (o + 1) rfl (bytesV b4) _ HRB.out Tryd.underlying49 rfl (by rw [len_bytesV, HB4.out]; exact size_b4) (hKK _ _ ?_); clear hKK KK))
  refine (HCUT.out _).mono ?_
  rintro e w3 ⟨rfl, hb3⟩
  have HSx := HS.same hb3
  have HBAx := HBA1.call hb3
  have HBBx : B0 ≤ w3.heap.size := Nat.le_trans HBB.out hb3.size
  clear HS hb3 HBA1 HBB HRB
  have HS := HSx
  clear HSx
  go_upto_region 4 with fail
  have hF0 : Wl [fun W => St w noF [⟨g2, 28, tokCells clm0 (zer 32)⟩] W ∧ BAt W g o q ∧ B0 ≤ W.heap.size, fun W => St w noF [⟨g2, 28, tokCells clm0 (zer 32)⟩] W ∧ BAt W g o q ∧ B0 ≤ W.heap.size] 0 w3.drew := ⟨HS.drew, HBAx.call (Below.refl _ _).drew, HBBx⟩
  clear HS HBAx HBBx
  refine wp_region_phas [is (.slice (some ⟨g, o, none⟩) 46 cc), is (.pointer (some ⟨g, o, none⟩)), is (.int .u8 (bd x0)), is (.int .i64 (bd x0)), is (.string (strB nm)), is (.slice (some ⟨g, o, none⟩) 46 cc), is (.pointer (some ⟨g, o + 5, none⟩)), is (.int .u8 (bd x5)), is (.int .i64 (bd x5)), is (.slice (some ⟨g, o, none⟩) 46 cc), is (.slice (some ⟨g, o + 6, none⟩) 40 (cc - 6)), is (.int .u32 (wd u)), is (.slice (some ⟨g, o, none⟩) 46 cc), is (.slice (some ⟨g, o + 10, none⟩) 36 (cc - 10)), is (.int .u32 (wd v)), is (.agg (clmCells c)), is (.slice (some ⟨g, o, none⟩) 46 cc), is (.slice (some ⟨g, o + 14, none⟩) 32 (cc - 14)), is (.pointer (some ⟨g, o + 14, none⟩)), is (.agg (bs tg)), is (.agg (tokCells c tg)), (fun v W => ∃ k, v = Value.pointer (some ⟨k, 0, none⟩) ∧ Row W k 28 (tokCells clm0 (zer 32)) ∧ B0 ≤ k), (fun v W => ∃ k, v = Value.pointer (some ⟨k, 0, none⟩) ∧ Row W k 28 (tokCells c tg) ∧ B0 ≤ k)] [true, true, true, true, true, true, true, true, true, true, true, true, true, true, true, true, true, true, true, true, true, false, false] [(fun W => St w noF [⟨g2, 28, tokCells clm0 (zer 32)⟩] W ∧ BAt W g o q ∧ B0 ≤ W.heap.size), (fun W => St w noF [⟨g2, 28, tokCells clm0 (zer 32)⟩] W ∧ BAt W g o q ∧ B0 ≤ W.heap.size)] [false, false, false, false, false, false, false, false, false, false, false, false, false, false, false, false, false, false, false, false, false, false, true] [some 0, some 0, some 0, some 0, some 0, some 0, some 0, some 0, some 0, some 0, some 0, some 0, some 0, some 0, some 0, some 0, some 0, some 0, some 0, some 0, some 0, some 0, some 0] [none, none, none, none, none, none, none, none, none, none, none, none, none, none, none, none, none, none, none, none, none, none, some 21] [some 19, some 20, some 21, some 22, some 23, some 24, some 25, some 26, some 27, some 28, some 29, some 30, some 31, some 32, some 33, some 34, some 35, some 36, some 37, some 38, some 39, some 6, none] 23 1 (fun _ => true) rfl rfl (by kernel_rfl) (by kernel_rfl) (by kernel_rfl) (by kernel_rfl) (by kernel_rfl) ?_ ?_ ?_ ?_ ?_ ?_
  · repeat first | exact wok_nil | refine wok_cons (by first | exact fun _ _ h k => ⟨h.1.same k, h.2.1.call k, Nat.le_trans h.2.2 k.size⟩) ?_
  · repeat first | exact vok_nil | refine vok_rig (by first | exact fun _ _ _ h => h) ?_ | refine vok_soft (by first | exact fun _ _ _ h _ => h | exact fun _ _ _ h k => ⟨h.choose, h.choose_spec.1, h.choose_spec.2.1.call k, h.choose_spec.2.2⟩) ?_
  · exact hF0
  · repeat first | exact all_end (by decide) | refine all_cons (by first | exact rfl | exact ⟨rfl, fun _ _ h => Or.inl h⟩ | exact ⟨rfl, fun _ _ h => Or.inr ⟨h, rfl⟩⟩) ?_
  · refine alla_old rfl (step_mild 0 rfl rfl rfl (fun a x W hout hin hP => ?_)) ?_
    · have e0 : a.tmps[0]? = some (.slice (some ⟨g, o, none⟩) 46 cc) := (hout 0 (by kernel_rfl)).trans rfl
      exact does_move rfl e0 ⟨Same.refl _, rfl⟩
    refine alla_old rfl (step_mild 0 rfl rfl rfl (fun a x W hout hin hP => ?_)) ?_
    · have e19 := hin.is 0 19 (by kernel_rfl) (by decide) (by kernel_rfl) (by kernel_rfl) _ rfl
      clear hin hout
      intro K Q hK
      go_simp
      exact hK _ _ ⟨Same.refl _, rfl⟩
    refine alla_old rfl (step_mild 0 rfl rfl rfl (fun a x W hout hin hP => ?_)) ?_
    · have e20 := hin.is 1 20 (by kernel_rfl) (by decide) (by kernel_rfl) (by kernel_rfl) _ rfl
      have hc : W.cell? ⟨g, o, none⟩ = some (.int .u8 (bd x0)) := HX0.out ▸ hP.2.1.get 0 (by rw [HQL.out]; decide)
      clear hP
      clear hin hout
      intro K Q hK
      go_simp
      exact hK _ _ ⟨Same.refl _, rfl⟩
    refine alla_old rfl (step_mild 0 rfl rfl rfl (fun a x W hout hin hP => ?_)) ?_
    · have e21 := hin.is 2 21 (by kernel_rfl) (by decide) (by kernel_rfl) (by kernel_rfl) _ rfl
      have hw := i64_bd x0
      clear hin hout
      intro K Q hK
      go_simp
      exact hK _ _ ⟨Same.refl _, rfl⟩
    refine alla_old rfl (step_mild 0 rfl rfl rfl (fun a x W hout hin hP => ?_)) ?_
    · have e4 : a.tmps[4]? = some (.string (strB nm)) := (hout 4 (by kernel_rfl)).trans rfl
      exact does_move rfl e4 ⟨Same.refl _, rfl⟩
    refine alla_old rfl (step_mild 0 rfl rfl rfl (fun a x W hout hin hP => ?_)) ?_
    · have e0 : a.tmps[0]? = some (.slice (some ⟨g, o, none⟩) 46 cc) := (hout 0 (by kernel_rfl)).trans rfl
      exact does_move rfl e0 ⟨Same.refl _, rfl⟩
    refine alla_old rfl (step_mild 0 rfl rfl rfl (fun a x W hout hin hP => ?_)) ?_
    · have e24 := hin.is 5 24 (by kernel_rfl) (by decide) (by kernel_rfl) (by kernel_rfl) _ rfl
      clear hin hout
      intro K Q hK
      go_simp
      exact hK _ _ ⟨Same.refl _, rfl⟩
    refine alla_old rfl (step_mild 0 rfl rfl rfl (fun a x W hout hin hP => ?_)) ?_
    · have e25 := hin.is 6 25 (by kernel_rfl) (by decide) (by kernel_rfl) (by kernel_rfl) _ rfl
      have hc : W.cell? ⟨g, o + 5, none⟩ = some (.int .u8 (bd x5)) := HX5.out ▸ hP.2.1.get 5 (by rw [HQL.out]; decide)
      clear hP
      clear hin hout
      intro K Q hK
      go_simp
      exact hK _ _ ⟨Same.refl _, rfl⟩
    refine alla_old rfl (step_mild 0 rfl rfl rfl (fun a x W hout hin hP => ?_)) ?_
    · have e26 := hin.is 7 26 (by kernel_rfl) (by decide) (by kernel_rfl) (by kernel_rfl) _ rfl
      have hw := i64_bd x5
      clear hin hout
      intro K Q hK
      go_simp
      exact hK _ _ ⟨Same.refl _, rfl⟩
    refine alla_old rfl (step_mild 0 rfl rfl rfl (fun a x W hout hin hP => ?_)) ?_
    · have e0 : a.tmps[0]? = some (.slice (some ⟨g, o, none⟩) 46 cc) := (hout 0 (by kernel_rfl)).trans rfl
      exact does_move rfl e0 ⟨Same.refl _, rfl⟩
    refine alla_old rfl (step_mild 0 rfl rfl rfl (fun a x W hout hin hP => ?_)) ?_
    · have e28 := hin.is 9 28 (by kernel_rfl) (by decide) (by kernel_rfl) (by kernel_rfl) _ rfl
      clear hin hout
      intro K Q hK
      go_simp
      exact hK _ _ ⟨Same.refl _, rfl⟩
    refine alla_old rfl (step_mild 0 rfl rfl rfl (fun a x W hout hin hP => ?_)) ?_
    · have e29 := hin.is 10 29 (by kernel_rfl) (by decide) (by kernel_rfl) (by kernel_rfl) _ rfl
      have C := long_at g (o + 6) 40 (cc - 6) (q.drop 6) W (hP.2.1.drop 6) (by rw [List.length_drop, HQL.out]; decide) (by decide) (by have := HCC.out; omega)
      rw [HU.out] at C
      clear hP
      clear hin hout
      intro K Q hK
      go_simp
      refine C.mono ?_
      rintro e W' ⟨rfl, hb⟩
      exact hK _ _ ⟨hb, rfl⟩
    refine alla_old rfl (step_mild 0 rfl rfl rfl (fun a x W hout hin hP => ?_)) ?_
    · have e0 : a.tmps[0]? = some (.slice (some ⟨g, o, none⟩) 46 cc) := (hout 0 (by kernel_rfl)).trans rfl
      exact does_move rfl e0 ⟨Same.refl _, rfl⟩
    refine alla_old rfl (step_mild 0 rfl rfl rfl (fun a x W hout hin hP => ?_)) ?_
    · have e31 := hin.is 12 31 (by kernel_rfl) (by decide) (by kernel_rfl) (by kernel_rfl) _ rfl
      clear hin hout
      intro K Q hK
      go_simp
      exact hK _ _ ⟨Same.refl _, rfl⟩
    refine alla_old rfl (step_mild 0 rfl rfl rfl (fun a x W hout hin hP => ?_)) ?_
    · have e32 := hin.is 13 32 (by kernel_rfl) (by decide) (by kernel_rfl) (by kernel_rfl) _ rfl
      have C := long_at g (o + 10) 36 (cc - 10) (q.drop 10) W (hP.2.1.drop 10) (by rw [List.length_drop, HQL.out]; decide) (by decide) (by have := HCC.out; omega)
      rw [HV.out] at C
      clear hP
      clear hin hout
      intro K Q hK
      go_simp
      refine C.mono ?_
      rintro e W' ⟨rfl, hb⟩
      exact hK _ _ ⟨hb, rfl⟩
    refine alla_old rfl (step_mild 0 rfl rfl rfl (fun a x W hout hin hP => ?_)) ?_
    · have e22 := hin.is 3 22 (by kernel_rfl) (by decide) (by kernel_rfl) (by kernel_rfl) _ rfl
      have e23 := hin.is 4 23 (by kernel_rfl) (by decide) (by kernel_rfl) (by kernel_rfl) _ rfl
      have e27 := hin.is 8 27 (by kernel_rfl) (by decide) (by kernel_rfl) (by kernel_rfl) _ rfl
      have e30 := hin.is 11 30 (by kernel_rfl) (by decide) (by kernel_rfl) (by kernel_rfl) _ rfl
      have e33 := hin.is 14 33 (by kernel_rfl) (by decide) (by kernel_rfl) (by kernel_rfl) _ rfl
      clear hin hout
      intro K Q hK
      refine wp_buildStruct 24 _ rfl places_clm [.int .i64 (bd x0), .string (strB nm), .int .i64 (bd x5), .int .u32 (wd u), .int .u32 (wd v)] ?_ rfl rfl ?_
      · simp only [List.map_toArray, List.map_cons, List.map_nil, eval_of_get e22, eval_of_get e23, eval_of_get e27, eval_of_get e30, eval_of_get e33]; rfl
      · exact hK _ _ ⟨Same.refl _, by rw [HCQ.out]; rfl⟩
    refine alla_old rfl (step_mild 0 rfl rfl rfl (fun a x W hout hin hP => ?_)) ?_
    · have e0 : a.tmps[0]? = some (.slice (some ⟨g, o, none⟩) 46 cc) := (hout 0 (by kernel_rfl)).trans rfl
      exact does_move rfl e0 ⟨Same.refl _, rfl⟩
    refine alla_old rfl (step_mild 0 rfl rfl rfl (fun a x W hout hin hP => ?_)) ?_
    · have e35 := hin.is 16 35 (by kernel_rfl) (by decide) (by kernel_rfl) (by kernel_rfl) _ rfl
      clear hin hout
      intro K Q hK
      go_simp
      exact hK _ _ ⟨Same.refl _, rfl⟩
    refine alla_old rfl (step_mild 0 rfl rfl rfl (fun a x W hout hin hP => ?_)) ?_
    · have e36 := hin.is 17 36 (by kernel_rfl) (by decide) (by kernel_rfl) (by kernel_rfl) _ rfl
      have hat : ∀ w, (Instr.arrayAt 26 (.slice (some ⟨g, o + 14, none⟩) 32 (cc - 14))).run Tryd.prog w = .ok (.pointer (some ⟨g, o + 14, none⟩)) w := fun w => run_arrayAt w 26 _ 32 _ 32 (cc - 14) Tryd.underlying26 (by decide)
      clear hin hout
      intro K Q hK
      go_simp
      exact hK _ _ ⟨Same.refl _, rfl⟩
    refine alla_old rfl (step_mild 0 rfl rfl rfl (fun a x W hout hin hP => ?_)) ?_
    · have e37 := hin.is 18 37 (by kernel_rfl) (by decide) (by kernel_rfl) (by kernel_rfl) _ rfl
      clear hin hout
      intro K Q hK
      refine wp_load_mid 26 (.tmp 37) rfl g (o + 14) (eval_of_get e37) (bytesV tg) _ (HTG.out ▸ hP.2.1.range 14 32 (by rw [HQL.out]; decide)) Tryd.underlying26 rfl (by rw [len_bytesV, HTL.out]; exact size_dig) ?_
      exact hK _ _ ⟨Same.refl _, by rw [show (bytesV tg).toArray = bs tg from rfl]; rfl⟩
    refine alla_old rfl (step_mild 0 rfl rfl rfl (fun a x W hout hin hP => ?_)) ?_
    · have e34 := hin.is 15 34 (by kernel_rfl) (by decide) (by kernel_rfl) (by kernel_rfl) _ rfl
      have e38 := hin.is 19 38 (by kernel_rfl) (by decide) (by kernel_rfl) (by kernel_rfl) _ rfl
      clear hin hout
      intro K Q hK
      refine wp_buildStruct 28 _ rfl places_tok [.agg (clmCells c), .agg (bs tg)] ?_ (by simp [Value.cells, size_bs, HTL.out]; rfl) (by simp [Value.cells, size_bs, HTL.out]; rfl) ?_
      · simp only [List.map_toArray, List.map_cons, List.map_nil, eval_of_get e34, eval_of_get e38]; rfl
      · exact hK _ _ ⟨Same.refl _, by rw [flat_tok]; rfl⟩
    refine alla_old rfl (step_mild 0 rfl rfl rfl (fun a x W hout hin hP => ?_)) ?_
    · have hbse := hP.2.2
      clear hP hin hout
      intro K Q hK
      have hz : (Tryd.prog.info? 28).bind (·.zero) = some (.agg (tokCells clm0 (zer 32))) := zero_tok
      refine wp_new_row 28 (tokCells clm0 (zer 32)) rfl hz ?_
      exact hK _ _ ⟨Same.alloc _ _, _, rfl, Row.fresh _ _ _, hbse⟩
    refine alla_wild 0 rfl rfl rfl (fun a x W hout hin hP => ?_) ?_
    · obtain ⟨hw21, hx21⟩ := hin 21 (by kernel_rfl) (by decide)
      have hw21 := hw21 (.inr ⟨rfl, by kernel_rfl⟩)
      have hx21 := hx21 6 (by kernel_rfl)
      have e39 := hin.is 20 39 (by kernel_rfl) (by decide) (by kernel_rfl) (by kernel_rfl) _ rfl
      obtain ⟨g6, hg6, r6, hb6⟩ := hw21
      rw [hg6] at hx21
      clear hin hout
      intro K Q hK
      refine wp_store_row 28 (.tmp 6) (.tmp 39) rfl g6 (tokCells c tg) (eval_of_get hx21) (eval_of_get e39) 28 (tokCells clm0 (zer 32)) r6 (by exact HTZ.out) (by rw [HTS.out]; rfl) (one_tok _ _) ?_
      have hgr := grown_setRow W g6 (tokCells c tg)
      exact hK (x 21) _ ⟨⟨hP.1.far hgr (Nat.le_trans HB0.out hb6) (fun b hb => by have := HLT.out b hb; omega), hP.2.1.far hgr (by have := HGB.out; omega), Nat.le_trans hP.2.2 hgr.size⟩, ⟨g6, hg6, r6.setRow _, hb6⟩, al_one rfl rfl⟩
    exact all_end (by decide)
  · intro x W hP hV hal
    obtain ⟨g6, h8, r6, hb6⟩ := hV 22 (by decide) (.inr (by kernel_rfl))
    have h7 : x 21 = .pointer (some ⟨g6, 0, none⟩) := (hal 22 (by decide) 21 rfl).symm.trans h8
    have HS := hP.1
    have R6 := Lib.hid r6
    have HNE : Hid (g2 ≠ g6) := Lib.hid (by have := HLT.out ⟨g2, 28, tokCells clm0 (zer 32)⟩ (List.mem_singleton.2 rfl); have h : g2 < B0 := this; omega)
    clear hV hP hal h8 r6 hb6
    simp only [putL, Act.put, List.setIfInBounds_toArray, List.set_cons_succ, List.set_cons_zero, h7]
    simp only [Nat.zero_add, Nat.reduceAdd]
    refine wpAnyH_done (by kernel_rfl) ?_ _
    clear h7
    go_wp2_with (first | ((with_reducible refine wpList_plain ?_ ?_); exact rfl; intro KK hKK; refine wp_st_store HS 0 0 28 (.tmp 2) (.tmp 48) rfl rfl rfl (.agg #[.int .i64 0, .string ⟨#[]⟩, .int .i64 0, .int .u32 0, .int .u32 0, .int .u8 0, .int .u8 0, .int .u8 0, .int .u8 0, .int .u8 0, .int .u8 0, .int .u8 0, .int .u8 0, .int .u8 0, .int .u8 0, .int .u8 0, .int .u8 0, .int .u8 0, .int .u8 0, .int .u8 0, .int .u8 0, .int .u8 0, .int .u8 0, .int .u8 0, .int .u8 0, .int .u8 0, .int .u8 0, .int .u8 0, .int .u8 0, .int .u8 0, .int .u8 0, .int .u8 0, .int .u8 0, .int .u8 0, .int .u8 0, .int .u8 0, .int .u8 0]) rfl (by exact size_tok) (by rw [tok_size _ _ (length_zer 32)]; exact Nat.le_refl 37) (by exact zeros_one) (tokCells clm0 (zer 32)) (spl_agg _ _ _ zeros_tok (by rw [tok_size _ _ (length_zer 32)]; rfl)) (fun W41 HSx => hKK _ _ ?_); clear hKK KK HS; have HS : St w noF [⟨g2, 28, tokCells clm0 (zer 32)⟩] W41 := HSx; clear HSx))
    exact bodyPost_ret (v := .tuple #[.agg (tokCells clm0 (zer 32)), .int .i64 11]) (results_cell_tmp Tryd.results12 _ _ g2 28 (tokCells clm0 (zer 32)) (0, 0) _ rfl (HS.row 0 rfl) Tryd.underlying28 rfl (by first | exact size_tok | exact HTZ.out)) rfl ⟨rfl, HS.below⟩
set_option maxRecDepth 20000 in
set_option maxHeartbeats 1600000 in
theorem tokdec_not (g o cc : Nat) (q : List (BitVec 8)) (w : World) (hB : BAt w g o q) (hl : q.length = 46) (hc : 46 ≤ cc) (hok : (cutN ((q.drop 1).take 4)).2 = true) (hm : mayC (clmQ q) = false) :
    Calls Tryd.prog 12 #[.slice (some ⟨g, o, none⟩) 46 cc] w fun e w' => e = .returned (.tuple #[.agg (tokCells clm0 (zer 32)), .int .i64 11]) ∧ Below w.heap.size w w' := by
  have HBA := Lib.hid hB
  have HQL := Lib.hid hl
  have HCC := Lib.hid hc
  have k1 : ¬ cc = 1 := by omega
  have k6 : ¬ cc = 6 := by omega
  have k10 : ¬ cc = 10 := by omega
  have k14 : ¬ cc = 14 := by omega
  have l1 : 1 ≤ cc := by omega
  have l6 : 6 ≤ cc := by omega
  have l10 : 10 ≤ cc := by omega
  have l14 : 14 ≤ cc := by omega
  have l46 : 46 ≤ cc := by omega
  have i1 : (1 : Int) ≤ (cc : Int) := by omega
  have hat : ∀ w, (Instr.arrayAt 49 (.slice (some ⟨g, o + 1, none⟩) 45 (cc - 1))).run Tryd.prog w = .ok (.pointer (some ⟨g, o + 1, none⟩)) w := fun w => run_arrayAt w 49 _ 4 _ 45 (cc - 1) Tryd.underlying49 (by decide)
  have i46 : (46 : Int) ≤ (cc : Int) := by omega
  obtain ⟨b4, hb4⟩ : ∃ b4, (q.drop 1).take 4 = b4 := ⟨_, rfl⟩
  have HB4 : Hid (b4.length = 4) := Lib.hid (by rw [← hb4, List.length_take, List.length_drop, hl]; rfl)
  have HB4Q := Lib.hid hb4
  obtain ⟨tg, htg⟩ : ∃ tg, (q.drop 14).take 32 = tg := ⟨_, rfl⟩
  have HTL : Hid (tg.length = 32) := Lib.hid (by rw [← htg, List.length_take, List.length_drop, hl]; rfl)
  have HTG := Lib.hid htg
  have HTE : Hid (q.drop 14 = tg) := Lib.hid (by rw [← htg, List.take_of_length_le (by rw [List.length_drop, hl]; decide)])
  obtain ⟨x0, hx0⟩ : ∃ x, q.getD 0 0#8 = x := ⟨_, rfl⟩
  obtain ⟨x5, hx5⟩ : ∃ x, q.getD 5 0#8 = x := ⟨_, rfl⟩
  obtain ⟨u, hu⟩ : ∃ u, lv 0 (q.drop 6) = u := ⟨_, rfl⟩
  obtain ⟨v, hv⟩ : ∃ v, lv 0 (q.drop 10) = v := ⟨_, rfl⟩
  have HX0 := Lib.hid hx0
  have HX5 := Lib.hid hx5
  have HU := Lib.hid hu
  have HV := Lib.hid hv
  obtain ⟨nm, hnm⟩ : ∃ nm, (cutN b4).1 = nm := ⟨_, rfl⟩
  obtain ⟨c, hcq⟩ : ∃ c, clmQ q = c := ⟨_, rfl⟩
  have HCQ : Hid (c = ⟨bd x0, nm, bd x5, u, v⟩) := Lib.hid (by rw [← hcq, ← hx0, ← hx5, ← hu, ← hv, ← hnm, ← hb4]; rfl)
  have HTS := Lib.hid (tok_size c tg HTL.out)
  have HTZ : Hid ((Tryd.prog.info? 28).map (·.size) = some (tokCells c tg).size) := Lib.hid (by rw [HTS.out]; exact size_tok)
  have HCUT := Lib.hid (fun W => cut_any b4 W HB4.out)
  rw [hb4] at hok
  rw [show cutN b4 = (nm, true) from Prod.ext hnm hok] at HCUT
  rw [hcq] at hm
  have hnl : c.n.length ≤ maxLen := by
    rw [HCQ.out]
    show nm.length ≤ maxLen
    rw [← hnm]
    have := cut_len HB4.out
    unfold maxLen; omega
  have HMC := Lib.hid (fun W => maybe_any c W hnl)
  rw [hm] at HMC
  clear hm hnl
  clear hB hl hc hb4 htg hx0 hx5 hu hv hnm hcq hok
  have HS := St.nil w noF
  go_enter Tryd.func12, Tryd.ntmps12
  go_upto_region 1 with (first | ((with_reducible refine wpList_plain ?_ ?_); exact rfl; intro KK hKK; refine wp_st_alloc HS 28 (tokCells clm0 (zer 32)) rfl (.agg (tokCells clm0 (zer 32))) (by exact zero_tok) (rfl) (fun g2 W1 HSx => hKK _ _ ?_); clear hKK KK HS; have HS : St w noF [⟨g2, 28, tokCells clm0 (zer 32)⟩] W1 := HSx; clear HSx))
  have HS := HS
  obtain ⟨B0, hB0⟩ : ∃ B0, W1.heap.size = B0 := ⟨_, rfl⟩
  have HBA1 : BAt W1 g o q := HBA.out.call HS.below
  have HRB : Hid (W1.rangeAt g (o + 1) (bytesV b4)) := Lib.hid (HB4Q.out ▸ HBA1.range 1 4 (by rw [HQL.out]; decide))
  have HB0 : Hid (w.heap.size ≤ B0) := Lib.hid (by rw [← hB0]; exact HS.below.size)
  have HLT : Hid (∀ b ∈ ([⟨g2, 28, tokCells clm0 (zer 32)⟩] : List Blk), b.g < B0) := Lib.hid (by rw [← hB0]; exact fun b hb => HS.lt hb)
  have HGB : Hid (g < B0) := Lib.hid (by rw [← hB0]; exact HBA1.lt)
  have HBB : Hid (B0 ≤ W1.heap.size) := Lib.hid (Nat.le_of_eq hB0.symm)
  clear hB0
  go_wp2_with (first | ((with_reducible refine wpList_plain ?_ ?_); exact rfl; intro KK hKK; refine wp_load_mid 49 (.tmp 14) rfl g (o + 1) rfl (bytesV b4) _ HRB.out Tryd.underlying49 rfl (by rw [len_bytesV, HB4.out]; exact size_b4) (hKK _ _ ?_); clear hKK KK))
  refine (HCUT.out _).mono ?_
  rintro e w3 ⟨rfl, hb3⟩
  have HSx := HS.same hb3
  have HBAx := HBA1.call hb3
  have HBBx : B0 ≤ w3.heap.size := Nat.le_trans HBB.out hb3.size
  clear HS hb3 HBA1 HBB HRB
  have HS := HSx
  clear HSx
  go_upto_region 4 with fail
  have hF0 : Wl [fun W => St w noF [⟨g2, 28, tokCells clm0 (zer 32)⟩] W ∧ BAt W g o q ∧ B0 ≤ W.heap.size, fun W => St w noF [⟨g2, 28, tokCells clm0 (zer 32)⟩] W ∧ BAt W g o q ∧ B0 ≤ W.heap.size] 0 w3.drew := ⟨HS.drew, HBAx.call (Below.refl _ _).drew, HBBx⟩
  clear HS HBAx HBBx
  refine wp_region_phas [is (.slice (some ⟨g, o, none⟩) 46 cc), is (.pointer (some ⟨g, o, none⟩)), is (.int .u8 (bd x0)), is (.int .i64 (bd x0)), is (.string (strB nm)), is (.slice (some ⟨g, o, none⟩) 46 cc), is (.pointer (some ⟨g, o + 5, none⟩)), is (.int .u8 (bd x5)), is (.int .i64 (bd x5)), is (.slice (some ⟨g, o, none⟩) 46 cc), is (.slice (some ⟨g, o + 6, none⟩) 40 (cc - 6)), is (.int .u32 (wd u)), is (.slice (some ⟨g, o, none⟩) 46 cc), is (.slice (some ⟨g, o + 10, none⟩) 36 (cc - 10)), is (.int .u32 (wd v)), is (.agg (clmCells c)), is (.slice (some ⟨g, o, none⟩) 46 cc), is (.slice (some ⟨g, o + 14, none⟩) 32 (cc - 14)), is (.pointer (some ⟨g, o + 14, none⟩)), is (.agg (bs tg)), is (.agg (tokCells c tg)), (fun v W => ∃ k, v = Value.pointer (some ⟨k, 0, none⟩) ∧ Row W k 28 (tokCells clm0 (zer 32)) ∧ B0 ≤ k), (fun v W => ∃ k, v = Value.pointer (some ⟨k, 0, none⟩) ∧ Row W k 28 (tokCells c tg) ∧ B0 ≤ k)] [true, true, true, true, true, true, true, true, true, true, true, true, true, true, true, true, true, true, true, true, true, false, false] [(fun W => St w noF [⟨g2, 28, tokCells clm0 (zer 32)⟩] W ∧ BAt W g o q ∧ B0 ≤ W.heap.size), (fun W => St w noF [⟨g2, 28, tokCells clm0 (zer 32)⟩] W ∧ BAt W g o q ∧ B0 ≤ W.heap.size)] [false, false, false, false, false, false, false, false, false, false, false, false, false, false, false, false, false, false, false, false, false, false, true] [some 0, some 0, some 0, some 0, some 0, some 0, some 0, some 0, some 0, some 0, some 0, some 0, some 0, some 0, some 0, some 0, some 0, some 0, some 0, some 0, some 0, some 0, some 0] [none, none, none, none, none, none, none, none, none, none, none, none, none, none, none, none, none, none, none, none, none, none, some 21] [some 19, some 20, some 21, some 22, some 23, some 24, some 25, some 26, some 27, some 28, some 29, some 30, some 31, some 32, some 33, some 34, some 35, some 36, some 37, some 38, some 39, some 6, none] 23 1 (fun _ => true) rfl rfl (by kernel_rfl) (by kernel_rfl) (by kernel_rfl) (by kernel_rfl) (by kernel_rfl) ?_ ?_ ?_ ?_ ?_ ?_
  · repeat first | exact wok_nil | refine wok_cons (by first | exact fun _ _ h k => ⟨h.1.same k, h.2.1.call k, Nat.le_trans h.2.2 k.size⟩) ?_
  · repeat first | exact vok_nil | refine vok_rig (by first | exact fun _ _ _ h => h) ?_ | refine vok_soft (by first | exact fun _ _ _ h _ => h | exact fun _ _ _ h k => ⟨h.choose, h.choose_spec.1, h.choose_spec.2.1.call k, h.choose_spec.2.2⟩) ?_
  · exact hF0
  · repeat first | exact all_end (by decide) | refine all_cons (by first | exact rfl | exact ⟨rfl, fun _ _ h => Or.inl h⟩ | exact ⟨rfl, fun _ _ h => Or.inr ⟨h, rfl⟩⟩) ?_
  · refine alla_old rfl (step_mild 0 rfl rfl rfl (fun a x W hout hin hP => ?_)) ?_
    · have e0 : a.tmps[0]? = some (.slice (some ⟨g, o, none⟩) 46 cc) := (hout 0 (by kernel_rfl)).trans rfl
      exact does_move rfl e0 ⟨Same.refl _, rfl⟩
    refine alla_old rfl (step_mild 0 rfl rfl rfl (fun a x W hout hin hP => ?_)) ?_
    · have e19 := hin.is 0 19 (by kernel_rfl) (by decide) (by kernel_rfl) (by kernel_rfl) _ rfl
      clear hin hout
      intro K Q hK
      go_simp
      exact hK _ _ ⟨Same.refl _, rfl⟩
    refine alla_old rfl (step_mild 0 rfl rfl rfl (fun a x W hout hin hP => ?_)) ?_
    · have e20 := hin.is 1 20 (by kernel_rfl) (by decide) (by kernel_rfl) (by kernel_rfl) _ rfl
      have hc : W.cell? ⟨g, o, none⟩ = some (.int .u8 (bd x0)) := HX0.out ▸ hP.2.1.get 0 (by rw [HQL.out]; decide)
      clear hP
      clear hin hout
      intro K Q hK
      go_simp
      exact hK _ _ ⟨Same.refl _, rfl⟩
    refine alla_old rfl (step_mild 0 rfl rfl rfl (fun a x W hout hin hP => ?_)) ?_
    · have e21 := hin.is 2 21 (by kernel_rfl) (by decide) (by kernel_rfl) (by kernel_rfl) _ rfl
      have hw := i64_bd x0
      clear hin hout
      intro K Q hK
      go_simp
      exact hK _ _ ⟨Same.refl _, rfl⟩
    refine alla_old rfl (step_mild 0 rfl rfl rfl (fun a x W hout hin hP => ?_)) ?_
    · have e4 : a.tmps[4]? = some (.string (strB nm)) := (hout 4 (by kernel_rfl)).trans rfl
      exact does_move rfl e4 ⟨Same.refl _, rfl⟩
    refine alla_old rfl (step_mild 0 rfl rfl rfl (fun a x W hout hin hP => ?_)) ?_
    · have e0 : a.tmps[0]? = some (.slice (some ⟨g, o, none⟩) 46 cc) := (hout 0 (by kernel_rfl)).trans rfl
      exact does_move rfl e0 ⟨Same.refl _, rfl⟩
    refine alla_old rfl (step_mild 0 rfl rfl rfl (fun a x W hout hin hP => ?_)) ?_
    · have e24 := hin.is 5 24 (by kernel_rfl) (by decide) (by kernel_rfl) (by kernel_rfl) _ rfl
      clear hin hout
      intro K Q hK
      go_simp
      exact hK _ _ ⟨Same.refl _, rfl⟩
    refine alla_old rfl (step_mild 0 rfl rfl rfl (fun a x W hout hin hP => ?_)) ?_
    · have e25 := hin.is 6 25 (by kernel_rfl) (by decide) (by kernel_rfl) (by kernel_rfl) _ rfl
      have hc : W.cell? ⟨g, o + 5, none⟩ = some (.int .u8 (bd x5)) := HX5.out ▸ hP.2.1.get 5 (by rw [HQL.out]; decide)
      clear hP
      clear hin hout
      intro K Q hK
      go_simp
      exact hK _ _ ⟨Same.refl _, rfl⟩
    refine alla_old rfl (step_mild 0 rfl rfl rfl (fun a x W hout hin hP => ?_)) ?_
    · have e26 := hin.is 7 26 (by kernel_rfl) (by decide) (by kernel_rfl) (by kernel_rfl) _ rfl
      have hw := i64_bd x5
      clear hin hout
      intro K Q hK
      go_simp
      exact hK _ _ ⟨Same.refl _, rfl⟩
    refine alla_old rfl (step_mild 0 rfl rfl rfl (fun a x W hout hin hP => ?_)) ?_
    · have e0 : a.tmps[0]? = some (.slice (some ⟨g, o, none⟩) 46 cc) := (hout 0 (by kernel_rfl)).trans rfl
      exact does_move rfl e0 ⟨Same.refl _, rfl⟩
    refine alla_old rfl (step_mild 0 rfl rfl rfl (fun a x W hout hin hP => ?_)) ?_
    · have e28 := hin.is 9 28 (by kernel_rfl) (by decide) (by kernel_rfl) (by kernel_rfl) _ rfl
      clear hin hout
      intro K Q hK
      go_simp
      exact hK _ _ ⟨Same.refl _, rfl⟩
    refine alla_old rfl (step_mild 0 rfl rfl rfl (fun a x W hout hin hP => ?_)) ?_
    · have e29 := hin.is 10 29 (by kernel_rfl) (by decide) (by kernel_rfl) (by kernel_rfl) _ rfl
      have C := long_at g (o + 6) 40 (cc - 6) (q.drop 6) W (hP.2.1.drop 6) (by rw [List.length_drop, HQL.out]; decide) (by decide) (by have := HCC.out; omega)
      rw [HU.out] at C
      clear hP
      clear hin hout
      intro K Q hK
      go_simp
      refine C.mono ?_
      rintro e W' ⟨rfl, hb⟩
      exact hK _ _ ⟨hb, rfl⟩
    refine alla_old rfl (step_mild 0 rfl rfl rfl (fun a x W hout hin hP => ?_)) ?_
    · have e0 : a.tmps[0]? = some (.slice (some ⟨g, o, none⟩) 46 cc) := (hout 0 (by kernel_rfl)).trans rfl
      exact does_move rfl e0 ⟨Same.refl _, rfl⟩
    refine alla_old rfl (step_mild 0 rfl rfl rfl (fun a x W hout hin hP => ?_)) ?_
    · have e31 := hin.is 12 31 (by kernel_rfl) (by decide) (by kernel_rfl) (by kernel_rfl) _ rfl
      clear hin hout
      intro K Q hK
      go_simp
      exact hK _ _ ⟨Same.refl _, rfl⟩
    refine alla_old rfl (step_mild 0 rfl rfl rfl (fun a x W hout hin hP => ?_)) ?_
    · have e32 := hin.is 13 32 (by kernel_rfl) (by decide) (by kernel_rfl) (by kernel_rfl) _ rfl
      have C := long_at g (o + 10) 36 (cc - 10) (q.drop 10) W (hP.2.1.drop 10) (by rw [List.length_drop, HQL.out]; decide) (by decide) (by have := HCC.out; omega)
      rw [HV.out] at C
      clear hP
      clear hin hout
      intro K Q hK
      go_simp
      refine C.mono ?_
      rintro e W' ⟨rfl, hb⟩
      exact hK _ _ ⟨hb, rfl⟩
    refine alla_old rfl (step_mild 0 rfl rfl rfl (fun a x W hout hin hP => ?_)) ?_
    · have e22 := hin.is 3 22 (by kernel_rfl) (by decide) (by kernel_rfl) (by kernel_rfl) _ rfl
      have e23 := hin.is 4 23 (by kernel_rfl) (by decide) (by kernel_rfl) (by kernel_rfl) _ rfl
      have e27 := hin.is 8 27 (by kernel_rfl) (by decide) (by kernel_rfl) (by kernel_rfl) _ rfl
      have e30 := hin.is 11 30 (by kernel_rfl) (by decide) (by kernel_rfl) (by kernel_rfl) _ rfl
      have e33 := hin.is 14 33 (by kernel_rfl) (by decide) (by kernel_rfl) (by kernel_rfl) _ rfl
      clear hin hout
      intro K Q hK
      refine wp_buildStruct 24 _ rfl places_clm [.int .i64 (bd x0), .string (strB nm), .int .i64 (bd x5), .int .u32 (wd u), .int .u32 (wd v)] ?_ rfl rfl ?_
      · simp only [List.map_toArray, List.map_cons, List.map_nil, eval_of_get e22, eval_of_get e23, eval_of_get e27, eval_of_get e30, eval_of_get e33]; rfl
      · exact hK _ _ ⟨Same.refl _, by rw [HCQ.out]; rfl⟩
    refine alla_old rfl (step_mild 0 rfl rfl rfl (fun a x W hout hin hP => ?_)) ?_
    · have e0 : a.tmps[0]? = some (.slice (some ⟨g, o, none⟩) 46 cc) := (hout 0 (by kernel_rfl)).trans rfl
      exact does_move rfl e0 ⟨Same.refl _, rfl⟩
    refine alla_old rfl (step_mild 0 rfl rfl rfl (fun a x W hout hin hP => ?_)) ?_
    · have e35 := hin.is 16 35 (by kernel_rfl) (by decide) (by kernel_rfl) (by kernel_rfl) _ rfl
      clear hin hout
      intro K Q hK
      go_simp
      exact hK _ _ ⟨Same.refl _, rfl⟩
    refine alla_old rfl (step_mild 0 rfl rfl rfl (fun a x W hout hin hP => ?_)) ?_
    · have e36 := hin.is 17 36 (by kernel_rfl) (by decide) (by kernel_rfl) (by kernel_rfl) _ rfl
      have hat : ∀ w, (Instr.arrayAt 26 (.slice (some ⟨g, o + 14, none⟩) 32 (cc - 14))).run Tryd.prog w = .ok (.pointer (some ⟨g, o + 14, none⟩)) w := fun w => run_arrayAt w 26 _ 32 _ 32 (cc - 14) Tryd.underlying26 (by decide)
      clear hin hout
      intro K Q hK
      go_simp
      exact hK _ _ ⟨Same.refl _, rfl⟩
    refine alla_old rfl (step_mild 0 rfl rfl rfl (fun a x W hout hin hP => ?_)) ?_
    · have e37 := hin.is 18 37 (by kernel_rfl) (by decide) (by kernel_rfl) (by kernel_rfl) _ rfl
      clear hin hout
      intro K Q hK
      refine wp_load_mid 26 (.tmp 37) rfl g (o + 14) (eval_of_get e37) (bytesV tg) _ (HTG.out ▸ hP.2.1.range 14 32 (by rw [HQL.out]; decide)) Tryd.underlying26 rfl (by rw [len_bytesV, HTL.out]; exact size_dig) ?_
      exact hK _ _ ⟨Same.refl _, by rw [show (bytesV tg).toArray = bs tg from rfl]; rfl⟩
    refine alla_old rfl (step_mild 0 rfl rfl rfl (fun a x W hout hin hP => ?_)) ?_
    · have e34 := hin.is 15 34 (by kernel_rfl) (by decide) (by kernel_rfl) (by kernel_rfl) _ rfl
      have e38 := hin.is 19 38 (by kernel_rfl) (by decide) (by kernel_rfl) (by kernel_rfl) _ rfl
      clear hin hout
      intro K Q hK
      refine wp_buildStruct 28 _ rfl places_tok [.agg (clmCells c), .agg (bs tg)] ?_ (by simp [Value.cells, size_bs, HTL.out]; rfl) (by simp [Value.cells, size_bs, HTL.out]; rfl) ?_
      · simp only [List.map_toArray, List.map_cons, List.map_nil, eval_of_get e34, eval_of_get e38]; rfl
      · exact hK _ _ ⟨Same.refl _, by rw [flat_tok]; rfl⟩
    refine alla_old rfl (step_mild 0 rfl rfl rfl (fun a x W hout hin hP => ?_)) ?_
    · have hbse := hP.2.2
      clear hP hin hout
      intro K Q hK
      have hz : (Tryd.prog.info? 28).bind (·.zero) = some (.agg (tokCells clm0 (zer 32))) := zero_tok
      refine wp_new_row 28 (tokCells clm0 (zer 32)) rfl hz ?_
      exact hK _ _ ⟨Same.alloc _ _, _, rfl, Row.fresh _ _ _, hbse⟩
    refine alla_wild 0 rfl rfl rfl (fun a x W hout hin hP => ?_) ?_
    · obtain ⟨hw21, hx21⟩ := hin 21 (by kernel_rfl) (by decide)
      have hw21 := hw21 (.inr ⟨rfl, by kernel_rfl⟩)
      have hx21 := hx21 6 (by kernel_rfl)
      have e39 := hin.is 20 39 (by kernel_rfl) (by decide) (by kernel_rfl) (by kernel_rfl) _ rfl
      obtain ⟨g6, hg6, r6, hb6⟩ := hw21
      rw [hg6] at hx21
      clear hin hout
      intro K Q hK
      refine wp_store_row 28 (.tmp 6) (.tmp 39) rfl g6 (tokCells c tg) (eval_of_get hx21) (eval_of_get e39) 28 (tokCells clm0 (zer 32)) r6 (by exact HTZ.out) (by rw [HTS.out]; rfl) (one_tok _ _) ?_
      have hgr := grown_setRow W g6 (tokCells c tg)
      exact hK (x 21) _ ⟨⟨hP.1.far hgr (Nat.le_trans HB0.out hb6) (fun b hb => by have := HLT.out b hb; omega), hP.2.1.far hgr (by have := HGB.out; omega), Nat.le_trans hP.2.2 hgr.size⟩, ⟨g6, hg6, r6.setRow _, hb6⟩, al_one rfl rfl⟩
    exact all_end (by decide)
  · intro x W hP hV hal
    obtain ⟨g6, h8, r6, hb6⟩ := hV 22 (by decide) (.inr (by kernel_rfl))
    have h7 : x 21 = .pointer (some ⟨g6, 0, none⟩) := (hal 22 (by decide) 21 rfl).symm.trans h8
    have HS := hP.1
    have R6 := Lib.hid r6
    have HNE : Hid (g2 ≠ g6) := Lib.hid (by have := HLT.out ⟨g2, 28, tokCells clm0 (zer 32)⟩ (List.mem_singleton.2 rfl); have h : g2 < B0 := this; omega)
    clear hV hP hal h8 r6 hb6
    simp only [putL, Act.put, List.setIfInBounds_toArray, List.set_cons_succ, List.set_cons_zero, h7]
    simp only [Nat.zero_add, Nat.reduceAdd]
    refine wpAnyH_done (by kernel_rfl) ?_ _
    clear h7
    have HRG : Hid (W.rangeAt g6 0 (clmCells c).toList) := Lib.hid (R6.out.slab 0 _ (tok_clm c tg))
    go_wp2_with (first | (refine wpList_guarded (by rfl) (fun KK hKK => ?_); refine wp_load_mid 24 (.tmp 43) rfl g6 0 rfl (clmCells c).toList _ HRG.out Tryd.underlying24 rfl (by exact size_clm) (hKK _ _ ?_); clear hKK KK))
    refine (HMC.out W).mono ?_
    rintro e w5 ⟨rfl, hb5⟩
    have HSx := HS.same hb5
    have R6x := Lib.hid (R6.out.call hb5)
    clear HS hb5 R6 HRG
    have HS := HSx
    have R6 := R6x
    clear HSx R6x
    go_wp2_with (first | ((with_reducible refine wpList_plain ?_ ?_); exact rfl; intro KK hKK; refine wp_st_store HS 0 0 28 (.tmp 2) (.tmp 48) rfl rfl rfl (.agg #[.int .i64 0, .string ⟨#[]⟩, .int .i64 0, .int .u32 0, .int .u32 0, .int .u8 0, .int .u8 0, .int .u8 0, .int .u8 0, .int .u8 0, .int .u8 0, .int .u8 0, .int .u8 0, .int .u8 0, .int .u8 0, .int .u8 0, .int .u8 0, .int .u8 0, .int .u8 0, .int .u8 0, .int .u8 0, .int .u8 0, .int .u8 0, .int .u8 0, .int .u8 0, .int .u8 0, .int .u8 0, .int .u8 0, .int .u8 0, .int .u8 0, .int .u8 0, .int .u8 0, .int .u8 0, .int .u8 0, .int .u8 0, .int .u8 0, .int .u8 0]) rfl (by exact size_tok) (by rw [tok_size _ _ (length_zer 32)]; exact Nat.le_refl 37) (by exact zeros_one) (tokCells clm0 (zer 32)) (spl_agg _ _ _ zeros_tok (by rw [tok_size _ _ (length_zer 32)]; rfl)) (fun W41 HSx => hKK _ _ ?_); clear hKK KK HS; have HS : St w noF [⟨g2, 28, tokCells clm0 (zer 32)⟩] W41 := HSx; clear HSx))
    exact bodyPost_ret (v := .tuple #[.agg (tokCells clm0 (zer 32)), .int .i64 11]) (results_cell_tmp Tryd.results12 _ _ g2 28 (tokCells clm0 (zer 32)) (0, 0) _ rfl (HS.row 0 rfl) Tryd.underlying28 rfl (by first | exact size_tok | exact HTZ.out)) rfl ⟨rfl, HS.below⟩
set_option maxRecDepth 20000 in
set_option maxHeartbeats 1600000 in
theorem tokdec_good (g o cc : Nat) (q : List (BitVec 8)) (w : World) (hB : BAt w g o q) (hl : q.length = 46) (hc : 46 ≤ cc) (hok : (cutN ((q.drop 1).take 4)).2 = true) (hm : mayC (clmQ q) = true) :
    Calls Tryd.prog 12 #[.slice (some ⟨g, o, none⟩) 46 cc] w fun e w' => e = .returned (.tuple #[.agg (tokCells (clmQ q) (q.drop 14)), .int .i64 0]) ∧ Below w.heap.size w w' := by
  have HBA := Lib.hid hB
  have HQL := Lib.hid hl
  have HCC := Lib.hid hc
  have k1 : ¬ cc = 1 := by omega
  have k6 : ¬ cc = 6 := by omega
  have k10 : ¬ cc = 10 := by omega
  have k14 : ¬ cc = 14 := by omega
  have l1 : 1 ≤ cc := by omega
  have l6 : 6 ≤ cc := by omega
  have l10 : 10 ≤ cc := by omega
  have l14 : 14 ≤ cc := by omega
  have l46 : 46 ≤ cc := by omega
  have i1 : (1 : Int) ≤ (cc : Int) := by omega
  have hat : ∀ w, (Instr.arrayAt 49 (.slice (some ⟨g, o + 1, none⟩) 45 (cc - 1))).run Tryd.prog w = .ok (.pointer (some ⟨g, o + 1, none⟩)) w := fun w => run_arrayAt w 49 _ 4 _ 45 (cc - 1) Tryd.underlying49 (by decide)
  have i46 : (46 : Int) ≤ (cc : Int) := by omega
  obtain ⟨b4, hb4⟩ : ∃ b4, (q.drop 1).take 4 = b4 := ⟨_, rfl⟩
  have HB4 : Hid (b4.length = 4) := Lib.hid (by rw [← hb4, List.length_take, List.length_drop, hl]; rfl)
  have HB4Q := Lib.hid hb4
  obtain ⟨tg, htg⟩ : ∃ tg, (q.drop 14).take 32 = tg := ⟨_, rfl⟩
  have HTL : Hid (tg.length = 32) := Lib.hid (by rw [← htg, List.length_take, List.length_drop, hl]; rfl)
  have HTG := Lib.hid htg
  have HTE : Hid (q.drop 14 = tg) := Lib.hid (by rw [← htg, List.take_of_length_le (by rw [List.length_drop, hl]; decide)])
  obtain ⟨x0, hx0⟩ : ∃ x, q.getD 0 0#8 = x := ⟨_, rfl⟩
  obtain ⟨x5, hx5⟩ : ∃ x, q.getD 5 0#8 = x := ⟨_, rfl⟩
  obtain ⟨u, hu⟩ : ∃ u, lv 0 (q.drop 6) = u := ⟨_, rfl⟩
  obtain ⟨v, hv⟩ : ∃ v, lv 0 (q.drop 10) = v := ⟨_, rfl⟩
  have HX0 := Lib.hid hx0
  have HX5 := Lib.hid hx5
  have HU := Lib.hid hu
  have HV := Lib.hid hv
  obtain ⟨nm, hnm⟩ : ∃ nm, (cutN b4).1 = nm := ⟨_, rfl⟩
  obtain ⟨c, hcq⟩ : ∃ c, clmQ q = c := ⟨_, rfl⟩
  have HCQ : Hid (c = ⟨bd x0, nm, bd x5, u, v⟩) := Lib.hid (by rw [← hcq, ← hx0, ← hx5, ← hu, ← hv, ← hnm, ← hb4]; rfl)
  have HTS := Lib.hid (tok_size c tg HTL.out)
  have HTZ : Hid ((Tryd.prog.info? 28).map (·.size) = some (tokCells c tg).size) := Lib.hid (by rw [HTS.out]; exact size_tok)
  have HCUT := Lib.hid (fun W => cut_any b4 W HB4.out)
  rw [hb4] at hok
  rw [show cutN b4 = (nm, true) from Prod.ext hnm hok] at HCUT
  rw [hcq, HTE.out]
  rw [hcq] at hm
  have hnl : c.n.length ≤ maxLen := by
    rw [HCQ.out]
    show nm.length ≤ maxLen
    rw [← hnm]
    have := cut_len HB4.out
    unfold maxLen; omega
  have HMC := Lib.hid (fun W => maybe_any c W hnl)
  rw [hm] at HMC
  clear hm hnl
  clear hB hl hc hb4 htg hx0 hx5 hu hv hnm hcq hok
  have HS := St.nil w noF
  go_enter Tryd.func12, Tryd.ntmps12
  go_upto_region 1 with (first | ((with_reducible refine wpList_plain ?_ ?_); exact rfl; intro KK hKK; refine wp_st_alloc HS 28 (tokCells clm0 (zer 32)) rfl (.agg (tokCells clm0 (zer 32))) (by exact zero_tok) (rfl) (fun g2 W1 HSx => hKK _ _ ?_); clear hKK KK HS; have HS : St w noF [⟨g2, 28, tokCells clm0 (zer 32)⟩] W1 := HSx; clear HSx))
  have HS := HS
  obtain ⟨B0, hB0⟩ : ∃ B0, W1.heap.size = B0 := ⟨_, rfl⟩
  have HBA1 : BAt W1 g o q := HBA.out.call HS.below
  have HRB : Hid (W1.rangeAt g (o + 1) (bytesV b4)) := Lib.hid (HB4Q.out ▸ HBA1.range 1 4 (by rw [HQL.out]; decide))
  have HB0 : Hid (w.heap.size ≤ B0) := Lib.hid (by rw [← hB0]; exact HS.below.size)
  have HLT : Hid (∀ b ∈ ([⟨g2, 28, tokCells clm0 (zer 32)⟩] : List Blk), b.g < B0) := Lib.hid (by rw [← hB0]; exact fun b hb => HS.lt hb)
  have HGB : Hid (g < B0) := Lib.hid (by rw [← hB0]; exact HBA1.lt)
  have HBB : Hid (B0 ≤ W1.heap.size) := Lib.hid (Nat.le_of_eq hB0.symm)
  clear hB0
  go_wp2_with (first | ((with_reducible refine wpList_plain ?_ ?_); exact rfl; intro KK hKK; refine wp_load_mid 49 (.tmp 14) rfl g (o + 1) rfl (bytesV b4) _ HRB.out Tryd.underlying49 rfl (by rw [len_bytesV, HB4.out]; exact size_b4) (hKK _ _ ?_); clear hKK KK))
  refine (HCUT.out _).mono ?_
  rintro e w3 ⟨rfl, hb3⟩
  have HSx := HS.same hb3
  have HBAx := HBA1.call hb3
  have HBBx : B0 ≤ w3.heap.size := Nat.le_trans HBB.out hb3.size
  clear HS hb3 HBA1 HBB HRB
  have HS := HSx
  clear HSx
  go_upto_region 4 with fail
  have hF0 : Wl [fun W => St w noF [⟨g2, 28, tokCells clm0 (zer 32)⟩] W ∧ BAt W g o q ∧ B0 ≤ W.heap.size, fun W => St w noF [⟨g2, 28, tokCells clm0 (zer 32)⟩] W ∧ BAt W g o q ∧ B0 ≤ W.heap.size] 0 w3.drew := ⟨HS.drew, HBAx.call (Below.refl _ _).drew, HBBx⟩
  clear HS HBAx HBBx
  refine wp_region_phas [is (.slice (some ⟨g, o, none⟩) 46 cc), is (.pointer (some ⟨g, o, none⟩)), is (.int .u8 (bd x0)), is (.int .i64 (bd x0)), is (.string (strB nm)), is (.slice (some ⟨g, o, none⟩) 46 cc), is (.pointer (some ⟨g, o + 5, none⟩)), is (.int .u8 (bd x5)), is (.int .i64 (bd x5)), is (.slice (some ⟨g, o, none⟩) 46 cc), is (.slice (some ⟨g, o + 6, none⟩) 40 (cc - 6)), is (.int .u32 (wd u)), is (.slice (some ⟨g, o, none⟩) 46 cc), is (.slice (some ⟨g, o + 10, none⟩) 36 (cc - 10)), is (.int .u32 (wd v)), is (.agg (clmCells c)), is (.slice (some ⟨g, o, none⟩) 46 cc), is (.slice (some ⟨g, o + 14, none⟩) 32 (cc - 14)), is (.pointer (some ⟨g, o + 14, none⟩)), is (.agg (bs tg)), is (.agg (tokCells c tg)), (fun v W => ∃ k, v = Value.pointer (some ⟨k, 0, none⟩) ∧ Row W k 28 (tokCells clm0 (zer 32)) ∧ B0 ≤ k), (fun v W => ∃ k, v = Value.pointer (some ⟨k, 0, none⟩) ∧ Row W k 28 (tokCells c tg) ∧ B0 ≤ k)] [true, true, true, true, true, true, true, true, true, true, true, true, true, true, true, true, true, true, true, true, true, false, false] [(fun W => St w noF [⟨g2, 28, tokCells clm0 (zer 32)⟩] W ∧ BAt W g o q ∧ B0 ≤ W.heap.size), (fun W => St w noF [⟨g2, 28, tokCells clm0 (zer 32)⟩] W ∧ BAt W g o q ∧ B0 ≤ W.heap.size)] [false, false, false, false, false, false, false, false, false, false, false, false, false, false, false, false, false, false, false, false, false, false, true] [some 0, some 0, some 0, some 0, some 0, some 0, some 0, some 0, some 0, some 0, some 0, some 0, some 0, some 0, some 0, some 0, some 0, some 0, some 0, some 0, some 0, some 0, some 0] [none, none, none, none, none, none, none, none, none, none, none, none, none, none, none, none, none, none, none, none, none, none, some 21] [some 19, some 20, some 21, some 22, some 23, some 24, some 25, some 26, some 27, some 28, some 29, some 30, some 31, some 32, some 33, some 34, some 35, some 36, some 37, some 38, some 39, some 6, none] 23 1 (fun _ => true) rfl rfl (by kernel_rfl) (by kernel_rfl) (by kernel_rfl) (by kernel_rfl) (by kernel_rfl) ?_ ?_ ?_ ?_ ?_ ?_
  · repeat first | exact wok_nil | refine wok_cons (by first | exact fun _ _ h k => ⟨h.1.same k, h.2.1.call k, Nat.le_trans h.2.2 k.size⟩) ?_
  · repeat first | exact vok_nil | refine vok_rig (by first | exact fun _ _ _ h => h) ?_ | refine vok_soft (by first | exact fun _ _ _ h _ => h | exact fun _ _ _ h k => ⟨h.choose, h.choose_spec.1, h.choose_spec.2.1.call k, h.choose_spec.2.2⟩) ?_
  · exact hF0
  · repeat first | exact all_end (by decide) | refine all_cons (by first | exact rfl | exact ⟨rfl, fun _ _ h => Or.inl h⟩ | exact ⟨rfl, fun _ _ h => Or.inr ⟨h, rfl⟩⟩) ?_
  · refine alla_old rfl (step_mild 0 rfl rfl rfl (fun a x W hout hin hP => ?_)) ?_
    · have e0 : a.tmps[0]? = some (.slice (some ⟨g, o, none⟩) 46 cc) := (hout 0 (by kernel_rfl)).trans rfl
      exact does_move rfl e0 ⟨Same.refl _, rfl⟩
    refine alla_old rfl (step_mild 0 rfl rfl rfl (fun a x W hout hin hP => ?_)) ?_
    · have e19 := hin.is 0 19 (by kernel_rfl) (by decide) (by kernel_rfl) (by kernel_rfl) _ rfl
      clear hin hout
      intro K Q hK
      go_simp
      exact hK _ _ ⟨Same.refl _, rfl⟩
    refine alla_old rfl (step_mild 0 rfl rfl rfl (fun a x W hout hin hP => ?_)) ?_
    · have e20 := hin.is 1 20 (by kernel_rfl) (by decide) (by kernel_rfl) (by kernel_rfl) _ rfl
      have hc : W.cell? ⟨g, o, none⟩ = some (.int .u8 (bd x0)) := HX0.out ▸ hP.2.1.get 0 (by rw [HQL.out]; decide)
      clear hP
      clear hin hout
      intro K Q hK
      go_simp
      exact hK _ _ ⟨Same.refl _, rfl⟩
    refine alla_old rfl (step_mild 0 rfl rfl rfl (fun a x W hout hin hP => ?_)) ?_
    · have e21 := hin.is 2 21 (by kernel_rfl) (by decide) (by kernel_rfl) (by kernel_rfl) _ rfl
      have hw := i64_bd x0
      clear hin hout
      intro K Q hK
      go_simp
      exact hK _ _ ⟨Same.refl _, rfl⟩
    refine alla_old rfl (step_mild 0 rfl rfl rfl (fun a x W hout hin hP => ?_)) ?_
    · have e4 : a.tmps[4]? = some (.string (strB nm)) := (hout 4 (by kernel_rfl)).trans rfl
      exact does_move rfl e4 ⟨Same.refl _, rfl⟩
    refine alla_old rfl (step_mild 0 rfl rfl rfl (fun a x W hout hin hP => ?_)) ?_
    · have e0 : a.tmps[0]? = some (.slice (some ⟨g, o, none⟩) 46 cc) := (hout 0 (by kernel_rfl)).trans rfl
      exact does_move rfl e0 ⟨Same.refl _, rfl⟩
    refine alla_old rfl (step_mild 0 rfl rfl rfl (fun a x W hout hin hP => ?_)) ?_
    · have e24 := hin.is 5 24 (by kernel_rfl) (by decide) (by kernel_rfl) (by kernel_rfl) _ rfl
      clear hin hout
      intro K Q hK
      go_simp
      exact hK _ _ ⟨Same.refl _, rfl⟩
    refine alla_old rfl (step_mild 0 rfl rfl rfl (fun a x W hout hin hP => ?_)) ?_
    · have e25 := hin.is 6 25 (by kernel_rfl) (by decide) (by kernel_rfl) (by kernel_rfl) _ rfl
      have hc : W.cell? ⟨g, o + 5, none⟩ = some (.int .u8 (bd x5)) := HX5.out ▸ hP.2.1.get 5 (by rw [HQL.out]; decide)
      clear hP
      clear hin hout
      intro K Q hK
      go_simp
      exact hK _ _ ⟨Same.refl _, rfl⟩
    refine alla_old rfl (step_mild 0 rfl rfl rfl (fun a x W hout hin hP => ?_)) ?_
    · have e26 := hin.is 7 26 (by kernel_rfl) (by decide) (by kernel_rfl) (by kernel_rfl) _ rfl
      have hw := i64_bd x5
      clear hin hout
      intro K Q hK
      go_simp
      exact hK _ _ ⟨Same.refl _, rfl⟩
    refine alla_old rfl (step_mild 0 rfl rfl rfl (fun a x W hout hin hP => ?_)) ?_
    · have e0 : a.tmps[0]? = some (.slice (some ⟨g, o, none⟩) 46 cc) := (hout 0 (by kernel_rfl)).trans rfl
      exact does_move rfl e0 ⟨Same.refl _, rfl⟩
    refine alla_old rfl (step_mild 0 rfl rfl rfl (fun a x W hout hin hP => ?_)) ?_
    · have e28 := hin.is 9 28 (by kernel_rfl) (by decide) (by kernel_rfl) (by kernel_rfl) _ rfl
      clear hin hout
      intro K Q hK
      go_simp
      exact hK _ _ ⟨Same.refl _, rfl⟩
    refine alla_old rfl (step_mild 0 rfl rfl rfl (fun a x W hout hin hP => ?_)) ?_
    · have e29 := hin.is 10 29 (by kernel_rfl) (by decide) (by kernel_rfl) (by kernel_rfl) _ rfl
      have C := long_at g (o + 6) 40 (cc - 6) (q.drop 6) W (hP.2.1.drop 6) (by rw [List.length_drop, HQL.out]; decide) (by decide) (by have := HCC.out; omega)
      rw [HU.out] at C
      clear hP
      clear hin hout
      intro K Q hK
      go_simp
      refine C.mono ?_
      rintro e W' ⟨rfl, hb⟩
      exact hK _ _ ⟨hb, rfl⟩
    refine alla_old rfl (step_mild 0 rfl rfl rfl (fun a x W hout hin hP => ?_)) ?_
    · have e0 : a.tmps[0]? = some (.slice (some ⟨g, o, none⟩) 46 cc) := (hout 0 (by kernel_rfl)).trans rfl
      exact does_move rfl e0 ⟨Same.refl _, rfl⟩
    refine alla_old rfl (step_mild 0 rfl rfl rfl (fun a x W hout hin hP => ?_)) ?_
    · have e31 := hin.is 12 31 (by kernel_rfl) (by decide) (by kernel_rfl) (by kernel_rfl) _ rfl
      clear hin hout
      intro K Q hK
      go_simp
      exact hK _ _ ⟨Same.refl _, rfl⟩
    refine alla_old rfl (step_mild 0 rfl rfl rfl (fun a x W hout hin hP => ?_)) ?_
    · have e32 := hin.is 13 32 (by kernel_rfl) (by decide) (by kernel_rfl) (by kernel_rfl) _ rfl
      have C := long_at g (o + 10) 36 (cc - 10) (q.drop 10) W (hP.2.1.drop 10) (by rw [List.length_drop, HQL.out]; decide) (by decide) (by have := HCC.out; omega)
      rw [HV.out] at C
      clear hP
      clear hin hout
      intro K Q hK
      go_simp
      refine C.mono ?_
      rintro e W' ⟨rfl, hb⟩
      exact hK _ _ ⟨hb, rfl⟩
    refine alla_old rfl (step_mild 0 rfl rfl rfl (fun a x W hout hin hP => ?_)) ?_
    · have e22 := hin.is 3 22 (by kernel_rfl) (by decide) (by kernel_rfl) (by kernel_rfl) _ rfl
      have e23 := hin.is 4 23 (by kernel_rfl) (by decide) (by kernel_rfl) (by kernel_rfl) _ rfl
      have e27 := hin.is 8 27 (by kernel_rfl) (by decide) (by kernel_rfl) (by kernel_rfl) _ rfl
      have e30 := hin.is 11 30 (by kernel_rfl) (by decide) (by kernel_rfl) (by kernel_rfl) _ rfl
      have e33 := hin.is 14 33 (by kernel_rfl) (by decide) (by kernel_rfl) (by kernel_rfl) _ rfl
      clear hin hout
      intro K Q hK
      refine wp_buildStruct 24 _ rfl places_clm [.int .i64 (bd x0), .string (strB nm), .int .i64 (bd x5), .int .u32 (wd u), .int .u32 (wd v)] ?_ rfl rfl ?_
      · simp only [List.map_toArray, List.map_cons, List.map_nil, eval_of_get e22, eval_of_get e23, eval_of_get e27, eval_of_get e30, eval_of_get e33]; rfl
      · exact hK _ _ ⟨Same.refl _, by rw [HCQ.out]; rfl⟩
    refine alla_old rfl (step_mild 0 rfl rfl rfl (fun a x W hout hin hP => ?_)) ?_
    · have e0 : a.tmps[0]? = some (.slice (some ⟨g, o, none⟩) 46 cc) := (hout 0 (by kernel_rfl)).trans rfl
      exact does_move rfl e0 ⟨Same.refl _, rfl⟩
    refine alla_old rfl (step_mild 0 rfl rfl rfl (fun a x W hout hin hP => ?_)) ?_
    · have e35 := hin.is 16 35 (by kernel_rfl) (by decide) (by kernel_rfl) (by kernel_rfl) _ rfl
      clear hin hout
      intro K Q hK
      go_simp
      exact hK _ _ ⟨Same.refl _, rfl⟩
    refine alla_old rfl (step_mild 0 rfl rfl rfl (fun a x W hout hin hP => ?_)) ?_
    · have e36 := hin.is 17 36 (by kernel_rfl) (by decide) (by kernel_rfl) (by kernel_rfl) _ rfl
      have hat : ∀ w, (Instr.arrayAt 26 (.slice (some ⟨g, o + 14, none⟩) 32 (cc - 14))).run Tryd.prog w = .ok (.pointer (some ⟨g, o + 14, none⟩)) w := fun w => run_arrayAt w 26 _ 32 _ 32 (cc - 14) Tryd.underlying26 (by decide)
      clear hin hout
      intro K Q hK
      go_simp
      exact hK _ _ ⟨Same.refl _, rfl⟩
    refine alla_old rfl (step_mild 0 rfl rfl rfl (fun a x W hout hin hP => ?_)) ?_
    · have e37 := hin.is 18 37 (by kernel_rfl) (by decide) (by kernel_rfl) (by kernel_rfl) _ rfl
      clear hin hout
      intro K Q hK
      refine wp_load_mid 26 (.tmp 37) rfl g (o + 14) (eval_of_get e37) (bytesV tg) _ (HTG.out ▸ hP.2.1.range 14 32 (by rw [HQL.out]; decide)) Tryd.underlying26 rfl (by rw [len_bytesV, HTL.out]; exact size_dig) ?_
      exact hK _ _ ⟨Same.refl _, by rw [show (bytesV tg).toArray = bs tg from rfl]; rfl⟩
    refine alla_old rfl (step_mild 0 rfl rfl rfl (fun a x W hout hin hP => ?_)) ?_
    · have e34 := hin.is 15 34 (by kernel_rfl) (by decide) (by kernel_rfl) (by kernel_rfl) _ rfl
      have e38 := hin.is 19 38 (by kernel_rfl) (by decide) (by kernel_rfl) (by kernel_rfl) _ rfl
      clear hin hout
      intro K Q hK
      refine wp_buildStruct 28 _ rfl places_tok [.agg (clmCells c), .agg (bs tg)] ?_ (by simp [Value.cells, size_bs, HTL.out]; rfl) (by simp [Value.cells, size_bs, HTL.out]; rfl) ?_
      · simp only [List.map_toArray, List.map_cons, List.map_nil, eval_of_get e34, eval_of_get e38]; rfl
      · exact hK _ _ ⟨Same.refl _, by rw [flat_tok]; rfl⟩
    refine alla_old rfl (step_mild 0 rfl rfl rfl (fun a x W hout hin hP => ?_)) ?_
    · have hbse := hP.2.2
      clear hP hin hout
      intro K Q hK
      have hz : (Tryd.prog.info? 28).bind (·.zero) = some (.agg (tokCells clm0 (zer 32))) := zero_tok
      refine wp_new_row 28 (tokCells clm0 (zer 32)) rfl hz ?_
      exact hK _ _ ⟨Same.alloc _ _, _, rfl, Row.fresh _ _ _, hbse⟩
    refine alla_wild 0 rfl rfl rfl (fun a x W hout hin hP => ?_) ?_
    · obtain ⟨hw21, hx21⟩ := hin 21 (by kernel_rfl) (by decide)
      have hw21 := hw21 (.inr ⟨rfl, by kernel_rfl⟩)
      have hx21 := hx21 6 (by kernel_rfl)
      have e39 := hin.is 20 39 (by kernel_rfl) (by decide) (by kernel_rfl) (by kernel_rfl) _ rfl
      obtain ⟨g6, hg6, r6, hb6⟩ := hw21
      rw [hg6] at hx21
      clear hin hout
      intro K Q hK
      refine wp_store_row 28 (.tmp 6) (.tmp 39) rfl g6 (tokCells c tg) (eval_of_get hx21) (eval_of_get e39) 28 (tokCells clm0 (zer 32)) r6 (by exact HTZ.out) (by rw [HTS.out]; rfl) (one_tok _ _) ?_
      have hgr := grown_setRow W g6 (tokCells c tg)
      exact hK (x 21) _ ⟨⟨hP.1.far hgr (Nat.le_trans HB0.out hb6) (fun b hb => by have := HLT.out b hb; omega), hP.2.1.far hgr (by have := HGB.out; omega), Nat.le_trans hP.2.2 hgr.size⟩, ⟨g6, hg6, r6.setRow _, hb6⟩, al_one rfl rfl⟩
    exact all_end (by decide)
  · intro x W hP hV hal
    obtain ⟨g6, h8, r6, hb6⟩ := hV 22 (by decide) (.inr (by kernel_rfl))
    have h7 : x 21 = .pointer (some ⟨g6, 0, none⟩) := (hal 22 (by decide) 21 rfl).symm.trans h8
    have HS := hP.1
    have R6 := Lib.hid r6
    have HNE : Hid (g2 ≠ g6) := Lib.hid (by have := HLT.out ⟨g2, 28, tokCells clm0 (zer 32)⟩ (List.mem_singleton.2 rfl); have h : g2 < B0 := this; omega)
    clear hV hP hal h8 r6 hb6
    simp only [putL, Act.put, List.setIfInBounds_toArray, List.set_cons_succ, List.set_cons_zero, h7]
    simp only [Nat.zero_add, Nat.reduceAdd]
    refine wpAnyH_done (by kernel_rfl) ?_ _
    clear h7
    have HRG : Hid (W.rangeAt g6 0 (clmCells c).toList) := Lib.hid (R6.out.slab 0 _ (tok_clm c tg))
    go_wp2_with (first | (refine wpList_guarded (by rfl) (fun KK hKK => ?_); refine wp_load_mid 24 (.tmp 43) rfl g6 0 rfl (clmCells c).toList _ HRG.out Tryd.underlying24 rfl (by exact size_clm) (hKK _ _ ?_); clear hKK KK))
    refine (HMC.out W).mono ?_
    rintro e w5 ⟨rfl, hb5⟩
    have HSx := HS.same hb5
    have R6x := Lib.hid (R6.out.call hb5)
    clear HS hb5 R6 HRG
    have HS := HSx
    have R6 := R6x
    clear HSx R6x
    go_wp2_with (first | ((with_reducible refine wpList_plain ?_ ?_); exact rfl; intro KK hKK; refine wp_load_row 28 (.tmp 6) rfl g6 rfl 28 (tokCells c tg) (0, 0) _ R6.out Tryd.underlying28 rfl (by exact HTZ.out) (hKK _ _ ?_); clear hKK KK) | ((with_reducible refine wpList_plain ?_ ?_); exact rfl; intro KK hKK; refine wp_st_store HS 0 0 28 (.tmp 2) (.tmp 49) rfl rfl rfl (.agg (tokCells c tg)) rfl (by exact HTZ.out) (by rw [Nat.zero_add, show Value.cells (.agg (tokCells c tg)) = tokCells c tg from rfl, HTS.out]; exact Nat.le_refl 37) (by exact one_tok _ _) (tokCells c tg) (spl_agg _ _ _ rfl (by rw [HTS.out]; rfl)) (fun W41 HSx => hKK _ _ ?_); clear hKK KK HS; have HS : St w noF [⟨g2, 28, tokCells c tg⟩] W41 := HSx; clear HSx))
    exact bodyPost_ret (v := .tuple #[.agg (tokCells c tg), .int .i64 0]) (results_cell_tmp Tryd.results12 _ _ g2 28 (tokCells c tg) (0, 0) _ rfl (HS.row 0 rfl) Tryd.underlying28 rfl (by first | exact size_tok | exact HTZ.out)) rfl ⟨rfl, HS.below⟩
end Go.Proofs.YteidjbbhhfdcpaaDoor
