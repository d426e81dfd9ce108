/- Merged: Behind CopyB Block Turned Mac MacEval MacWakes Makes TagSpec Same Lit KeepB RefBlock RefMac MarkB Read ReadW OpenN. -/
import Derived.OwnWalk
import Derived.StillTailTactics
import Derived.KernelRfl
import Derived.Deep.DeepCutAuto
import Derived.Lib.SlBytesConst
import Derived.Laws.IdiomStrings
import Derived.ChangeShapes
import Derived.Test.YtcheflcfoiclgaaDoorMGen0
/- The hash of a block and the parts behind it. -/
set_option maxRecDepth 4000
namespace Go.Proofs.YtcheflcfoiclgaaDoor
open Go Go.RowKit
set_option maxHeartbeats 1600000 in
theorem behind_any (l : List (BitVec 8)) (ps : List (List (BitVec 8))) (v : Value) (w : World) (hT : Tab w) (hl : l.length = 64) (hv : Parts w v ps) (hnil : ∀ n c, v = .slice none n c → c = 0) (hn : ps.length ≤ 1000000) (hlen : ps.flatten.length ≤ 1000000000) :
    Calls Tryd.prog 23 #[.agg (bs l), v] w fun e w' => e = .returned (.agg (bs (sha (l ++ ps.flatten)))) ∧ Below w.heap.size w w' := by
  obtain ⟨i1, hi1, hz10, hz11, hz12⟩ := info_parts info_sl
  obtain ⟨A, c, us, rfl, hul, huc, hun, huo, hus⟩ := hv.list
  have HT := Lib.hid hT
  have HL := Lib.hid hl
  have HUC := Lib.hid huc
  have HUS := Lib.hid hus
  have HUN : Hid (A = none → ps.length = 0 ∧ c = 0) := Lib.hid fun h => ⟨by rw [hun h]; rfl, hnil _ _ (by rw [h])⟩
  have HUO := Lib.hid huo
  have HF : Hid (sha (l :: ps).flatten = sha (l ++ ps.flatten)) := Lib.hid (by rw [List.flatten_cons])
  have HFL : Hid ((l :: ps).flatten.length < 2147483648) := Lib.hid (by rw [List.flatten_cons, List.length_append, hl]; omega)
  have HD : Hid ((sha (l ++ ps.flatten)).length = 32) := Lib.hid (length_sha _)
  clear hT hl huc hus hun hnil hv huo hlen
  have r0 : Row ((w.alloc (.cells (bs l) 62)).alloc (.cells (bs (zer 32)) 29)) w.heap.size 62 (bs l) := (Row.fresh _ _ _).alloc _
  have r1 : Row ((w.alloc (.cells (bs l) 62)).alloc (.cells (bs (zer 32)) 29)) (w.heap.size + 1) 29 (bs (zer 32)) := row2b _ _ _ _
  have hb1 : Below w.heap.size w ((w.alloc (.cells (bs l) 62)).alloc (.cells (bs (zer 32)) 29)) := ((Below.refl _ _).alloc (Nat.le_refl _) _).alloc (by simp) _
  have hs1 : ((w.alloc (.cells (bs l) 62)).alloc (.cells (bs (zer 32)) 29)).heap.size = w.heap.size + 1 + 1 := by simp
  generalize sha (l ++ ps.flatten) = D at *
  go_enter Tryd.func23, Tryd.ntmps23
  go_wp2_with (first
    | (at_make; refine wpList_make_own ((w.alloc (.cells (bs l) 62)).alloc (.cells (bs (zer 32)) 29)) rfl _ _ 56 rfl (w.heap.size + 1 + 1) 22 i1 (.slice none 0 0) 1 Tryd.underlying56 hi1 hz10 hz11 .i64 .i64 _ (1 + ps.length) rfl rfl (by omega) (by rw [hz12]; omega) (by unfold maxLen; omega) (by rw [hs1]; exact Nat.le_refl _) ?_; intro w2 own2 hg2; rw [hs1] at own2; have hq2 := below_of_grown (base := w.heap.size + 1 + 1) hg2 (fun g e => by cases e) (by rw [hs1]; exact Nat.le_refl _); have r02 := r0.below hq2 (by omega); have r12 := r1.below hq2 (by omega); have hb2 := hb1.trans (hq2.mono (by omega)); have hs2 := Nat.le_trans (Nat.le_of_eq hs1.symm) hg2.size; clear r0 r1 hb1 hg2 hq2)
    | (at_builtin; refine wpList_append_fits _ rfl (.tmp 10) (.tmp 12) 56 rfl (w.heap.size + 1 + 1) 22 i1 1 Tryd.underlying56 hi1 hz11 (w.heap.size + 1 + 1) 0 (1 + ps.length) [] rfl (own2.alloc _) ⟨w2.heap.size, 0, none⟩ 1 1 [.slice (some ⟨w.heap.size, 0, none⟩) 64 64] rfl rfl (cell_one_new _ _ _) (fun x hx => by simp at hx; subst hx; rfl) (by omega) ?_; intro w3 own3 hg3; simp only [Nat.zero_add, List.nil_append] at own3; have r03 := (r02.alloc _).only hg3 (by omega); have r13 := (r12.alloc _).only hg3 (by omega); have hb3 := (hb2.alloc hb2.size _).trans (below_only hg3 (by omega) (Nat.le_trans hb2.size (by simp))); have HC3 : Hid (∀ ad, A = some ad → ∀ (j : Nat) (u : Value), us[j]? = some u → w3.cell? (ad.add j) = some u) := Lib.hid (fun ad e j u hu => (hb3.cell (World.block_lt_of_cell? w _ (HUC.out ad e j u hu))).trans (HUC.out ad e j u hu)); clear own2 r02 r12 hb2 hg3 hs2)
    | (at_builtin; refine wpList_append_fits_any _ rfl (.tmp 14) (.tmp 15) 56 rfl (w.heap.size + 1 + 1) 22 i1 1 Tryd.underlying56 hi1 hz11 (w.heap.size + 1 + 1) 1 (1 + ps.length) [.slice (some ⟨w.heap.size, 0, none⟩) 64 64] rfl own3 A ps.length c us rfl (by omega) HUN.out HC3.out HUO.out (by omega) ?_; intro w4 own4 hg4; have r04 := r03.only hg4 (by omega); have r14 := r13.only hg4 (by omega); have hb4 := hb3.trans (below_only hg4 (by omega) hb3.size); clear own3 r03 r13 hb3 hg4 HC3))
  have hs64 : Slice w4 (.slice (some ⟨w.heap.size, 0, none⟩) 64 64) l := by
    have h := row_slice r04 (c := 64) (by rw [HL.out]; exact Nat.le_refl _)
    rw [HL.out] at h; exact h
  have hP := parts_own own4 (ps := ps) (by omega) hs64 (fun k q hq => by
    obtain ⟨u, h1, h2⟩ := HUS.out k q hq
    exact ⟨u, h1, h2.below hb4 (Nat.le_refl _)⟩)
  refine (sum_any (l :: ps) _ w4 (HT.out.below hb4 HT.out.pos) hP (by simp; omega) HFL.out).mono ?_
  rintro e w5 ⟨rfl, hb5⟩
  rw [HF.out]
  have r15 := r14.call hb5
  have hb05 := hb4.trans (hb5.mono hb4.size)
  have HS : Hid ((Tryd.prog.info? 29).map (·.size) = some (bs D).size) := Lib.hid (by rw [size_bs, HD.out]; exact size_d)
  clear hs64 hP r04 r14 hb4 hb5 own4
  go_wp2_with (first | (refine wpList_store_row rfl 29 _ _ rfl (w.heap.size + 1) (bs D) rfl rfl 29 _ r15 HS.out (by rw [size_bs, size_bs, HD.out]; rfl) (one_bs _) ?_))
  exact bodyPost_ret (v := .agg (bs D)) (results_cell_row Tryd.results23 _ _ (w.heap.size + 1) 29 (bs D) (0, 0) _ rfl (r15.setRow _) Tryd.underlying29 rfl HS.out) rfl ⟨rfl, below_setRow hb05 (by omega) _⟩
end Go.Proofs.YtcheflcfoiclgaaDoor

/- A copy of bytes into a block of the call's own. -/
set_option maxRecDepth 4000
namespace Go.Proofs.YtcheflcfoiclgaaDoor
open Go Go.RowKit
end Go.Proofs.YtcheflcfoiclgaaDoor

/- The key's block. -/
set_option maxRecDepth 4000
namespace Go.Proofs.YtcheflcfoiclgaaDoor
open Go Go.RowKit
theorem blockOf_long (key : List (BitVec 8)) (h : 64 < key.length) : sha key ++ (zer 64).drop (sha key).length = blockOf key := by
  rw [blockOf, if_pos h, length_sha, zer, zer, List.drop_replicate]
theorem blockOf_short (key : List (BitVec 8)) (h : ¬ 64 < key.length) : key ++ (zer 64).drop key.length = blockOf key := by
  rw [blockOf, if_neg h, zer, zer, List.drop_replicate]
set_option maxHeartbeats 800000 in
theorem macblock_any (key : List (BitVec 8)) (v : Value) (w : World) (hT : Tab w) (hv : Slice w v key) (hk : key.length < 2147483648) :
    Calls Tryd.prog 22 #[v] w fun e w' => e = .returned (.agg (bs (blockOf key))) ∧ Below w.heap.size w w' := by
  have HT := Lib.hid hT
  have HV := Lib.hid hv
  obtain ⟨A, c, rfl, _, _⟩ := hv
  clear hT
  have HS : Hid ((Tryd.prog.info? 62).map (·.size) = some (bs (blockOf key)).size) := Lib.hid (by rw [size_bs, length_blockOf]; exact size_b)
  have HL : Hid ((bs (blockOf key)).size = 64) := Lib.hid (by rw [size_bs, length_blockOf])
  have ra : Row ((w.alloc (.cells (bs (zer 64)) 62)).alloc (.cells (bs (zer 64)) 62)) w.heap.size 62 (bs (zer 64)) := (Row.fresh _ _ _).alloc _
  have rb : Row ((w.alloc (.cells (bs (zer 64)) 62)).alloc (.cells (bs (zer 64)) 62)) (w.heap.size + 1) 62 (bs (zer 64)) := row2b _ _ _ _
  have hb : Below w.heap.size w ((w.alloc (.cells (bs (zer 64)) 62)).alloc (.cells (bs (zer 64)) 62)) := ((Below.refl _ _).alloc (Nat.le_refl _) _).alloc (by simp) _
  by_cases hlong : 64 < key.length
  · have HB := Lib.hid (blockOf_long key hlong)
    go_enter Tryd.func22, Tryd.ntmps22
    go_wp2_with fail
    change Calls _ _ _ (((w.alloc (.cells (bs (zer 64)) 62)).alloc (.cells (bs (zer 64)) 62)).alloc _) _
    have hsz : ((w.alloc (.cells (bs (zer 64)) 62)).alloc (.cells (bs (zer 64)) 62)).heap.size = w.heap.size + 1 + 1 := by simp
    generalize (w.alloc (.cells (bs (zer 64)) 62)).alloc (.cells (bs (zer 64)) 62) = w1 at *
    have hp := parts1 (HV.out.below hb (Nat.le_refl _))
    rw [hsz] at hp
    refine (sum_any [key] _ _ (HT.out.below (hb.alloc hb.size _) HT.out.pos) hp (by simp) (by simp; omega)).mono ?_
    rintro e w2 ⟨rfl, hb2⟩
    rw [show ([key] : List (List (BitVec 8))).flatten = key by simp]
    have ra2 := (ra.alloc _).call hb2
    have rb2 := (rb.alloc _).call hb2
    have hb02 : Below w.heap.size w w2 := (hb.alloc hb.size _).trans (hb2.mono (Nat.le_trans hb.size (by simp)))
    have HD : Hid ((sha key).length = 32) := Lib.hid (length_sha key)
    clear ra rb hb hb2 hp hsz
    generalize sha key = D at *
    go_wp2_with (first | (refine wpList_store_row rfl 29 _ _ rfl w2.heap.size (bs D) rfl rfl 29 _ (Row.fresh _ _ _) (by rw [size_bs, HD.out]; exact size_d) (by rw [size_bs, HD.out]; rfl) (one_bs _) ?_; rw [World.setRow_alloc_new]))
    have ra3 := ra2.alloc (.cells (bs D) 29)
    have rb3 := rb2.alloc (.cells (bs D) 29)
    have hb3 := hb02.alloc hb02.size (.cells (bs D) 29)
    have rd : Slice (w2.alloc (.cells (bs D) 29)) (.slice (some ⟨w2.heap.size, 0, none⟩) 32 32) D := by
      have h := row_slice (Row.fresh w2 29 (bs D)) (c := 32) (by rw [HD.out]; exact Nat.le_refl _)
      rw [HD.out] at h; exact h
    clear ra2 rb2 hb02
    generalize w2.alloc (.cells (bs D) 29) = w3 at *
    go_still_tail 2, (by kernel_rfl)
    change wpList _ _ _ _ _ w3.drew
    refine wpList_copy_bytes rfl _ _ rfl (w.heap.size + 1) 64 64 rfl (.slice (some ⟨w2.heap.size, 0, none⟩) 32 32) rfl D (zer 64) rd 62 rb3.drew rfl (by rw [HD.out]; omega) ?_
    intro w4 rb4 hg4
    rw [HB.out] at rb4
    have ra4 := ra3.drew.only hg4 (by omega)
    have hb4 := hb3.drew.trans (only_below hg4 (by omega) hb3.size)
    clear rd ra3 rb3 hb3 hg4
    go_wp2_with (first | (refine wpList_load_row rfl 62 _ rfl (w.heap.size + 1) rfl 62 (bs (blockOf key)) (0, 0) _ rb4 Tryd.underlying62 rfl HS.out ?_) | (refine wpList_store_row rfl 62 _ _ rfl w.heap.size (bs (blockOf key)) rfl rfl 62 _ ra4 HS.out (by rw [HL.out, size_bs]; rfl) (one_bs _) ?_))
    exact bodyPost_ret (v := .agg (bs (blockOf key))) (results_cell_row Tryd.results22 _ _ w.heap.size 62 (bs (blockOf key)) (0, 0) _ rfl (ra4.setRow _) Tryd.underlying62 rfl HS.out) rfl ⟨rfl, below_setRow hb4 (Nat.le_refl _) _⟩
  · have HB := Lib.hid (blockOf_short key hlong)
    have d0 : decide ((64 : Int) < (key.length : Int)) = false := by simp; omega
    have hv1 := HV.out.below hb (Nat.le_refl _)
    go_enter Tryd.func22, Tryd.ntmps22
    go_wp2_with (first | (refine wpList_copy_bytes rfl _ _ rfl (w.heap.size + 1) 64 64 rfl (.slice A key.length c) rfl key (zer 64) hv1 62 rb rfl (by omega) ?_; intro w4 rb4 hg4; rw [HB.out] at rb4; have ra4 := ra.only hg4 (by omega); have hb4 := hb.trans (only_below hg4 (by omega) hb.size); clear ra rb hb hg4 hv1) | (refine wpList_load_row rfl 62 _ rfl (w.heap.size + 1) rfl 62 (bs (blockOf key)) (0, 0) _ rb4 Tryd.underlying62 rfl HS.out ?_) | (refine wpList_store_row rfl 62 _ _ rfl w.heap.size (bs (blockOf key)) rfl rfl 62 _ ra4 HS.out (by rw [HL.out, size_bs]; rfl) (one_bs _) ?_))
    exact bodyPost_ret (v := .agg (bs (blockOf key))) (results_cell_row Tryd.results22 _ _ w.heap.size 62 (bs (blockOf key)) (0, 0) _ rfl (ra4.setRow _) Tryd.underlying62 rfl HS.out) rfl ⟨rfl, below_setRow hb4 (Nat.le_refl _) _⟩
end Go.Proofs.YtcheflcfoiclgaaDoor

/- A block, each byte turned. -/
set_option maxRecDepth 4000
namespace Go.Proofs.YtcheflcfoiclgaaDoor
open Go Go.RowKit
attribute [local go_sem] xor_bd
set_option maxHeartbeats 400000 in
theorem turned_any (l : List (BitVec 8)) (x : BitVec 8) (hl : l.length = 64) (w : World) :
    Calls Tryd.prog 24 #[.agg (bs l), .int .u8 (bd x)] w fun e w' => e = .returned (.agg (bs (turnBy x l))) ∧ Below w.heap.size w w' := by
  have HL := Lib.hid hl
  clear hl
  go_enter Tryd.func24, Tryd.ntmps24
  go_wp2_with fail
  go_loopw [5, 6] (fun _ i wr => ∃ k : Nat, k ≤ 64 ∧ i = .int .i64 k ∧ Row wr w.heap.size 62 (bs (tpart x l k)) ∧ Row wr (w.heap.size + 1) 62 (bs (zer 64)) ∧ Below w.heap.size w wr) (fun _ i _ => 64 - (intOf i).toNat)
  case atStart => exact ⟨0, by omega, rfl, by rw [tpart_zero]; exact (Row.fresh _ _ _).alloc _, row2b _ _ _ _, ((Below.refl _ _).alloc (Nat.le_refl _) _).alloc (by simp) _⟩
  case round =>
    obtain ⟨k, hk, rfl, r1, r2, hb⟩ := hrel
    by_cases hlt : k < 64
    · have c0 := r1.get (get_bs (tpart x l k) k (by rw [length_tpart, HL.out]; exact hlt))
      rw [tpart_get x l k (by rw [HL.out]; exact hlt)] at c0
      have f0 := r1.free k
      go_wp2
      go_roundw
      case rel =>
        refine ⟨k + 1, by omega, by go_num, ?_, r2.far (by simp) _, hb.setCell (by simp) _⟩
        have h1 := r1.put k (.int .u8 (bd (l.getD k 0 ^^^ x)))
        rw [set_bs, tpart_set x l k (by rw [HL.out]; exact hlt)] at h1
        exact h1
      case measure => simp [intOf]; omega
    · obtain rfl : k = 64 := by omega
      have e : tpart x l 64 = turnBy x l := by rw [← HL.out]; exact tpart_all x l
      rw [e] at r1
      have HS : Hid ((Tryd.prog.info? 62).map (·.size) = some (bs (turnBy x l)).size) := Lib.hid (by rw [size_bs, length_turnBy, HL.out]; exact size_b)
      clear hlt hk e
      go_wp2_with (first | (refine wpList_load_row rfl 62 _ rfl w.heap.size rfl 62 (bs (turnBy x l)) (0, 0) _ r1 Tryd.underlying62 rfl HS.out ?_) | (refine wpList_store_row rfl 62 _ _ rfl (w.heap.size + 1) (bs (turnBy x l)) rfl rfl 62 _ r2 HS.out (by rw [size_bs, size_bs, length_turnBy, HL.out]; rfl) (one_bs _) ?_))
      exact bodyPost_ret (v := .agg (bs (turnBy x l))) (results_cell_row Tryd.results24 _ _ (w.heap.size + 1) 62 (bs (turnBy x l)) (0, 0) _ rfl (r2.setRow _) Tryd.underlying62 rfl HS.out) rfl ⟨rfl, below_setRow hb (by omega) _⟩
end Go.Proofs.YtcheflcfoiclgaaDoor

/- The tag of all parts by a key. -/
set_option maxRecDepth 4000
namespace Go.Proofs.YtcheflcfoiclgaaDoor
open Go Go.RowKit
theorem anyH_two {P : Program} {md : Region.Mode} {ops : Array Oper} {Q : Exit → Act → World → Prop} {S : World → Prop} {i j : Nat} {oi oj : Oper} {fuel : Nat} {listed : Array Bool} {a : Act} {w : World} (hr : Region.ready md ops listed = [i, j]) (hi : ops[i]? = some oi) (hj : ops[j]? = some oj)
    (h1 : ∀ K' : Act → World → Prop, (∀ a w, S w → wpAnyH P md ops Q S fuel (listed.setIfInBounds i true) a w → K' a w) → if Region.wanted oi (yielded ops a.tmps) = true then Oper.wp P oi a w K' Q else K' (a.put oi.dst undef) w)
    (h2 : ∀ K' : Act → World → Prop, (∀ a w, S w → wpAnyH P md ops Q S fuel (listed.setIfInBounds j true) a w → K' a w) → if Region.wanted oj (yielded ops a.tmps) = true then Oper.wp P oj a w K' Q else K' (a.put oj.dst undef) w) : wpAnyH P md ops Q S (fuel + 1) listed a w :=
  wpAnyH_all hr (by simp) fun k hk => by
    have hk' : k = i ∨ k = j := by simpa using hk
    rcases hk' with rfl | rfl
    · exact wpOp_step hi (fun K hK => h1 K fun a w h1 h2 => hK a w ⟨h1, h2⟩)
    · exact wpOp_step hj (fun K hK => h2 K fun a w h1 h2 => hK a w ⟨h1, h2⟩)
/- what stands while the outer hash is made -/
def MR (w : World) (g5 g6 : Nat) (B D : List (BitVec 8)) (W : World) : Prop := (∃ C : List (BitVec 8), C.length = 32 ∧ Row W w.heap.size 29 (bs C)) ∧ Row W g5 62 (bs B) ∧ Row W g6 29 (bs D) ∧ Tab W ∧ Below w.heap.size w W
theorem MR.call {w W W' : World} {g5 g6 : Nat} {B D : List (BitVec 8)} (h : MR w g5 g6 B D W) (hb : Below W.heap.size W W') : MR w g5 g6 B D W' :=
  ⟨by obtain ⟨C, h1, h2⟩ := h.1; exact ⟨C, h1, h2.call hb⟩, h.2.1.call hb, h.2.2.1.call hb, h.2.2.2.1.below hb h.2.2.2.1.pos, h.2.2.2.2.trans (hb.mono h.2.2.2.2.size)⟩
theorem MR.alloc {w W : World} {g5 g6 : Nat} {B D : List (BitVec 8)} (h : MR w g5 g6 B D W) (o : Obj) : MR w g5 g6 B D (W.alloc o) := h.call ((Below.refl _ _).alloc (Nat.le_refl _) _)
theorem MR.drew {w W : World} {g5 g6 : Nat} {B D : List (BitVec 8)} (h : MR w g5 g6 B D W) : MR w g5 g6 B D W.drew := ⟨h.1, h.2.1, h.2.2.1, h.2.2.2.1, h.2.2.2.2.drew⟩
theorem MR.rb {w W : World} {g5 g6 : Nat} {B D : List (BitVec 8)} (h : MR w g5 g6 B D W) : W.rangeAt g5 0 (bs B).toList := fun j v hv => by rw [Nat.zero_add, h.2.1.cell]; simpa using hv
theorem MR.put {w W : World} {g5 g6 : Nat} {B D : List (BitVec 8)} (h : MR w g5 g6 B D W) (h0 : 0 < w.heap.size) (h5 : w.heap.size < g5) (h6 : w.heap.size < g6) (C : List (BitVec 8)) (hC : C.length = 32) : MR w g5 g6 B D (W.setRow w.heap.size (bs C)) := by
  obtain ⟨⟨C0, _, h1⟩, h2, h3, h4, h5'⟩ := h
  have hb := below_setRow h5' (Nat.le_refl _) (bs C)
  refine ⟨⟨C, hC, h1.setRow _⟩, h2.setRow_far (by omega) _, h3.setRow_far (by omega) _, fun i hi => ?_, hb⟩
  exact (cell_setRow_other W w.heap.size _ ⟨0, i, none⟩ (Nat.ne_of_lt h0)).trans (h4 i hi)
theorem MR.dig {w W : World} {g5 g6 : Nat} {B D : List (BitVec 8)} (h : MR w g5 g6 B D W) (hD : D.length = 32) : Slice W (.slice (some ⟨g6, 0, none⟩) 32 32) D := by
  have h1 := row_slice h.2.2.1 (c := 32) (by rw [hD]; exact Nat.le_refl _)
  rw [hD] at h1; exact h1
theorem behind_one (l q : List (BitVec 8)) (v : Value) (w : World) (hT : Tab w) (hl : l.length = 64) (hv : Parts w v [q]) (hq : q.length = 32) (D : List (BitVec 8)) (hD : sha (l ++ q) = D) :
    Calls Tryd.prog 23 #[.agg (bs l), v] w fun e w' => e = .returned (.agg (bs D)) ∧ Below w.heap.size w w' := by
  subst hD
  have h := behind_any l [q] v w hT hl hv (fun n c e => by obtain ⟨A, c', h1, h2⟩ := hv; subst e; injection h1 with h1 _ _; obtain ⟨_, _, h3, _⟩ := h2 (by simp); rw [← h1] at h3; cases h3) (by simp) (by simp; omega)
  rwa [show ([q] : List (List (BitVec 8))).flatten = q by simp] at h
theorem turned_lit (l : List (BitVec 8)) (x : BitVec 8) (z : Int) (hz : bd x = z) (hl : l.length = 64) (w : World) :
    Calls Tryd.prog 24 #[.agg (bs l), .int .u8 z] w fun e w' => e = .returned (.agg (bs (turnBy x l))) ∧ Below w.heap.size w w' := by
  subst hz; exact turned_any l x hl w
set_option maxHeartbeats 1600000 in
theorem mac_any (key : List (BitVec 8)) (ps : List (List (BitVec 8))) (kv v : Value) (w : World) (hT : Tab w) (hk : Slice w kv key) (hkl : key.length < 2147483648) (hv : Parts w v ps) (hnil : ∀ n c, v = .slice none n c → c = 0) (hn : ps.length ≤ 1000000) (hlen : ps.flatten.length ≤ 1000000000) :
    Calls Tryd.prog 15 #[kv, v] w fun e w' => e = .returned (.agg (bs (tagOf key ps.flatten))) ∧ Below w.heap.size w w' := by
  have HT := Lib.hid hT
  have HK := Lib.hid hk
  have HV := Lib.hid hv
  have HNIL := Lib.hid hnil
  have HLEN := Lib.hid hlen
  obtain ⟨Ak, ck, rfl, _⟩ := hk
  obtain ⟨A, c, rfl, _⟩ := hv
  have HB : Hid ((blockOf key).length = 64) := Lib.hid (length_blockOf key)
  have HI : Hid ((sha (turnBy 0x36#8 (blockOf key) ++ ps.flatten)).length = 32) := Lib.hid (length_sha _)
  have HO : Hid (sha (turnBy 0x5c#8 (blockOf key) ++ sha (turnBy 0x36#8 (blockOf key) ++ ps.flatten)) = tagOf key ps.flatten) := Lib.hid rfl
  have HTL : Hid ((tagOf key ps.flatten).length = 32) := Lib.hid (length_tagOf _ _)
  clear hT hnil hlen
  generalize tagOf key ps.flatten = TG at *
  go_enter Tryd.func15, Tryd.ntmps15
  go_wp2_with fail
  have hb0 : Below w.heap.size w (w.alloc (.cells (bs (zer 32)) 29)) := (Below.refl _ _).alloc (Nat.le_refl _) _
  refine (macblock_any key _ (w.alloc (.cells (bs (zer 32)) 29)) (HT.out.below hb0 HT.out.pos) (HK.out.below hb0 (Nat.le_refl _)) hkl).mono ?_
  rintro e w1 ⟨rfl, hb1⟩
  have r4 := (Row.fresh w 29 (bs (zer 32))).call hb1
  have hb01 : Below w.heap.size w w1 := hb0.trans (hb1.mono (by simp))
  clear hb0 hb1
  generalize hBk : blockOf key = B at *
  clear hBk
  go_wp2_with (first | (refine wpList_store_row rfl 62 _ _ rfl w1.heap.size (bs B) rfl rfl 62 _ (Row.fresh _ _ _) (by rw [size_bs, HB.out]; exact size_b) (by rw [size_bs, HB.out]; rfl) (one_bs _) ?_; rw [World.setRow_alloc_new]) | (refine wpList_load_row rfl 62 (.tmp 5) rfl w1.heap.size rfl 62 (bs B) (0, 0) _ (Row.fresh _ _ _) Tryd.underlying62 rfl (by rw [size_bs, HB.out]; exact size_b) ?_))
  refine (turned_lit B 0x36#8 54 rfl HB.out _).mono ?_
  rintro e w2 ⟨rfl, hb2⟩
  have r42 := (r4.alloc (.cells (bs B) 62)).call hb2
  have r52 := (Row.fresh w1 62 (bs B)).call hb2
  have hb02 : Below w.heap.size w w2 := (hb01.alloc hb01.size _).trans (hb2.mono (Nat.le_trans hb01.size (by simp)))
  clear hb01 hb2
  go_wp2_with fail
  refine (behind_any (turnBy 0x36#8 B) ps _ w2 (HT.out.below hb02 HT.out.pos) (by rw [length_turnBy]; exact HB.out) (HV.out.below hb02 (Nat.le_refl _)) HNIL.out hn HLEN.out).mono ?_
  rintro e w3 ⟨rfl, hb3⟩
  generalize sha (turnBy 0x36#8 B ++ ps.flatten) = D at *
  have r43 := r42.call hb3
  have r53 := r52.call hb3
  have hb03 : Below w.heap.size w w3 := hb02.trans (hb3.mono hb02.size)
  clear r42 r52 hb02 hb3
  go_wp2_with (first | (refine wpList_store_row rfl 29 _ _ rfl w3.heap.size (bs D) rfl rfl 29 _ (Row.fresh _ _ _) (by rw [size_bs, HI.out]; exact size_d) (by rw [size_bs, HI.out]; rfl) (one_bs _) ?_; rw [World.setRow_alloc_new]))
  have hbx := hb03.alloc hb03.size (.cells (bs D) 29)
  have M0 : MR w w1.heap.size w3.heap.size B D (w3.alloc (.cells (bs D) 29)) := ⟨⟨_, rfl, r43.alloc _⟩, r53.alloc _, Row.fresh _ _ _, HT.out.below hbx HT.out.pos, hbx⟩
  have S0 := M0.drew
  have h51 : w.heap.size < w1.heap.size := r4.lt
  have h61 : w.heap.size < w3.heap.size := r43.lt
  clear r43 r53 hb03 hbx M0 r4
  have H31 : Hid ((Tryd.prog.info? 62).map (·.size) = some (bs B).toList.length) := Lib.hid (by rw [len_bs, HB.out]; exact size_b)
  have HS : Hid ((Tryd.prog.info? 29).map (·.size) = some (bs TG).size) := Lib.hid (by rw [size_bs, HTL.out]; exact size_d)
  generalize w3.alloc (.cells (bs D) 29) = w4 at *
  refine wp_region_held (S := MR w w1.heap.size w3.heap.size B D) (by kernel_rfl) ?_
  change wpAnyH _ _ _ _ _ _ _ _ w4.drew
  generalize w4.drew = w5 at *
  refine wpAnyH_take (i := 0) (oi := { dst := some 13, op := _, type := _, pos := _, after := _, guard := none }) (v := .agg (bs B)) rfl (by kernel_rfl) (by kernel_rfl) (by kernel_rfl) (fun _ _ _ h => h) (by rw [show (Value.agg (bs B)) = .agg (bs B).toList.toArray by simp]; exact yieldsIf_load_mid rfl 62 _ rfl w1.heap.size 0 rfl (bs B).toList _ (fun W hW => MR.rb hW) Tryd.underlying62 rfl H31.out) S0 ?_
  simp only [Act.put, List.setIfInBounds_toArray, List.set_cons_succ, List.set_cons_zero]
  refine wpAnyH_take (i := 2) (oi := { dst := some 15, op := _, type := _, pos := _, after := _, guard := none }) (v := .slice (some ⟨w3.heap.size, 0, none⟩) 32 32) rfl (by kernel_rfl) (by kernel_rfl) (by kernel_rfl) (fun _ _ _ h => h) (Or.inl ⟨by rfl, fun _ _ => by go_simp⟩) S0 ?_
  simp only [Act.put, List.setIfInBounds_toArray, List.set_cons_succ, List.set_cons_zero]
  refine anyH_two (i := 1) (j := 3) (oi := { dst := some 14, op := _, type := _, pos := _, after := _, guard := none }) (oj := { dst := some 16, op := _, type := _, pos := _, after := _, guard := none }) (by kernel_rfl) rfl rfl (fun K hK => ?_) (fun K hK => ?_)
  · go_simp
    refine (turned_lit B 0x5c#8 92 rfl HB.out w5).mono ?_
    rintro e wA ⟨rfl, hbA⟩
    have SA := S0.call hbA
    refine hK _ _ SA ?_
    clear hK K
    refine anyH_one (i := 3) (o := { dst := some 16, op := _, type := _, pos := _, after := _, guard := none }) (by kernel_rfl) rfl (fun K hK => ?_)
    go_simp
    have hP := parts1 (SA.dig HI.out)
    have SB := SA.alloc (.cells #[.slice (some ⟨w3.heap.size, 0, none⟩) 32 32] 22)
    generalize wA.heap.size = gx at *
    generalize wA.alloc (.cells #[.slice (some ⟨w3.heap.size, 0, none⟩) 32 32] 22) = wB at *
    refine hK _ _ SB ?_
    clear hK K
    refine anyH_one (i := 4) (o := { dst := some 17, op := _, type := _, pos := _, after := _, guard := none }) (by kernel_rfl) rfl (fun K hK => ?_)
    go_simp
    refine (behind_one (turnBy 0x5c#8 B) D _ wB SB.2.2.2.1 (by rw [length_turnBy]; exact HB.out) hP HI.out TG HO.out).mono ?_
    rintro e wC ⟨rfl, hbC⟩
    have SC := SB.call hbC
    refine hK _ _ SC ?_
    clear hK K
    obtain ⟨C0, hC0, hr0⟩ := SC.1
    refine anyH_one (i := 5) (o := { dst := none, op := _, type := _, pos := _, after := _, guard := none }) (by kernel_rfl) rfl (fun K hK => ?_)
    rw [if_pos (by rfl)]
    refine wp_store_row 29 _ _ rfl w.heap.size (bs TG) rfl rfl 29 _ hr0 HS.out (by rw [size_bs, size_bs, HTL.out]; exact hC0) (one_bs _) ?_
    refine hK _ _ (SC.put HT.out.pos h51 h61 TG HTL.out) ?_
    clear hK K
    refine wpAnyH_done (by kernel_rfl) ?_ _
    go_wp2_with fail
    exact bodyPost_ret (v := .agg (bs TG)) (results_cell_row Tryd.results15 _ _ w.heap.size 29 (bs TG) (0, 0) _ rfl (hr0.setRow _) Tryd.underlying29 rfl HS.out) rfl ⟨rfl, below_setRow SC.2.2.2.2 (Nat.le_refl _) _⟩
  · go_simp
    have hP0 := parts1 (S0.dig HI.out)
    have SA := S0.alloc (.cells #[.slice (some ⟨w3.heap.size, 0, none⟩) 32 32] 22)
    generalize w5.heap.size = gx at *
    generalize w5.alloc (.cells #[.slice (some ⟨w3.heap.size, 0, none⟩) 32 32] 22) = wA at *
    refine hK _ _ SA ?_
    clear hK K
    refine anyH_one (i := 1) (o := { dst := some 14, op := _, type := _, pos := _, after := _, guard := none }) (by kernel_rfl) rfl (fun K hK => ?_)
    go_simp
    refine (turned_lit B 0x5c#8 92 rfl HB.out wA).mono ?_
    rintro e wB ⟨rfl, hbB⟩
    have SB := SA.call hbB
    have hP := hP0.below hbB (Nat.le_refl _)
    refine hK _ _ SB ?_
    clear hK K
    refine anyH_one (i := 4) (o := { dst := some 17, op := _, type := _, pos := _, after := _, guard := none }) (by kernel_rfl) rfl (fun K hK => ?_)
    go_simp
    refine (behind_one (turnBy 0x5c#8 B) D _ wB SB.2.2.2.1 (by rw [length_turnBy]; exact HB.out) hP HI.out TG HO.out).mono ?_
    rintro e wC ⟨rfl, hbC⟩
    have SC := SB.call hbC
    refine hK _ _ SC ?_
    clear hK K
    obtain ⟨C0, hC0, hr0⟩ := SC.1
    refine anyH_one (i := 5) (o := { dst := none, op := _, type := _, pos := _, after := _, guard := none }) (by kernel_rfl) rfl (fun K hK => ?_)
    rw [if_pos (by rfl)]
    refine wp_store_row 29 _ _ rfl w.heap.size (bs TG) rfl rfl 29 _ hr0 HS.out (by rw [size_bs, size_bs, HTL.out]; exact hC0) (one_bs _) ?_
    refine hK _ _ (SC.put HT.out.pos h51 h61 TG HTL.out) ?_
    clear hK K
    refine wpAnyH_done (by kernel_rfl) ?_ _
    go_wp2_with fail
    exact bodyPost_ret (v := .agg (bs TG)) (results_cell_row Tryd.results15 _ _ w.heap.size 29 (bs TG) (0, 0) _ rfl (hr0.setRow _) Tryd.underlying29 rfl HS.out) rfl ⟨rfl, below_setRow SC.2.2.2.2 (Nat.le_refl _) _⟩
end Go.Proofs.YtcheflcfoiclgaaDoor

/- The document's example of a tag, reckoned by the kernel. -/
set_option maxRecDepth 4000
namespace Go.Proofs.YtcheflcfoiclgaaDoor
end Go.Proofs.YtcheflcfoiclgaaDoor

/- The chapter's examples of mac, asked by the statements. -/
set_option maxRecDepth 4000
namespace Go.Proofs.YtcheflcfoiclgaaDoor
open Go Go.RowKit
end Go.Proofs.YtcheflcfoiclgaaDoor

/- The statement MacMakes: its walk. -/
set_option maxRecDepth 4000
namespace Go.Proofs.YtcheflcfoiclgaaDoor
open Go Go.RowKit
attribute [local go_sem] xor_bd
/- a block of which the first k bytes are laid, each turned -/
def opart (x : BitVec 8) (l : List (BitVec 8)) (k : Nat) : List (BitVec 8) := turnBy x (l.take k) ++ zer (64 - k)
theorem length_opart (x : BitVec 8) (l : List (BitVec 8)) (k : Nat) (hl : l.length = 64) (hk : k ≤ 64) : (opart x l k).length = 64 := by
  rw [opart, List.length_append, length_turnBy, length_zer, List.length_take]; omega
theorem opart_zero (x : BitVec 8) (l : List (BitVec 8)) : opart x l 0 = zer 64 := by simp [opart, turnBy]
theorem opart_all (x : BitVec 8) (l : List (BitVec 8)) (hl : l.length = 64) : opart x l 64 = turnBy x l := by
  rw [opart, ← hl, List.take_length, Nat.sub_self]; simp [zer]
theorem opart_set (x : BitVec 8) (l : List (BitVec 8)) (k : Nat) (hl : l.length = 64) (hk : k < 64) : (opart x l k).set k (l.getD k 0 ^^^ x) = opart x l (k + 1) := by
  have e : (turnBy x (l.take k)).length = k := by rw [length_turnBy, List.length_take]; omega
  have hk' : k < l.length := by omega
  rw [opart, List.set_append_right _ _ (by omega), e, Nat.sub_self, show 64 - k = (64 - (k + 1)) + 1 by omega, zer, List.replicate_succ, List.set_cons_zero, opart, List.take_succ_eq_append_getElem hk']
  simp only [turnBy, List.map_append, List.map_cons, List.map_nil, List.append_assoc, List.cons_append, List.nil_append, List.getD_eq_getElem?_getD, List.getElem?_eq_getElem hk', Option.getD_some, zer]
theorem xor36 (x : BitVec 8) : bits .xor .u8 (bd x) 54 = bd (x ^^^ 0x36#8) := xor_bd x 0x36#8
theorem xor5c (x : BitVec 8) : bits .xor .u8 (bd x) 92 = bd (x ^^^ 0x5c#8) := xor_bd x 0x5c#8
attribute [local go_sem] xor36 xor5c
def KR (w : World) (g5 g6 g7 : Nat) (B : List (BitVec 8)) (k : Nat) (W : World) : Prop := Row W g5 62 (bs B) ∧ Row W g6 62 (bs (opart 0x36#8 B k)) ∧ Row W g7 62 (bs (opart 0x5c#8 B k)) ∧ Below w.heap.size w W
theorem KR.step {w wr : World} {g5 g6 g7 k : Nat} {B : List (BitVec 8)} (h : KR w g5 g6 g7 B k wr) (hB : B.length = 64) (hk : k < 64) (h5 : w.heap.size ≤ g5) (h6 : g6 = g5 + 1) (h7 : g7 = g5 + 1 + 1) {x : BitVec 8} (hx : B[k]?.getD 0#8 = x) :
    KR w g5 g6 g7 B (k + 1) ((wr.setCell ⟨g6, k, none⟩ (.int .u8 (bd (x ^^^ 0x36#8)))).setCell ⟨g7, k, none⟩ (.int .u8 (bd (x ^^^ 0x5c#8)))).drew := by
  obtain ⟨r5, r6, r7, hb⟩ := h
  have e : B.getD k 0 = x := by rw [List.getD_eq_getElem?_getD]; exact hx
  refine ⟨((r5.far (by simp; omega) _).far (by simp; omega) _).drew, ((?_ : Row _ _ _ _).far (by simp; omega) _).drew, Row.drew ?_, ((hb.setCell (by simp; omega) _).setCell (by simp; omega) _).drew⟩
  · have h1 := r6.put k (.int .u8 (bd (x ^^^ 0x36#8)))
    rw [set_bs, ← e, opart_set _ _ _ hB hk] at h1
    rw [← e]; exact h1
  · have h1 := (r7.far (p := ⟨g6, k, none⟩) (by simp; omega) (.int .u8 (bd (x ^^^ 0x36#8)))).put k (.int .u8 (bd (x ^^^ 0x5c#8)))
    rw [set_bs, ← e, opart_set _ _ _ hB hk] at h1
    rw [← e]; exact h1
/- what stands while the last line is reckoned -/
def SM (w : World) (g7 g9 : Nat) (O D : List (BitVec 8)) (W : World) : Prop := Row W g7 62 (bs O) ∧ Row W g9 29 (bs D) ∧ Tab W ∧ Below w.heap.size w W
theorem SM.call {w W W' : World} {g7 g9 : Nat} {O D : List (BitVec 8)} (h : SM w g7 g9 O D W) (hb : Below W.heap.size W W') : SM w g7 g9 O D W' :=
  ⟨h.1.call hb, h.2.1.call hb, h.2.2.1.below hb h.2.2.1.pos, h.2.2.2.trans (hb.mono h.2.2.2.size)⟩
theorem SM.alloc {w W : World} {g7 g9 : Nat} {O D : List (BitVec 8)} (h : SM w g7 g9 O D W) (o : Obj) : SM w g7 g9 O D (W.alloc o) := h.call ((Below.refl _ _).alloc (Nat.le_refl _) _)
theorem SM.drew {w W : World} {g7 g9 : Nat} {O D : List (BitVec 8)} (h : SM w g7 g9 O D W) : SM w g7 g9 O D W.drew := ⟨h.1, h.2.1, h.2.2.1, h.2.2.2.drew⟩
theorem SM.parts {w W : World} {g7 g9 : Nat} {O D : List (BitVec 8)} (h : SM w g7 g9 O D W) (hO : O.length = 64) (hD : D.length = 32) : Parts (W.alloc (.cells #[.slice (some ⟨g7, 0, none⟩) 64 64, .slice (some ⟨g9, 0, none⟩) 32 32] 22)) (.slice (some ⟨W.heap.size, 0, none⟩) 2 2) [O, D] := by
  have h1 := row_slice h.1 (c := 64) (by rw [hO]; exact Nat.le_refl _)
  have h2 := row_slice h.2.1 (c := 32) (by rw [hD]; exact Nat.le_refl _)
  rw [hO] at h1
  rw [hD] at h2
  exact parts2 h1 h2
theorem mac_one (key b : List (BitVec 8)) (kv v : Value) (w : World) (hT : Tab w) (hk : Slice w kv key) (hkl : key.length ≤ 1000000) (hv : Parts w v [b]) (hb : b.length ≤ 1000000) (T : List (BitVec 8)) (hTag : tagOf key b = T) :
    Calls Tryd.prog 15 #[kv, v] w fun e w' => e = .returned (.agg (bs T)) ∧ Below w.heap.size w w' := by
  subst hTag
  have h := mac_any key [b] kv v w hT hk (by omega) hv (fun n c e => by obtain ⟨A, c', h1, h2⟩ := hv; subst e; injection h1 with h1 _ _; obtain ⟨_, _, h3, _⟩ := h2 (by simp); rw [← h1] at h3; cases h3) (by simp) (by simp; omega)
  rwa [show ([b] : List (List (BitVec 8))).flatten = b by simp] at h
end Go.Proofs.YtcheflcfoiclgaaDoor

/- Tags chained, and bytes compared, as plain functions on lists. No program is named here. -/
set_option maxRecDepth 4000
namespace Go.Proofs.YtcheflcfoiclgaaDoor
open Go Go.RowKit
theorem ofInt_bd (x : BitVec 8) : BitVec.ofInt 8 (bd x) = x := by
  apply BitVec.eq_of_toNat_eq; unfold bd; rw [ofInt_u8 _ x.isLt]
theorem or_bd (x y : BitVec 8) : bits .or .u8 (bd x) (bd y) = bd (x ||| y) := by
  show IntKind.u8.wrap ((BitVec.ofInt 8 (bd x) ||| BitVec.ofInt 8 (bd y)).toNat : Int) = _
  rw [ofInt_bd, ofInt_bd]; exact wrap_bd _
/- what differs in the first k places -/
def dif (p q : List (BitVec 8)) : Nat → BitVec 8
  | 0 => if p.length = q.length then 0 else 1
  | k + 1 => dif p q k ||| (p.getD k 0 ^^^ q.getD k 0)
theorem or_zero8 (x y : BitVec 8) : x ||| y = 0 ↔ x = 0 ∧ y = 0 := by
  constructor
  · intro h
    have hx : ∀ i : Nat, (x.getLsbD i || y.getLsbD i) = false := fun i => by rw [← BitVec.getLsbD_or, h]; simp
    constructor
    · apply BitVec.eq_of_getLsbD_eq; intro i _; have := hx i; simp at this; simp [this.1]
    · apply BitVec.eq_of_getLsbD_eq; intro i _; have := hx i; simp at this; simp [this.2]
  · rintro ⟨rfl, rfl⟩; rfl
theorem dif_zero (p q : List (BitVec 8)) (k : Nat) : dif p q k = 0 ↔ p.length = q.length ∧ ∀ j, j < k → p.getD j 0 = q.getD j 0 := by
  induction k with
  | zero => unfold dif; split <;> simp_all
  | succ k ih =>
    unfold dif
    rw [or_zero8, ih]
    constructor
    · rintro ⟨⟨h1, h2⟩, h3⟩
      refine ⟨h1, fun j hj => ?_⟩
      by_cases hjk : j < k
      · exact h2 j hjk
      · obtain rfl : j = k := by omega
        exact BitVec.xor_eq_zero_iff.1 h3
    · rintro ⟨h1, h2⟩
      exact ⟨⟨h1, fun j hj => h2 j (by omega)⟩, BitVec.xor_eq_zero_iff.2 (h2 k (by omega))⟩
theorem dif_eq (p q : List (BitVec 8)) (n : Nat) (hn : p.length ≤ n) : dif p q n = 0 ↔ p = q := by
  rw [dif_zero]
  constructor
  · rintro ⟨h1, h2⟩
    apply List.ext_getElem h1
    intro j hj hj'
    have := h2 j (by omega)
    simpa [List.getD_eq_getElem?_getD, hj, hj'] using this
  · rintro rfl; exact ⟨rfl, fun _ _ => rfl⟩
theorem dif_bool (p q : List (BitVec 8)) (n : Nat) (hn : p.length ≤ n) : decide (bd (dif p q n) = 0) = decide (p = q) := by
  have h := dif_eq p q n hn
  have e : bd (dif p q n) = 0 ↔ dif p q n = 0 := ⟨fun h => bd_inj h, fun h => by rw [h]; rfl⟩
  rw [decide_eq_decide, e, h]
end Go.Proofs.YtcheflcfoiclgaaDoor

/- Whether two rows of bytes are alike: what Same answers. -/
set_option maxRecDepth 4000
namespace Go.Proofs.YtcheflcfoiclgaaDoor
open Go Go.RowKit
attribute [local go_sem] xor_bd or_bd
theorem byteat_any (q : List (BitVec 8)) (v : Value) (i : Nat) (w : World) (hs : Slice w v q) :
    Calls Tryd.prog 37 #[v, .int .i64 (i : Int)] w fun e w' => e = .returned (.int .u8 (bd (q.getD i 0))) ∧ w = w' := by
  obtain ⟨A, c, rfl, hc, h3⟩ := hs
  by_cases hlt : i < q.length
  · obtain ⟨b, o, rfl, _, h6⟩ := h3 (by intro e; subst e; simp at hlt)
    have hx := h6 i q[i] (List.getElem?_eq_getElem hlt)
    have e : q.getD i 0 = q[i] := by simp [List.getD_eq_getElem?_getD, hlt]
    rw [e]
    clear h6 h3 e
    generalize q[i] = x at *
    generalize q.length = n at *
    go_enter Tryd.func37, Tryd.ntmps37
    go_wp2
    go_ret
    exact ⟨rfl, rfl⟩
  · have e : q.getD i 0 = 0 := by simp [List.getD_eq_getElem?_getD, List.getElem?_eq_none (Nat.le_of_not_lt hlt)]
    rw [e]
    clear h3 e
    generalize q.length = n at *
    go_enter Tryd.func37, Tryd.ntmps37
    go_wp2
    go_ret
    exact ⟨rfl, rfl⟩
set_option maxHeartbeats 400000 in
theorem same_any (p q : List (BitVec 8)) (va vb : Value) (w : World) (hp : Slice w va p) (hq : Slice w vb q) (hpl : p.length ≤ 1000000) (hql : q.length ≤ 1000000) :
    Calls Tryd.prog 30 #[va, vb] w fun e w' => e = .returned (.bool (decide (p = q))) ∧ w = w' := by
  have HP := Lib.hid hp
  have HQ := Lib.hid hq
  obtain ⟨A, c, rfl, _⟩ := hp
  obtain ⟨A', c', rfl, _⟩ := hq
  have HD : Hid ((bd (dif p q (max p.length q.length)) == 0) = decide (p = q)) := Lib.hid (dif_bool p q (max p.length q.length) (Nat.le_max_left _ _))
  have HU : Hid (∀ k, dif p q (k + 1) = dif p q k ||| (p.getD k 0 ^^^ q.getD k 0)) := Lib.hid fun _ => rfl
  have H0 : Hid (dif p q 0 = if p.length = q.length then 0 else 1) := Lib.hid rfl
  have HE : Hid (∀ b, ((p.length : Int) != (q.length : Int)) = b → Value.int .u8 (if b then 1 else 0) = Value.int .u8 (bd (dif p q 0))) := Lib.hid fun b hb => by
    rw [H0.out]
    cases b with
    | true =>
      have hne : p.length ≠ q.length := fun e => by rw [e] at hb; simp at hb
      simp only [if_true, if_neg hne]; rfl
    | false =>
      have h : (p.length : Int) = (q.length : Int) := by simpa using hb
      have h' : p.length = q.length := by omega
      simp only [if_pos h']; rfl
  clear H0
  generalize dif p q = D at *
  go_enter Tryd.func30, Tryd.ntmps30
  go_wp2_with fail
  all_goals
    go_loopw [5, 17] (fun d i wr => ∃ k : Nat, k ≤ max p.length q.length ∧ i = .int .i64 k ∧ d = .int .u8 (bd (D k)) ∧ wr = w) (fun _ i _ => max p.length q.length - (intOf i).toNat)
    case atStart =>
      rename_i hpq _ _
      refine ⟨0, by omega, rfl, ?_, rfl⟩
      first | exact HE.out true hpq | exact HE.out false (by simpa using hpq)
    case round =>
      obtain ⟨k, hk, rfl, rfl, rfl⟩ := hrel
      by_cases hlt : k < max p.length q.length
      · have hu := Lib.hid (HU.out k)
        have c1 := byteat_any p _ k wr HP.out
        have c2 := byteat_any q _ k wr HQ.out
        generalize p.getD k 0 = x at *
        generalize q.getD k 0 = y at *
        have C1 := Lib.hid c1
        have C2 := Lib.hid c2
        clear c1 c2
        go_wp2_with fail
        refine C1.out.mono ?_
        rintro e w1 ⟨rfl, rfl⟩
        go_wp2_with fail
        refine C2.out.mono ?_
        rintro e w1 ⟨rfl, rfl⟩
        go_wp2_with fail
        go_roundw
        case rel => exact ⟨k + 1, by omega, by go_num, by rw [hu.out], trivial⟩
        case measure => simp [intOf]; omega
      · obtain rfl : k = max p.length q.length := by omega
        go_wp2_with fail
        go_ret
        exact ⟨congrArg (fun b => Ending.returned (.bool b)) HD.out, rfl⟩
end Go.Proofs.YtcheflcfoiclgaaDoor

/- Literals of bytes in a region that is walked by what each operation yields. -/
set_option maxRecDepth 4000
namespace Go.Proofs.YtcheflcfoiclgaaDoor
open Go Go.RowKit
section
variable {o : Oper} {a : Act} {w : World} {R : Value → World → Prop}
end
end Go.Proofs.YtcheflcfoiclgaaDoor

/- Strings of bytes compared. -/
set_option maxRecDepth 4000
namespace Go.Proofs.YtcheflcfoiclgaaDoor
open Go Go.RowKit
end Go.Proofs.YtcheflcfoiclgaaDoor

/- The document's block of a key. -/
set_option maxRecDepth 4000
namespace Go.Proofs.YtcheflcfoiclgaaDoor
open Go Go.RowKit
theorem refsum_one (q : List (BitVec 8)) (v : Value) (w : World) (hv : Hand w v [q]) (h : q.length ≤ 100000) :
    Calls Tryd.prog 29 #[v] w fun e w' => e = .returned (.agg (bs (sha q))) ∧ Below w.heap.size w w' := by
  have h := refsum_any [q] v w hv (by simp) (by simpa using h)
  rwa [show ([q] : List (List (BitVec 8))).flatten = q by simp] at h
set_option maxHeartbeats 800000 in
theorem refblock_any (key : List (BitVec 8)) (v : Value) (w : World) (hv : Item w v key) (hk : key.length ≤ 100000) :
    Calls Tryd.prog 28 #[v] w fun e w' => e = .returned (.agg (bs (blockOf key))) ∧ Below w.heap.size w w' := by
  have HV := Lib.hid hv
  obtain ⟨A, c, rfl, _⟩ := hv
  have HS : Hid ((Tryd.prog.info? 62).map (·.size) = some (bs (blockOf key)).size) := Lib.hid (by rw [size_bs, length_blockOf]; exact size_b)
  have HL : Hid ((bs (blockOf key)).size = 64) := Lib.hid (by rw [size_bs, length_blockOf])
  have ra : Row ((w.alloc (.cells (bs (zer 64)) 62)).alloc (.cells (bs (zer 64)) 62)) w.heap.size 62 (bs (zer 64)) := (Row.fresh _ _ _).alloc _
  have rb : Row ((w.alloc (.cells (bs (zer 64)) 62)).alloc (.cells (bs (zer 64)) 62)) (w.heap.size + 1) 62 (bs (zer 64)) := row2b _ _ _ _
  have hb : Below w.heap.size w ((w.alloc (.cells (bs (zer 64)) 62)).alloc (.cells (bs (zer 64)) 62)) := ((Below.refl _ _).alloc (Nat.le_refl _) _).alloc (by simp) _
  by_cases hlong : 64 < key.length
  · have HB := Lib.hid (blockOf_long key hlong)
    go_enter Tryd.func28, Tryd.ntmps28
    go_wp2_with fail
    change Calls _ _ _ (((w.alloc (.cells (bs (zer 64)) 62)).alloc (.cells (bs (zer 64)) 62)).alloc _) _
    have hsz : ((w.alloc (.cells (bs (zer 64)) 62)).alloc (.cells (bs (zer 64)) 62)).heap.size = w.heap.size + 1 + 1 := by simp
    generalize (w.alloc (.cells (bs (zer 64)) 62)).alloc (.cells (bs (zer 64)) 62) = w1 at *
    have hp := hand1 (HV.out.below hb (Nat.le_refl _))
    rw [hsz] at hp
    refine (refsum_one key _ _ hp hk).mono ?_
    rintro e w2 ⟨rfl, hb2⟩
    have ra2 := (ra.alloc _).call hb2
    have rb2 := (rb.alloc _).call hb2
    have hb02 : Below w.heap.size w w2 := (hb.alloc hb.size _).trans (hb2.mono (Nat.le_trans hb.size (by simp)))
    have HD : Hid ((sha key).length = 32) := Lib.hid (length_sha key)
    clear ra rb hb hb2 hp hsz
    generalize sha key = D at *
    go_wp2_with (first | (refine wpList_store_row rfl 29 _ _ rfl w2.heap.size (bs D) rfl rfl 29 _ (Row.fresh _ _ _) (by rw [size_bs, HD.out]; exact size_d) (by rw [size_bs, HD.out]; rfl) (one_bs _) ?_; rw [World.setRow_alloc_new]))
    have ra3 := ra2.alloc (.cells (bs D) 29)
    have rb3 := rb2.alloc (.cells (bs D) 29)
    have hb3 := hb02.alloc hb02.size (.cells (bs D) 29)
    have rd : Slice (w2.alloc (.cells (bs D) 29)) (.slice (some ⟨w2.heap.size, 0, none⟩) 32 32) D := by
      have h := row_slice (Row.fresh w2 29 (bs D)) (c := 32) (by rw [HD.out]; exact Nat.le_refl _)
      rw [HD.out] at h; exact h
    clear ra2 rb2 hb02
    generalize w2.alloc (.cells (bs D) 29) = w3 at *
    go_still_tail 2, (by kernel_rfl)
    change wpList _ _ _ _ _ w3.drew
    refine wpList_copy_bytes rfl _ _ rfl (w.heap.size + 1) 64 64 rfl (.slice (some ⟨w2.heap.size, 0, none⟩) 32 32) rfl D (zer 64) rd 62 rb3.drew rfl (by rw [HD.out]; omega) ?_
    intro w4 rb4 hg4
    rw [HB.out] at rb4
    have ra4 := ra3.drew.only hg4 (by omega)
    have hb4 := hb3.drew.trans (only_below hg4 (by omega) hb3.size)
    clear rd ra3 rb3 hb3 hg4
    go_wp2_with (first | (refine wpList_load_row rfl 62 _ rfl (w.heap.size + 1) rfl 62 (bs (blockOf key)) (0, 0) _ rb4 Tryd.underlying62 rfl HS.out ?_) | (refine wpList_store_row rfl 62 _ _ rfl w.heap.size (bs (blockOf key)) rfl rfl 62 _ ra4 HS.out (by rw [HL.out, size_bs]; rfl) (one_bs _) ?_))
    exact bodyPost_ret (v := .agg (bs (blockOf key))) (results_cell_row Tryd.results28 _ _ w.heap.size 62 (bs (blockOf key)) (0, 0) _ rfl (ra4.setRow _) Tryd.underlying62 rfl HS.out) rfl ⟨rfl, below_setRow hb4 (Nat.le_refl _) _⟩
  · have HB := Lib.hid (blockOf_short key hlong)
    have d0 : decide ((64 : Int) < (key.length : Int)) = false := by simp; omega
    have hv1 := (HV.out.below hb (Nat.le_refl _)).slice
    go_enter Tryd.func28, Tryd.ntmps28
    go_wp2_with (first | (refine wpList_copy_bytes rfl _ _ rfl (w.heap.size + 1) 64 64 rfl (.slice A key.length c) rfl key (zer 64) hv1 62 rb rfl (by omega) ?_; intro w4 rb4 hg4; rw [HB.out] at rb4; have ra4 := ra.only hg4 (by omega); have hb4 := hb.trans (only_below hg4 (by omega) hb.size); clear ra rb hb hg4 hv1) | (refine wpList_load_row rfl 62 _ rfl (w.heap.size + 1) rfl 62 (bs (blockOf key)) (0, 0) _ rb4 Tryd.underlying62 rfl HS.out ?_) | (refine wpList_store_row rfl 62 _ _ rfl w.heap.size (bs (blockOf key)) rfl rfl 62 _ ra4 HS.out (by rw [HL.out, size_bs]; rfl) (one_bs _) ?_))
    exact bodyPost_ret (v := .agg (bs (blockOf key))) (results_cell_row Tryd.results28 _ _ w.heap.size 62 (bs (blockOf key)) (0, 0) _ rfl (ra4.setRow _) Tryd.underlying62 rfl HS.out) rfl ⟨rfl, below_setRow hb4 (Nat.le_refl _) _⟩
end Go.Proofs.YtcheflcfoiclgaaDoor

/- The document's tag of all parts by a key. -/
set_option maxRecDepth 4000
namespace Go.Proofs.YtcheflcfoiclgaaDoor
open Go Go.RowKit
attribute [local go_sem] xor_bd xor36 xor5c
/- what stands in the loop over a block's bytes -/
def RM (w : World) (g5 gi go : Nat) (B : List (BitVec 8)) (k : Nat) (W : World) : Prop := gi ≠ go ∧ g5 < gi ∧ g5 < go ∧ Row W w.heap.size 29 (bs (zer 32)) ∧ Row W g5 62 (bs B) ∧ Row W gi 5 (bs (opart 0x36#8 B k)) ∧ Row W go 5 (bs (opart 0x5c#8 B k)) ∧ Below w.heap.size w W
theorem RM.step {w wr : World} {g5 gi go k : Nat} {B : List (BitVec 8)} (h : RM w g5 gi go B k wr) (hB : B.length = 64) (hk : k < 64) (h5 : w.heap.size < g5) {x : BitVec 8} (hx : B[k]?.getD 0#8 = x) :
    RM w g5 gi go B (k + 1) ((wr.setCell ⟨gi, k, none⟩ (.int .u8 (bd (x ^^^ 0x36#8)))).setCell ⟨go, k, none⟩ (.int .u8 (bd (x ^^^ 0x5c#8)))).drew := by
  obtain ⟨ha, hb1, hb2, r4, r5, r6, r7, hb⟩ := h
  have e : B.getD k 0 = x := by rw [List.getD_eq_getElem?_getD]; exact hx
  refine ⟨ha, hb1, hb2, ((r4.far (by simp; omega) _).far (by simp; omega) _).drew, ((r5.far (by simp; omega) _).far (by simp; omega) _).drew, ((?_ : Row _ _ _ _).far (by simpa using ha) _).drew, Row.drew ?_, ((hb.setCell (by simp; omega) _).setCell (by simp; omega) _).drew⟩
  · have h1 := r6.put k (.int .u8 (bd (x ^^^ 0x36#8)))
    rw [set_bs, ← e, opart_set _ _ _ hB hk] at h1
    rw [← e]; exact h1
  · have h1 := (r7.far (p := ⟨gi, k, none⟩) (by simpa using Ne.symm ha) (.int .u8 (bd (x ^^^ 0x36#8)))).put k (.int .u8 (bd (x ^^^ 0x5c#8)))
    rw [set_bs, ← e, opart_set _ _ _ hB hk] at h1
    rw [← e]; exact h1
theorem RM.start {w w1 : World} {B : List (BitVec 8)} (hb : Below w.heap.size w w1) (r4 : Row w1 w.heap.size 29 (bs (zer 32))) :
    RM w w1.heap.size (w1.heap.size + 1) (w1.heap.size + 1 + 1) B 0 (((w1.alloc (.cells (bs B) 62)).alloc (.cells (bs (zer 64)) 5)).alloc (.cells (bs (zer 64)) 5)).drew ∧ RM w w1.heap.size (w1.heap.size + 1 + 1) (w1.heap.size + 1) B 0 (((w1.alloc (.cells (bs B) 62)).alloc (.cells (bs (zer 64)) 5)).alloc (.cells (bs (zer 64)) 5)).drew := by
  have a := ((r4.alloc (.cells (bs B) 62)).alloc (.cells (bs (zer 64)) 5)).alloc (.cells (bs (zer 64)) 5)
  have b := row3a w1 62 (bs B) (.cells (bs (zer 64)) 5) (.cells (bs (zer 64)) 5)
  have c := row3b w1 5 (bs (zer 64)) (.cells (bs B) 62) (.cells (bs (zer 64)) 5)
  have d := row3c w1 5 (bs (zer 64)) (.cells (bs B) 62) (.cells (bs (zer 64)) 5)
  have e := hb.trans ((below3 w1 (.cells (bs B) 62) (.cells (bs (zer 64)) 5) (.cells (bs (zer 64)) 5)).mono hb.size)
  unfold RM
  rw [opart_zero, opart_zero]
  exact ⟨⟨by omega, by omega, by omega, a, b, c, d, e.drew⟩, ⟨by omega, by omega, by omega, a, b, d, c, e.drew⟩⟩
theorem make64 (w : World) : (Instr.makeSlice 22 (.int .i64 64) (.int .i64 64)).run Tryd.prog w = .ok (.slice (some ⟨w.heap.size, 0, none⟩) 64 64) (w.alloc (.cells (bs (zer 64)) 5)) := by kernel_rfl
set_option maxHeartbeats 1600000 in
theorem refmac_any (key : List (BitVec 8)) (ps : List (List (BitVec 8))) (kv v : Value) (w : World) (hk : Item w kv key) (hkl : key.length ≤ 100000) (hv : Hand w v ps) (hnil : ∀ n c, v = .slice none n c → c = 0) (hn : ps.length ≤ 900) (hlen : ps.flatten.length ≤ 90000) :
    Calls Tryd.prog 17 #[kv, v] w fun e w' => e = .returned (.agg (bs (tagOf key ps.flatten))) ∧ Below w.heap.size w w' := by
  have HK := Lib.hid hk
  have HLEN := Lib.hid hlen
  obtain ⟨Ak, ck, rfl, _⟩ := hk
  obtain ⟨A, c, us, rfl, hul, huc, hun, huo, hus⟩ := hv.list
  have HUC := Lib.hid huc
  have HUS := Lib.hid hus
  have HUN : Hid (A = none → ps.length = 0 ∧ c = 0) := Lib.hid fun h => ⟨by rw [hun h]; rfl, hnil _ _ (by rw [h])⟩
  have HUO := Lib.hid huo
  clear huc hus hun huo hv
  have HB : Hid ((blockOf key).length = 64) := Lib.hid (length_blockOf key)
  have HI : Hid ((sha (turnBy 0x36#8 (blockOf key) ++ ps.flatten)).length = 32) := Lib.hid (length_sha _)
  have HO : Hid (sha (turnBy 0x5c#8 (blockOf key) ++ sha (turnBy 0x36#8 (blockOf key) ++ ps.flatten)) = tagOf key ps.flatten) := Lib.hid rfl
  have HTL : Hid ((tagOf key ps.flatten).length = 32) := Lib.hid (length_tagOf _ _)
  clear hnil hlen
  generalize tagOf key ps.flatten = TG at *
  go_enter Tryd.func17, Tryd.ntmps17
  go_wp2_with fail
  have hb0 : Below w.heap.size w (w.alloc (.cells (bs (zer 32)) 29)) := (Below.refl _ _).alloc (Nat.le_refl _) _
  refine (refblock_any key _ (w.alloc (.cells (bs (zer 32)) 29)) (HK.out.below hb0 (Nat.le_refl _)) hkl).mono ?_
  rintro e w1 ⟨rfl, hb1⟩
  have r4 := (Row.fresh w 29 (bs (zer 32))).call hb1
  have hb01 : Below w.heap.size w w1 := hb0.trans (hb1.mono (by simp))
  clear hb0 hb1
  generalize hBk : blockOf key = B at *
  clear hBk
  have h51 : w.heap.size < w1.heap.size := r4.lt
  have RS := Lib.hid (RM.start (B := B) hb01 r4)
  clear r4 hb01
  go_upto_region 2 with (first | (refine wpList_store_row rfl 62 _ _ rfl w1.heap.size (bs B) rfl rfl 62 _ (Row.fresh _ _ _) (by rw [size_bs, HB.out]; exact size_b) (by rw [size_bs, HB.out]; rfl) (one_bs _) ?_; rw [World.setRow_alloc_new]))
  go_frame
  go_cut [6, 7] (fun s6 s7 wx => ∃ gi go, s6 = .slice (some ⟨gi, 0, none⟩) 64 64 ∧ s7 = .slice (some ⟨go, 0, none⟩) 64 64 ∧ RM w w1.heap.size gi go B 0 wx)
  case first =>
    have hmk := make64
    go_region
    · go_wp2_with fail
      go_meet
      exact ⟨_, _, rfl, rfl, RS.out.1⟩
    · go_wp2_with fail
      go_meet
      exact ⟨_, _, rfl, rfl, RS.out.2⟩
  case rest =>
  obtain ⟨gi, go, rfl, rfl, hR0⟩ := hcut
  clear RS
  go_wp2_with fail
  go_loopw [8] (fun i wr => ∃ k : Nat, k ≤ 64 ∧ i = .int .i64 k ∧ RM w w1.heap.size gi go B k wr) (fun i _ => 64 - (intOf i).toNat)
  case atStart => exact ⟨0, by omega, rfl, hR0⟩
  case round =>
    clear hR0
    obtain ⟨k, hk, rfl, hR⟩ := hrel
    have HR := Lib.hid hR
    obtain ⟨ha, hx1, hx2, r4, r5, r6, r7, hbr⟩ := hR
    by_cases hlt : k < 64
    · have c5 := r5.get (get_bs B k (by rw [HB.out]; exact hlt))
      have c6 := r6.get (get_bs (opart 0x36#8 B k) k (by rw [length_opart _ _ _ HB.out hk]; exact hlt))
      have c7 := r7.get (get_bs (opart 0x5c#8 B k) k (by rw [length_opart _ _ _ HB.out hk]; exact hlt))
      have f6 := r6.free k
      have f7 := r7.free k
      clear r4 r5 r6 r7 hbr
      go_wp2
      go_region
      go_wp2
      go_roundw
      case rel =>
        refine ⟨k + 1, by omega, by go_num, ?_⟩
        exact RM.step HR.out HB.out hlt h51 rfl
      case measure => simp [intOf]; omega
    · obtain rfl : k = 64 := by omega
      clear HR hlt hk
      rw [opart_all _ _ HB.out] at r6 r7
      have HOL : Hid ((turnBy 0x5c#8 B).length = 64) := Lib.hid (by rw [length_turnBy]; exact HB.out)
      have HIL : Hid ((turnBy 0x36#8 B).length = 64) := Lib.hid (by rw [length_turnBy]; exact HB.out)
      generalize turnBy 0x5c#8 B = O at *
      generalize turnBy 0x36#8 B = I at *
      clear r5 ha
      have own1 := own_lit1 wr (.slice (some ⟨gi, 0, none⟩) 64 64)
      have hbx := hbr.alloc hbr.size (.cells #[.slice (some ⟨gi, 0, none⟩) 64 64] 22)
      have HCX : Hid (∀ ad, A = some ad → ∀ (j : Nat) (u : Value), us[j]? = some u → (wr.alloc (.cells #[.slice (some ⟨gi, 0, none⟩) 64 64] 22)).cell? (ad.add j) = some u) := Lib.hid fun ad e j u hu => (hbx.cell (World.block_lt_of_cell? w _ (HUC.out ad e j u hu))).trans (HUC.out ad e j u hu)
      go_wp2_with (first | (at_builtin; refine wpList_append_parts rfl (.tmp 33) (.tmp 34) rfl wr.heap.size _ 1 [.slice (some ⟨gi, 0, none⟩) 64 64] rfl own1 A ps.length c us rfl hul HCX.out HUN.out HUO.out (by omega) (by simp) ?_; intro v2 w2 own2 hb2; obtain ⟨A2, c2, rfl⟩ := own_form own2; clear own1))
      have hq2 : Below wr.heap.size wr w2 := ((Below.refl wr.heap.size wr).alloc (Nat.le_refl _) _).trans hb2
      have r42 := r4.call hq2
      have r62 := r6.call hq2
      have r72 := r7.call hq2
      have hb02 := hbr.trans (hq2.mono hbr.size)
      have hi2 := item_row r62 (c := 64) (by rw [HIL.out]; exact Nat.le_refl _) (by rw [HIL.out]; unfold maxLen; omega)
      rw [HIL.out] at hi2
      obtain ⟨g2, rfl⟩ : ∃ g2, A2 = some ⟨g2, 0, none⟩ := by
        rcases own2.2 with ⟨h, h0⟩ | ⟨g2, cap, cur, h, _⟩
        · exact absurd h0 (by omega)
        · injection h with h _ _; exact ⟨g2, h⟩
      have hH := hand_own own2 (ps := ps) (by omega) hi2 (fun k q hq => by
        obtain ⟨u, h1, h2⟩ := HUS.out k q hq
        exact ⟨u, h1, h2.below hb02 (Nat.le_refl _)⟩)
      clear r4 r6 r7 hbr hbx HCX hb2 hq2 r62 hi2 own2
      refine (refsum_any (I :: ps) _ w2 hH (by simp; omega) (by rw [List.flatten_cons, List.length_append, HIL.out]; have := HLEN.out; omega)).mono ?_
      rintro e w3 ⟨rfl, hb3⟩
      rw [List.flatten_cons]
      generalize sha (I ++ ps.flatten) = D at *
      have r43 := r42.call hb3
      have r73 := r72.call hb3
      have hb03 := hb02.trans (hb3.mono hb02.size)
      clear r42 r72 hb02 hb3 hH
      go_wp2_with (first | (refine wpList_store_row rfl 29 _ _ rfl w3.heap.size (bs D) rfl rfl 29 _ (Row.fresh _ _ _) (by rw [size_bs, HI.out]; exact size_d) (by rw [size_bs, HI.out]; rfl) (one_bs _) ?_; rw [World.setRow_alloc_new]))
      have i7 := item_row (r73.alloc (.cells (bs D) 29)) (c := 64) (by rw [HOL.out]; exact Nat.le_refl _) (by rw [HOL.out]; unfold maxLen; omega)
      have i9 := item_row (Row.fresh w3 29 (bs D)) (c := 32) (by rw [HI.out]; exact Nat.le_refl _) (by rw [HI.out]; unfold maxLen; omega)
      rw [HOL.out] at i7
      rw [HI.out] at i9
      have hH2 := hand2 i7 i9
      rw [show (w3.alloc (.cells (bs D) 29)).heap.size = w3.heap.size + 1 by simp] at hH2
      have r44 := (r43.alloc (.cells (bs D) 29)).alloc (.cells #[.slice (some ⟨go, 0, none⟩) 64 64, .slice (some ⟨w3.heap.size, 0, none⟩) 32 32] 22)
      have hb04 := (hb03.alloc hb03.size (.cells (bs D) 29)).alloc (Nat.le_trans hb03.size (by simp)) (.cells #[.slice (some ⟨go, 0, none⟩) 64 64, .slice (some ⟨w3.heap.size, 0, none⟩) 32 32] 22)
      clear i7 i9 r43 r73 hb03
      generalize (w3.alloc (.cells (bs D) 29)).alloc (.cells #[.slice (some ⟨go, 0, none⟩) 64 64, .slice (some ⟨w3.heap.size, 0, none⟩) 32 32] 22) = w4 at *
      refine (refsum_two O D _ w4 hH2 (by rw [HOL.out, HI.out]; omega) TG HO.out).mono ?_
      rintro e w5 ⟨rfl, hb5⟩
      have r45 := r44.call hb5
      have hb05 := hb04.trans (hb5.mono hb04.size)
      have HS : Hid ((Tryd.prog.info? 29).map (·.size) = some (bs TG).size) := Lib.hid (by rw [size_bs, HTL.out]; exact size_d)
      clear hH2 r44 hb04 hb5
      go_wp2_with (first | (refine wpList_store_row rfl 29 _ _ rfl w.heap.size (bs TG) rfl rfl 29 _ r45 HS.out (by rw [size_bs, size_bs, HTL.out]; rfl) (one_bs _) ?_))
      exact bodyPost_ret (v := .agg (bs TG)) (results_cell_row Tryd.results17 _ _ w.heap.size 29 (bs TG) (0, 0) _ rfl (r45.setRow _) Tryd.underlying29 rfl HS.out) rfl ⟨rfl, below_setRow hb05 (Nat.le_refl _) _⟩
end Go.Proofs.YtcheflcfoiclgaaDoor

/- A slice of bytes made of a constant text: its block bears a mark. No function of the program is named here. -/
set_option maxRecDepth 4000
namespace Go.Proofs.YtcheflcfoiclgaaDoor
open Go Go.RowKit
end Go.Proofs.YtcheflcfoiclgaaDoor

/- What an argument holds, read by its type: integers, bools, texts, rows of bytes, slices, structs, put together as the type is. No function of the program is named here. -/
set_option maxRecDepth 4000
namespace Go.Proofs.YtcheflcfoiclgaaDoor
open Go Go.ChangeShapes Go.WideShapes Go.ChangeAt Go.RowKit
/- the cells cs hold a, in the world w -/
def Rd (α : Type) := World → List Value → α → Prop
def Opens (P : Program) {α : Type} (t : TypeId) (R : Rd α) : Prop :=
  ∀ {H : Type} (enc : TypeId × Value → H) (W : World) (fuel : Nat) (cs : List Value) (x : DataW H × List MemPlace), DataW.trod enc P W 0 (fun _ => true) true fuel t cs = some x → (∀ y ∈ x.2, y.block < W.heap.size) → ∃ a, R W cs a
def rdInt (k : IntKind) : Rd Int := fun _ cs n => cs = [.int k n] ∧ (Lit.int k n).wf = true
def rdU8 : Rd (BitVec 8) := fun _ cs x => cs = [.int .u8 (bd x)]
def rdStr : Rd ByteArray := fun _ cs s => cs = [.string s] ∧ s.size ≤ maxLen
def rdRow (n : Nat) : Rd (List (BitVec 8)) := fun _ cs b => cs = bytesV b ∧ b.length = n
def rdNil : Rd Unit := fun _ cs _ => cs = []
def rdCons {α β : Type} (s : Nat) (R : Rd α) (T : Rd β) : Rd (α × β) := fun w cs ab => ∃ c d, cs = c ++ d ∧ c.length = s ∧ R w c ab.1 ∧ T w d ab.2
def rdSl {α : Type} (s : Nat) (R : Rd α) : Rd (List α) := fun w cs l => ∃ A c, cs = [.slice A l.length c] ∧ l.length ≤ c ∧ (A = none → c = 0) ∧ l.length ≤ maxLen ∧
  (l ≠ [] → ∃ b o, A = some ⟨b, o, none⟩ ∧ b < w.heap.size ∧ ∀ k x, l[k]? = some x → ∃ ds, ds.length = s ∧ w.rangeAt b (o + k * s) ds ∧ R w ds x)
section
variable {P : Program}
theorem opens_int {t : TypeId} {k : IntKind} (ht : P.underlying t = some (.int k)) : Opens P t (rdInt k) := fun _ _ _ _ _ h _ => by
  obtain ⟨n, h1, _, h2⟩ := DataW.trod_int ht h
  exact ⟨n, h1, h2⟩
theorem opens_u8 {t : TypeId} (ht : P.underlying t = some (.int .u8)) : Opens P t rdU8 := fun _ _ _ _ _ h _ => by
  obtain ⟨n, h1, _, h2⟩ := DataW.trod_int ht h
  have hb := bounds_u8 h2
  exact ⟨BitVec.ofInt 8 n, by unfold rdU8; rw [h1, ← bd_of n hb.1 (by omega)]⟩
theorem opens_str {t : TypeId} (ht : P.underlying t = some .string) : Opens P t rdStr := fun _ _ _ _ _ h _ => by
  obtain ⟨s, h1, _, h2⟩ := DataW.trod_string ht h
  exact ⟨s, h1, h2⟩
theorem opens_row {t e : TypeId} {n : Nat} (ht : P.underlying t = some (.array n e)) (he : P.underlying e = some (.int .u8)) (hce : P.cellsOf e = 1) (hct : P.cellsOf t = n) : Opens P t (rdRow n) := fun enc W fuel cs x h _ => by
  obtain ⟨xs, m, _, _, hl, hx, hi⟩ := DataW.trod_array ht h
  have hs : cs.length = n := by rw [hl, hct]
  have hint : ∀ i, i < n → ∃ z, cs[i]? = some (.int .u8 z) ∧ (Lit.int .u8 z).wf = true := fun i hin => by
    have h1 := hi i hin
    rw [List.getElem?_eq_getElem (by omega)] at h1
    obtain ⟨z, hz, _, hw⟩ := DataW.trod_int he h1
    refine ⟨z, ?_, hw⟩
    simp only [hce, Nat.mul_one] at hz
    rw [List.take_one, List.head?_drop] at hz
    cases hc : cs[i]? with
    | none => rw [hc] at hz; cases hz
    | some v => rw [hc] at hz; simpa using hz
  refine ⟨cs.map fun v => BitVec.ofInt 8 (intIn v), ?_, by simp [hs]⟩
  apply List.ext_getElem?
  intro i
  by_cases hin : i < n
  · obtain ⟨z, hz, hw⟩ := hint i hin
    have hb := bounds_u8 hw
    simp [bytesV, hz, intIn, ← bd_of z hb.1 (by omega)]
  · rw [List.getElem?_eq_none (by omega), List.getElem?_eq_none (by simp [bytesV]; omega)]
theorem opens_sl {α : Type} {t e : TypeId} {s : Nat} {R : Rd α} (ht : P.underlying t = some (.slice e)) (hs : P.cellsOf e = s) (hpos : 0 < s) (he : Opens P e R) : Opens P t (rdSl s R) := fun {H} enc W fuel cs x h hlt => by
  rcases Deep.open_slice ht h with ⟨h0, _⟩ | ⟨a, len, cap, m, n, D, Pl, hcs, _, hl, hm, hmm, hx, hi⟩
  · exact ⟨[], none, 0, h0, by simp, fun _ => rfl, by simp, fun h => absurd rfl h⟩
  · simp only [if_true] at hmm
    subst hmm
    have hlt' : ∀ y ∈ MemPlace.row a (m * P.cellsOf e) ++ (List.range m).flatMap Pl, y.block < W.heap.size := by rw [hx] at hlt; exact hlt
    have hR : ∀ i, i < len → ∃ b, ∃ ds, W.cells? 0 (a.add (i * s)) s = some ds ∧ R W ds b := fun i hil => by
      obtain ⟨ds, h1, h2⟩ := hi i (by omega)
      rw [hs] at h1
      obtain ⟨b, hb⟩ := he enc W n ds _ h2 fun y hy => hlt' y (List.mem_append_right _ (List.mem_flatMap.2 ⟨i, List.mem_range.2 (by omega), hy⟩))
      exact ⟨b, ds, h1, hb⟩
    by_cases h0 : len = 0
    · subst h0
      refine ⟨[], some a, m, hcs, by simp, fun h => (by cases h), by simp, fun h => absurd rfl h⟩
    · obtain ⟨b0, _⟩ := hR 0 (by omega)
      have hinh : Inhabited α := ⟨b0⟩
      obtain ⟨Q, hQ⟩ := Deep.choose_lt (α := α) (n := len) (p := fun i q => ∃ ds, W.cells? 0 (a.add (i * s)) s = some ds ∧ R W ds q) hR
      have hql : ((List.range len).map Q).length = len := by simp
      refine ⟨(List.range len).map Q, some a, m, by rw [hql]; exact hcs, by rw [hql]; exact hl, fun h => (by cases h), by rw [hql]; omega, fun _ => ?_⟩
      obtain ⟨b, off, spot⟩ := a
      have hspot : spot = none := by
        obtain ⟨ds, h1, _⟩ := hQ 0 (by omega)
        obtain ⟨_, h3, h4⟩ := World.cells?_some h1
        have h5 := h4 0 hpos
        rw [List.getElem?_eq_getElem (by omega)] at h5
        simpa [Addr.add] using World.cell?_spot h5
      subst hspot
      refine ⟨b, off, rfl, hlt' (.cell b off) (List.mem_append_left _ (MemPlace.mem_row.2 ⟨0, by rw [hs]; exact Nat.mul_pos (by omega) hpos, by simp⟩)), fun k x hk => ?_⟩
      have hkl : k < len := by have := (List.getElem?_eq_some_iff.1 hk).1; omega
      obtain ⟨ds, h1, h2⟩ := hQ k hkl
      obtain ⟨_, h3, h4⟩ := World.cells?_some h1
      obtain rfl : Q k = x := by simpa [hkl] using hk
      refine ⟨ds, h3, fun j v hv => ?_, h2⟩
      have hj : j < s := by have := (List.getElem?_eq_some_iff.1 hv).1; omega
      have h5 := h4 j hj
      rw [hv, Addr.add_mid, Addr.add_mid] at h5
      exact h5
/- the fields of a struct from offset o on -/
def OpensF (P : Program) {β : Type} (fs : List Field) (o : Nat) (T : Rd β) : Prop :=
  ∀ {H : Type} (enc : TypeId × Value → H) (W : World) (n : Nat) (cs : List Value) (xs : List (DataW H × List MemPlace)), xs.length = fs.length →
    (∀ (i : Nat) (f : Field), fs[i]? = some f → DataW.trod enc P W 0 (fun _ => true) true n f.type ((cs.drop f.offset).take (P.cellsOf f.type)) = xs[i]?) → (∀ y ∈ xs.flatMap (·.2), y.block < W.heap.size) → cs.length = o + (fs.map fun f => P.cellsOf f.type).sum → ∃ b, T W (cs.drop o) b
theorem opensF_nil {o : Nat} : OpensF P [] o rdNil := fun _ _ _ _ _ _ _ _ hl => ⟨(), by
  unfold rdNil
  simp only [List.map_nil, List.sum_nil, Nat.add_zero] at hl
  rw [← hl, List.drop_length]⟩
theorem opensF_cons {α β : Type} {f : Field} {fs : List Field} {o s : Nat} {R : Rd α} {T : Rd β} (ho : f.offset = o) (hs : P.cellsOf f.type = s) (h : Opens P f.type R) (t : OpensF P fs (o + s) T) : OpensF P (f :: fs) o (rdCons s R T) := fun {H} enc W n cs xs hxl hf hlt hl => by
  cases xs with
  | nil => simp at hxl
  | cons x xs =>
    simp only [List.length_cons, Nat.add_right_cancel_iff] at hxl
    have h0 := hf 0 f rfl
    simp only [List.getElem?_cons_zero] at h0
    rw [ho, hs] at h0
    obtain ⟨a, ha⟩ := h enc W n _ x h0 fun y hy => hlt y (by simp [hy])
    simp only [List.map_cons, List.sum_cons, hs] at hl
    obtain ⟨b, hb⟩ := t enc W n cs xs hxl (fun i g hg => by have := hf (i + 1) g (by simpa using hg); simpa using this) (fun y hy => hlt y (by simp only [List.flatMap_cons, List.mem_append]; exact .inr hy)) (by omega)
    refine ⟨(a, b), (cs.drop o).take s, cs.drop (o + s), ?_, by rw [List.length_take, List.length_drop]; omega, ha, hb⟩
    rw [← List.drop_drop, List.take_append_drop]
theorem opens_struct {β : Type} {t : TypeId} {fs : Array Field} {T : Rd β} (ht : P.underlying t = some (.struct fs)) (hc : P.cellsOf t = (fs.toList.map fun f => P.cellsOf f.type).sum) (h : OpensF P fs.toList 0 T) : Opens P t T := fun {H} enc W fuel cs x hx hlt => by
  obtain ⟨xs, n, _, hy, hlen, hyl, hf⟩ := DataW.trod_struct ht hx
  subst hy
  obtain ⟨b, hb⟩ := h enc W n cs xs (by rw [hyl]; exact Array.length_toList.symm) (fun i f hi => hf i f (by rw [← Array.getElem?_toList]; exact hi)) hlt (by rw [hlen, hc, Nat.zero_add])
  exact ⟨b, by simpa using hb⟩
end
/- an argument of a card -/
theorem open_arg {P : Program} {α : Type} {t : TypeId} {R : Rd α} (h : Opens P t R) {H : Type} {enc : TypeId × Value → H} {W : World} {v : Value} {d : DataW H} {ps : List MemPlace} (hT : DataW.Trod enc P W 0 (fun _ => true) true t v d ps) (hlt : ∀ y ∈ ps, y.block < W.heap.size) : ∃ a, R W v.cells.toList a := by
  obtain ⟨fuel, hf⟩ := hT
  exact h enc W fuel _ _ hf hlt
theorem okWide_rec {P : Program} {w : World} {r : Reach} {base : Nat} {t : TypeId} {fs : Array Field} {v : Value} (ht : P.underlying t = some (.struct fs)) (h : Value.okWide P w r base t v) : ∃ cs, v = .agg cs := by
  simp only [Value.okWide, ht] at h
  cases v <;> simp_all
/- an argument that is a struct -/
theorem open_argRec {P : Program} {α : Type} {t : TypeId} {fs : Array Field} {R : Rd α} (ht : P.underlying t = some (.struct fs)) (ho : Opens P t R) {H : Type} {enc : TypeId × Value → H} {W : World} {r : Reach} {base : Nat} {v : Value} {d : DataW H} {ps : List MemPlace} (hval : Value.okWide P W r base t v) (hT : DataW.Trod enc P W 0 (fun _ => true) true t v d ps) (hlt : ∀ y ∈ ps, y.block < W.heap.size) : ∃ cs x, v = .agg cs.toArray ∧ R W cs x := by
  obtain ⟨cs, rfl⟩ := okWide_rec ht hval
  obtain ⟨x, hx⟩ := open_arg ho hT hlt
  exact ⟨cs.toList, x, by simp, by simpa [Value.cells] using hx⟩
/- slices of bytes as these readers have them -/
theorem rdSl_item {w : World} {u : Value} {q : List (BitVec 8)} (h : rdSl 1 rdU8 w [u] q) : Item w u q := by
  obtain ⟨A, c, h1, h2, h3, h4, h5⟩ := h
  injection h1 with h1 _
  refine ⟨A, c, h1, ⟨A, c, rfl, h2, fun hne => ?_⟩, h3, h4⟩
  obtain ⟨b, o, h6, h7, h8⟩ := h5 hne
  refine ⟨b, o, h6, h7, fun j x hx => ?_⟩
  obtain ⟨ds, _, h9, h10⟩ := h8 j x hx
  have := h9 0 (.int .u8 (bd x)) (by rw [h10]; rfl)
  simpa using this
end Go.Proofs.YtcheflcfoiclgaaDoor

/- Arguments of words (uint32, uint16, arrays of them) opened. No function of the program is named here. -/
set_option maxRecDepth 4000
namespace Go.Proofs.YtcheflcfoiclgaaDoor
open Go Go.ChangeShapes Go.WideShapes Go.ChangeAt Go.RowKit
def rdU32 : Rd (BitVec 32) := fun _ cs x => cs = [.int .u32 (wd x)]
theorem bounds_u32L {n : Int} (h : (Lit.int .u32 n).wf = true) : 0 ≤ n ∧ n < 4294967296 := by
  simp only [Lit.wf, Bool.and_eq_true, decide_eq_true_eq] at h
  have h1 : IntKind.u32.min = 0 := by decide
  have h2 : IntKind.u32.max = 4294967295 := by decide
  omega
theorem opens_u32 {P : Program} {t : TypeId} (ht : P.underlying t = some (.int .u32)) : Opens P t rdU32 := fun _ _ _ _ _ h _ => by
  obtain ⟨n, h1, _, h2⟩ := DataW.trod_int ht h
  have hb := bounds_u32L h2
  exact ⟨BitVec.ofInt 32 n, by unfold rdU32; rw [h1, ← wd_of n hb.1 hb.2]⟩
end Go.Proofs.YtcheflcfoiclgaaDoor

/- Integers that are handed in, as plain numbers. -/
set_option maxRecDepth 4000
namespace Go.Proofs.YtcheflcfoiclgaaDoor
open Go Go.RowKit
end Go.Proofs.YtcheflcfoiclgaaDoor
