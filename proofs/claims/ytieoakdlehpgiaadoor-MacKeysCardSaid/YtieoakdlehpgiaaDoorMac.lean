/- The tag of all parts by a key. -/
import Derived.Test.YtieoakdlehpgiaaDoorBehind
import Derived.Test.YtieoakdlehpgiaaDoorBlock
import Derived.Test.YtieoakdlehpgiaaDoorTurned
import Derived.Test.YtieoakdlehpgiaaDoorRefH
namespace Go.Proofs.YtieoakdlehpgiaaDoor
open Go Go.RowKit
theorem anyH_two {P : Program} {md : Region.Mode} {ops : Array Oper} {Q : Exit → Act → World → Prop} {S : World → Prop} {i j : Nat} {oi oj : Oper} {fuel : Nat} {listed : Array Bool} {a : Act} {w : World} (hr : Region.ready md ops listed = [i, j]) (hi : ops[i]? = some oi) (hj : ops[j]? = some oj)
    (h1 : ∀ K' : Act → World → Prop, (∀ a w, S w → wpAnyH P md ops Q S fuel (listed.setIfInBounds i true) a w → K' a w) → if Region.wanted oi (yielded ops a.tmps) = true then Oper.wp P oi a w K' Q else K' (a.put oi.dst undef) w)
    (h2 : ∀ K' : Act → World → Prop, (∀ a w, S w → wpAnyH P md ops Q S fuel (listed.setIfInBounds j true) a w → K' a w) → if Region.wanted oj (yielded ops a.tmps) = true then Oper.wp P oj a w K' Q else K' (a.put oj.dst undef) w) : wpAnyH P md ops Q S (fuel + 1) listed a w :=
  wpAnyH_all hr (by simp) fun k hk => by
    have hk' : k = i ∨ k = j := by simpa using hk
    rcases hk' with rfl | rfl
    · exact wpOp_step hi (fun K hK => h1 K fun a w h1 h2 => hK a w ⟨h1, h2⟩)
    · exact wpOp_step hj (fun K hK => h2 K fun a w h1 h2 => hK a w ⟨h1, h2⟩)
/- what stands while the outer hash is made -/
def MR (w : World) (g5 g6 : Nat) (B D : List (BitVec 8)) (W : World) : Prop := (∃ C : List (BitVec 8), C.length = 32 ∧ Row W w.heap.size 27 (bs C)) ∧ Row W g5 31 (bs B) ∧ Row W g6 27 (bs D) ∧ Tab W ∧ Below w.heap.size w W
theorem MR.call {w W W' : World} {g5 g6 : Nat} {B D : List (BitVec 8)} (h : MR w g5 g6 B D W) (hb : Below W.heap.size W W') : MR w g5 g6 B D W' :=
  ⟨by obtain ⟨C, h1, h2⟩ := h.1; exact ⟨C, h1, h2.call hb⟩, h.2.1.call hb, h.2.2.1.call hb, h.2.2.2.1.below hb h.2.2.2.1.pos, h.2.2.2.2.trans (hb.mono h.2.2.2.2.size)⟩
theorem MR.alloc {w W : World} {g5 g6 : Nat} {B D : List (BitVec 8)} (h : MR w g5 g6 B D W) (o : Obj) : MR w g5 g6 B D (W.alloc o) := h.call ((Below.refl _ _).alloc (Nat.le_refl _) _)
theorem MR.drew {w W : World} {g5 g6 : Nat} {B D : List (BitVec 8)} (h : MR w g5 g6 B D W) : MR w g5 g6 B D W.drew := ⟨h.1, h.2.1, h.2.2.1, h.2.2.2.1, h.2.2.2.2.drew⟩
theorem MR.rb {w W : World} {g5 g6 : Nat} {B D : List (BitVec 8)} (h : MR w g5 g6 B D W) : W.rangeAt g5 0 (bs B).toList := fun j v hv => by rw [Nat.zero_add, h.2.1.cell]; simpa using hv
theorem MR.put {w W : World} {g5 g6 : Nat} {B D : List (BitVec 8)} (h : MR w g5 g6 B D W) (h0 : 0 < w.heap.size) (h5 : w.heap.size < g5) (h6 : w.heap.size < g6) (C : List (BitVec 8)) (hC : C.length = 32) : MR w g5 g6 B D (W.setRow w.heap.size (bs C)) := by
  obtain ⟨⟨C0, _, h1⟩, h2, h3, h4, h5'⟩ := h
  have hb := below_setRow h5' (Nat.le_refl _) (bs C)
  refine ⟨⟨C, hC, h1.setRow _⟩, h2.setRow_far (by omega) _, h3.setRow_far (by omega) _, fun i hi => ?_, hb⟩
  exact (cell_setRow_other W w.heap.size _ ⟨0, i, none⟩ (Nat.ne_of_lt h0)).trans (h4 i hi)
theorem MR.dig {w W : World} {g5 g6 : Nat} {B D : List (BitVec 8)} (h : MR w g5 g6 B D W) (hD : D.length = 32) : Slice W (.slice (some ⟨g6, 0, none⟩) 32 32) D := by
  have h1 := row_slice h.2.2.1 (c := 32) (by rw [hD]; exact Nat.le_refl _)
  rw [hD] at h1; exact h1
theorem behind_one (l q : List (BitVec 8)) (v : Value) (w : World) (hT : Tab w) (hl : l.length = 64) (hv : Parts w v [q]) (hq : q.length = 32) (D : List (BitVec 8)) (hD : sha (l ++ q) = D) :
    Calls Tryd.prog 15 #[.agg (bs l), v] w fun e w' => e = .returned (.agg (bs D)) ∧ Below w.heap.size w w' := by
  subst hD
  have h := behind_any l [q] v w hT hl hv (fun n c e => by obtain ⟨A, c', h1, h2⟩ := hv; subst e; injection h1 with h1 _ _; obtain ⟨_, _, h3, _⟩ := h2 (by simp); rw [← h1] at h3; cases h3) (by simp) (by simp; omega)
  rwa [show ([q] : List (List (BitVec 8))).flatten = q by simp] at h
theorem turned_lit (l : List (BitVec 8)) (x : BitVec 8) (z : Int) (hz : bd x = z) (hl : l.length = 64) (w : World) :
    Calls Tryd.prog 16 #[.agg (bs l), .int .u8 z] w fun e w' => e = .returned (.agg (bs (turnBy x l))) ∧ Below w.heap.size w w' := by
  subst hz; exact turned_any l x hl w
set_option maxHeartbeats 1600000 in
theorem mac_any (key : List (BitVec 8)) (ps : List (List (BitVec 8))) (kv v : Value) (w : World) (hT : Tab w) (hk : Slice w kv key) (hkl : key.length < 2147483648) (hv : Parts w v ps) (hnil : ∀ n c, v = .slice none n c → c = 0) (hn : ps.length ≤ 1000000) (hlen : ps.flatten.length ≤ 1000000000) :
    Calls Tryd.prog 8 #[kv, v] w fun e w' => e = .returned (.agg (bs (tagOf key ps.flatten))) ∧ Below w.heap.size w w' := by
  have HT := Lib.hid hT
  have HK := Lib.hid hk
  have HV := Lib.hid hv
  have HNIL := Lib.hid hnil
  have HLEN := Lib.hid hlen
  obtain ⟨Ak, ck, rfl, _⟩ := hk
  obtain ⟨A, c, rfl, _⟩ := hv
  have HB : Hid ((blockOf key).length = 64) := Lib.hid (length_blockOf key)
  have HI : Hid ((sha (turnBy 0x36#8 (blockOf key) ++ ps.flatten)).length = 32) := Lib.hid (length_sha _)
  have HO : Hid (sha (turnBy 0x5c#8 (blockOf key) ++ sha (turnBy 0x36#8 (blockOf key) ++ ps.flatten)) = tagOf key ps.flatten) := Lib.hid rfl
  have HTL : Hid ((tagOf key ps.flatten).length = 32) := Lib.hid (length_tagOf _ _)
  clear hT hnil hlen
  generalize tagOf key ps.flatten = TG at *
  go_enter Tryd.func8, Tryd.ntmps8
  go_wp2_with fail
  have hb0 : Below w.heap.size w (w.alloc (.cells (bs (zer 32)) 27)) := (Below.refl _ _).alloc (Nat.le_refl _) _
  refine (block_any key _ (w.alloc (.cells (bs (zer 32)) 27)) (HT.out.below hb0 HT.out.pos) (HK.out.below hb0 (Nat.le_refl _)) hkl).mono ?_
  rintro e w1 ⟨rfl, hb1⟩
  have r4 := (Row.fresh w 27 (bs (zer 32))).call hb1
  have hb01 : Below w.heap.size w w1 := hb0.trans (hb1.mono (by simp))
  clear hb0 hb1
  generalize hBk : blockOf key = B at *
  clear hBk
  go_wp2_with (first | (refine wpList_store_row rfl 31 _ _ rfl w1.heap.size (bs B) rfl rfl 31 _ (Row.fresh _ _ _) (by rw [size_bs, HB.out]; exact size_b) (by rw [size_bs, HB.out]; rfl) (one_bs _) ?_; rw [World.setRow_alloc_new]) | (refine wpList_load_row rfl 31 (.tmp 5) rfl w1.heap.size rfl 31 (bs B) (0, 0) _ (Row.fresh _ _ _) Tryd.underlying31 rfl (by rw [size_bs, HB.out]; exact size_b) ?_))
  refine (turned_lit B 0x36#8 54 rfl HB.out _).mono ?_
  rintro e w2 ⟨rfl, hb2⟩
  have r42 := (r4.alloc (.cells (bs B) 31)).call hb2
  have r52 := (Row.fresh w1 31 (bs B)).call hb2
  have hb02 : Below w.heap.size w w2 := (hb01.alloc hb01.size _).trans (hb2.mono (Nat.le_trans hb01.size (by simp)))
  clear hb01 hb2
  go_wp2_with fail
  refine (behind_any (turnBy 0x36#8 B) ps _ w2 (HT.out.below hb02 HT.out.pos) (by rw [length_turnBy]; exact HB.out) (HV.out.below hb02 (Nat.le_refl _)) HNIL.out hn HLEN.out).mono ?_
  rintro e w3 ⟨rfl, hb3⟩
  generalize sha (turnBy 0x36#8 B ++ ps.flatten) = D at *
  have r43 := r42.call hb3
  have r53 := r52.call hb3
  have hb03 : Below w.heap.size w w3 := hb02.trans (hb3.mono hb02.size)
  clear r42 r52 hb02 hb3
  go_wp2_with (first | (refine wpList_store_row rfl 27 _ _ rfl w3.heap.size (bs D) rfl rfl 27 _ (Row.fresh _ _ _) (by rw [size_bs, HI.out]; exact size_d) (by rw [size_bs, HI.out]; rfl) (one_bs _) ?_; rw [World.setRow_alloc_new]))
  have hbx := hb03.alloc hb03.size (.cells (bs D) 27)
  have M0 : MR w w1.heap.size w3.heap.size B D (w3.alloc (.cells (bs D) 27)) := ⟨⟨_, rfl, r43.alloc _⟩, r53.alloc _, Row.fresh _ _ _, HT.out.below hbx HT.out.pos, hbx⟩
  have S0 := M0.drew
  have h51 : w.heap.size < w1.heap.size := r4.lt
  have h61 : w.heap.size < w3.heap.size := r43.lt
  clear r43 r53 hb03 hbx M0 r4
  have H31 : Hid ((Tryd.prog.info? 31).map (·.size) = some (bs B).toList.length) := Lib.hid (by rw [len_bs, HB.out]; exact size_b)
  have HS : Hid ((Tryd.prog.info? 27).map (·.size) = some (bs TG).size) := Lib.hid (by rw [size_bs, HTL.out]; exact size_d)
  generalize w3.alloc (.cells (bs D) 27) = w4 at *
  refine wp_region_held (S := MR w w1.heap.size w3.heap.size B D) (by kernel_rfl) ?_
  change wpAnyH _ _ _ _ _ _ _ _ w4.drew
  generalize w4.drew = w5 at *
  refine wpAnyH_take (i := 0) (oi := { dst := some 13, op := _, type := _, pos := _, after := _, guard := none }) (v := .agg (bs B)) rfl (by kernel_rfl) (by kernel_rfl) (by kernel_rfl) (fun _ _ _ h => h) (by rw [show (Value.agg (bs B)) = .agg (bs B).toList.toArray by simp]; exact yieldsIf_load_mid rfl 31 _ rfl w1.heap.size 0 rfl (bs B).toList _ (fun W hW => MR.rb hW) Tryd.underlying31 rfl H31.out) S0 ?_
  simp only [Act.put, List.setIfInBounds_toArray, List.set_cons_succ, List.set_cons_zero]
  refine wpAnyH_take (i := 2) (oi := { dst := some 15, op := _, type := _, pos := _, after := _, guard := none }) (v := .slice (some ⟨w3.heap.size, 0, none⟩) 32 32) rfl (by kernel_rfl) (by kernel_rfl) (by kernel_rfl) (fun _ _ _ h => h) (Or.inl ⟨by rfl, fun _ _ => by go_simp⟩) S0 ?_
  simp only [Act.put, List.setIfInBounds_toArray, List.set_cons_succ, List.set_cons_zero]
  refine anyH_two (i := 1) (j := 3) (oi := { dst := some 14, op := _, type := _, pos := _, after := _, guard := none }) (oj := { dst := some 16, op := _, type := _, pos := _, after := _, guard := none }) (by kernel_rfl) rfl rfl (fun K hK => ?_) (fun K hK => ?_)
  · go_simp
    refine (turned_lit B 0x5c#8 92 rfl HB.out w5).mono ?_
    rintro e wA ⟨rfl, hbA⟩
    have SA := S0.call hbA
    refine hK _ _ SA ?_
    clear hK K
    refine anyH_one (i := 3) (o := { dst := some 16, op := _, type := _, pos := _, after := _, guard := none }) (by kernel_rfl) rfl (fun K hK => ?_)
    go_simp
    have hP := parts1 (SA.dig HI.out)
    have SB := SA.alloc (.cells #[.slice (some ⟨w3.heap.size, 0, none⟩) 32 32] 22)
    generalize wA.heap.size = gx at *
    generalize wA.alloc (.cells #[.slice (some ⟨w3.heap.size, 0, none⟩) 32 32] 22) = wB at *
    refine hK _ _ SB ?_
    clear hK K
    refine anyH_one (i := 4) (o := { dst := some 17, op := _, type := _, pos := _, after := _, guard := none }) (by kernel_rfl) rfl (fun K hK => ?_)
    go_simp
    refine (behind_one (turnBy 0x5c#8 B) D _ wB SB.2.2.2.1 (by rw [length_turnBy]; exact HB.out) hP HI.out TG HO.out).mono ?_
    rintro e wC ⟨rfl, hbC⟩
    have SC := SB.call hbC
    refine hK _ _ SC ?_
    clear hK K
    obtain ⟨C0, hC0, hr0⟩ := SC.1
    refine anyH_one (i := 5) (o := { dst := none, op := _, type := _, pos := _, after := _, guard := none }) (by kernel_rfl) rfl (fun K hK => ?_)
    rw [if_pos (by rfl)]
    refine wp_store_row 27 _ _ rfl w.heap.size (bs TG) rfl rfl 27 _ hr0 HS.out (by rw [size_bs, size_bs, HTL.out]; exact hC0) (one_bs _) ?_
    refine hK _ _ (SC.put HT.out.pos h51 h61 TG HTL.out) ?_
    clear hK K
    refine wpAnyH_done (by kernel_rfl) ?_ _
    go_wp2_with fail
    exact bodyPost_ret (v := .agg (bs TG)) (results_cell_row Tryd.results8 _ _ w.heap.size 27 (bs TG) (0, 0) _ rfl (hr0.setRow _) Tryd.underlying27 rfl HS.out) rfl ⟨rfl, below_setRow SC.2.2.2.2 (Nat.le_refl _) _⟩
  · go_simp
    have hP0 := parts1 (S0.dig HI.out)
    have SA := S0.alloc (.cells #[.slice (some ⟨w3.heap.size, 0, none⟩) 32 32] 22)
    generalize w5.heap.size = gx at *
    generalize w5.alloc (.cells #[.slice (some ⟨w3.heap.size, 0, none⟩) 32 32] 22) = wA at *
    refine hK _ _ SA ?_
    clear hK K
    refine anyH_one (i := 1) (o := { dst := some 14, op := _, type := _, pos := _, after := _, guard := none }) (by kernel_rfl) rfl (fun K hK => ?_)
    go_simp
    refine (turned_lit B 0x5c#8 92 rfl HB.out wA).mono ?_
    rintro e wB ⟨rfl, hbB⟩
    have SB := SA.call hbB
    have hP := hP0.below hbB (Nat.le_refl _)
    refine hK _ _ SB ?_
    clear hK K
    refine anyH_one (i := 4) (o := { dst := some 17, op := _, type := _, pos := _, after := _, guard := none }) (by kernel_rfl) rfl (fun K hK => ?_)
    go_simp
    refine (behind_one (turnBy 0x5c#8 B) D _ wB SB.2.2.2.1 (by rw [length_turnBy]; exact HB.out) hP HI.out TG HO.out).mono ?_
    rintro e wC ⟨rfl, hbC⟩
    have SC := SB.call hbC
    refine hK _ _ SC ?_
    clear hK K
    obtain ⟨C0, hC0, hr0⟩ := SC.1
    refine anyH_one (i := 5) (o := { dst := none, op := _, type := _, pos := _, after := _, guard := none }) (by kernel_rfl) rfl (fun K hK => ?_)
    rw [if_pos (by rfl)]
    refine wp_store_row 27 _ _ rfl w.heap.size (bs TG) rfl rfl 27 _ hr0 HS.out (by rw [size_bs, size_bs, HTL.out]; exact hC0) (one_bs _) ?_
    refine hK _ _ (SC.put HT.out.pos h51 h61 TG HTL.out) ?_
    clear hK K
    refine wpAnyH_done (by kernel_rfl) ?_ _
    go_wp2_with fail
    exact bodyPost_ret (v := .agg (bs TG)) (results_cell_row Tryd.results8 _ _ w.heap.size 27 (bs TG) (0, 0) _ rfl (hr0.setRow _) Tryd.underlying27 rfl HS.out) rfl ⟨rfl, below_setRow SC.2.2.2.2 (Nat.le_refl _) _⟩
end Go.Proofs.YtieoakdlehpgiaaDoor
