/- Merged: Step Digs CopyB Chain RefStep RefChain Read OpenN KeepB Mod. -/
import Derived.ChangeShapes
import Derived.Test.YtbhmgnhiglpmhaaDoorMGen0
/- The step of a chain: the hash of a hash and parts. -/
set_option maxRecDepth 4000
namespace Go.Proofs.YtbhmgnhiglpmhaaDoor
open Go Go.RowKit
set_option maxHeartbeats 1600000 in
theorem tagstep_any (l : List (BitVec 8)) (ps : List (List (BitVec 8))) (v : Value) (w : World) (hT : Tab w) (hl : l.length = 32) (hv : Parts w v ps) (hnil : ∀ n c, v = .slice none n c → c = 0) (hn : ps.length ≤ 1000000) (hlen : ps.flatten.length ≤ 1000000000) :
    Calls Tryd.prog 24 #[.agg (bs l), v] w fun e w' => e = .returned (.agg (bs (sha (l ++ ps.flatten)))) ∧ Below w.heap.size w w' := by
  obtain ⟨i1, hi1, hz10, hz11, hz12⟩ := info_parts info_sl
  obtain ⟨A, c, us, rfl, hul, huc, hun, huo, hus⟩ := hv.list
  have HT := Lib.hid hT
  have HL := Lib.hid hl
  have HUC := Lib.hid huc
  have HUS := Lib.hid hus
  have HUN : Hid (A = none → ps.length = 0 ∧ c = 0) := Lib.hid fun h => ⟨by rw [hun h]; rfl, hnil _ _ (by rw [h])⟩
  have HUO := Lib.hid huo
  have HF : Hid (sha (l :: ps).flatten = sha (l ++ ps.flatten)) := Lib.hid (by rw [List.flatten_cons])
  have HFL : Hid ((l :: ps).flatten.length < 2147483648) := Lib.hid (by rw [List.flatten_cons, List.length_append, hl]; omega)
  have HD : Hid ((sha (l ++ ps.flatten)).length = 32) := Lib.hid (length_sha _)
  clear hT hl huc hus hun hnil hv huo hlen
  have r0 : Row ((w.alloc (.cells (bs l) 24)).alloc (.cells (bs (zer 32)) 24)) w.heap.size 24 (bs l) := (Row.fresh _ _ _).alloc _
  have r1 : Row ((w.alloc (.cells (bs l) 24)).alloc (.cells (bs (zer 32)) 24)) (w.heap.size + 1) 24 (bs (zer 32)) := row2b _ _ _ _
  have hb1 : Below w.heap.size w ((w.alloc (.cells (bs l) 24)).alloc (.cells (bs (zer 32)) 24)) := ((Below.refl _ _).alloc (Nat.le_refl _) _).alloc (by simp) _
  have hs1 : ((w.alloc (.cells (bs l) 24)).alloc (.cells (bs (zer 32)) 24)).heap.size = w.heap.size + 1 + 1 := by simp
  generalize sha (l ++ ps.flatten) = D at *
  go_enter Tryd.func24, Tryd.ntmps24
  go_wp2_with (first
    | (at_make; refine wpList_make_own ((w.alloc (.cells (bs l) 24)).alloc (.cells (bs (zer 32)) 24)) rfl _ _ 67 rfl (w.heap.size + 1 + 1) 35 i1 (.slice none 0 0) 1 Tryd.underlying67 hi1 hz10 hz11 .i64 .i64 _ (1 + ps.length) rfl rfl (by omega) (by rw [hz12]; omega) (by unfold maxLen; omega) (by rw [hs1]; exact Nat.le_refl _) ?_; intro w2 own2 hg2; rw [hs1] at own2; have hq2 := below_of_grown (base := w.heap.size + 1 + 1) hg2 (fun g e => by cases e) (by rw [hs1]; exact Nat.le_refl _); have r02 := r0.below hq2 (by omega); have r12 := r1.below hq2 (by omega); have hb2 := hb1.trans (hq2.mono (by omega)); have hs2 := Nat.le_trans (Nat.le_of_eq hs1.symm) hg2.size; clear r0 r1 hb1 hg2 hq2)
    | (at_builtin; refine wpList_append_fits _ rfl (.tmp 10) (.tmp 12) 67 rfl (w.heap.size + 1 + 1) 35 i1 1 Tryd.underlying67 hi1 hz11 (w.heap.size + 1 + 1) 0 (1 + ps.length) [] rfl (own2.alloc _) ⟨w2.heap.size, 0, none⟩ 1 1 [.slice (some ⟨w.heap.size, 0, none⟩) 32 32] rfl rfl (cell_one_new _ _ _) (fun x hx => by simp at hx; subst hx; rfl) (by omega) ?_; intro w3 own3 hg3; simp only [Nat.zero_add, List.nil_append] at own3; have r03 := (r02.alloc _).only hg3 (by omega); have r13 := (r12.alloc _).only hg3 (by omega); have hb3 := (hb2.alloc hb2.size _).trans (below_only hg3 (by omega) (Nat.le_trans hb2.size (by simp))); have HC3 : Hid (∀ ad, A = some ad → ∀ (j : Nat) (u : Value), us[j]? = some u → w3.cell? (ad.add j) = some u) := Lib.hid (fun ad e j u hu => (hb3.cell (World.block_lt_of_cell? w _ (HUC.out ad e j u hu))).trans (HUC.out ad e j u hu)); clear own2 r02 r12 hb2 hg3 hs2)
    | (at_builtin; refine wpList_append_fits_any _ rfl (.tmp 14) (.tmp 15) 67 rfl (w.heap.size + 1 + 1) 35 i1 1 Tryd.underlying67 hi1 hz11 (w.heap.size + 1 + 1) 1 (1 + ps.length) [.slice (some ⟨w.heap.size, 0, none⟩) 32 32] rfl own3 A ps.length c us rfl (by omega) HUN.out HC3.out HUO.out (by omega) ?_; intro w4 own4 hg4; have r04 := r03.only hg4 (by omega); have r14 := r13.only hg4 (by omega); have hb4 := hb3.trans (below_only hg4 (by omega) hb3.size); clear own3 r03 r13 hb3 hg4 HC3))
  have hs32 : Slice w4 (.slice (some ⟨w.heap.size, 0, none⟩) 32 32) l := by
    have h := row_slice r04 (c := 32) (by rw [HL.out]; exact Nat.le_refl _)
    rw [HL.out] at h; exact h
  have hP := parts_own own4 (ps := ps) (by omega) hs32 (fun k q hq => by
    obtain ⟨u, h1, h2⟩ := HUS.out k q hq
    exact ⟨u, h1, h2.below hb4 (Nat.le_refl _)⟩)
  refine (sum_any (l :: ps) _ w4 (HT.out.below hb4 HT.out.pos) hP (by simp; omega) HFL.out).mono ?_
  rintro e w5 ⟨rfl, hb5⟩
  rw [HF.out]
  have r15 := r14.call hb5
  have hb05 := hb4.trans (hb5.mono hb4.size)
  have HS : Hid ((Tryd.prog.info? 24).map (·.size) = some (bs D).size) := Lib.hid (by rw [size_bs, HD.out]; exact size_d)
  clear hs32 hP r04 r14 hb4 hb5 own4
  go_wp2_with (first | (refine wpList_store_row rfl 24 _ _ rfl (w.heap.size + 1) (bs D) rfl rfl 24 _ r15 HS.out (by rw [size_bs, size_bs, HD.out]; rfl) (one_bs _) ?_))
  exact bodyPost_ret (v := .agg (bs D)) (results_cell_row Tryd.results24 _ _ (w.heap.size + 1) 24 (bs D) (0, 0) _ rfl (r15.setRow _) Tryd.underlying24 rfl HS.out) rfl ⟨rfl, below_setRow hb05 (by omega) _⟩
end Go.Proofs.YtbhmgnhiglpmhaaDoor

/- Slices of hashes: what they hold, and how they are built. -/
set_option maxRecDepth 4000
namespace Go.Proofs.YtbhmgnhiglpmhaaDoor
open Go Go.RowKit
theorem info_d : (Tryd.prog.info? 24).map (fun i => (i.zero, i.size, i.bytes)) = some (some (.agg (bs (zer 32))), 32, 32) := by kernel_rfl
theorem info_parts4 {t : TypeId} {z : Option Value} {s b : Nat} (h : (Tryd.prog.info? t).map (fun i => (i.zero, i.size, i.bytes)) = some (z, s, b)) : ∃ i, Tryd.prog.info? t = some i ∧ i.zero = z ∧ i.size = s ∧ i.bytes = b := by
  cases hi : Tryd.prog.info? t with
  | none => rw [hi] at h; cases h
  | some i => rw [hi] at h; simp at h; exact ⟨i, rfl, h.1, h.2.1, h.2.2⟩
/- a slice value that reads as these hashes -/
def Digs (w : World) (v : Value) (ds : List (List (BitVec 8))) : Prop :=
  ∃ A c, v = .slice A ds.length c ∧ (ds ≠ [] → ∃ b o, A = some ⟨b, o, none⟩ ∧ b < w.heap.size ∧ ∀ (j : Nat) (d : List (BitVec 8)), ds[j]? = some d → w.rangeAt b (o + j * 32) (bs d).toList)
theorem Digs.below {w w' : World} {B : Nat} {v : Value} {ds : List (List (BitVec 8))} (h : Digs w v ds) (hb : Below B w w') (hB : w.heap.size ≤ B) : Digs w' v ds := by
  obtain ⟨A, c, h1, h3⟩ := h
  refine ⟨A, c, h1, fun hne => ?_⟩
  obtain ⟨b, o, h4, h5, h6⟩ := h3 hne
  exact ⟨b, o, h4, Nat.lt_of_lt_of_le h5 hb.size, fun j d hd k v hv => (hb.cell (p := ⟨b, o + j * 32 + k, none⟩) (Nat.lt_of_lt_of_le h5 hB)).trans (h6 j d hd k v hv)⟩
theorem own_digs {w : World} {base : Nat} {v : Value} {ds : List (List (BitVec 8))} (h : w.ownsRow base 24 32 v ds.length (digsV ds)) (hd : ∀ d ∈ ds, d.length = 32) : Digs w v ds := by
  rcases h.2 with ⟨rfl, h0⟩ | ⟨g, cap, cur, rfl, hg, hh, hc, _, hs, ht⟩
  · have : ds = [] := List.length_eq_zero_iff.1 h0
    subst this
    exact ⟨none, 0, rfl, fun h => absurd rfl h⟩
  · refine ⟨_, cap, rfl, fun _ => ⟨g, 0, rfl, (h.lt g rfl).2, fun j d hj k u hu => ?_⟩⟩
    have hx := digsV_get ds hd j d hj k u hu
    rw [Nat.zero_add, cell_of_row w g _ cur _ _ hh]
    rw [← ht, List.getElem?_take] at hx
    split at hx
    · simpa using hx
    · cases hx
theorem one_bsL (d : List (BitVec 8)) : ∀ u ∈ (bs d).toList, Value.oneCell' u = true := fun u hu => by
  simp [bs] at hu
  obtain ⟨x, _, rfl⟩ := hu
  rfl
theorem digsV_snoc (ds : List (List (BitVec 8))) (d : List (BitVec 8)) : digsV (ds ++ [d]) = digsV ds ++ (bs d).toList := by simp [digsV]
theorem run_build_dig32 (w : World) (x0 x1 x2 x3 x4 x5 x6 x7 x8 x9 x10 x11 x12 x13 x14 x15 x16 x17 x18 x19 x20 x21 x22 x23 x24 x25 x26 x27 x28 x29 x30 x31 : BitVec 8) : (Instr.buildSlice 75 1 #[(0, .agg (bs [x0, x1, x2, x3, x4, x5, x6, x7, x8, x9, x10, x11, x12, x13, x14, x15, x16, x17, x18, x19, x20, x21, x22, x23, x24, x25, x26, x27, x28, x29, x30, x31]))]).run Tryd.prog w = .ok (.slice (some ⟨w.heap.size, 0, none⟩) 1 1) (w.alloc (.cells (bs [x0, x1, x2, x3, x4, x5, x6, x7, x8, x9, x10, x11, x12, x13, x14, x15, x16, x17, x18, x19, x20, x21, x22, x23, x24, x25, x26, x27, x28, x29, x30, x31]) 24)) := by kernel_rfl
theorem run_build_dig (w : World) (d : List (BitVec 8)) (hd : d.length = 32) : (Instr.buildSlice 75 1 #[(0, .agg (bs d))]).run Tryd.prog w = .ok (.slice (some ⟨w.heap.size, 0, none⟩) 1 1) (w.alloc (.cells (bs d) 24)) := by
  match d, hd with
  | [x0, x1, x2, x3, x4, x5, x6, x7, x8, x9, x10, x11, x12, x13, x14, x15, x16, x17, x18, x19, x20, x21, x22, x23, x24, x25, x26, x27, x28, x29, x30, x31], _ => exact run_build_dig32 w x0 x1 x2 x3 x4 x5 x6 x7 x8 x9 x10 x11 x12 x13 x14 x15 x16 x17 x18 x19 x20 x21 x22 x23 x24 x25 x26 x27 x28 x29 x30 x31
theorem wp_build_dig {o : Oper} {a : Act} {w : World} {K : Act → World → Prop} {Q : Exit → Act → World → Prop} (x : Operand) (ho : o.op = .buildSlice 75 1 #[(0, x)]) (d : List (BitVec 8)) (hx : a.eval x = .agg (bs d)) (hd : d.length = 32)
    (h : K (a.put o.dst (.slice (some ⟨w.heap.size, 0, none⟩) 1 1)) (w.alloc (.cells (bs d) 24))) : o.wp Tryd.prog a w K Q := by
  unfold Oper.wp execOp
  simp only [ho, List.map_toArray, List.map_cons, List.map_nil, hx, Sem.run_bind, run_build_dig w d hd, Result.andThen_ok, Sem.run_pure]
  exact h
theorem wpList_build_dig {ops : Array Oper} {rest : List Oper} {o : Oper} {a : Act} {w : World} {Q : Exit → Act → World → Prop} (hgd : o.guard = none) (x : Operand) (ho : o.op = .buildSlice 75 1 #[(0, x)]) (d : List (BitVec 8)) (hx : a.eval x = .agg (bs d)) (hd : d.length = 32)
    (h : wpList Tryd.prog ops Q rest (a.put o.dst (.slice (some ⟨w.heap.size, 0, none⟩) 1 1)) (w.alloc (.cells (bs d) 24))) : wpList Tryd.prog ops Q (o :: rest) a w :=
  wpList_plain hgd fun _ hK => wp_build_dig x ho d hx hd (hK _ _ h)
/- a literal of one hash -/
theorem lit_dig (w : World) (d : List (BitVec 8)) (t : TypeId) : ∀ (j : Nat) (u : Value), (bs d).toList[j]? = some u → (w.alloc (.cells (bs d) t)).cell? ((⟨w.heap.size, 0, none⟩ : Addr).add j) = some u := fun j u hu => by
  rw [Addr.add_mid, Nat.zero_add, (Row.fresh w t (bs d)).cell]; simpa using hu
end Go.Proofs.YtbhmgnhiglpmhaaDoor

/- A copy of bytes into a block of the call's own. -/
set_option maxRecDepth 4000
namespace Go.Proofs.YtbhmgnhiglpmhaaDoor
open Go Go.RowKit
end Go.Proofs.YtbhmgnhiglpmhaaDoor

/- The chain of records: what Chain answers. -/
set_option maxRecDepth 4000
namespace Go.Proofs.YtbhmgnhiglpmhaaDoor
open Go Go.RowKit
theorem step_one (l q : List (BitVec 8)) (v : Value) (w : World) (hT : Tab w) (hl : l.length = 32) (hv : Parts w v [q]) (hq : q.length ≤ 1000000) (D : List (BitVec 8)) (hD : sha (l ++ q) = D) :
    Calls Tryd.prog 24 #[.agg (bs l), v] w fun e w' => e = .returned (.agg (bs D)) ∧ Below w.heap.size w w' := by
  subst hD
  have h := tagstep_any l [q] v w hT hl hv (fun n c e => by obtain ⟨A, c', h1, h2⟩ := hv; subst e; injection h1 with h1 _ _; obtain ⟨_, _, h3, _⟩ := h2 (by simp); rw [← h1] at h3; cases h3) (by simp) (by simp; omega)
  rwa [show ([q] : List (List (BitVec 8))).flatten = q by simp] at h
def CR (w wr : World) (v : Value) (h : List (BitVec 8)) (rs : List (List (BitVec 8))) (k : Nat) : Prop :=
  wr.ownsRow (w.heap.size + 1) 24 32 v k (digsV (chainOf h rs k)) ∧ Row wr w.heap.size 24 (bs (linkAt h rs k)) ∧ Below w.heap.size w wr
theorem CR.step {w w6 : World} {v' : Value} {h : List (BitVec 8)} {rs : List (List (BitVec 8))} {k : Nat}
    (own : w6.ownsRow (w.heap.size + 1) 24 32 v' (k + 1) (digsV (chainOf h rs k) ++ (bs (linkAt h rs (k + 1))).toList))
    (r4 : Row w6 w.heap.size 24 (bs (linkAt h rs (k + 1)))) (hb6 : Below w.heap.size w w6) : CR w w6 v' h rs (k + 1) := by
  refine ⟨?_, r4, hb6⟩
  rw [chainOf_succ, digsV_snoc]
  exact own
set_option maxHeartbeats 1600000 in
theorem chain_own (h : List (BitVec 8)) (rs : List (List (BitVec 8))) (v : Value) (w : World) (hT : Tab w) (hh : h.length = 32) (hv : Parts w v rs) (hn : rs.length ≤ 1000) (hq : ∀ q ∈ rs, q.length ≤ 1000000) :
    Calls Tryd.prog 34 #[.agg (bs h), v] w fun e w' => ∃ u, e = .returned u ∧ (Digs w' u (chainOf h rs rs.length) ∧ ∀ a m c, u = .slice (some a) m c → w.heap.size < a.block) ∧ Below w.heap.size w w' := by
  obtain ⟨i1, hi1, hz10, hz11, hz12⟩ := info_parts4 info_d
  have HT := Lib.hid hT
  have HV := Lib.hid hv
  have HH := Lib.hid (length_linkAt h rs hh)
  have HL : Hid (∀ k, sha (linkAt h rs k ++ rs.getD k []) = linkAt h rs (k + 1)) := Lib.hid fun _ => rfl
  have H0 : Hid (linkAt h rs 0 = h) := Lib.hid rfl
  have HQ := Lib.hid hq
  obtain ⟨A, c, rfl, hp⟩ := hv
  have HP := Lib.hid hp
  clear hT hh hp hq
  have r0 : Row (w.alloc (.cells (bs h) 24)) w.heap.size 24 (bs h) := Row.fresh _ _ _
  have hb1 : Below w.heap.size w (w.alloc (.cells (bs h) 24)) := (Below.refl _ _).alloc (Nat.le_refl _) _
  have hs1 : (w.alloc (.cells (bs h) 24)).heap.size = w.heap.size + 1 := by simp
  go_enter Tryd.func34, Tryd.ntmps34
  go_wp2_with (first
    | (at_make; refine wpList_make_own (w.alloc (.cells (bs h) 24)) rfl _ _ 75 rfl (w.heap.size + 1) 24 i1 (.agg (bs (zer 32))) 32 Tryd.underlying75 hi1 hz10 hz11 .i64 .i64 _ rs.length rfl rfl rfl (by rw [hz12]; omega) (by unfold maxLen; omega) (by rw [hs1]; exact Nat.le_refl _) ?_; intro w2 own2 hg2; rw [hs1] at own2; have hq2 := below_of_grown (base := w.heap.size + 1) hg2 (fun g e => by cases e) (by rw [hs1]; exact Nat.le_refl _); have r02 := r0.below hq2 (by omega); have hb2 := hb1.trans (hq2.mono (by omega)); clear r0 hb1 hg2 hq2))
  have C0 : CR w w2 (.slice (some ⟨w.heap.size + 1, 0, none⟩) 0 rs.length) h rs 0 := ⟨own2, by rw [H0.out]; exact r02, hb2⟩
  clear own2 r02 hb2 hs1
  go_loopw [5, 13] (fun v i wr => ∃ k : Nat, k ≤ rs.length ∧ i = .int .i64 k ∧ CR w wr v h rs k) (fun _ i _ => rs.length - (intOf i).toNat)
  case atStart => exact ⟨0, by omega, rfl, C0⟩
  case round =>
    clear C0
    obtain ⟨k, hk, rfl, hR⟩ := hrel
    have HR := Lib.hid hR
    obtain ⟨own, rh, hbr⟩ := hR
    by_cases hlt : k < rs.length
    · obtain ⟨b, o, rfl, hbl, hc⟩ := HP.out (by intro h; subst h; simp at hlt)
      obtain ⟨u, hu, hs⟩ := hc k rs[k] (List.getElem?_eq_getElem hlt)
      have hu2 := (hbr.cell (p := ⟨b, o + k, none⟩) hbl).trans hu
      have hs2 := hs.below hbr (Nat.le_refl _)
      obtain ⟨Ai, ci, rfl, _⟩ := hs
      have hS := parts1 hs2
      have hql := HQ.out rs[k] (List.getElem_mem hlt)
      have HST : Hid (sha (linkAt h rs k ++ rs[k]) = linkAt h rs (k + 1)) := Lib.hid (by have := HL.out k; rwa [show rs.getD k [] = rs[k] by simp [List.getD_eq_getElem?_getD, hlt]] at this)
      have HLk := Lib.hid (HH.out k)
      have HLs := Lib.hid (HH.out (k + 1))
      have HSS : Hid (∀ w6 v', w6.ownsRow (w.heap.size + 1) 24 32 v' (k + 1) (digsV (chainOf h rs k) ++ (bs (linkAt h rs (k + 1))).toList) → Row w6 w.heap.size 24 (bs (linkAt h rs (k + 1))) → Below w.heap.size w w6 → CR w w6 v' h rs (k + 1)) := Lib.hid fun _ _ h1 h2 h3 => CR.step h1 h2 h3
      clear hc hu HR hs2 HP HV HL
      generalize rs[k] = q at *
      generalize hgk : CR w = C at *
      clear hgk
      generalize linkAt h rs k = L at *
      generalize linkAt h rs (k + 1) = L' at *
      go_wp2_with (first | (refine wpList_load_row rfl 24 (.tmp 2) rfl w.heap.size rfl 24 (bs L) (0, 0) _ rh Tryd.underlying24 rfl (by rw [size_bs, HLk.out]; exact size_d) ?_))
      have hbx := hbr.alloc hbr.size (.cells #[.slice Ai q.length ci] 35)
      refine (step_one L q _ _ (HT.out.below hbx HT.out.pos) HLk.out hS hql L' HST.out).mono ?_
      rintro e w3 ⟨rfl, hb3⟩
      have hq3 : Below wr.heap.size wr w3 := ((Below.refl wr.heap.size wr).alloc (Nat.le_refl _) _).trans (hb3.mono (by simp))
      have rh3 := rh.call hq3
      have own3 := owns_call own hq3
      have hb03 := hbr.trans (hq3.mono hbr.size)
      have rh4 := rh3.setRow (bs L')
      have own4 := own3.kept (grown_setRow w3 w.heap.size (bs L')) (by
        cases hv : u5.ownBlock with
        | none => exact .inl rfl
        | some g => exact .inr (fun e => by have := (own3.lt g hv).1; injection e with e; omega))
      have hb04 := below_setRow hb03 (Nat.le_refl _) (bs L')
      have rh5 := rh4.alloc (.cells (bs L') 24)
      have own5 := own4.alloc (.cells (bs L') 24)
      have hb05 := hb04.alloc hb04.size (.cells (bs L') 24)
      have hcl := lit_dig (w3.setRow w.heap.size (bs L')) L' 24
      have hsz : w.heap.size + 1 ≤ ((w3.setRow w.heap.size (bs L')).alloc (.cells (bs L') 24)).heap.size := Nat.succ_le_of_lt rh5.lt
      have HSZ := Lib.hid hsz
      have HCL := Lib.hid hcl
      clear hS hbx hb3 rh own hbr hq3 hcl hsz own3 hb03 own4 hb04
      go_wp2_with (first | (refine wpList_store_row rfl 24 _ _ rfl w.heap.size (bs L') rfl rfl 24 _ rh3 (by rw [size_bs, HLs.out]; exact size_d) (by rw [size_bs, size_bs, HLs.out, HLk.out]) (one_bs _) ?_; clear rh3) | (refine wpList_load_row rfl 24 (.tmp 2) rfl w.heap.size rfl 24 (bs L') (0, 0) _ rh4 Tryd.underlying24 rfl (by rw [size_bs, HLs.out]; exact size_d) ?_; clear rh4) | (refine wpList_build_dig rfl (.tmp 22) rfl L' rfl HLs.out ?_) | (at_builtin; refine wpList_append_own _ rfl (.tmp 21) (.tmp 23) 75 rfl (w.heap.size + 1) 24 i1 (.agg (bs (zer 32))) 32 32 Tryd.underlying75 hi1 hz10 hz11 hz12 rfl (by decide) _ k _ rfl own5 ⟨(w3.setRow w.heap.size (bs L')).heap.size, 0, none⟩ 1 1 (bs L').toList rfl (by rw [len_bs, HLs.out]) HCL.out (one_bsL L') (by unfold maxLen; omega) (by omega) HSZ.out ?_; intro v2 w6 own6 hg6 _))
      have hq6 := below_of_grown (base := w.heap.size + 1) (row := u5.ownBlock) hg6 (fun g e => (own5.lt g e).1) HSZ.out
      exact ⟨⟨k + 1, by omega, by go_num, HSS.out w6 v2 own6 (rh5.below hq6 (by omega)) (hb05.trans (hq6.mono (by omega)))⟩, by simp [intOf]; omega⟩
    · obtain rfl : k = rs.length := by omega
      have hD := own_digs (ds := chainOf h rs rs.length) (by rw [length_chainOf]; exact own) (fun d hd => by
        simp only [chainOf, List.mem_map, List.mem_range] at hd
        obtain ⟨i, _, rfl⟩ := hd
        exact HH.out _)
      have hF : ∀ a m c, u5 = .slice (some a) m c → w.heap.size < a.block := fun a m c e => by
        rcases own.2 with ⟨h1, _⟩ | ⟨g, cap, cur, h1, h2, _⟩
        · rw [h1] at e; injection e with e _ _; cases e
        · rw [h1] at e; injection e with e _ _; injection e with e; rw [← e]; exact h2
      have HD := Lib.hid hD
      have HF := Lib.hid hF
      clear HR own rh hD hF
      go_wp2_with fail
      go_ret
      exact ⟨_, rfl, ⟨HD.out, HF.out⟩, hbr⟩
end Go.Proofs.YtbhmgnhiglpmhaaDoor

/- The document's step: the hash of a hash and parts. -/
set_option maxRecDepth 4000
namespace Go.Proofs.YtbhmgnhiglpmhaaDoor
open Go Go.RowKit
set_option maxHeartbeats 1600000 in
theorem refstep_any (l : List (BitVec 8)) (ps : List (List (BitVec 8))) (v : Value) (w : World) (hl : l.length = 32) (hv : Hand w v ps) (hnil : ∀ n c, v = .slice none n c → c = 0) (hn : ps.length ≤ 900) (hlen : ps.flatten.length ≤ 90000) :
    Calls Tryd.prog 28 #[.agg (bs l), v] w fun e w' => e = .returned (.agg (bs (sha (l ++ ps.flatten)))) ∧ Below w.heap.size w w' := by
  obtain ⟨A, c, us, rfl, hul, huc, hun, huo, hus⟩ := hv.list
  have HL := Lib.hid hl
  have HUC := Lib.hid huc
  have HUS := Lib.hid hus
  have HUN : Hid (A = none → ps.length = 0 ∧ c = 0) := Lib.hid fun h => ⟨by rw [hun h]; rfl, hnil _ _ (by rw [h])⟩
  have HUO := Lib.hid huo
  have HF : Hid (sha (l :: ps).flatten = sha (l ++ ps.flatten)) := Lib.hid (by rw [List.flatten_cons])
  have HFL : Hid ((l :: ps).flatten.length ≤ 100000) := Lib.hid (by rw [List.flatten_cons, List.length_append, hl]; omega)
  have HD : Hid ((sha (l ++ ps.flatten)).length = 32) := Lib.hid (length_sha _)
  clear hl huc hus hun hnil hv huo hlen
  have r0 : Row (((w.alloc (.cells (bs l) 24)).alloc (.cells (bs (zer 32)) 24)).alloc (.cells #[] 5)) w.heap.size 24 (bs l) := row3a _ _ _ _ _
  have r1 : Row (((w.alloc (.cells (bs l) 24)).alloc (.cells (bs (zer 32)) 24)).alloc (.cells #[] 5)) (w.heap.size + 1) 24 (bs (zer 32)) := row3b _ _ _ _ _
  have hb1 := below3 w (.cells (bs l) 24) (.cells (bs (zer 32)) 24) (.cells #[] 5)
  have own1 := own_empty ((w.alloc (.cells (bs l) 24)).alloc (.cells (bs (zer 32)) 24))
  have hs1 : ((w.alloc (.cells (bs l) 24)).alloc (.cells (bs (zer 32)) 24)).heap.size = w.heap.size + 1 + 1 := by simp
  rw [hs1] at own1
  have sl1 : Slice (((w.alloc (.cells (bs l) 24)).alloc (.cells (bs (zer 32)) 24)).alloc (.cells #[] 5)) (.slice (some ⟨w.heap.size, 0, none⟩) 32 32) l := by
    have h := row_slice r0 (c := 32) (by rw [HL.out]; exact Nat.le_refl _)
    rw [HL.out] at h; exact h
  have hz1 : w.heap.size + 1 + 1 ≤ (((w.alloc (.cells (bs l) 24)).alloc (.cells (bs (zer 32)) 24)).alloc (.cells #[] 5)).heap.size := by simp
  generalize sha (l ++ ps.flatten) = D at *
  go_enter Tryd.func28, Tryd.ntmps28
  go_wp2_with (first
    | (at_builtin; refine wpList_append_slice rfl (.tmp 5) (.tmp 6) rfl (w.heap.size + 1 + 1) _ 0 [] rfl own1 _ 32 32 l rfl sl1 (fun h => by cases h) (by omega) hz1 ?_; intro v2 w2 own2 hb2; simp only [Nat.zero_add, List.nil_append] at own2; obtain ⟨A2, c2, rfl⟩ := own_form own2; have r12 := r1.below hb2 (by omega); have hb02 := hb1.trans (hb2.mono (by omega)); have hz2 := Nat.le_trans hz1 hb2.size; have own3 := own_lit1 w2 (.slice A2 32 c2); have hb03 := hb02.alloc hb02.size (.cells #[.slice A2 32 c2] 35); have HC3 : Hid (∀ ad, A = some ad → ∀ (j : Nat) (u : Value), us[j]? = some u → (w2.alloc (.cells #[.slice A2 32 c2] 35)).cell? (ad.add j) = some u) := Lib.hid (fun ad e j u hu => (hb03.cell (World.block_lt_of_cell? w _ (HUC.out ad e j u hu))).trans (HUC.out ad e j u hu)); clear own1 sl1 r0 r1 hb1 hb2 hz1 hs1)
    | (at_builtin; refine wpList_append_parts rfl (.tmp 8) (.tmp 9) rfl w2.heap.size _ 1 [.slice A2 32 c2] rfl own3 A ps.length c us rfl hul HC3.out HUN.out HUO.out (by omega) (by simp) ?_; intro v4 w4 own4 hb4; obtain ⟨A4, c4, rfl⟩ := own_form own4; clear own3))
  have hq4 : Below w2.heap.size w2 w4 := ((Below.refl w2.heap.size w2).alloc (Nat.le_refl _) _).trans hb4
  have hb04 := hb02.trans (hq4.mono hb02.size)
  have own24 := owns_call own2 hq4
  rw [← HL.out] at own24
  have it4 : Item w4 (.slice A2 32 c2) l := by
    have h := own_slice own24
    rw [HL.out] at h
    refine ⟨A2, c2, by rw [HL.out], by rw [HL.out]; exact h, fun e => own_nil own2 _ _ (by rw [e]), by rw [HL.out]; unfold maxLen; omega⟩
  obtain ⟨g4, rfl⟩ : ∃ g4, A4 = some ⟨g4, 0, none⟩ := by
    rcases own4.2 with ⟨h, h0⟩ | ⟨g2, cap, cur, h, _⟩
    · exact absurd h0 (by omega)
    · injection h with h _ _; exact ⟨g2, h⟩
  have hH := hand_own own4 (ps := ps) (by omega) it4 (fun k q hq => by
    obtain ⟨u, h1, h2⟩ := HUS.out k q hq
    exact ⟨u, h1, h2.below hb04 (Nat.le_refl _)⟩)
  have r14 := r12.call hq4
  clear own2 own4 own24 it4 hb02 hb03 hb4 hq4 r12 hz2 HC3
  refine (refsum_any (l :: ps) _ w4 hH (by simp; omega) HFL.out).mono ?_
  rintro e w5 ⟨rfl, hb5⟩
  rw [HF.out]
  have r15 := r14.call hb5
  have hb05 := hb04.trans (hb5.mono hb04.size)
  have HS : Hid ((Tryd.prog.info? 24).map (·.size) = some (bs D).size) := Lib.hid (by rw [size_bs, HD.out]; exact size_d)
  clear hH r14 hb04 hb5
  go_wp2_with (first | (refine wpList_store_row rfl 24 _ _ rfl (w.heap.size + 1) (bs D) rfl rfl 24 _ r15 HS.out (by rw [size_bs, size_bs, HD.out]; rfl) (one_bs _) ?_))
  exact bodyPost_ret (v := .agg (bs D)) (results_cell_row Tryd.results28 _ _ (w.heap.size + 1) 24 (bs D) (0, 0) _ rfl (r15.setRow _) Tryd.underlying24 rfl HS.out) rfl ⟨rfl, below_setRow hb05 (by omega) _⟩
end Go.Proofs.YtbhmgnhiglpmhaaDoor

/- The document's chain of records. -/
set_option maxRecDepth 4000
namespace Go.Proofs.YtbhmgnhiglpmhaaDoor
open Go Go.RowKit
theorem refstep_one (l q : List (BitVec 8)) (v : Value) (w : World) (hl : l.length = 32) (hv : Hand w v [q]) (hq : q.length ≤ 80000) (D : List (BitVec 8)) (hD : sha (l ++ q) = D) :
    Calls Tryd.prog 28 #[.agg (bs l), v] w fun e w' => e = .returned (.agg (bs D)) ∧ Below w.heap.size w w' := by
  subst hD
  have h := refstep_any l [q] v w hl hv (fun n c e => by obtain ⟨A, c', h1, h2⟩ := hv; subst e; injection h1 with h1 _ _; obtain ⟨_, _, h3, _⟩ := h2 (by simp); rw [← h1] at h3; cases h3) (by simp) (by simp; omega)
  rwa [show ([q] : List (List (BitVec 8))).flatten = q by simp] at h
def CN (w wr : World) (v : Value) (h : List (BitVec 8)) (rs : List (List (BitVec 8))) (k : Nat) : Prop :=
  wr.ownsRow (w.heap.size + 1) 24 32 v k (digsV (chainOf h rs k)) ∧ Row wr w.heap.size 24 (bs (linkAt h rs k)) ∧ Below w.heap.size w wr
theorem CN.step {w w6 : World} {v' : Value} {h : List (BitVec 8)} {rs : List (List (BitVec 8))} {k : Nat}
    (own : w6.ownsRow (w.heap.size + 1) 24 32 v' (k + 1) (digsV (chainOf h rs k) ++ (bs (linkAt h rs (k + 1))).toList))
    (r4 : Row w6 w.heap.size 24 (bs (linkAt h rs (k + 1)))) (hb6 : Below w.heap.size w w6) : CN w w6 v' h rs (k + 1) := by
  refine ⟨?_, r4, hb6⟩
  rw [chainOf_succ, digsV_snoc]
  exact own
end Go.Proofs.YtbhmgnhiglpmhaaDoor

/- What an argument holds, read by its type: integers, bools, texts, rows of bytes, slices, structs, put together as the type is. No function of the program is named here. -/
set_option maxRecDepth 4000
namespace Go.Proofs.YtbhmgnhiglpmhaaDoor
open Go Go.ChangeShapes Go.WideShapes Go.ChangeAt Go.RowKit
/- the cells cs hold a, in the world w -/
def Rd (α : Type) := World → List Value → α → Prop
def Rd.Stays {α : Type} (R : Rd α) : Prop := ∀ (B : Nat) (w w' : World) (cs : List Value) (a : α), R w cs a → Below B w w' → w.heap.size ≤ B → R w' cs a
def Opens (P : Program) {α : Type} (t : TypeId) (R : Rd α) : Prop :=
  ∀ {H : Type} (enc : TypeId × Value → H) (W : World) (fuel : Nat) (cs : List Value) (x : DataW H × List MemPlace), DataW.trod enc P W 0 (fun _ => true) true fuel t cs = some x → (∀ y ∈ x.2, y.block < W.heap.size) → ∃ a, R W cs a
def rdInt (k : IntKind) : Rd Int := fun _ cs n => cs = [.int k n] ∧ (Lit.int k n).wf = true
def rdU8 : Rd (BitVec 8) := fun _ cs x => cs = [.int .u8 (bd x)]
def rdRow (n : Nat) : Rd (List (BitVec 8)) := fun _ cs b => cs = bytesV b ∧ b.length = n
def rdNil : Rd Unit := fun _ cs _ => cs = []
def rdCons {α β : Type} (s : Nat) (R : Rd α) (T : Rd β) : Rd (α × β) := fun w cs ab => ∃ c d, cs = c ++ d ∧ c.length = s ∧ R w c ab.1 ∧ T w d ab.2
def rdSl {α : Type} (s : Nat) (R : Rd α) : Rd (List α) := fun w cs l => ∃ A c, cs = [.slice A l.length c] ∧ l.length ≤ c ∧ (A = none → c = 0) ∧ l.length ≤ maxLen ∧
  (l ≠ [] → ∃ b o, A = some ⟨b, o, none⟩ ∧ b < w.heap.size ∧ ∀ k x, l[k]? = some x → ∃ ds, ds.length = s ∧ w.rangeAt b (o + k * s) ds ∧ R w ds x)
def rdMap {α β : Type} (f : α → β) (R : Rd α) : Rd β := fun w cs b => ∃ a, R w cs a ∧ b = f a
theorem stays_int (k : IntKind) : (rdInt k).Stays := fun _ _ _ _ _ h _ _ => h
theorem stays_u8 : rdU8.Stays := fun _ _ _ _ _ h _ _ => h
theorem stays_rnil : rdNil.Stays := fun _ _ _ _ _ h _ _ => h
theorem stays_cons' {α β : Type} {s : Nat} {R : Rd α} {T : Rd β} (h : R.Stays) (t : T.Stays) : (rdCons s R T).Stays := fun B w w' _ _ ⟨c, d, e, hl, h1, h2⟩ hb hB => ⟨c, d, e, hl, h B w w' _ _ h1 hb hB, t B w w' _ _ h2 hb hB⟩
theorem stays_map {α β : Type} {f : α → β} {R : Rd α} (h : R.Stays) : (rdMap f R).Stays := fun B w w' _ _ ⟨a, h1, e⟩ hb hB => ⟨a, h B w w' _ _ h1 hb hB, e⟩
theorem stays_sl {α : Type} {s : Nat} {R : Rd α} (h : R.Stays) : (rdSl s R).Stays := fun B w w' cs l ⟨A, c, h1, h2, h3, h4, h5⟩ hb hB => by
  refine ⟨A, c, h1, h2, h3, h4, fun hne => ?_⟩
  obtain ⟨b, o, h6, h7, h8⟩ := h5 hne
  refine ⟨b, o, h6, Nat.lt_of_lt_of_le h7 hb.size, fun k x hx => ?_⟩
  obtain ⟨ds, h9, h10, h11⟩ := h8 k x hx
  exact ⟨ds, h9, fun j v hv => (hb.cell (p := ⟨b, o + k * s + j, none⟩) (Nat.lt_of_lt_of_le h7 hB)).trans (h10 j v hv), h B w w' _ _ h11 hb hB⟩
section
variable {P : Program}
theorem opens_int {t : TypeId} {k : IntKind} (ht : P.underlying t = some (.int k)) : Opens P t (rdInt k) := fun _ _ _ _ _ h _ => by
  obtain ⟨n, h1, _, h2⟩ := DataW.trod_int ht h
  exact ⟨n, h1, h2⟩
theorem opens_u8 {t : TypeId} (ht : P.underlying t = some (.int .u8)) : Opens P t rdU8 := fun _ _ _ _ _ h _ => by
  obtain ⟨n, h1, _, h2⟩ := DataW.trod_int ht h
  have hb := bounds_u8 h2
  exact ⟨BitVec.ofInt 8 n, by unfold rdU8; rw [h1, ← bd_of n hb.1 (by omega)]⟩
theorem opens_map {α β : Type} {t : TypeId} {f : α → β} {R : Rd α} (h : Opens P t R) : Opens P t (rdMap f R) := fun enc W fuel cs x hx hlt => by
  obtain ⟨a, ha⟩ := h enc W fuel cs x hx hlt
  exact ⟨f a, a, ha, rfl⟩
theorem opens_row {t e : TypeId} {n : Nat} (ht : P.underlying t = some (.array n e)) (he : P.underlying e = some (.int .u8)) (hce : P.cellsOf e = 1) (hct : P.cellsOf t = n) : Opens P t (rdRow n) := fun enc W fuel cs x h _ => by
  obtain ⟨xs, m, _, _, hl, hx, hi⟩ := DataW.trod_array ht h
  have hs : cs.length = n := by rw [hl, hct]
  have hint : ∀ i, i < n → ∃ z, cs[i]? = some (.int .u8 z) ∧ (Lit.int .u8 z).wf = true := fun i hin => by
    have h1 := hi i hin
    rw [List.getElem?_eq_getElem (by omega)] at h1
    obtain ⟨z, hz, _, hw⟩ := DataW.trod_int he h1
    refine ⟨z, ?_, hw⟩
    simp only [hce, Nat.mul_one] at hz
    rw [List.take_one, List.head?_drop] at hz
    cases hc : cs[i]? with
    | none => rw [hc] at hz; cases hz
    | some v => rw [hc] at hz; simpa using hz
  refine ⟨cs.map fun v => BitVec.ofInt 8 (intIn v), ?_, by simp [hs]⟩
  apply List.ext_getElem?
  intro i
  by_cases hin : i < n
  · obtain ⟨z, hz, hw⟩ := hint i hin
    have hb := bounds_u8 hw
    simp [bytesV, hz, intIn, ← bd_of z hb.1 (by omega)]
  · rw [List.getElem?_eq_none (by omega), List.getElem?_eq_none (by simp [bytesV]; omega)]
theorem opens_sl {α : Type} {t e : TypeId} {s : Nat} {R : Rd α} (ht : P.underlying t = some (.slice e)) (hs : P.cellsOf e = s) (hpos : 0 < s) (he : Opens P e R) : Opens P t (rdSl s R) := fun {H} enc W fuel cs x h hlt => by
  rcases Deep.open_slice ht h with ⟨h0, _⟩ | ⟨a, len, cap, m, n, D, Pl, hcs, _, hl, hm, hmm, hx, hi⟩
  · exact ⟨[], none, 0, h0, by simp, fun _ => rfl, by simp, fun h => absurd rfl h⟩
  · simp only [if_true] at hmm
    subst hmm
    have hlt' : ∀ y ∈ MemPlace.row a (m * P.cellsOf e) ++ (List.range m).flatMap Pl, y.block < W.heap.size := by rw [hx] at hlt; exact hlt
    have hR : ∀ i, i < len → ∃ b, ∃ ds, W.cells? 0 (a.add (i * s)) s = some ds ∧ R W ds b := fun i hil => by
      obtain ⟨ds, h1, h2⟩ := hi i (by omega)
      rw [hs] at h1
      obtain ⟨b, hb⟩ := he enc W n ds _ h2 fun y hy => hlt' y (List.mem_append_right _ (List.mem_flatMap.2 ⟨i, List.mem_range.2 (by omega), hy⟩))
      exact ⟨b, ds, h1, hb⟩
    by_cases h0 : len = 0
    · subst h0
      refine ⟨[], some a, m, hcs, by simp, fun h => (by cases h), by simp, fun h => absurd rfl h⟩
    · obtain ⟨b0, _⟩ := hR 0 (by omega)
      have hinh : Inhabited α := ⟨b0⟩
      obtain ⟨Q, hQ⟩ := Deep.choose_lt (α := α) (n := len) (p := fun i q => ∃ ds, W.cells? 0 (a.add (i * s)) s = some ds ∧ R W ds q) hR
      have hql : ((List.range len).map Q).length = len := by simp
      refine ⟨(List.range len).map Q, some a, m, by rw [hql]; exact hcs, by rw [hql]; exact hl, fun h => (by cases h), by rw [hql]; omega, fun _ => ?_⟩
      obtain ⟨b, off, spot⟩ := a
      have hspot : spot = none := by
        obtain ⟨ds, h1, _⟩ := hQ 0 (by omega)
        obtain ⟨_, h3, h4⟩ := World.cells?_some h1
        have h5 := h4 0 hpos
        rw [List.getElem?_eq_getElem (by omega)] at h5
        simpa [Addr.add] using World.cell?_spot h5
      subst hspot
      refine ⟨b, off, rfl, hlt' (.cell b off) (List.mem_append_left _ (MemPlace.mem_row.2 ⟨0, by rw [hs]; exact Nat.mul_pos (by omega) hpos, by simp⟩)), fun k x hk => ?_⟩
      have hkl : k < len := by have := (List.getElem?_eq_some_iff.1 hk).1; omega
      obtain ⟨ds, h1, h2⟩ := hQ k hkl
      obtain ⟨_, h3, h4⟩ := World.cells?_some h1
      obtain rfl : Q k = x := by simpa [hkl] using hk
      refine ⟨ds, h3, fun j v hv => ?_, h2⟩
      have hj : j < s := by have := (List.getElem?_eq_some_iff.1 hv).1; omega
      have h5 := h4 j hj
      rw [hv, Addr.add_mid, Addr.add_mid] at h5
      exact h5
/- the fields of a struct from offset o on -/
def OpensF (P : Program) {β : Type} (fs : List Field) (o : Nat) (T : Rd β) : Prop :=
  ∀ {H : Type} (enc : TypeId × Value → H) (W : World) (n : Nat) (cs : List Value) (xs : List (DataW H × List MemPlace)), xs.length = fs.length →
    (∀ (i : Nat) (f : Field), fs[i]? = some f → DataW.trod enc P W 0 (fun _ => true) true n f.type ((cs.drop f.offset).take (P.cellsOf f.type)) = xs[i]?) → (∀ y ∈ xs.flatMap (·.2), y.block < W.heap.size) → cs.length = o + (fs.map fun f => P.cellsOf f.type).sum → ∃ b, T W (cs.drop o) b
theorem opensF_nil {o : Nat} : OpensF P [] o rdNil := fun _ _ _ _ _ _ _ _ hl => ⟨(), by
  unfold rdNil
  simp only [List.map_nil, List.sum_nil, Nat.add_zero] at hl
  rw [← hl, List.drop_length]⟩
theorem opensF_cons {α β : Type} {f : Field} {fs : List Field} {o s : Nat} {R : Rd α} {T : Rd β} (ho : f.offset = o) (hs : P.cellsOf f.type = s) (h : Opens P f.type R) (t : OpensF P fs (o + s) T) : OpensF P (f :: fs) o (rdCons s R T) := fun {H} enc W n cs xs hxl hf hlt hl => by
  cases xs with
  | nil => simp at hxl
  | cons x xs =>
    simp only [List.length_cons, Nat.add_right_cancel_iff] at hxl
    have h0 := hf 0 f rfl
    simp only [List.getElem?_cons_zero] at h0
    rw [ho, hs] at h0
    obtain ⟨a, ha⟩ := h enc W n _ x h0 fun y hy => hlt y (by simp [hy])
    simp only [List.map_cons, List.sum_cons, hs] at hl
    obtain ⟨b, hb⟩ := t enc W n cs xs hxl (fun i g hg => by have := hf (i + 1) g (by simpa using hg); simpa using this) (fun y hy => hlt y (by simp only [List.flatMap_cons, List.mem_append]; exact .inr hy)) (by omega)
    refine ⟨(a, b), (cs.drop o).take s, cs.drop (o + s), ?_, by rw [List.length_take, List.length_drop]; omega, ha, hb⟩
    rw [← List.drop_drop, List.take_append_drop]
theorem opens_struct {β : Type} {t : TypeId} {fs : Array Field} {T : Rd β} (ht : P.underlying t = some (.struct fs)) (hc : P.cellsOf t = (fs.toList.map fun f => P.cellsOf f.type).sum) (h : OpensF P fs.toList 0 T) : Opens P t T := fun {H} enc W fuel cs x hx hlt => by
  obtain ⟨xs, n, _, hy, hlen, hyl, hf⟩ := DataW.trod_struct ht hx
  subst hy
  obtain ⟨b, hb⟩ := h enc W n cs xs (by rw [hyl]; exact Array.length_toList.symm) (fun i f hi => hf i f (by rw [← Array.getElem?_toList]; exact hi)) hlt (by rw [hlen, hc, Nat.zero_add])
  exact ⟨b, by simpa using hb⟩
end
/- an argument of a card -/
theorem open_arg {P : Program} {α : Type} {t : TypeId} {R : Rd α} (h : Opens P t R) {H : Type} {enc : TypeId × Value → H} {W : World} {v : Value} {d : DataW H} {ps : List MemPlace} (hT : DataW.Trod enc P W 0 (fun _ => true) true t v d ps) (hlt : ∀ y ∈ ps, y.block < W.heap.size) : ∃ a, R W v.cells.toList a := by
  obtain ⟨fuel, hf⟩ := hT
  exact h enc W fuel _ _ hf hlt
/- an argument that is a slice -/
theorem open_argSl {P : Program} {α : Type} {t e : TypeId} {s : Nat} {R : Rd α} (ht : P.underlying t = some (.slice e)) (ho : Opens P t (rdSl s R)) {H : Type} {enc : TypeId × Value → H} {W : World} {r : Reach} {base : Nat} {v : Value} {d : DataW H} {ps : List MemPlace} (hval : Value.okWide P W r base t v) (hT : DataW.Trod enc P W 0 (fun _ => true) true t v d ps) (hlt : ∀ y ∈ ps, y.block < W.heap.size) : ∃ A c l, v = .slice A l.length c ∧ rdSl s R W [.slice A l.length c] l := by
  obtain ⟨a0, len, cap, rfl⟩ := okWide_slice ht hval
  obtain ⟨l, hl⟩ := open_arg ho hT hlt
  have h0 := hl
  obtain ⟨A, c, e, _⟩ := hl
  have e : Value.slice a0 len cap = .slice A l.length c := by simpa [Value.cells] using e
  rw [e] at h0
  exact ⟨A, c, l, e, by simpa [Value.cells] using h0⟩
/- an argument that is a byte; one that is an array of bytes -/
theorem open_argU8 {P : Program} {t : TypeId} (ht : P.underlying t = some (.int .u8)) {H : Type} {enc : TypeId × Value → H} {W : World} {r : Reach} {base : Nat} {v : Value} {d : DataW H} {ps : List MemPlace} (hval : Value.okWide P W r base t v) (hT : DataW.Trod enc P W 0 (fun _ => true) true t v d ps) (hlt : ∀ y ∈ ps, y.block < W.heap.size) : ∃ x : BitVec 8, v = .int .u8 (bd x) := by
  obtain ⟨n, rfl⟩ := okWide_int ht hval
  obtain ⟨x, hx⟩ := open_arg (opens_u8 ht) hT hlt
  exact ⟨x, by simpa [rdU8, Value.cells] using hx⟩
theorem open_argBytes {P : Program} {t e : TypeId} {n : Nat} (ht : P.underlying t = some (.array n e)) (he : P.underlying e = some (.int .u8)) (hce : P.cellsOf e = 1) (hct : P.cellsOf t = n) {H : Type} {enc : TypeId × Value → H} {W : World} {r : Reach} {base : Nat} {v : Value} {d : DataW H} {ps : List MemPlace} (hval : Value.okWide P W r base t v) (hT : DataW.Trod enc P W 0 (fun _ => true) true t v d ps) (hlt : ∀ y ∈ ps, y.block < W.heap.size) : ∃ q : List (BitVec 8), q.length = n ∧ v = .agg (bs q) := by
  obtain ⟨cs, rfl⟩ := okWide_arr ht hval
  obtain ⟨q, h1, h2⟩ := open_arg (opens_row ht he hce hct) hT hlt
  exact ⟨q, h2, congrArg Value.agg (by apply Array.toList_inj.1; rw [bs_toList]; simpa [Value.cells] using h1)⟩
/- slices of bytes as these readers have them -/
theorem rdSl_item {w : World} {u : Value} {q : List (BitVec 8)} (h : rdSl 1 rdU8 w [u] q) : Item w u q := by
  obtain ⟨A, c, h1, h2, h3, h4, h5⟩ := h
  injection h1 with h1 _
  refine ⟨A, c, h1, ⟨A, c, rfl, h2, fun hne => ?_⟩, h3, h4⟩
  obtain ⟨b, o, h6, h7, h8⟩ := h5 hne
  refine ⟨b, o, h6, h7, fun j x hx => ?_⟩
  obtain ⟨ds, _, h9, h10⟩ := h8 j x hx
  have := h9 0 (.int .u8 (bd x)) (by rw [h10]; rfl)
  simpa using this
end Go.Proofs.YtbhmgnhiglpmhaaDoor

/- Integers that are handed in, as plain numbers. -/
set_option maxRecDepth 4000
namespace Go.Proofs.YtbhmgnhiglpmhaaDoor
open Go Go.RowKit
theorem int_i64 {n : Int} (h : (Lit.int .i64 n).wf = true) : -9223372036854775808 ≤ n ∧ n < 9223372036854775808 := by
  simp only [Lit.wf, Bool.and_eq_true, decide_eq_true_eq] at h
  have h1 : IntKind.i64.min = -9223372036854775808 := by decide
  have h2 : IntKind.i64.max = 9223372036854775807 := by decide
  omega
end Go.Proofs.YtbhmgnhiglpmhaaDoor

/- Strings of bytes compared. -/
set_option maxRecDepth 4000
namespace Go.Proofs.YtbhmgnhiglpmhaaDoor
open Go Go.RowKit
theorem str_inj {p q : List (BitVec 8)} (h1 : (str p).data.toList = (str q).data.toList) : p = q := by
  unfold str at h1
  rw [strOfNums_data, strOfNums_data, List.map_map, List.map_map] at h1
  refine (List.map_inj_right ?_).1 h1
  intro x y hxy
  simp only [Function.comp] at hxy
  have hx := bd_lo x; have hx' := bd_hi x; have hy := bd_lo y; have hy' := bd_hi y
  apply bd_inj
  have h2 := congrArg UInt8.toNat hxy
  simp only [UInt8.toNat_ofNat'] at h2
  omega
theorem keepb_any (a b : Value) (p q : List (BitVec 8)) (w : World) (ha : Slice w a p) (hb : Slice w b q) :
    Calls Tryd.prog 17 #[a, b] w fun e w' => e = .returned (.bool (decide (p = q))) ∧ w = w' := by
  have e1 := keep_conv ha
  have e2 := keep_conv hb
  have HE : Hid (((str p).toList == (str q).toList) = decide (p = q)) := Lib.hid (by
    rw [ByteArray.toList_eq, ByteArray.toList_eq]
    by_cases h : p = q
    · subst h; rw [decide_eq_true rfl]; exact beq_self_eq_true _
    · rw [decide_eq_false h]
      exact beq_eq_false_iff_ne.2 fun e => h (str_inj e))
  clear ha hb
  generalize str p = s at *
  generalize str q = t at *
  go_enter Tryd.func17, Tryd.ntmps17
  go_wp2
  go_ret
  exact ⟨congrArg (fun b => Ending.returned (.bool b)) HE.out, rfl⟩
end Go.Proofs.YtbhmgnhiglpmhaaDoor

set_option maxRecDepth 4000
namespace Go.Proofs.YtbhmgnhiglpmhaaDoor
open Go Go.RowKit
theorem mod_any (k : Int) (n : Nat) (w : World) (h0 : 0 < n) (h1 : n < 100000) :
    Calls Tryd.prog 23 #[.int .i64 k, .int .i64 (n : Int)] w fun e w' => e = .returned (.int .i64 (modK k n : Int)) ∧ w = w' := by
  have t1 : k.tmod n < n := Int.tmod_lt_of_pos _ (by omega)
  have t2 : -(n : Int) < k.tmod n := by
    have := Int.lt_tmod_of_pos k (show (0 : Int) < n by omega); omega
  have e : ((modK k n : Nat) : Int) = (k.tmod n + n) % n := by
    unfold modK; rw [Int.toNat_of_nonneg (Int.emod_nonneg _ (by omega))]
  have HE := Lib.hid e
  clear e
  go_enter Tryd.func23, Tryd.ntmps23
  go_wp2
  go_ret
  exact ⟨ret_int HE.out.symm, rfl⟩
theorem mod_at (k m : Int) (n : Nat) (w : World) (hm : m = (n : Int)) (h0 : 0 < n) (h1 : n < 100000) :
    Calls Tryd.prog 23 #[.int .i64 k, .int .i64 m] w fun e w' => e = .returned (.int .i64 (modK k n : Int)) ∧ w = w' := by
  subst hm; exact mod_any k n w h0 h1
end Go.Proofs.YtbhmgnhiglpmhaaDoor
