/- The chain of records: what Chain answers. -/
import Derived.Test.YtnfceejmkcohnaaDoorStep
import Derived.Test.YtnfceejmkcohnaaDoorDigs
import Derived.Test.YtnfceejmkcohnaaDoorCopyB
namespace Go.Proofs.YtnfceejmkcohnaaDoor
open Go Go.RowKit
theorem step_one (l q : List (BitVec 8)) (v : Value) (w : World) (hT : Tab w) (hl : l.length = 32) (hv : Parts w v [q]) (hq : q.length ≤ 1000000) (D : List (BitVec 8)) (hD : sha (l ++ q) = D) :
    Calls Tryd.prog 14 #[.agg (bs l), v] w fun e w' => e = .returned (.agg (bs D)) ∧ Below w.heap.size w w' := by
  subst hD
  have h := step_any l [q] v w hT hl hv (fun n c e => by obtain ⟨A, c', h1, h2⟩ := hv; subst e; injection h1 with h1 _ _; obtain ⟨_, _, h3, _⟩ := h2 (by simp); rw [← h1] at h3; cases h3) (by simp) (by simp; omega)
  rwa [show ([q] : List (List (BitVec 8))).flatten = q by simp] at h
def CR (w wr : World) (v : Value) (h : List (BitVec 8)) (rs : List (List (BitVec 8))) (k : Nat) : Prop :=
  wr.ownsRow (w.heap.size + 1) 24 32 v k (digsV (chainOf h rs k)) ∧ Row wr w.heap.size 24 (bs (linkAt h rs k)) ∧ Below w.heap.size w wr
theorem CR.step {w w6 : World} {v' : Value} {h : List (BitVec 8)} {rs : List (List (BitVec 8))} {k : Nat}
    (own : w6.ownsRow (w.heap.size + 1) 24 32 v' (k + 1) (digsV (chainOf h rs k) ++ (bs (linkAt h rs (k + 1))).toList))
    (r4 : Row w6 w.heap.size 24 (bs (linkAt h rs (k + 1)))) (hb6 : Below w.heap.size w w6) : CR w w6 v' h rs (k + 1) := by
  refine ⟨?_, r4, hb6⟩
  rw [chainOf_succ, digsV_snoc]
  exact own
set_option maxHeartbeats 1600000 in
theorem chain_own (h : List (BitVec 8)) (rs : List (List (BitVec 8))) (v : Value) (w : World) (hT : Tab w) (hh : h.length = 32) (hv : Parts w v rs) (hn : rs.length ≤ 1000) (hq : ∀ q ∈ rs, q.length ≤ 1000000) :
    Calls Tryd.prog 9 #[.agg (bs h), v] w fun e w' => ∃ u, e = .returned u ∧ (Digs w' u (chainOf h rs rs.length) ∧ ∀ a m c, u = .slice (some a) m c → w.heap.size < a.block) ∧ Below w.heap.size w w' := by
  obtain ⟨i1, hi1, hz10, hz11, hz12⟩ := info_parts4 info_d
  have HT := Lib.hid hT
  have HV := Lib.hid hv
  have HH := Lib.hid (length_linkAt h rs hh)
  have HL : Hid (∀ k, sha (linkAt h rs k ++ rs.getD k []) = linkAt h rs (k + 1)) := Lib.hid fun _ => rfl
  have H0 : Hid (linkAt h rs 0 = h) := Lib.hid rfl
  have HQ := Lib.hid hq
  obtain ⟨A, c, rfl, hp⟩ := hv
  have HP := Lib.hid hp
  clear hT hh hp hq
  have r0 : Row (w.alloc (.cells (bs h) 24)) w.heap.size 24 (bs h) := Row.fresh _ _ _
  have hb1 : Below w.heap.size w (w.alloc (.cells (bs h) 24)) := (Below.refl _ _).alloc (Nat.le_refl _) _
  have hs1 : (w.alloc (.cells (bs h) 24)).heap.size = w.heap.size + 1 := by simp
  go_enter Tryd.func9, Tryd.ntmps9
  go_wp2_with (first
    | (at_make; refine wpList_make_own (w.alloc (.cells (bs h) 24)) rfl _ _ 30 rfl (w.heap.size + 1) 24 i1 (.agg (bs (zer 32))) 32 Tryd.underlying30 hi1 hz10 hz11 .i64 .i64 _ rs.length rfl rfl rfl (by rw [hz12]; omega) (by unfold maxLen; omega) (by rw [hs1]; exact Nat.le_refl _) ?_; intro w2 own2 hg2; rw [hs1] at own2; have hq2 := below_of_grown (base := w.heap.size + 1) hg2 (fun g e => by cases e) (by rw [hs1]; exact Nat.le_refl _); have r02 := r0.below hq2 (by omega); have hb2 := hb1.trans (hq2.mono (by omega)); clear r0 hb1 hg2 hq2))
  have C0 : CR w w2 (.slice (some ⟨w.heap.size + 1, 0, none⟩) 0 rs.length) h rs 0 := ⟨own2, by rw [H0.out]; exact r02, hb2⟩
  clear own2 r02 hb2 hs1
  go_loopw [5, 13] (fun v i wr => ∃ k : Nat, k ≤ rs.length ∧ i = .int .i64 k ∧ CR w wr v h rs k) (fun _ i _ => rs.length - (intOf i).toNat)
  case atStart => exact ⟨0, by omega, rfl, C0⟩
  case round =>
    clear C0
    obtain ⟨k, hk, rfl, hR⟩ := hrel
    have HR := Lib.hid hR
    obtain ⟨own, rh, hbr⟩ := hR
    by_cases hlt : k < rs.length
    · obtain ⟨b, o, rfl, hbl, hc⟩ := HP.out (by intro h; subst h; simp at hlt)
      obtain ⟨u, hu, hs⟩ := hc k rs[k] (List.getElem?_eq_getElem hlt)
      have hu2 := (hbr.cell (p := ⟨b, o + k, none⟩) hbl).trans hu
      have hs2 := hs.below hbr (Nat.le_refl _)
      obtain ⟨Ai, ci, rfl, _⟩ := hs
      have hS := parts1 hs2
      have hql := HQ.out rs[k] (List.getElem_mem hlt)
      have HST : Hid (sha (linkAt h rs k ++ rs[k]) = linkAt h rs (k + 1)) := Lib.hid (by have := HL.out k; rwa [show rs.getD k [] = rs[k] by simp [List.getD_eq_getElem?_getD, hlt]] at this)
      have HLk := Lib.hid (HH.out k)
      have HLs := Lib.hid (HH.out (k + 1))
      have HSS : Hid (∀ w6 v', w6.ownsRow (w.heap.size + 1) 24 32 v' (k + 1) (digsV (chainOf h rs k) ++ (bs (linkAt h rs (k + 1))).toList) → Row w6 w.heap.size 24 (bs (linkAt h rs (k + 1))) → Below w.heap.size w w6 → CR w w6 v' h rs (k + 1)) := Lib.hid fun _ _ h1 h2 h3 => CR.step h1 h2 h3
      clear hc hu HR hs2 HP HV HL
      generalize rs[k] = q at *
      generalize hgk : CR w = C at *
      clear hgk
      generalize linkAt h rs k = L at *
      generalize linkAt h rs (k + 1) = L' at *
      go_wp2_with (first | (refine wpList_load_row rfl 24 (.tmp 2) rfl w.heap.size rfl 24 (bs L) (0, 0) _ rh Tryd.underlying24 rfl (by rw [size_bs, HLk.out]; exact size_d) ?_))
      have hbx := hbr.alloc hbr.size (.cells #[.slice Ai q.length ci] 22)
      refine (step_one L q _ _ (HT.out.below hbx HT.out.pos) HLk.out hS hql L' HST.out).mono ?_
      rintro e w3 ⟨rfl, hb3⟩
      have hq3 : Below wr.heap.size wr w3 := ((Below.refl wr.heap.size wr).alloc (Nat.le_refl _) _).trans (hb3.mono (by simp))
      have rh3 := rh.call hq3
      have own3 := owns_call own hq3
      have hb03 := hbr.trans (hq3.mono hbr.size)
      have rh4 := rh3.setRow (bs L')
      have own4 := own3.kept (grown_setRow w3 w.heap.size (bs L')) (by
        cases hv : u5.ownBlock with
        | none => exact .inl rfl
        | some g => exact .inr (fun e => by have := (own3.lt g hv).1; injection e with e; omega))
      have hb04 := below_setRow hb03 (Nat.le_refl _) (bs L')
      have rh5 := rh4.alloc (.cells (bs L') 24)
      have own5 := own4.alloc (.cells (bs L') 24)
      have hb05 := hb04.alloc hb04.size (.cells (bs L') 24)
      have hcl := lit_dig (w3.setRow w.heap.size (bs L')) L' 24
      have hsz : w.heap.size + 1 ≤ ((w3.setRow w.heap.size (bs L')).alloc (.cells (bs L') 24)).heap.size := Nat.succ_le_of_lt rh5.lt
      have HSZ := Lib.hid hsz
      have HCL := Lib.hid hcl
      clear hS hbx hb3 rh own hbr hq3 hcl hsz own3 hb03 own4 hb04
      go_wp2_with (first | (refine wpList_store_row rfl 24 _ _ rfl w.heap.size (bs L') rfl rfl 24 _ rh3 (by rw [size_bs, HLs.out]; exact size_d) (by rw [size_bs, size_bs, HLs.out, HLk.out]) (one_bs _) ?_; clear rh3) | (refine wpList_load_row rfl 24 (.tmp 2) rfl w.heap.size rfl 24 (bs L') (0, 0) _ rh4 Tryd.underlying24 rfl (by rw [size_bs, HLs.out]; exact size_d) ?_; clear rh4) | (refine wpList_build_dig rfl (.tmp 22) rfl L' rfl HLs.out ?_) | (at_builtin; refine wpList_append_own _ rfl (.tmp 21) (.tmp 23) 30 rfl (w.heap.size + 1) 24 i1 (.agg (bs (zer 32))) 32 32 Tryd.underlying30 hi1 hz10 hz11 hz12 rfl (by decide) _ k _ rfl own5 ⟨(w3.setRow w.heap.size (bs L')).heap.size, 0, none⟩ 1 1 (bs L').toList rfl (by rw [len_bs, HLs.out]) HCL.out (one_bsL L') (by unfold maxLen; omega) (by omega) HSZ.out ?_; intro v2 w6 own6 hg6 _))
      have hq6 := below_of_grown (base := w.heap.size + 1) (row := u5.ownBlock) hg6 (fun g e => (own5.lt g e).1) HSZ.out
      exact ⟨⟨k + 1, by omega, by go_num, HSS.out w6 v2 own6 (rh5.below hq6 (by omega)) (hb05.trans (hq6.mono (by omega)))⟩, by simp [intOf]; omega⟩
    · obtain rfl : k = rs.length := by omega
      have hD := own_digs (ds := chainOf h rs rs.length) (by rw [length_chainOf]; exact own) (fun d hd => by
        simp only [chainOf, List.mem_map, List.mem_range] at hd
        obtain ⟨i, _, rfl⟩ := hd
        exact HH.out _)
      have hF : ∀ a m c, u5 = .slice (some a) m c → w.heap.size < a.block := fun a m c e => by
        rcases own.2 with ⟨h1, _⟩ | ⟨g, cap, cur, h1, h2, _⟩
        · rw [h1] at e; injection e with e _ _; cases e
        · rw [h1] at e; injection e with e _ _; injection e with e; rw [← e]; exact h2
      have HD := Lib.hid hD
      have HF := Lib.hid hF
      clear HR own rh hD hF
      go_wp2_with fail
      go_ret
      exact ⟨_, rfl, ⟨HD.out, HF.out⟩, hbr⟩
theorem chain_any (h : List (BitVec 8)) (rs : List (List (BitVec 8))) (v : Value) (w : World) (hT : Tab w) (hh : h.length = 32) (hv : Parts w v rs) (hn : rs.length ≤ 1000) (hq : ∀ q ∈ rs, q.length ≤ 1000000) :
    Calls Tryd.prog 9 #[.agg (bs h), v] w fun e w' => ∃ u, e = .returned u ∧ Digs w' u (chainOf h rs rs.length) ∧ Below w.heap.size w w' :=
  (chain_own h rs v w hT hh hv hn hq).mono fun _ _ ⟨u, h1, h2, h3⟩ => ⟨u, h1, h2.1, h3⟩
end Go.Proofs.YtnfceejmkcohnaaDoor
