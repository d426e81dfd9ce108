/- The document's chain of records. -/
import Derived.Test.YtnfceejmkcohnaaDoorRefStep
import Derived.Test.YtnfceejmkcohnaaDoorDigs
import Derived.Test.YtnfceejmkcohnaaDoorDoes
import Derived.Test.YtnfceejmkcohnaaDoorCopyB
namespace Go.Proofs.YtnfceejmkcohnaaDoor
open Go Go.RowKit
theorem refstep_one (l q : List (BitVec 8)) (v : Value) (w : World) (hl : l.length = 32) (hv : Hand w v [q]) (hq : q.length ≤ 80000) (D : List (BitVec 8)) (hD : sha (l ++ q) = D) :
    Calls Tryd.prog 15 #[.agg (bs l), v] w fun e w' => e = .returned (.agg (bs D)) ∧ Below w.heap.size w w' := by
  subst hD
  have h := refstep_any l [q] v w hl hv (fun n c e => by obtain ⟨A, c', h1, h2⟩ := hv; subst e; injection h1 with h1 _ _; obtain ⟨_, _, h3, _⟩ := h2 (by simp); rw [← h1] at h3; cases h3) (by simp) (by simp; omega)
  rwa [show ([q] : List (List (BitVec 8))).flatten = q by simp] at h
def CN (w wr : World) (v : Value) (h : List (BitVec 8)) (rs : List (List (BitVec 8))) (k : Nat) : Prop :=
  wr.ownsRow (w.heap.size + 1) 24 32 v k (digsV (chainOf h rs k)) ∧ Row wr w.heap.size 24 (bs (linkAt h rs k)) ∧ Below w.heap.size w wr
theorem CN.step {w w6 : World} {v' : Value} {h : List (BitVec 8)} {rs : List (List (BitVec 8))} {k : Nat}
    (own : w6.ownsRow (w.heap.size + 1) 24 32 v' (k + 1) (digsV (chainOf h rs k) ++ (bs (linkAt h rs (k + 1))).toList))
    (r4 : Row w6 w.heap.size 24 (bs (linkAt h rs (k + 1)))) (hb6 : Below w.heap.size w w6) : CN w w6 v' h rs (k + 1) := by
  refine ⟨?_, r4, hb6⟩
  rw [chainOf_succ, digsV_snoc]
  exact own
set_option maxHeartbeats 1600000 in
theorem refchain_any (h : List (BitVec 8)) (rs : List (List (BitVec 8))) (v : Value) (w : World) (hh : h.length = 32) (hv : Hand w v rs) (hn : rs.length ≤ 900) (hq : ∀ q ∈ rs, q.length ≤ 80000) :
    Calls Tryd.prog 11 #[.agg (bs h), v] w fun e w' => ∃ u, e = .returned u ∧ Digs w' u (chainOf h rs rs.length) ∧ Below w.heap.size w w' := by
  obtain ⟨i1, hi1, hz10, hz11, hz12⟩ := info_parts4 info_d
  have HH := Lib.hid (length_linkAt h rs hh)
  have HL : Hid (∀ k, sha (linkAt h rs k ++ rs.getD k []) = linkAt h rs (k + 1)) := Lib.hid fun _ => rfl
  have H0 : Hid (linkAt h rs 0 = h) := Lib.hid rfl
  have HQ := Lib.hid hq
  obtain ⟨A, c, rfl, hp⟩ := hv
  have HP := Lib.hid hp
  clear hh hp hq
  have C0 : CN w (w.alloc (.cells (bs h) 24)) (.slice none 0 0) h rs 0 := ⟨World.ownsRow_nil _ _ _ _, by rw [H0.out]; exact Row.fresh _ _ _, (Below.refl _ _).alloc (Nat.le_refl _) _⟩
  go_enter Tryd.func11, Tryd.ntmps11
  go_wp2_with fail
  go_loopw [5, 6] (fun v i wr => ∃ k : Nat, k ≤ rs.length ∧ i = .int .i64 k ∧ CN w wr v h rs k) (fun _ i _ => rs.length - (intOf i).toNat)
  case atStart => exact ⟨0, by omega, rfl, C0⟩
  case round =>
    clear C0
    obtain ⟨k, hk, rfl, hR⟩ := hrel
    have HR := Lib.hid hR
    obtain ⟨own, rh, hbr⟩ := hR
    by_cases hlt : k < rs.length
    · obtain ⟨b, o, rfl, hbl, hc⟩ := HP.out (by intro h; subst h; simp at hlt)
      obtain ⟨u, hu, hs⟩ := hc k rs[k] (List.getElem?_eq_getElem hlt)
      have hu2 := (hbr.cell (p := ⟨b, o + k, none⟩) hbl).trans hu
      have hs2 := hs.below hbr (Nat.le_refl _)
      obtain ⟨Ai, ci, rfl, _⟩ := hs
      have hql := HQ.out rs[k] (List.getElem_mem hlt)
      have HST : Hid (sha (linkAt h rs k ++ rs[k]) = linkAt h rs (k + 1)) := Lib.hid (by have := HL.out k; rwa [show rs.getD k [] = rs[k] by simp [List.getD_eq_getElem?_getD, hlt]] at this)
      have HLk := Lib.hid (HH.out k)
      have HLs := Lib.hid (HH.out (k + 1))
      have HSS : Hid (∀ w6 v', w6.ownsRow (w.heap.size + 1) 24 32 v' (k + 1) (digsV (chainOf h rs k) ++ (bs (linkAt h rs (k + 1))).toList) → Row w6 w.heap.size 24 (bs (linkAt h rs (k + 1))) → Below w.heap.size w w6 → CN w w6 v' h rs (k + 1)) := Lib.hid fun _ _ h1 h2 h3 => CN.step h1 h2 h3
      clear hc hu HR HP HL
      generalize rs[k] = q at *
      generalize hgk : CN w = C at *
      clear hgk
      generalize linkAt h rs k = L at *
      generalize linkAt h rs (k + 1) = L' at *
      go_wp2_with fail
      refine wp_region_vs wr.heap.size [is (.agg (bs L)), is (.slice (some ⟨b, o, none⟩) rs.length c), is (.int .i64 (k : Int)), is (.pointer (some ⟨b, o + k, none⟩)), is (.slice Ai q.length ci), hnd [q], is (.agg (bs L'))] [some 13, some 14, some 15, some 16, some 17, some 18, some 19] 7 8 (fun _ => true) rfl rfl rfl (by kernel_rfl) (by kernel_rfl) ?_ ?_ ?_ ?_
      · repeat first | exact stays_nil _ | refine stays_cons (by first | exact is_stays _ _ | exact hnd_stays _ _) ?_
      · repeat first | exact all_end (by decide) | refine all_cons (by first | exact rfl | exact fun _ _ _ h => h) ?_
      · refine all_step rfl (fun a x W hR hout hin => ?_) ?_
        · have e2 := hout 2 (by kernel_rfl)
          intro K Q hK
          refine wp_load_mid 24 (.tmp 2) rfl w.heap.size 0 (eval_of_get e2) (bs L).toList _ (fun j u hu => ?_) Tryd.underlying24 rfl (by rw [len_bs, HLk.out]; exact size_d) ?_
          · rw [Nat.zero_add, (rh.drew.below hR.below rh.lt).cell]; simpa using hu
          · exact hK _ _ ⟨Keeps.refl _ _, by simp [Vs, is]⟩
        refine all_step rfl (fun a x W hR hout hin => ?_) ?_
        · exact does_move rfl (hout 1 (by kernel_rfl)) ⟨Keeps.refl _ _, rfl⟩
        refine all_step rfl (fun a x W hR hout hin => ?_) ?_
        · exact does_move rfl (hout 6 (by kernel_rfl)) ⟨Keeps.refl _ _, rfl⟩
        refine all_step rfl (fun a x W hR hout hin => ?_) ?_
        · have e14 := hin.is 1 14 (by kernel_rfl) (by decide) (by kernel_rfl) _ rfl
          have e15 := hin.is 2 15 (by kernel_rfl) (by decide) (by kernel_rfl) _ rfl
          clear hin hout
          intro K Q hK
          go_simp
          exact hK _ _ ⟨Keeps.refl _ _, rfl⟩
        refine all_step rfl (fun a x W hR hout hin => ?_) ?_
        · have e16 := hin.is 3 16 (by kernel_rfl) (by decide) (by kernel_rfl) _ rfl
          have hu3 := (hR.below.cell (p := ⟨b, o + k, none⟩) (Nat.lt_of_lt_of_le hbl hbr.size)).trans hu2
          clear hin hout hu2
          intro K Q hK
          go_simp
          exact hK _ _ ⟨Keeps.refl _ _, rfl⟩
        refine all_step rfl (fun a x W hR hout hin => ?_) ?_
        · have e17 := hin.is 4 17 (by kernel_rfl) (by decide) (by kernel_rfl) _ rfl
          clear hin hout
          intro K Q hK
          go_simp
          exact hK _ _ ⟨Keeps.alloc _ _ hR.below.size, hand1 (hs2.below (w' := W) ((Below.refl wr.heap.size wr).drew.trans hR.below) (Nat.le_refl _))⟩
        refine all_step rfl (fun a x W hR hout hin => ?_) ?_
        · have e13 := hin.is 0 13 (by kernel_rfl) (by decide) (by kernel_rfl) _ rfl
          obtain ⟨v18, e18, hv18⟩ := hin.get 5 18 (by kernel_rfl) (by decide) (by kernel_rfl)
          clear hin hout
          intro K Q hK
          go_simp
          refine (refstep_one L q v18 W HLk.out hv18 hql L' HST.out).mono ?_
          rintro e W' ⟨rfl, hb⟩
          exact hK _ _ ⟨Keeps.call hb hR.below.size, rfl⟩
        exact all_end (by decide)
      · intro x w3 hK3 hV
        have h19 : x 6 = .agg (bs L') := hV 6 (by decide)
        clear hV
        simp only [putL, Act.put, List.setIfInBounds_toArray, List.set_cons_succ, List.set_cons_zero, h19]
        have hq3 : Below wr.heap.size wr w3 := (Below.refl wr.heap.size wr).drew.trans hK3.below
        have rh3 := rh.call hq3
        have own3 := owns_call own hq3
        have hb03 := hbr.trans (hq3.mono hbr.size)
        clear hK3 hq3 rh own hbr
        refine anyH_one (i := 7) (o := { dst := none, op := _, type := _, pos := _, after := _, guard := none }) (by kernel_rfl) rfl (fun K hK => ?_)
        rw [if_pos (by rfl)]
        refine wp_store_row 24 _ _ rfl w.heap.size (bs L') rfl rfl 24 _ rh3 (by rw [size_bs, HLs.out]; exact size_d) (by rw [size_bs, size_bs, HLs.out, HLk.out]) (one_bs _) ?_
        refine hK _ _ trivial ?_
        clear hK K
        refine wpAnyH_done (by kernel_rfl) ?_ _
        have rh4 := rh3.setRow (bs L')
        have own4 := own3.kept (grown_setRow w3 w.heap.size (bs L')) (by
          cases hv : u5.ownBlock with
          | none => exact .inl rfl
          | some g => exact .inr (fun e => by have := (own3.lt g hv).1; injection e with e; omega))
        have hb04 := below_setRow hb03 (Nat.le_refl _) (bs L')
        have rh5 := rh4.alloc (.cells (bs L') 24)
        have own5 := own4.alloc (.cells (bs L') 24)
        have hb05 := hb04.alloc hb04.size (.cells (bs L') 24)
        have hcl := lit_dig (w3.setRow w.heap.size (bs L')) L' 24
        have hsz : w.heap.size + 1 ≤ ((w3.setRow w.heap.size (bs L')).alloc (.cells (bs L') 24)).heap.size := Nat.succ_le_of_lt rh5.lt
        have HSZ := Lib.hid hsz
        have HCL := Lib.hid hcl
        clear rh3 hcl hsz own3 hb03 own4 hb04 h19
        go_wp2_with (first | (refine wpList_load_row rfl 24 (.tmp 2) rfl w.heap.size rfl 24 (bs L') (0, 0) _ rh4 Tryd.underlying24 rfl (by rw [size_bs, HLs.out]; exact size_d) ?_; clear rh4) | (refine wpList_build_dig rfl (.tmp 21) rfl L' rfl HLs.out ?_) | (at_builtin; refine wpList_append_own _ rfl (.tmp 20) (.tmp 22) 30 rfl (w.heap.size + 1) 24 i1 (.agg (bs (zer 32))) 32 32 Tryd.underlying30 hi1 hz10 hz11 hz12 rfl (by decide) _ k _ rfl own5 ⟨(w3.setRow w.heap.size (bs L')).heap.size, 0, none⟩ 1 1 (bs L').toList rfl (by rw [len_bs, HLs.out]) HCL.out (one_bsL L') (by unfold maxLen; omega) (by omega) HSZ.out ?_; intro v2 w6 own6 hg6 _))
        have hq6 := below_of_grown (base := w.heap.size + 1) (row := u5.ownBlock) hg6 (fun g e => (own5.lt g e).1) HSZ.out
        exact ⟨⟨k + 1, by omega, by go_num, HSS.out w6 v2 own6 (rh5.below hq6 (by omega)) (hb05.trans (hq6.mono (by omega)))⟩, by simp [intOf]; omega⟩
    · obtain rfl : k = rs.length := by omega
      have hD := own_digs (ds := chainOf h rs rs.length) (by rw [length_chainOf]; exact own) (fun d hd => by
        simp only [chainOf, List.mem_map, List.mem_range] at hd
        obtain ⟨i, _, rfl⟩ := hd
        exact HH.out _)
      clear HR own rh
      go_wp2_with fail
      go_ret
      exact ⟨_, rfl, hD, hbr⟩
end Go.Proofs.YtnfceejmkcohnaaDoor
