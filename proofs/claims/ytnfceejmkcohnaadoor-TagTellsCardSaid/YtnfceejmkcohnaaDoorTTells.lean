/- The statement TagTells: its walk. -/
import Derived.Test.YtnfceejmkcohnaaDoorTJoins
import Derived.Test.YtnfceejmkcohnaaDoorTSame
import Derived.Test.YtnfceejmkcohnaaDoorRefChain
namespace Go.Proofs.YtnfceejmkcohnaaDoor
open Go Go.RowKit
def ptn (ps : List (List (BitVec 8))) : Value → World → Prop := fun v w => Parts w v ps ∧ ∀ n c, v = .slice none n c → c = 0
theorem ptn_stays (B : Nat) (ps : List (List (BitVec 8))) : Stays B (ptn ps) := fun _ _ _ h k => ⟨k.parts h.1, h.2⟩
def dgs (ds : List (List (BitVec 8))) : Value → World → Prop := fun v w => Digs w v ds
theorem Keeps.digs {B : Nat} {w w' : World} {v : Value} {ds : List (List (BitVec 8))} (h : Keeps B w w') (hs : Digs w v ds) : Digs w' v ds := by
  obtain ⟨A, c, h1, h3⟩ := hs
  refine ⟨A, c, h1, fun hne => ?_⟩
  obtain ⟨b, o, h4, h5, h6⟩ := h3 hne
  exact ⟨b, o, h4, Nat.lt_of_lt_of_le h5 h.below.size, fun j d hd k v hv => h.cell (h6 j d hd k v hv)⟩
theorem dgs_stays (B : Nat) (ds : List (List (BitVec 8))) : Stays B (dgs ds) := fun _ _ _ h k => k.digs h
theorem step_at (l : List (BitVec 8)) (ps : List (List (BitVec 8))) (v : Value) (w : World) (hT : Tab w) (hl : l.length = 32) (hv : Parts w v ps) (hnil : ∀ n c, v = .slice none n c → c = 0) (hn : ps.length ≤ 1000000) (hlen : ps.flatten.length ≤ 1000000000) (S : List (BitVec 8)) (hS : sha (l ++ ps.flatten) = S) :
    Calls Tryd.prog 14 #[.agg (bs l), v] w fun e w' => e = .returned (.agg (bs S)) ∧ Below w.heap.size w w' := by
  subst hS; exact step_any l ps v w hT hl hv hnil hn hlen
theorem refstep_at (l : List (BitVec 8)) (ps : List (List (BitVec 8))) (v : Value) (w : World) (hl : l.length = 32) (hv : Hand w v ps) (hnil : ∀ n c, v = .slice none n c → c = 0) (hn : ps.length ≤ 900) (hlen : ps.flatten.length ≤ 90000) (S : List (BitVec 8)) (hS : sha (l ++ ps.flatten) = S) :
    Calls Tryd.prog 15 #[.agg (bs l), v] w fun e w' => e = .returned (.agg (bs S)) ∧ Below w.heap.size w w' := by
  subst hS; exact refstep_any l ps v w hl hv hnil hn hlen
set_option maxRecDepth 20000 in
set_option maxHeartbeats 600000 in
theorem tells_walk (Aa : Option Addr) (ca : Nat) (p : List (BitVec 8)) (Ab : Option Addr) (cb : Nat) (q : List (BitVec 8)) (h : List (BitVec 8)) (u : Value) (rs0 : List (List (BitVec 8))) (w : World) (hT : Tab w)
    (hSa : Slice w (.slice Aa p.length ca) p) (_ : Aa = none → ca = 0) (hma : p.length ≤ maxLen) (hSb : Slice w (.slice Ab q.length cb) q) (_ : Ab = none → cb = 0) (hmb : q.length ≤ maxLen)
    (hh : h.length = 32) (hv : Hand w u rs0) (hn : rs0.length ≤ maxLen) (hnil : ∀ n c, u = .slice none n c → c = 0) :
    Calls Tryd.prog 3 #[.slice Aa p.length ca, .slice Ab q.length cb, .agg (chCells h u)] w fun e w' => e = .returned (.bool true) ∧ Below w.heap.size w w' := by
  unfold maxLen at hma hmb
  have HT := Lib.hid hT
  have HSa := Lib.hid hSa
  have HSb := Lib.hid hSb
  have HLh := Lib.hid hh
  have HV := Lib.hid hv
  have HN0 := Lib.hid hn
  have HNIL := Lib.hid hnil
  obtain ⟨A, c, rfl, _⟩ := hv
  have hb1 := (Below.refl w.heap.size w).alloc (Nat.le_refl _) (.cells (chCells h (.slice A rs0.length c)) 27)
  have rc1 := Row.fresh w 27 (chCells h (.slice A rs0.length c))
  have cu := ch_list rc1 hh
  have HRC1 := Lib.hid rc1
  clear hT hSa hSb hh hn hnil rc1
  obtain ⟨n, hN⟩ : ∃ n, rs0.length = n := ⟨_, rfl⟩
  have HN := Lib.hid hN
  rw [hN] at cu HRC1 HV HNIL hb1 ⊢
  clear hN
  by_cases hbig : 3000 < p.length ∨ 3000 < q.length
  · clear cu
    have hd : (decide ((3000 : Int) < (p.length : Int)) || decide ((3000 : Int) < (q.length : Int))) = true := by
      rcases hbig with h | h
      · rw [decide_eq_true (by omega)]; rfl
      · rw [decide_eq_true (p := (3000 : Int) < (q.length : Int)) (by omega)]; exact Bool.or_true _
    go_enter Tryd.func3, Tryd.ntmps3
    go_wp2_with fail
    all_goals
      refine (twakes_any _ (HT.out.below hb1 HT.out.pos)).mono ?_
      rintro e w1 ⟨rfl, hb⟩
      go_wp2_with fail
      go_ret
      exact ⟨rfl, hb1.trans (hb.mono (by simp))⟩
  · have d0 : decide ((3000 : Int) < (p.length : Int)) = false := decide_eq_false (by omega)
    have d1 : decide ((3000 : Int) < (q.length : Int)) = false := decide_eq_false (by omega)
    go_enter Tryd.func3, Tryd.ntmps3
    go_wp2_with fail
    refine (fair_any rs0 _ (w.alloc (.cells (chCells h (.slice A n c)) 27)) (HV.out.below hb1 (Nat.le_refl _)) HN0.out).mono ?_
    rintro e w1 ⟨bf, rfl, hf, rfl⟩
    cases bf with
    | false =>
      go_wp2_with fail
      refine (twakes_any _ (HT.out.below hb1 HT.out.pos)).mono ?_
      rintro e w2 ⟨rfl, hb⟩
      go_wp2_with fail
      go_ret
      exact ⟨rfl, hb1.trans (hb.mono (by simp))⟩
    | true =>
      obtain ⟨hn60, hM⟩ := hf rfl
      clear hf cu
      rw [HN.out] at hn60
      have HQ3 : Hid (∀ q ∈ rs0, q.length ≤ 3000) := Lib.hid fun q hq => Nat.le_trans (mem_flat rs0 q hq) hM
      have HQ6 : Hid (∀ q ∈ rs0, q.length ≤ 1000000) := Lib.hid fun q hq => by have := HQ3.out q hq; omega
      have HQ8 : Hid (∀ q ∈ rs0, q.length ≤ 80000) := Lib.hid fun q hq => by have := HQ3.out q hq; omega
      obtain ⟨ds, hds⟩ : ∃ ds, chainOf h rs0 rs0.length = ds := ⟨_, rfl⟩
      have HDS := Lib.hid hds
      have HDL : Hid (ds.length = n) := Lib.hid (by rw [← hds, length_chainOf]; exact HN.out)
      have HD32 : Hid (∀ d ∈ ds, d.length = 32) := Lib.hid fun d hd => by
        rw [← hds] at hd
        simp only [chainOf, List.mem_map, List.mem_range] at hd
        obtain ⟨i, _, rfl⟩ := hd
        exact length_linkAt h rs0 HLh.out _
      clear hds
      obtain ⟨S, hS⟩ : ∃ S, sha (h ++ rs0.flatten) = S := ⟨_, rfl⟩
      have HS := Lib.hid hS
      have HLS : Hid (S.length = 32) := Lib.hid (by rw [← hS]; exact length_sha _)
      clear hS
      obtain ⟨t, ht⟩ : ∃ t, decide (p = q) = t := ⟨_, rfl⟩
      have HTt := Lib.hid ht
      clear ht
      have hb01 := hb1
      have HRC := HRC1
      clear hb1 HRC1
      generalize w.alloc (.cells (chCells h (.slice A n c)) 27) = w1 at *
      go_wp2_with fail
      refine wp_region_vs (w1.heap.size) [is (.pointer (some ⟨w.heap.size, 0, none⟩)), is (.agg (bs h)), is (.pointer (some ⟨w.heap.size, 32, none⟩)), is (.slice A n c), (ptn rs0), (dgs ds), is (.pointer (some ⟨w.heap.size, 0, none⟩)), is (.agg (bs h)), is (.pointer (some ⟨w.heap.size, 32, none⟩)), is (.slice A n c), (dgs ds), (dgs ds), (dgs ds)] [some 25, some 26, some 27, some 28, some 29, some 30, some 31, some 32, some 33, some 34, some 35, some 7, some 8] 13 13 (fun _ => true) rfl rfl rfl (by kernel_rfl) (by kernel_rfl) ?_ ?_ ?_ ?_
      · repeat first | exact stays_nil _ | refine stays_cons (by first | exact is_stays _ _ | exact lit_stays _ _ | exact sl_stays _ _ | exact pts_stays _ _ | exact hnd_stays _ _ | exact any_stays _ | exact dgs_stays _ _ | exact ptn_stays _ _) ?_
      · repeat first | exact all_end (by decide) | refine all_cons (by first | exact rfl | exact fun _ _ _ h => h) ?_
      · refine all_step rfl (fun a x W hR hout hin => ?_) ?_
        · have e5 : a.tmps[5]? = some (.pointer (some ⟨w.heap.size, 0, none⟩)) := (hout 5 (by kernel_rfl)).trans rfl
          clear hin hout
          intro K Q hK
          go_simp
          exact hK _ _ ⟨Keeps.refl _ _, rfl⟩
        refine all_step rfl (fun a x W hR hout hin => ?_) ?_
        · have e25 := hin.is 0 25 (by kernel_rfl) (by decide) (by kernel_rfl) _ rfl
          clear hin hout
          intro K Q hK
          refine wp_load_mid 24 (.tmp 25) rfl w.heap.size 0 (eval_of_get e25) (bs h).toList _ (fun j u hu => hR.cell (a := ⟨w.heap.size, 0 + j, none⟩) ((ch_head HRC.out) j u hu)) Tryd.underlying24 rfl (by rw [len_bs, HLh.out]; exact size_d) ?_
          exact hK _ _ ⟨Keeps.refl _ _, by simp [Vs, is]⟩
        refine all_step rfl (fun a x W hR hout hin => ?_) ?_
        · have e5 : a.tmps[5]? = some (.pointer (some ⟨w.heap.size, 0, none⟩)) := (hout 5 (by kernel_rfl)).trans rfl
          clear hin hout
          intro K Q hK
          go_simp
          exact hK _ _ ⟨Keeps.refl _ _, rfl⟩
        refine all_step rfl (fun a x W hR hout hin => ?_) ?_
        · have e27 := hin.is 2 27 (by kernel_rfl) (by decide) (by kernel_rfl) _ rfl
          have hu4 : W.cell? ⟨w.heap.size, 32, none⟩ = some (.slice A n c) := hR.cell (a := ⟨w.heap.size, 32, none⟩) (ch_list HRC.out HLh.out)
          clear hin hout
          intro K Q hK
          go_simp
          exact hK _ _ ⟨Keeps.refl _ _, rfl⟩
        refine all_step rfl (fun a x W hR hout hin => ?_) ?_
        · have e28 := hin.is 3 28 (by kernel_rfl) (by decide) (by kernel_rfl) _ rfl
          have hh : Hand W (.slice A n c) rs0 := HV.out.below (hb01.trans ((Below.refl w.heap.size w1).drew.trans (hR.below.mono hb01.size))) (Nat.le_refl _)
          clear hin hout
          intro K Q hK
          go_simp
          refine (copy_any rs0 _ W hh (by rw [HN.out]; omega) HQ3.out).mono ?_
          rintro e W' ⟨v2, rfl, hO⟩
          exact hK _ _ ⟨Keeps.call (by obtain ⟨_, _, hb, _⟩ := hO; exact hb) hR.below.size, hO.parts, by obtain ⟨_, h1, _⟩ := hO; exact own_nil h1⟩
        refine all_step rfl (fun a x W hR hout hin => ?_) ?_
        · have e26 := hin.is 1 26 (by kernel_rfl) (by decide) (by kernel_rfl) _ rfl
          obtain ⟨v29, e29, hv29⟩ := hin.get 4 29 (by kernel_rfl) (by decide) (by kernel_rfl)
          have hT : Tab W := HT.out.below (hb01.trans ((Below.refl w.heap.size w1).drew.trans (hR.below.mono hb01.size))) HT.out.pos
          clear hin hout
          intro K Q hK
          go_simp
          refine (chain_any h rs0 v29 W hT HLh.out hv29.1 (by rw [HN.out]; omega) HQ6.out).mono ?_
          rintro e W' ⟨u', rfl, hD, hb⟩
          rw [HDS.out] at hD
          exact hK _ _ ⟨Keeps.call hb hR.below.size, hD⟩
        refine all_step rfl (fun a x W hR hout hin => ?_) ?_
        · have e5 : a.tmps[5]? = some (.pointer (some ⟨w.heap.size, 0, none⟩)) := (hout 5 (by kernel_rfl)).trans rfl
          clear hin hout
          intro K Q hK
          go_simp
          exact hK _ _ ⟨Keeps.refl _ _, rfl⟩
        refine all_step rfl (fun a x W hR hout hin => ?_) ?_
        · have e31 := hin.is 6 31 (by kernel_rfl) (by decide) (by kernel_rfl) _ rfl
          clear hin hout
          intro K Q hK
          refine wp_load_mid 24 (.tmp 31) rfl w.heap.size 0 (eval_of_get e31) (bs h).toList _ (fun j u hu => hR.cell (a := ⟨w.heap.size, 0 + j, none⟩) ((ch_head HRC.out) j u hu)) Tryd.underlying24 rfl (by rw [len_bs, HLh.out]; exact size_d) ?_
          exact hK _ _ ⟨Keeps.refl _ _, by simp [Vs, is]⟩
        refine all_step rfl (fun a x W hR hout hin => ?_) ?_
        · have e5 : a.tmps[5]? = some (.pointer (some ⟨w.heap.size, 0, none⟩)) := (hout 5 (by kernel_rfl)).trans rfl
          clear hin hout
          intro K Q hK
          go_simp
          exact hK _ _ ⟨Keeps.refl _ _, rfl⟩
        refine all_step rfl (fun a x W hR hout hin => ?_) ?_
        · have e33 := hin.is 8 33 (by kernel_rfl) (by decide) (by kernel_rfl) _ rfl
          have hu4 : W.cell? ⟨w.heap.size, 32, none⟩ = some (.slice A n c) := hR.cell (a := ⟨w.heap.size, 32, none⟩) (ch_list HRC.out HLh.out)
          clear hin hout
          intro K Q hK
          go_simp
          exact hK _ _ ⟨Keeps.refl _ _, rfl⟩
        refine all_step rfl (fun a x W hR hout hin => ?_) ?_
        · have e32 := hin.is 7 32 (by kernel_rfl) (by decide) (by kernel_rfl) _ rfl
          have e34 := hin.is 9 34 (by kernel_rfl) (by decide) (by kernel_rfl) _ rfl
          have hh : Hand W (.slice A n c) rs0 := HV.out.below (hb01.trans ((Below.refl w.heap.size w1).drew.trans (hR.below.mono hb01.size))) (Nat.le_refl _)
          clear hin hout
          intro K Q hK
          go_simp
          refine (refchain_any h rs0 _ W HLh.out hh (by rw [HN.out]; omega) HQ8.out).mono ?_
          rintro e W' ⟨u', rfl, hD, hb⟩
          rw [HDS.out] at hD
          exact hK _ _ ⟨Keeps.call hb hR.below.size, hD⟩
        refine all_step rfl (fun a x W hR hout hin => ?_) ?_
        · obtain ⟨v30, e30, hv30⟩ := hin.get 5 30 (by kernel_rfl) (by decide) (by kernel_rfl)
          exact does_assign rfl e30 ⟨Keeps.refl _ _, hv30⟩
        refine all_step rfl (fun a x W hR hout hin => ?_) ?_
        · obtain ⟨v35, e35, hv35⟩ := hin.get 10 35 (by kernel_rfl) (by decide) (by kernel_rfl)
          exact does_assign rfl e35 ⟨Keeps.refl _ _, hv35⟩
        exact all_end (by decide)
      · intro x w2 hKW hV
        have hx11 : Digs w2 (x 11) ds := hV 11 (by decide)
        have hx12 : Digs w2 (x 12) ds := hV 12 (by decide)
        clear hV
        obtain ⟨A7, c7, e7, hD7⟩ := hx11
        obtain ⟨A8, c8, e8, hD8⟩ := hx12
        simp only [putL, Act.put, List.setIfInBounds_toArray, List.set_cons_succ, List.set_cons_zero, e7, e8]
        refine wpAnyH_done (by kernel_rfl) ?_ _
        rw [HDL.out]
        have hb02 := hb01.trans ((Below.refl w.heap.size w1).drew.trans (hKW.below.mono hb01.size))
        have HRC2 := Lib.hid (HRC.out.drew.below hKW.below HRC.out.lt)
        have HD7 := Lib.hid hD7
        have HD8 := Lib.hid hD8
        clear hKW hD7 hD8 e7 e8 HRC hb01
        go_wp2_with fail
        go_loopw [9] (fun i wr => ∃ k : Nat, k ≤ n ∧ i = .int .i64 k ∧ Below w2.heap.size w2 wr) (fun i _ => n - (intOf i).toNat)
        case atStart => exact ⟨0, by omega, rfl, Below.refl _ _⟩
        case round =>
          obtain ⟨k, hk, rfl, hbr⟩ := hrel
          by_cases hlt : k < n
          · have hd0 : k < ds.length := by rw [HDL.out]; exact hlt
            have hne : ds ≠ [] := by intro e; rw [e] at hd0; simp at hd0
            obtain ⟨b7, o7, rfl, hl7, hr7⟩ := HD7.out hne
            obtain ⟨b8, o8, rfl, hl8, hr8⟩ := HD8.out hne
            have HLL := Lib.hid (HD32.out ds[k] (List.getElem_mem hd0))
            have R7 : Hid (wr.rangeAt b7 (o7 + k * 32) (bs ds[k]).toList) := Lib.hid fun j v hv => (hbr.cell (p := ⟨b7, o7 + k * 32 + j, none⟩) hl7).trans (hr7 k ds[k] (List.getElem?_eq_getElem hd0) j v hv)
            have R8 : Hid (wr.rangeAt b8 (o8 + k * 32) (bs ds[k]).toList) := Lib.hid fun j v hv => (hbr.cell (p := ⟨b8, o8 + k * 32 + j, none⟩) hl8).trans (hr8 k ds[k] (List.getElem?_eq_getElem hd0) j v hv)
            have hk0 : (0 : Int) ≤ (k : Int) := by omega
            have hk1 : (k : Int) < (n : Int) := by omega
            clear hr7 hr8
            generalize ds[k] = L at *
            clear hd0 hne
            go_wp2_with fail
            refine wp_region_vs (wr.heap.size) [is (.slice (some ⟨b7, o7, none⟩) n c7), is (.int .i64 (k : Int)), is (.pointer (some ⟨b7, o7 + k * 32, none⟩)), is (.agg (bs L)), is (.slice (some ⟨b8, o8, none⟩) n c8), is (.int .i64 (k : Int)), is (.pointer (some ⟨b8, o8 + k * 32, none⟩)), is (.agg (bs L)), is (.bool false)] [some 47, some 48, some 49, some 50, some 51, some 52, some 53, some 54, some 55] 9 9 (fun _ => true) rfl rfl rfl (by kernel_rfl) (by kernel_rfl) ?_ ?_ ?_ ?_
            · repeat first | exact stays_nil _ | refine stays_cons (by first | exact is_stays _ _ | exact lit_stays _ _ | exact sl_stays _ _ | exact pts_stays _ _ | exact hnd_stays _ _ | exact any_stays _) ?_
            · repeat first | exact all_end (by decide) | refine all_cons (by first | exact rfl | exact fun _ _ _ h => h) ?_
            · refine all_step rfl (fun a x W hR hout hin => ?_) ?_
              · have e7 : a.tmps[7]? = some (.slice (some ⟨b7, o7, none⟩) n c7) := (hout 7 (by kernel_rfl)).trans rfl
                exact does_move rfl e7 ⟨Keeps.refl _ _, rfl⟩
              refine all_step rfl (fun a x W hR hout hin => ?_) ?_
              · have e9 : a.tmps[9]? = some (.int .i64 (k : Int)) := (hout 9 (by kernel_rfl)).trans rfl
                exact does_move rfl e9 ⟨Keeps.refl _ _, rfl⟩
              refine all_step rfl (fun a x W hR hout hin => ?_) ?_
              · have e47 := hin.is 0 47 (by kernel_rfl) (by decide) (by kernel_rfl) _ rfl
                have e48 := hin.is 1 48 (by kernel_rfl) (by decide) (by kernel_rfl) _ rfl
                clear hin hout
                intro K Q hK
                go_simp
                exact hK _ _ ⟨Keeps.refl _ _, rfl⟩
              refine all_step rfl (fun a x W hR hout hin => ?_) ?_
              · have e49 := hin.is 2 49 (by kernel_rfl) (by decide) (by kernel_rfl) _ rfl
                clear hin hout
                intro K Q hK
                refine wp_load_mid 24 (.tmp 49) rfl b7 (o7 + k * 32) (eval_of_get e49) (bs L).toList _ (fun j u hu => hR.cell (a := ⟨b7, (o7 + k * 32) + j, none⟩) (R7.out j u hu)) Tryd.underlying24 rfl (by rw [len_bs, HLL.out]; exact size_d) ?_
                exact hK _ _ ⟨Keeps.refl _ _, by simp [Vs, is]⟩
              refine all_step rfl (fun a x W hR hout hin => ?_) ?_
              · have e8 : a.tmps[8]? = some (.slice (some ⟨b8, o8, none⟩) n c8) := (hout 8 (by kernel_rfl)).trans rfl
                exact does_move rfl e8 ⟨Keeps.refl _ _, rfl⟩
              refine all_step rfl (fun a x W hR hout hin => ?_) ?_
              · have e9 : a.tmps[9]? = some (.int .i64 (k : Int)) := (hout 9 (by kernel_rfl)).trans rfl
                exact does_move rfl e9 ⟨Keeps.refl _ _, rfl⟩
              refine all_step rfl (fun a x W hR hout hin => ?_) ?_
              · have e51 := hin.is 4 51 (by kernel_rfl) (by decide) (by kernel_rfl) _ rfl
                have e52 := hin.is 5 52 (by kernel_rfl) (by decide) (by kernel_rfl) _ rfl
                clear hin hout
                intro K Q hK
                go_simp
                exact hK _ _ ⟨Keeps.refl _ _, rfl⟩
              refine all_step rfl (fun a x W hR hout hin => ?_) ?_
              · have e53 := hin.is 6 53 (by kernel_rfl) (by decide) (by kernel_rfl) _ rfl
                clear hin hout
                intro K Q hK
                refine wp_load_mid 24 (.tmp 53) rfl b8 (o8 + k * 32) (eval_of_get e53) (bs L).toList _ (fun j u hu => hR.cell (a := ⟨b8, (o8 + k * 32) + j, none⟩) (R8.out j u hu)) Tryd.underlying24 rfl (by rw [len_bs, HLL.out]; exact size_d) ?_
                exact hK _ _ ⟨Keeps.refl _ _, by simp [Vs, is]⟩
              refine all_step rfl (fun a x W hR hout hin => ?_) ?_
              · have e50 := hin.is 3 50 (by kernel_rfl) (by decide) (by kernel_rfl) _ rfl
                have e54 := hin.is 7 54 (by kernel_rfl) (by decide) (by kernel_rfl) _ rfl
                have q := eql_dig L HLL.out W
                clear hin hout
                intro K Q hK
                go_simp
                exact hK _ _ ⟨Keeps.refl _ _, rfl⟩
              exact all_end (by decide)
            · intro x W hKW hV
              have h8 : x 8 = .bool false := hV 8 (by decide)
              clear hV
              simp only [putL, Act.put, List.setIfInBounds_toArray, List.set_cons_succ, List.set_cons_zero, h8]
              refine wpAnyH_done (by kernel_rfl) ?_ _
              have hbW : Below w2.heap.size w2 W := hbr.trans ((Below.refl w2.heap.size wr).drew.trans (hKW.below.mono hbr.size))
              clear hKW h8
              go_wp2_with fail
              go_roundw
              case rel => exact ⟨k + 1, by omega, by go_num, hbW⟩
              case measure => simp [intOf]; omega
          · obtain rfl : n = k := by omega
            have hb03 := hb02.trans (hbr.mono hb02.size)
            have HRC := Lib.hid (HRC2.out.below hbr HRC2.out.lt)
            clear HRC2 hb02 hbr HD7 HD8
            go_wp2_with fail
            refine wp_region_vs (wr.heap.size) [is (.slice Aa p.length ca), is (.slice Ab q.length cb), is (.bool t), is (.slice Aa p.length ca), is (.slice Ab q.length cb), is (.bool t), is (.bool true), is (.bool true), is (.pointer (some ⟨w.heap.size, 0, none⟩)), is (.agg (bs h)), is (.pointer (some ⟨w.heap.size, 32, none⟩)), is (.slice A n c), (ptn rs0), is (.agg (bs S)), is (.pointer (some ⟨w.heap.size, 0, none⟩)), is (.agg (bs h)), is (.pointer (some ⟨w.heap.size, 32, none⟩)), is (.slice A n c), is (.agg (bs S)), is (.bool true), is (.bool true), is (.bool true), is (.bool true), is (.bool true), is (.bool true)] [some 56, some 57, some 58, some 59, some 60, some 61, some 62, some 63, some 64, some 65, some 66, some 67, some 68, some 69, some 70, some 71, some 72, some 73, some 74, some 75, some 76, some 77, some 78, some 79, some 6] 25 25 (fun _ => true) rfl rfl rfl (by kernel_rfl) (by kernel_rfl) ?_ ?_ ?_ ?_
            · repeat first | exact stays_nil _ | refine stays_cons (by first | exact is_stays _ _ | exact lit_stays _ _ | exact sl_stays _ _ | exact pts_stays _ _ | exact hnd_stays _ _ | exact any_stays _ | exact ptn_stays _ _) ?_
            · repeat first | exact all_end (by decide) | refine all_cons (by first | exact rfl | exact fun _ _ _ h => h) ?_
            · refine all_step rfl (fun a x W hR hout hin => ?_) ?_
              · have e0 : a.tmps[0]? = some (.slice Aa p.length ca) := (hout 0 (by kernel_rfl)).trans rfl
                exact does_move rfl e0 ⟨Keeps.refl _ _, rfl⟩
              refine all_step rfl (fun a x W hR hout hin => ?_) ?_
              · have e1 : a.tmps[1]? = some (.slice Ab q.length cb) := (hout 1 (by kernel_rfl)).trans rfl
                exact does_move rfl e1 ⟨Keeps.refl _ _, rfl⟩
              refine all_step rfl (fun a x W hR hout hin => ?_) ?_
              · have e56 := hin.is 0 56 (by kernel_rfl) (by decide) (by kernel_rfl) _ rfl
                have e57 := hin.is 1 57 (by kernel_rfl) (by decide) (by kernel_rfl) _ rfl
                have sa : Slice W (.slice Aa p.length ca) p := HSa.out.below (hb03.trans ((Below.refl w.heap.size wr).drew.trans (hR.below.mono hb03.size))) (Nat.le_refl _)
                have sb : Slice W (.slice Ab q.length cb) q := HSb.out.below (hb03.trans ((Below.refl w.heap.size wr).drew.trans (hR.below.mono hb03.size))) (Nat.le_refl _)
                clear hin hout
                intro K Q hK
                go_simp
                refine (same_at p q _ _ W sa sb (by omega) (by omega) t HTt.out).mono ?_
                rintro e W' ⟨rfl, rfl⟩
                exact hK _ _ ⟨Keeps.refl _ _, rfl⟩
              refine all_step rfl (fun a x W hR hout hin => ?_) ?_
              · have e0 : a.tmps[0]? = some (.slice Aa p.length ca) := (hout 0 (by kernel_rfl)).trans rfl
                exact does_move rfl e0 ⟨Keeps.refl _ _, rfl⟩
              refine all_step rfl (fun a x W hR hout hin => ?_) ?_
              · have e1 : a.tmps[1]? = some (.slice Ab q.length cb) := (hout 1 (by kernel_rfl)).trans rfl
                exact does_move rfl e1 ⟨Keeps.refl _ _, rfl⟩
              refine all_step rfl (fun a x W hR hout hin => ?_) ?_
              · have e59 := hin.is 3 59 (by kernel_rfl) (by decide) (by kernel_rfl) _ rfl
                have e60 := hin.is 4 60 (by kernel_rfl) (by decide) (by kernel_rfl) _ rfl
                have sa : Slice W (.slice Aa p.length ca) p := HSa.out.below (hb03.trans ((Below.refl w.heap.size wr).drew.trans (hR.below.mono hb03.size))) (Nat.le_refl _)
                have sb : Slice W (.slice Ab q.length cb) q := HSb.out.below (hb03.trans ((Below.refl w.heap.size wr).drew.trans (hR.below.mono hb03.size))) (Nat.le_refl _)
                clear hin hout
                intro K Q hK
                go_simp
                refine (keepb_any _ _ p q W sa sb).mono ?_
                rintro e W' ⟨rfl, rfl⟩
                exact hK _ _ ⟨Keeps.refl _ _, congrArg Value.bool HTt.out⟩
              refine all_step rfl (fun a x W hR hout hin => ?_) ?_
              · have e58 := hin.is 2 58 (by kernel_rfl) (by decide) (by kernel_rfl) _ rfl
                have e61 := hin.is 5 61 (by kernel_rfl) (by decide) (by kernel_rfl) _ rfl
                have q : (t == t) = true := beq_self_eq_true t
                clear hin hout
                intro K Q hK
                go_simp
                exact hK _ _ ⟨Keeps.refl _ _, rfl⟩
              refine all_step rfl (fun a x W hR hout hin => ?_) ?_
              · have e62 := hin.is 6 62 (by kernel_rfl) (by decide) (by kernel_rfl) _ rfl
                exact does_move rfl e62 ⟨Keeps.refl _ _, rfl⟩
              refine all_step rfl (fun a x W hR hout hin => ?_) ?_
              · have e5 : a.tmps[5]? = some (.pointer (some ⟨w.heap.size, 0, none⟩)) := (hout 5 (by kernel_rfl)).trans rfl
                clear hin hout
                intro K Q hK
                go_simp
                exact hK _ _ ⟨Keeps.refl _ _, rfl⟩
              refine all_step rfl (fun a x W hR hout hin => ?_) ?_
              · have e64 := hin.is 8 64 (by kernel_rfl) (by decide) (by kernel_rfl) _ rfl
                clear hin hout
                intro K Q hK
                refine wp_load_mid 24 (.tmp 64) rfl w.heap.size 0 (eval_of_get e64) (bs h).toList _ (fun j u hu => hR.cell (a := ⟨w.heap.size, 0 + j, none⟩) ((ch_head HRC.out) j u hu)) Tryd.underlying24 rfl (by rw [len_bs, HLh.out]; exact size_d) ?_
                exact hK _ _ ⟨Keeps.refl _ _, by simp [Vs, is]⟩
              refine all_step rfl (fun a x W hR hout hin => ?_) ?_
              · have e5 : a.tmps[5]? = some (.pointer (some ⟨w.heap.size, 0, none⟩)) := (hout 5 (by kernel_rfl)).trans rfl
                clear hin hout
                intro K Q hK
                go_simp
                exact hK _ _ ⟨Keeps.refl _ _, rfl⟩
              refine all_step rfl (fun a x W hR hout hin => ?_) ?_
              · have e66 := hin.is 10 66 (by kernel_rfl) (by decide) (by kernel_rfl) _ rfl
                have hu4 : W.cell? ⟨w.heap.size, 32, none⟩ = some (.slice A n c) := hR.cell (a := ⟨w.heap.size, 32, none⟩) (ch_list HRC.out HLh.out)
                clear hin hout
                intro K Q hK
                go_simp
                exact hK _ _ ⟨Keeps.refl _ _, rfl⟩
              refine all_step rfl (fun a x W hR hout hin => ?_) ?_
              · have e67 := hin.is 11 67 (by kernel_rfl) (by decide) (by kernel_rfl) _ rfl
                have hh : Hand W (.slice A n c) rs0 := HV.out.below (hb03.trans ((Below.refl w.heap.size wr).drew.trans (hR.below.mono hb03.size))) (Nat.le_refl _)
                clear hin hout
                intro K Q hK
                go_simp
                refine (copy_any rs0 _ W hh (by rw [HN.out]; omega) HQ3.out).mono ?_
                rintro e W' ⟨v2, rfl, hO⟩
                exact hK _ _ ⟨Keeps.call (by obtain ⟨_, _, hb, _⟩ := hO; exact hb) hR.below.size, hO.parts, by obtain ⟨_, h1, _⟩ := hO; exact own_nil h1⟩
              refine all_step rfl (fun a x W hR hout hin => ?_) ?_
              · have e65 := hin.is 9 65 (by kernel_rfl) (by decide) (by kernel_rfl) _ rfl
                obtain ⟨v68, e68, hv68⟩ := hin.get 12 68 (by kernel_rfl) (by decide) (by kernel_rfl)
                have hT : Tab W := HT.out.below (hb03.trans ((Below.refl w.heap.size wr).drew.trans (hR.below.mono hb03.size))) HT.out.pos
                clear hin hout
                intro K Q hK
                go_simp
                refine (step_at h rs0 v68 W hT HLh.out hv68.1 hv68.2 (by rw [HN.out]; omega) (by omega) S HS.out).mono ?_
                rintro e W' ⟨rfl, hb⟩
                exact hK _ _ ⟨Keeps.call hb hR.below.size, rfl⟩
              refine all_step rfl (fun a x W hR hout hin => ?_) ?_
              · have e5 : a.tmps[5]? = some (.pointer (some ⟨w.heap.size, 0, none⟩)) := (hout 5 (by kernel_rfl)).trans rfl
                clear hin hout
                intro K Q hK
                go_simp
                exact hK _ _ ⟨Keeps.refl _ _, rfl⟩
              refine all_step rfl (fun a x W hR hout hin => ?_) ?_
              · have e70 := hin.is 14 70 (by kernel_rfl) (by decide) (by kernel_rfl) _ rfl
                clear hin hout
                intro K Q hK
                refine wp_load_mid 24 (.tmp 70) rfl w.heap.size 0 (eval_of_get e70) (bs h).toList _ (fun j u hu => hR.cell (a := ⟨w.heap.size, 0 + j, none⟩) ((ch_head HRC.out) j u hu)) Tryd.underlying24 rfl (by rw [len_bs, HLh.out]; exact size_d) ?_
                exact hK _ _ ⟨Keeps.refl _ _, by simp [Vs, is]⟩
              refine all_step rfl (fun a x W hR hout hin => ?_) ?_
              · have e5 : a.tmps[5]? = some (.pointer (some ⟨w.heap.size, 0, none⟩)) := (hout 5 (by kernel_rfl)).trans rfl
                clear hin hout
                intro K Q hK
                go_simp
                exact hK _ _ ⟨Keeps.refl _ _, rfl⟩
              refine all_step rfl (fun a x W hR hout hin => ?_) ?_
              · have e72 := hin.is 16 72 (by kernel_rfl) (by decide) (by kernel_rfl) _ rfl
                have hu4 : W.cell? ⟨w.heap.size, 32, none⟩ = some (.slice A n c) := hR.cell (a := ⟨w.heap.size, 32, none⟩) (ch_list HRC.out HLh.out)
                clear hin hout
                intro K Q hK
                go_simp
                exact hK _ _ ⟨Keeps.refl _ _, rfl⟩
              refine all_step rfl (fun a x W hR hout hin => ?_) ?_
              · have e71 := hin.is 15 71 (by kernel_rfl) (by decide) (by kernel_rfl) _ rfl
                have e73 := hin.is 17 73 (by kernel_rfl) (by decide) (by kernel_rfl) _ rfl
                have hh : Hand W (.slice A n c) rs0 := HV.out.below (hb03.trans ((Below.refl w.heap.size wr).drew.trans (hR.below.mono hb03.size))) (Nat.le_refl _)
                clear hin hout
                intro K Q hK
                go_simp
                refine (refstep_at h rs0 _ W HLh.out hh HNIL.out (by rw [HN.out]; omega) (by omega) S HS.out).mono ?_
                rintro e W' ⟨rfl, hb⟩
                exact hK _ _ ⟨Keeps.call hb hR.below.size, rfl⟩
              refine all_step rfl (fun a x W hR hout hin => ?_) ?_
              · have e69 := hin.is 13 69 (by kernel_rfl) (by decide) (by kernel_rfl) _ rfl
                have e74 := hin.is 18 74 (by kernel_rfl) (by decide) (by kernel_rfl) _ rfl
                have q := eql_dig S HLS.out W
                clear hin hout
                intro K Q hK
                go_simp
                exact hK _ _ ⟨Keeps.refl _ _, rfl⟩
              refine all_step rfl (fun a x W hR hout hin => ?_) ?_
              · have e63 := hin.is 7 63 (by kernel_rfl) (by decide) (by kernel_rfl) _ rfl
                have e75 := hin.is 19 75 (by kernel_rfl) (by decide) (by kernel_rfl) _ rfl
                exact does_pick rfl e63 ⟨Keeps.refl _ _, eval_of_get e75⟩
              refine all_step rfl (fun a x W hR hout hin => ?_) ?_
              · have e76 := hin.is 20 76 (by kernel_rfl) (by decide) (by kernel_rfl) _ rfl
                exact does_move rfl e76 ⟨Keeps.refl _ _, rfl⟩
              refine all_step rfl (fun a x W hR hout hin => ?_) ?_
              · have hT : Tab W := HT.out.below (hb03.trans ((Below.refl w.heap.size wr).drew.trans (hR.below.mono hb03.size))) HT.out.pos
                clear hin hout
                intro K Q hK
                go_simp
                refine (twakes_any W hT).mono ?_
                rintro e W' ⟨rfl, hb⟩
                exact hK _ _ ⟨Keeps.call hb hR.below.size, rfl⟩
              refine all_step rfl (fun a x W hR hout hin => ?_) ?_
              · have e77 := hin.is 21 77 (by kernel_rfl) (by decide) (by kernel_rfl) _ rfl
                have e78 := hin.is 22 78 (by kernel_rfl) (by decide) (by kernel_rfl) _ rfl
                exact does_pick rfl e77 ⟨Keeps.refl _ _, eval_of_get e78⟩
              refine all_step rfl (fun a x W hR hout hin => ?_) ?_
              · have e79 := hin.is 23 79 (by kernel_rfl) (by decide) (by kernel_rfl) _ rfl
                exact does_assign rfl e79 ⟨Keeps.refl _ _, rfl⟩
              exact all_end (by decide)
            · intro x W hKW hV
              have h24 : x 24 = .bool true := hV 24 (by decide)
              clear hV
              simp only [putL, Act.put, List.setIfInBounds_toArray, List.set_cons_succ, List.set_cons_zero, h24]
              refine wpAnyH_done (by kernel_rfl) ?_ _
              have hbW := hb03.trans ((Below.refl w.heap.size wr).drew.trans (hKW.below.mono hb03.size))
              clear hKW h24
              go_wp2_with fail
              go_ret
              exact ⟨rfl, hbW⟩
end Go.Proofs.YtnfceejmkcohnaaDoor
