/- The statement MacKeys: its walk. -/
import Derived.Test.YtieoakdlehpgiaaDoorMakes
import Derived.Test.YtieoakdlehpgiaaDoorZeros
import Derived.Test.YtieoakdlehpgiaaDoorEq64
namespace Go.Proofs.YtieoakdlehpgiaaDoor
open Go Go.RowKit
theorem row_range {w W : World} {B g : Nat} {t : TypeId} {l : List (BitVec 8)} (h : Row w g t (bs l)) (hb : Below B w W) (hg : g < B) : W.rangeAt g 0 (bs l).toList := fun j v hv => by
  rw [Nat.zero_add, (h.below hb hg).cell]; simpa using hv
theorem mac_two (key b : List (BitVec 8)) (k : Nat) (kv v : Value) (w : World) (hT : Tab w) (hk : Slice w kv key) (hkl : key.length ≤ 1000000) (hv : Parts w v [b.take k, b.drop k]) (hb : b.length ≤ 1000000) (T : List (BitVec 8)) (hTag : tagOf key b = T) :
    Calls Tryd.prog 8 #[kv, v] w fun e w' => e = .returned (.agg (bs T)) ∧ Below w.heap.size w w' := by
  subst hTag
  have e : ([b.take k, b.drop k] : List (List (BitVec 8))).flatten = b := by simp
  have h := mac_any key [b.take k, b.drop k] kv v w hT hk (by omega) hv (fun n c e => by obtain ⟨A, c', h1, h2⟩ := hv; subst e; injection h1 with h1 _ _; obtain ⟨_, _, h3, _⟩ := h2 (by simp); rw [← h1] at h3; cases h3) (by simp) (by rw [e]; omega)
  rwa [e] at h
theorem sum_one (q : List (BitVec 8)) (v : Value) (w : World) (hT : Tab w) (hv : Parts w v [q]) (h : q.length < 2147483648) :
    Calls Tryd.prog 14 #[v] w fun e w' => e = .returned (.agg (bs (sha q))) ∧ Below w.heap.size w w' := by
  have h := sum_any [q] v w hT hv (by simp) (by simpa using h)
  rwa [show ([q] : List (List (BitVec 8))).flatten = q by simp] at h
theorem tmod_nat (x : Int) (hx : 0 ≤ x) (n : Nat) : x.tmod (n : Int) = ((x.toNat % n : Nat) : Int) := by
  obtain ⟨m, rfl⟩ := Int.eq_ofNat_of_zero_le hx
  rw [Int.tmod_eq_emod_of_nonneg hx]; simp
set_option maxHeartbeats 3200000 in
theorem keys_walk (Ak : Option Addr) (ck : Nat) (key : List (BitVec 8)) (Ab : Option Addr) (cb : Nat) (b : List (BitVec 8)) (nn : List (BitVec 8)) (w : World) (hT : Tab w) (hk : Slice w (.slice Ak key.length ck) key) (hkN : Ak = none → ck = 0) (hkm : key.length ≤ maxLen) (hb : Slice w (.slice Ab b.length cb) b) (_ : Ab = none → cb = 0) (hbm : b.length ≤ maxLen) (hnn : nn.length = 2) :
    Calls Tryd.prog 4 #[.slice Ak key.length ck, .slice Ab b.length cb, .agg (bs nn)] w fun e w' => e = .returned (.bool true) ∧ Below w.heap.size w w' := by
  obtain ⟨x0, x1, rfl⟩ : ∃ x0 x1, nn = [x0, x1] := by
    match nn, hnn with
    | [x0, x1], _ => exact ⟨x0, x1, rfl⟩
  clear hnn
  unfold maxLen at hkm hbm
  have HT := Lib.hid hT
  have HK := Lib.hid hk
  have HKN := Lib.hid hkN
  have HV := Lib.hid hb
  clear hT hk hb hkN
  have hb0 := (Below.refl w.heap.size w).alloc (Nat.le_refl _) (.cells (bs [x0, x1]) 35)
  by_cases hbig : 200 < key.length ∨ 500 < b.length
  · have hd : (decide ((200 : Int) < (key.length : Int)) || decide ((500 : Int) < (b.length : Int))) = true := by simp; omega
    go_enter Tryd.func4, Tryd.ntmps4
    go_wp2_with fail
    all_goals
      refine (mwakes_any (w.alloc (.cells (bs [x0, x1]) 35)) (HT.out.below hb0 HT.out.pos)).mono ?_
      rintro e w1 ⟨rfl, hb⟩
      go_wp2_with fail
      go_ret
      exact ⟨rfl, hb0.trans (hb.mono (by simp))⟩
  · have hk200 : decide ((200 : Int) < (key.length : Int)) = false := by simp; omega
    have hb500 : decide ((500 : Int) < (b.length : Int)) = false := by simp; omega
    have HTL : Hid ((tagOf key b).length = 32) := Lib.hid (length_tagOf _ _)
    generalize htg : tagOf key b = TG at *
    have HTG := Lib.hid htg
    clear htg
    have q1 := eql_dig TG HTL.out
    go_enter Tryd.func4, Tryd.ntmps4
    go_wp2_with fail
    have hp := parts1 (HV.out.below hb0 (Nat.le_refl _))
    rw [show (w.alloc (.cells (bs [x0, x1]) 35)).heap.size = w.heap.size + 1 by simp] at hp
    have hb1 := hb0.alloc (Nat.le_trans (Nat.le_succ _) (by simp)) (.cells #[.slice Ab b.length cb] 22)
    have rn1 := (Row.fresh w 35 (bs [x0, x1])).alloc (.cells #[.slice Ab b.length cb] 22)
    refine (mac_one key b _ _ ((w.alloc (.cells (bs [x0, x1]) 35)).alloc (.cells #[.slice Ab b.length cb] 22)) (HT.out.below hb1 HT.out.pos) (HK.out.below hb1 (Nat.le_refl _)) (by omega) hp (by omega) TG HTG.out).mono ?_
    rintro e w1 ⟨rfl, hb2⟩
    have rn2 := rn1.call hb2
    have hb02 : Below w.heap.size w w1 := hb1.trans (hb2.mono hb1.size)
    clear hp hb1 hb2 rn1 hb0
    have rn3 := rn2.alloc (.cells (bs TG) 27)
    have n0 : (w1.alloc (.cells (bs TG) 27)).cell? ⟨w.heap.size, 0, none⟩ = some (.int .u8 (bd x0)) := rn3.get rfl
    have hx0 := bd_lo x0
    have hx0h := bd_hi x0
    have e0 := i64_id (bd x0) (by omega) (by omega)
    have e1 : (bd x0).tmod ((b.length : Int) + 1) = ((bd x0).toNat % (b.length + 1) : Nat) := tmod_nat _ hx0 _
    have hkl : (bd x0).toNat % (b.length + 1) ≤ b.length := by have := Nat.mod_lt (bd x0).toNat (show 0 < b.length + 1 by omega); omega
    generalize (bd x0).toNat % (b.length + 1) = k at *
    have z1 : ¬ ((b.length : Int) + 1 = 0) := by omega
    go_wp2_with (first | (refine wpList_store_row rfl 27 _ _ rfl w1.heap.size (bs TG) rfl rfl 27 _ (Row.fresh _ _ _) (by rw [size_bs, HTL.out]; exact size_d) (by rw [size_bs, HTL.out]; rfl) (one_bs _) ?_; rw [World.setRow_alloc_new]))
    have r7 := (Row.fresh w1 27 (bs TG)).drew
    have rn := rn3.drew
    have hbw := (hb02.alloc hb02.size (.cells (bs TG) 27)).drew
    have hg7 : w1.heap.size < (w1.alloc (.cells (bs TG) 27)).drew.heap.size := r7.lt
    have hgn := rn.lt
    have hcap : b.length ≤ cb := by obtain ⟨_, _, h1, h2, _⟩ := HV.out; injection h1 with _ _ h1; omega
    clear rn2 rn3 n0 hb02 e0 e1 z1 hx0 hx0h
    have H27 : Hid ((Tryd.prog.info? 27).map (·.size) = some (bs TG).toList.length) := Lib.hid (by rw [len_bs, HTL.out]; exact size_d)
    have hk0 : (0 : Int) ≤ (k : Int) := by omega
    have hk2 : (k : Int) ≤ (b.length : Int) := by omega
    have hkc : (k : Int) ≤ (cb : Int) := by omega
    have hlc : (b.length : Int) ≤ (cb : Int) := by omega
    obtain ⟨A', hA'⟩ : ∃ A', (if cb = k then Ab else Ab.map (·.add k)) = A' := ⟨_, rfl⟩
    have HP : Hid (∀ W, Below w.heap.size w W → Parts (W.alloc (.cells #[.slice Ab k cb, .slice A' (b.length - k) (cb - k)] 22)) (.slice (some ⟨W.heap.size, 0, none⟩) 2 2) [b.take k, b.drop k]) := Lib.hid fun W hW => by
      have h := HV.out.below hW (Nat.le_refl _)
      have h2 := h.drop hkl
      rw [hA'] at h2
      exact parts2 (h.take hkl) h2
    generalize hw2 : w1.alloc (.cells (bs TG) 27) = w2 at *
    clear hw2
    refine wp_region_held (S := fun W => Below w2.drew.heap.size w2.drew W) (by kernel_rfl) ?_
    change wpAnyH _ _ _ _ _ _ _ _ w2.drew
    generalize w2.drew = w3 at *
    have S_w3 := Below.refl w3.heap.size w3
    refine wpAnyH_take (i := 0) (oi := { dst := some 31, op := _, type := _, pos := _, after := _, guard := none }) (v := .slice Ak key.length ck) rfl (by kernel_rfl) (by kernel_rfl) (by kernel_rfl) (fun _ _ _ h => h) (Or.inl ⟨by rfl, fun _ _ => by go_simp⟩) S_w3 ?_
    simp only [Act.put, List.setIfInBounds_toArray, List.set_cons_succ, List.set_cons_zero]
    refine wpAnyH_take (i := 1) (oi := { dst := some 32, op := _, type := _, pos := _, after := _, guard := none }) (v := .slice Ab b.length cb) rfl (by kernel_rfl) (by kernel_rfl) (by kernel_rfl) (fun _ _ _ h => h) (Or.inl ⟨by rfl, fun _ _ => by go_simp⟩) S_w3 ?_
    simp only [Act.put, List.setIfInBounds_toArray, List.set_cons_succ, List.set_cons_zero]
    refine wpAnyH_take (i := 2) (oi := { dst := some 33, op := _, type := _, pos := _, after := _, guard := none }) (v := .int .i64 (k : Int)) rfl (by kernel_rfl) (by kernel_rfl) (by kernel_rfl) (fun _ _ _ h => h) (Or.inl ⟨by rfl, fun _ _ => by go_simp⟩) S_w3 ?_
    simp only [Act.put, List.setIfInBounds_toArray, List.set_cons_succ, List.set_cons_zero]
    refine wpAnyH_take (i := 4) (oi := { dst := some 35, op := _, type := _, pos := _, after := _, guard := none }) (v := .slice Ab b.length cb) rfl (by kernel_rfl) (by kernel_rfl) (by kernel_rfl) (fun _ _ _ h => h) (Or.inl ⟨by rfl, fun _ _ => by go_simp⟩) S_w3 ?_
    simp only [Act.put, List.setIfInBounds_toArray, List.set_cons_succ, List.set_cons_zero]
    refine wpAnyH_take (i := 5) (oi := { dst := some 36, op := _, type := _, pos := _, after := _, guard := none }) (v := .int .i64 (k : Int)) rfl (by kernel_rfl) (by kernel_rfl) (by kernel_rfl) (fun _ _ _ h => h) (Or.inl ⟨by rfl, fun _ _ => by go_simp⟩) S_w3 ?_
    simp only [Act.put, List.setIfInBounds_toArray, List.set_cons_succ, List.set_cons_zero]
    refine wpAnyH_take (i := 9) (oi := { dst := some 40, op := _, type := _, pos := _, after := _, guard := none }) (v := .agg (bs TG)) rfl (by kernel_rfl) (by kernel_rfl) (by kernel_rfl) (fun _ _ _ h => h) (by rw [show (Value.agg (bs TG)) = .agg (bs TG).toList.toArray by simp]; exact yieldsIf_load_mid rfl 27 _ rfl w1.heap.size 0 rfl (bs TG).toList _ (fun W hW => row_range r7 hW hg7) Tryd.underlying27 rfl H27.out) S_w3 ?_
    simp only [Act.put, List.setIfInBounds_toArray, List.set_cons_succ, List.set_cons_zero]
    refine wpAnyH_take (i := 3) (oi := { dst := some 34, op := _, type := _, pos := _, after := _, guard := none }) (v := .slice Ab k cb) rfl (by kernel_rfl) (by kernel_rfl) (by kernel_rfl) (fun _ _ _ h => h) (Or.inl ⟨by rfl, fun _ _ => by go_simp⟩) S_w3 ?_
    simp only [Act.put, List.setIfInBounds_toArray, List.set_cons_succ, List.set_cons_zero]
    refine wpAnyH_take (i := 6) (oi := { dst := some 37, op := _, type := _, pos := _, after := _, guard := none }) (v := .slice A' (b.length - k) (cb - k)) rfl (by kernel_rfl) (by kernel_rfl) (by kernel_rfl) (fun _ _ _ h => h) (Or.inl ⟨by rfl, fun _ _ => by go_simp⟩) S_w3 ?_
    simp only [Act.put, List.setIfInBounds_toArray, List.set_cons_succ, List.set_cons_zero]
    refine anyH_one (i := 7) (o := { dst := some 38, op := _, type := _, pos := _, after := _, guard := none }) (by kernel_rfl) rfl (fun K hK => ?_)
    go_simp
    have S_w4 := S_w3.alloc S_w3.size (.cells #[.slice Ab k cb, .slice A' (b.length - k) (cb - k)] 22)
    have hP_w4 := HP.out w3 hbw
    generalize w3.alloc (.cells #[.slice Ab k cb, .slice A' (b.length - k) (cb - k)] 22) = w4 at *
    refine hK _ _ S_w4 ?_
    clear hK K
    refine anyH_one (i := 8) (o := { dst := some 39, op := _, type := _, pos := _, after := _, guard := none }) (by kernel_rfl) rfl (fun K hK => ?_)
    go_simp
    refine (mac_two key b k _ _ w4 (HT.out.below (hbw.trans (S_w4.mono hbw.size)) HT.out.pos) (HK.out.below (hbw.trans (S_w4.mono hbw.size)) (Nat.le_refl _)) (by omega) hP_w4 (by omega) TG HTG.out).mono ?_
    rintro e w5 ⟨rfl, hb_w5⟩
    have S_w5 := S_w4.trans (hb_w5.mono S_w4.size)
    refine hK _ _ S_w5 ?_
    clear hK K
    refine anyH_one (i := 10) (o := { dst := some 41, op := _, type := _, pos := _, after := _, guard := none }) (by kernel_rfl) rfl (fun K hK => ?_)
    go_simp
    refine hK _ _ S_w5 ?_
    clear hK K
    refine wpAnyH_done (by kernel_rfl) ?_ _
    have r7 := r7.below S_w5 hg7
    have rn := rn.below S_w5 hgn
    have hbw := hbw.trans (S_w5.mono hbw.size)
    clear S_w3 S_w4 S_w5 hP_w4 hb_w5 HP hA' hk0 hk2 hkc hlc hcap hkl hg7 hgn
    by_cases hlong : 64 < key.length
    · have hl64 : decide ((64 : Int) < (key.length : Int)) = true := by simp; omega
      go_wp2_with fail
      have hp := parts1 (HK.out.below hbw (Nat.le_refl _))
      have hbx := hbw.alloc hbw.size (.cells #[.slice Ak key.length ck] 22)
      have r7 := r7.alloc (.cells #[.slice Ak key.length ck] 22)
      refine (sum_one key _ _ (HT.out.below hbx HT.out.pos) hp (by omega)).mono ?_
      rintro e w6 ⟨rfl, hb6⟩
      have HSH : Hid ((sha key).length = 32) := Lib.hid (length_sha key)
      have HTS : Hid (tagOf (sha key) b = TG) := Lib.hid (by rw [← HTG.out]; exact tagOf_block b (blockOf_sha key hlong))
      have r7 := r7.call hb6
      have hbw := hbx.trans (hb6.mono hbx.size)
      clear hp hbx hb6 rn
      generalize sha key = D at *
      go_wp2_with (first | (refine wpList_store_row rfl 27 _ _ rfl w6.heap.size (bs D) rfl rfl 27 _ (Row.fresh _ _ _) (by rw [size_bs, HSH.out]; exact size_d) (by rw [size_bs, HSH.out]; rfl) (one_bs _) ?_; rw [World.setRow_alloc_new]))
      have r7 := (r7.alloc (.cells (bs D) 27)).drew
      have r9 := (Row.fresh w6 27 (bs D)).drew
      have hbw := (hbw.alloc hbw.size (.cells (bs D) 27)).drew
      have hg7 : w1.heap.size < (w6.alloc (.cells (bs D) 27)).drew.heap.size := r7.lt
      have hg9 : w6.heap.size < (w6.alloc (.cells (bs D) 27)).drew.heap.size := r9.lt
      have s9 := row_slice r9 (c := 32) (by rw [HSH.out]; exact Nat.le_refl _)
      rw [HSH.out] at s9
      clear r9
      generalize hw7 : w6.alloc (.cells (bs D) 27) = w7 at *
      clear hw7
      refine wp_region_held (S := fun W => Below w7.drew.heap.size w7.drew W) (by kernel_rfl) ?_
      change wpAnyH _ _ _ _ _ _ _ _ w7.drew
      generalize w7.drew = w8 at *
      have S_w8 := Below.refl w8.heap.size w8
      refine wpAnyH_take (i := 0) (oi := { dst := some 48, op := _, type := _, pos := _, after := _, guard := none }) (v := .slice (some ⟨w6.heap.size, 0, none⟩) 32 32) rfl (by kernel_rfl) (by kernel_rfl) (by kernel_rfl) (fun _ _ _ h => h) (Or.inl ⟨by rfl, fun _ _ => by go_simp⟩) S_w8 ?_
      simp only [Act.put, List.setIfInBounds_toArray, List.set_cons_succ, List.set_cons_zero]
      refine wpAnyH_take (i := 1) (oi := { dst := some 49, op := _, type := _, pos := _, after := _, guard := none }) (v := .slice Ab b.length cb) rfl (by kernel_rfl) (by kernel_rfl) (by kernel_rfl) (fun _ _ _ h => h) (Or.inl ⟨by rfl, fun _ _ => by go_simp⟩) S_w8 ?_
      simp only [Act.put, List.setIfInBounds_toArray, List.set_cons_succ, List.set_cons_zero]
      refine wpAnyH_take (i := 4) (oi := { dst := some 52, op := _, type := _, pos := _, after := _, guard := none }) (v := .agg (bs TG)) rfl (by kernel_rfl) (by kernel_rfl) (by kernel_rfl) (fun _ _ _ h => h) (by rw [show (Value.agg (bs TG)) = .agg (bs TG).toList.toArray by simp]; exact yieldsIf_load_mid rfl 27 _ rfl w1.heap.size 0 rfl (bs TG).toList _ (fun W hW => row_range r7 hW hg7) Tryd.underlying27 rfl H27.out) S_w8 ?_
      simp only [Act.put, List.setIfInBounds_toArray, List.set_cons_succ, List.set_cons_zero]
      refine anyH_one (i := 2) (o := { dst := some 50, op := _, type := _, pos := _, after := _, guard := none }) (by kernel_rfl) rfl (fun K hK => ?_)
      go_simp
      have S_w9 := S_w8.alloc S_w8.size (.cells #[.slice Ab b.length cb] 22)
      have hP_w9 := parts1 (HV.out.below hbw (Nat.le_refl _))
      generalize w8.alloc (.cells #[.slice Ab b.length cb] 22) = w9 at *
      refine hK _ _ S_w9 ?_
      clear hK K
      refine anyH_one (i := 3) (o := { dst := some 51, op := _, type := _, pos := _, after := _, guard := none }) (by kernel_rfl) rfl (fun K hK => ?_)
      go_simp
      refine (mac_one D b _ _ w9 (HT.out.below (hbw.trans (S_w9.mono hbw.size)) HT.out.pos) (s9.below S_w9 (Nat.le_refl _)) (by rw [HSH.out]; omega) hP_w9 (by omega) TG HTS.out).mono ?_
      rintro e w10 ⟨rfl, hb_w10⟩
      have S_w10 := S_w9.trans (hb_w10.mono S_w9.size)
      refine hK _ _ S_w10 ?_
      clear hK K
      refine anyH_one (i := 5) (o := { dst := some 53, op := _, type := _, pos := _, after := _, guard := none }) (by kernel_rfl) rfl (fun K hK => ?_)
      go_simp
      refine hK _ _ S_w10 ?_
      clear hK K
      refine anyH_one (i := 6) (o := { dst := some 54, op := _, type := _, pos := _, after := _, guard := none }) (by kernel_rfl) rfl (fun K hK => ?_)
      go_simp
      refine hK _ _ S_w10 ?_
      clear hK K
      refine anyH_one (i := 7) (o := { dst := some 55, op := _, type := _, pos := _, after := _, guard := some (6, true) }) (by kernel_rfl) rfl (fun K hK => ?_)
      go_simp
      refine (mwakes_any w10 (HT.out.below (hbw.trans (S_w10.mono hbw.size)) HT.out.pos)).mono ?_
      rintro e w11 ⟨rfl, hb_w11⟩
      have S_w11 := S_w10.trans (hb_w11.mono S_w10.size)
      refine hK _ _ S_w11 ?_
      clear hK K
      refine anyH_one (i := 8) (o := { dst := some 56, op := _, type := _, pos := _, after := _, guard := none }) (by kernel_rfl) rfl (fun K hK => ?_)
      go_simp
      refine hK _ _ S_w11 ?_
      clear hK K
      refine anyH_one (i := 9) (o := { dst := some 6, op := _, type := _, pos := _, after := _, guard := none }) (by kernel_rfl) rfl (fun K hK => ?_)
      go_simp
      refine hK _ _ S_w11 ?_
      clear hK K
      refine wpAnyH_done (by kernel_rfl) ?_ _
      go_wp2_with fail
      go_ret
      exact ⟨rfl, hbw.trans (S_w11.mono hbw.size)⟩
    · have hl64 : decide ((64 : Int) < (key.length : Int)) = false := by simp; omega
      have hgn : w.heap.size < w5.drew.heap.size := rn.lt
      have hg7 : w1.heap.size < w5.drew.heap.size := r7.lt
      have rn := rn.drew
      have r7 := r7.drew
      have hbw := hbw.drew
      have hy0 := bd_lo x1
      have hyh := bd_hi x1
      have y0 := i64_id (bd x1) (by omega) (by omega)
      have y1 : (bd x1).tmod (65 - (key.length : Int)) = ((bd x1).toNat % (65 - key.length) : Nat) := by
        rw [show (65 - (key.length : Int)) = ((65 - key.length : Nat) : Int) by omega]; exact tmod_nat _ hy0 _
      have hml : key.length + (bd x1).toNat % (65 - key.length) ≤ 64 := by have := Nat.mod_lt (bd x1).toNat (show 0 < 65 - key.length by omega); omega
      generalize hmm : (bd x1).toNat % (65 - key.length) = m at *
      clear hmm
      have y2 : ¬ ((65 : Int) - (key.length : Int) = 0) := by omega
      have y3 := i64_id (65 - (key.length : Int)) (by omega) (by omega)
      go_wp2_with fail
      refine wp_region_held (S := fun W => Below w5.drew.heap.size w5.drew W) (by kernel_rfl) ?_
      change wpAnyH _ _ _ _ _ _ _ _ w5.drew
      generalize w5.drew = w6 at *
      have S_w6 := Below.refl w6.heap.size w6
      refine wpAnyH_take (i := 1) (oi := { dst := some 58, op := _, type := _, pos := _, after := _, guard := none }) (v := .slice Ak key.length ck) rfl (by kernel_rfl) (by kernel_rfl) (by kernel_rfl) (fun _ _ _ h => h) (Or.inl ⟨by rfl, fun _ _ => by go_simp⟩) S_w6 ?_
      simp only [Act.put, List.setIfInBounds_toArray, List.set_cons_succ, List.set_cons_zero]
      refine wpAnyH_take (i := 3) (oi := { dst := some 60, op := _, type := _, pos := _, after := _, guard := none }) (v := .pointer (some ⟨w.heap.size, 1, none⟩)) rfl (by kernel_rfl) (by kernel_rfl) (by kernel_rfl) (fun _ _ _ h => h) (Or.inl ⟨by rfl, fun _ _ => by go_simp⟩) S_w6 ?_
      simp only [Act.put, List.setIfInBounds_toArray, List.set_cons_succ, List.set_cons_zero]
      refine wpAnyH_take (i := 6) (oi := { dst := some 63, op := _, type := _, pos := _, after := _, guard := none }) (v := .slice Ak key.length ck) rfl (by kernel_rfl) (by kernel_rfl) (by kernel_rfl) (fun _ _ _ h => h) (Or.inl ⟨by rfl, fun _ _ => by go_simp⟩) S_w6 ?_
      simp only [Act.put, List.setIfInBounds_toArray, List.set_cons_succ, List.set_cons_zero]
      refine wpAnyH_take (i := 7) (oi := { dst := some 64, op := _, type := _, pos := _, after := _, guard := none }) (v := .int .i64 (key.length : Int)) rfl (by kernel_rfl) (by kernel_rfl) (by kernel_rfl) (fun _ _ _ h => h) (Or.inl ⟨by rfl, fun _ _ => by go_simp⟩) S_w6 ?_
      simp only [Act.put, List.setIfInBounds_toArray, List.set_cons_succ, List.set_cons_zero]
      refine wpAnyH_take (i := 8) (oi := { dst := some 65, op := _, type := _, pos := _, after := _, guard := none }) (v := .int .i64 (65 - (key.length : Int))) rfl (by kernel_rfl) (by kernel_rfl) (by kernel_rfl) (fun _ _ _ h => h) (Or.inl ⟨by rfl, fun _ _ => by go_simp⟩) S_w6 ?_
      simp only [Act.put, List.setIfInBounds_toArray, List.set_cons_succ, List.set_cons_zero]
      refine wpAnyH_take (i := 4) (oi := { dst := some 61, op := _, type := _, pos := _, after := _, guard := none }) (v := .int .u8 (bd x1)) rfl (by kernel_rfl) (by kernel_rfl) (by kernel_rfl) (fun _ _ _ h => h) (Or.inl ⟨by rfl, fun W hW => by have n1 := (rn.below hW hgn).get (i := 1) (v := .int .u8 (bd x1)) rfl; go_simp⟩) S_w6 ?_
      simp only [Act.put, List.setIfInBounds_toArray, List.set_cons_succ, List.set_cons_zero]
      refine wpAnyH_take (i := 5) (oi := { dst := some 62, op := _, type := _, pos := _, after := _, guard := none }) (v := .int .i64 (bd x1)) rfl (by kernel_rfl) (by kernel_rfl) (by kernel_rfl) (fun _ _ _ h => h) (Or.inl ⟨by rfl, fun _ _ => by go_simp⟩) S_w6 ?_
      simp only [Act.put, List.setIfInBounds_toArray, List.set_cons_succ, List.set_cons_zero]
      refine wpAnyH_take (i := 9) (oi := { dst := some 66, op := _, type := _, pos := _, after := _, guard := none }) (v := .int .i64 (m : Int)) rfl (by kernel_rfl) (by kernel_rfl) (by kernel_rfl) (fun _ _ _ h => h) (Or.inl ⟨by rfl, fun _ _ => by go_simp⟩) S_w6 ?_
      simp only [Act.put, List.setIfInBounds_toArray, List.set_cons_succ, List.set_cons_zero]
      refine anyH_one (i := 0) (o := { dst := some 57, op := _, type := _, pos := _, after := _, guard := none }) (by kernel_rfl) rfl (fun K hK => ?_)
      go_simp
      have S_w7 := S_w6.alloc S_w6.size (.cells #[] 5)
      have own7 := own_empty w6
      have ks7 := HK.out.below (hbw.trans (S_w7.mono hbw.size)) (Nat.le_refl _)
      generalize w6.alloc (.cells #[] 5) = w7 at *
      refine hK _ _ S_w7 ?_
      clear hK K
      refine anyH_one (i := 2) (o := { dst := some 59, op := _, type := _, pos := _, after := _, guard := none }) (by kernel_rfl) rfl (fun K hK => ?_)
      rw [if_pos (by rfl)]
      refine wp_append_slice (.tmp 57) (.tmp 58) rfl w6.heap.size _ 0 [] rfl own7 Ak key.length ck key rfl ks7 HKN.out (by omega) S_w7.size ?_
      intro v8 w8 own8 hb8
      simp only [Nat.zero_add, List.nil_append] at own8
      have S_w8 := S_w7.trans hb8
      simp only [Act.put, List.setIfInBounds_toArray, List.set_cons_succ, List.set_cons_zero]
      refine hK _ _ S_w8 ?_
      clear hK K
      refine anyH_one (i := 10) (o := { dst := some 67, op := _, type := _, pos := _, after := _, guard := none }) (by kernel_rfl) rfl (fun K hK => ?_)
      rw [if_pos (by rfl)]
      refine wp_append_zeros (.tmp 59) (.tmp 66) rfl w6.heap.size _ key.length (bytesV key) rfl own8 (m : Int) m rfl rfl (by omega) S_w8.size ?_
      intro v9 w9 own9 hb9
      have S_w9 := S_w8.trans hb9
      simp only [Act.put, List.setIfInBounds_toArray, List.set_cons_succ, List.set_cons_zero]
      refine hK _ _ S_w9 ?_
      clear hK K
      refine anyH_one (i := 11) (o := { dst := some 10, op := _, type := _, pos := _, after := _, guard := none }) (by kernel_rfl) rfl (fun K hK => ?_)
      go_simp
      refine hK _ _ S_w9 ?_
      clear hK K
      refine wpAnyH_done (by kernel_rfl) ?_ _
      have hLl : (key ++ zer m).length = key.length + m := by rw [List.length_append, length_zer]
      have hLs : Slice w9 v9 (key ++ zer m) := own_slice (base := w6.heap.size) (by rw [hLl]; simpa [bytesV] using own9)
      obtain ⟨A9, c9, rfl⟩ := own_form own9
      have HTZ : Hid (tagOf (key ++ zer m) b = TG) := Lib.hid (by rw [← HTG.out]; exact tagOf_block b (blockOf_zer key m hml))
      have HBZ : Hid (blockOf (key ++ zer m) = blockOf key) := Lib.hid (blockOf_zer key m hml)
      have q2 := eql_block (blockOf key) (length_blockOf key)
      have r7 := (r7.below S_w9 hg7).drew
      have hbw := (hbw.trans (S_w9.mono hbw.size)).drew
      have hg7 : w1.heap.size < w9.drew.heap.size := r7.lt
      have hLs : Slice w9.drew (.slice A9 (key.length + m) c9) (key ++ zer m) := hLs
      clear S_w6 S_w7 S_w8 S_w9 own7 ks7 own8 own9 hb8 hb9 rn hgn y0 y1 y2 y3 hy0 hyh
      go_wp2_with fail
      refine wp_region_held (S := fun W => Below w9.drew.heap.size w9.drew W) (by kernel_rfl) ?_
      change wpAnyH _ _ _ _ _ _ _ _ w9.drew
      generalize w9.drew = w10 at *
      have S_w10 := Below.refl w10.heap.size w10
      refine wpAnyH_take (i := 0) (oi := { dst := some 68, op := _, type := _, pos := _, after := _, guard := none }) (v := .slice A9 (key.length + m) c9) rfl (by kernel_rfl) (by kernel_rfl) (by kernel_rfl) (fun _ _ _ h => h) (Or.inl ⟨by rfl, fun _ _ => by go_simp⟩) S_w10 ?_
      simp only [Act.put, List.setIfInBounds_toArray, List.set_cons_succ, List.set_cons_zero]
      refine wpAnyH_take (i := 1) (oi := { dst := some 69, op := _, type := _, pos := _, after := _, guard := none }) (v := .slice Ab b.length cb) rfl (by kernel_rfl) (by kernel_rfl) (by kernel_rfl) (fun _ _ _ h => h) (Or.inl ⟨by rfl, fun _ _ => by go_simp⟩) S_w10 ?_
      simp only [Act.put, List.setIfInBounds_toArray, List.set_cons_succ, List.set_cons_zero]
      refine wpAnyH_take (i := 4) (oi := { dst := some 72, op := _, type := _, pos := _, after := _, guard := none }) (v := .agg (bs TG)) rfl (by kernel_rfl) (by kernel_rfl) (by kernel_rfl) (fun _ _ _ h => h) (by rw [show (Value.agg (bs TG)) = .agg (bs TG).toList.toArray by simp]; exact yieldsIf_load_mid rfl 27 _ rfl w1.heap.size 0 rfl (bs TG).toList _ (fun W hW => row_range r7 hW hg7) Tryd.underlying27 rfl H27.out) S_w10 ?_
      simp only [Act.put, List.setIfInBounds_toArray, List.set_cons_succ, List.set_cons_zero]
      refine anyH_one (i := 2) (o := { dst := some 70, op := _, type := _, pos := _, after := _, guard := none }) (by kernel_rfl) rfl (fun K hK => ?_)
      go_simp
      have S_w11 := S_w10.alloc S_w10.size (.cells #[.slice Ab b.length cb] 22)
      have hP_w11 := parts1 (HV.out.below hbw (Nat.le_refl _))
      generalize w10.alloc (.cells #[.slice Ab b.length cb] 22) = w11 at *
      refine hK _ _ S_w11 ?_
      clear hK K
      refine anyH_one (i := 3) (o := { dst := some 71, op := _, type := _, pos := _, after := _, guard := none }) (by kernel_rfl) rfl (fun K hK => ?_)
      go_simp
      refine (mac_one (key ++ zer m) b _ _ w11 (HT.out.below (hbw.trans (S_w11.mono hbw.size)) HT.out.pos) (hLs.below S_w11 (Nat.le_refl _)) (by omega) hP_w11 (by omega) TG HTZ.out).mono ?_
      rintro e w12 ⟨rfl, hb_w12⟩
      have S_w12 := S_w11.trans (hb_w12.mono S_w11.size)
      refine hK _ _ S_w12 ?_
      clear hK K
      refine anyH_one (i := 5) (o := { dst := some 73, op := _, type := _, pos := _, after := _, guard := none }) (by kernel_rfl) rfl (fun K hK => ?_)
      go_simp
      refine hK _ _ S_w12 ?_
      clear hK K
      refine anyH_one (i := 6) (o := { dst := some 74, op := _, type := _, pos := _, after := _, guard := none }) (by kernel_rfl) rfl (fun K hK => ?_)
      go_simp
      refine hK _ _ S_w12 ?_
      clear hK K
      refine wpAnyH_take (i := 7) (oi := { dst := some 75, op := _, type := _, pos := _, after := _, guard := some (6, true) }) (v := .slice A9 (key.length + m) c9) rfl (by kernel_rfl) (by kernel_rfl) (by kernel_rfl) (fun _ _ _ h => h) (Or.inl ⟨by rfl, fun _ _ => by go_simp⟩) S_w12 ?_
      simp only [Act.put, List.setIfInBounds_toArray, List.set_cons_succ, List.set_cons_zero]
      refine wpAnyH_take (i := 9) (oi := { dst := some 77, op := _, type := _, pos := _, after := _, guard := some (6, true) }) (v := .slice Ak key.length ck) rfl (by kernel_rfl) (by kernel_rfl) (by kernel_rfl) (fun _ _ _ h => h) (Or.inl ⟨by rfl, fun _ _ => by go_simp⟩) S_w12 ?_
      simp only [Act.put, List.setIfInBounds_toArray, List.set_cons_succ, List.set_cons_zero]
      refine anyH_one (i := 8) (o := { dst := some 76, op := _, type := _, pos := _, after := _, guard := some (6, true) }) (by kernel_rfl) rfl (fun K hK => ?_)
      go_simp
      refine (block_any (key ++ zer m) _ w12 (HT.out.below (hbw.trans (S_w12.mono hbw.size)) HT.out.pos) (hLs.below S_w12 (Nat.le_refl _)) (by omega)).mono ?_
      rintro e w13 ⟨rfl, hb_w13⟩
      rw [HBZ.out]
      have S_w13 := S_w12.trans (hb_w13.mono S_w12.size)
      refine hK _ _ S_w13 ?_
      clear hK K
      refine anyH_one (i := 10) (o := { dst := some 78, op := _, type := _, pos := _, after := _, guard := some (6, true) }) (by kernel_rfl) rfl (fun K hK => ?_)
      go_simp
      refine (block_any key _ w13 (HT.out.below (hbw.trans (S_w13.mono hbw.size)) HT.out.pos) (HK.out.below (hbw.trans (S_w13.mono hbw.size)) (Nat.le_refl _)) (by omega)).mono ?_
      rintro e w14 ⟨rfl, hb_w14⟩
      have S_w14 := S_w13.trans (hb_w14.mono S_w13.size)
      refine hK _ _ S_w14 ?_
      clear hK K
      refine anyH_one (i := 11) (o := { dst := some 79, op := _, type := _, pos := _, after := _, guard := some (6, true) }) (by kernel_rfl) rfl (fun K hK => ?_)
      go_simp
      refine hK _ _ S_w14 ?_
      clear hK K
      refine anyH_one (i := 12) (o := { dst := some 80, op := _, type := _, pos := _, after := _, guard := none }) (by kernel_rfl) rfl (fun K hK => ?_)
      go_simp
      refine hK _ _ S_w14 ?_
      clear hK K
      refine anyH_one (i := 13) (o := { dst := some 81, op := _, type := _, pos := _, after := _, guard := none }) (by kernel_rfl) rfl (fun K hK => ?_)
      go_simp
      refine hK _ _ S_w14 ?_
      clear hK K
      refine anyH_one (i := 14) (o := { dst := some 82, op := _, type := _, pos := _, after := _, guard := some (13, true) }) (by kernel_rfl) rfl (fun K hK => ?_)
      go_simp
      refine (mwakes_any w14 (HT.out.below (hbw.trans (S_w14.mono hbw.size)) HT.out.pos)).mono ?_
      rintro e w15 ⟨rfl, hb_w15⟩
      have S_w15 := S_w14.trans (hb_w15.mono S_w14.size)
      refine hK _ _ S_w15 ?_
      clear hK K
      refine anyH_one (i := 15) (o := { dst := some 83, op := _, type := _, pos := _, after := _, guard := none }) (by kernel_rfl) rfl (fun K hK => ?_)
      go_simp
      refine hK _ _ S_w15 ?_
      clear hK K
      refine anyH_one (i := 16) (o := { dst := some 6, op := _, type := _, pos := _, after := _, guard := none }) (by kernel_rfl) rfl (fun K hK => ?_)
      go_simp
      refine hK _ _ S_w15 ?_
      clear hK K
      refine wpAnyH_done (by kernel_rfl) ?_ _
      go_wp2_with fail
      go_ret
      exact ⟨rfl, hbw.trans (S_w15.mono hbw.size)⟩
end Go.Proofs.YtieoakdlehpgiaaDoor
