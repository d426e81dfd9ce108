/- Merged: SndPick OpenN OpenTwo RefGd PutsEq KeepPuts. -/
import Derived.Deep.Cut
import Derived.ChangeShapes
import Derived.Test.YtppbgkdkioldbaaMGen0
/- The program's Pick. -/
set_option maxRecDepth 4000
namespace Go.Proofs.Ytppbgkdkioldbaa
open Go Go.RowKit
def pickK (u : BitVec 16) : Nat := ((List.range 12).find? (fun i => decide (i ≠ 0) && u.getLsbD i)).getD 0
def pickB (u : BitVec 16) : Bool := decide (pickK u ≠ 0) || u.getLsbD 0
theorem find_first {p : Nat → Bool} (n k : Nat) (hk : k < n) (h1 : p k = true) (h2 : ∀ j < k, p j = false) : (List.range n).find? p = some k := by
  rw [List.find?_eq_some_iff_getElem]
  exact ⟨h1, k, by simpa using hk, by simp, fun j hj => by simp [h2 j hj]⟩
theorem pick_hit {u : BitVec 16} {k : Nat} (h1 : 1 ≤ k) (h12 : k < 12) (hk : u.getLsbD k = true) (h : ∀ j, 1 ≤ j → j < k → u.getLsbD j = false) : pickK u = k := by
  unfold pickK
  rw [find_first 12 k h12 (by rw [hk, decide_eq_true (by omega : k ≠ 0)]; rfl) (fun j hj => by
    by_cases h0 : j = 0
    · rw [h0]; rfl
    · rw [h j (by omega) hj, Bool.and_false])]
  rfl
theorem pick_no {u : BitVec 16} (h : ∀ j, 1 ≤ j → j < 12 → u.getLsbD j = false) : pickK u = 0 := by
  unfold pickK
  rw [List.find?_eq_none.2 (fun j hj => by
    have hj := List.mem_range.1 hj
    by_cases h0 : j = 0
    · rw [h0]; simp
    · rw [h j (by omega) hj]; simp)]
  rfl
theorem bit_shrP (u : BitVec 16) (b : Nat) : bits .and .u16 (hd u / (2 : Int) ^ b) 1 = if u.getLsbD b then 1 else 0 := by
  have e : hd u / (2 : Int) ^ b = hd (u >>> b) := by unfold hd; rw [BitVec.toNat_ushiftRight, Nat.shiftRight_eq_div_pow]; exact_mod_cast rfl
  rw [e, show (1 : Int) = hd 1#16 from rfl, and_hd]
  have : u >>> b &&& 1#16 = if u.getLsbD b then 1#16 else 0#16 := by
    apply BitVec.eq_of_getLsbD_eq
    intro i hi
    rw [BitVec.getLsbD_and, BitVec.getLsbD_ushiftRight, BitVec.getLsbD_one]
    by_cases h0 : i = 0
    · subst h0; cases h : u.getLsbD b <;> simp
    · cases h : u.getLsbD b <;> simp [h0]
  rw [this]; split <;> rfl
set_option maxHeartbeats 800000 in
theorem pick_any (u : BitVec 16) (w : World) : Calls Try.prog 24 #[.int .u16 (hd u)] w fun x w' => x = .returned (.tuple #[.int .i64 (pickK u : Nat), .bool (pickB u)]) ∧ w = w' := by
  go_enter Try.func24, Try.ntmps24
  go_wp2_with fail
  go_loopw [4] (fun i wr => ∃ k : Nat, 1 ≤ k ∧ k ≤ 12 ∧ i = .int .i64 k ∧ Hid (∀ j, 1 ≤ j → j < k → u.getLsbD j = false) ∧ w = wr) (fun i _ => 12 - (intOf i).toNat)
  case atStart => exact ⟨1, by omega, by omega, rfl, Lib.hid (fun j _ _ => by omega), rfl⟩
  case round =>
    obtain ⟨k, hk1, hk, rfl, HE, rfl⟩ := hrel
    by_cases hlt : k < 12
    · have hdd : decide ((k : Int) < 12) = true := decide_eq_true (by omega)
      have hsh := bit_shrP u k
      obtain ⟨q, hq⟩ : ∃ q, u.getLsbD k = q := ⟨_, rfl⟩
      rw [hq] at hsh
      have HQ := Lib.hid hq
      clear hq
      cases q with
      | true =>
        have hsh : bits .and .u16 (hd u / (2 : Int) ^ k) 1 = 1 := hsh
        have hP := pick_hit hk1 hlt HQ.out HE.out
        have hB : pickB u = true := by unfold pickB; rw [hP, decide_eq_true (by omega : k ≠ 0)]; rfl
        have HP := Lib.hid hP
        have HB := Lib.hid hB
        clear hP hB
        go_wp2_with fail
        go_ret2
        exact ⟨by rw [HP.out, HB.out]; rfl, rfl⟩
      | false =>
        have hsh : bits .and .u16 (hd u / (2 : Int) ^ k) 1 = 0 := hsh
        go_wp2_with fail
        refine ⟨⟨k + 1, by omega, by omega, by go_num, Lib.hid (fun j h1 hj => ?_), by first | rfl | trivial⟩, by simp [intOf]; omega⟩
        rcases Nat.lt_or_eq_of_le (Nat.le_of_lt_succ hj) with h | rfl
        · exact HE.out j h1 h
        · exact HQ.out
    · obtain rfl : k = 12 := by omega
      have hdd : decide (((12 : Nat) : Int) < 12) = false := by decide
      have hP := pick_no HE.out
      have hB : pickB u = u.getLsbD 0 := by unfold pickB; rw [hP]; rfl
      have HP := Lib.hid hP
      have HB := Lib.hid hB
      have hsh := bit_shrP u 0
      rw [Int.pow_zero, Int.ediv_one] at hsh
      obtain ⟨q, hq⟩ : ∃ q, u.getLsbD 0 = q := ⟨_, rfl⟩
      rw [hq] at hsh HB
      clear hP hB hq
      cases q with
      | true =>
        have hsh : bits .and .u16 (hd u) 1 = 1 := hsh
        go_wp2_with fail
        go_ret2
        exact ⟨by rw [HP.out, HB.out]; rfl, rfl⟩
      | false =>
        have hsh : bits .and .u16 (hd u) 1 = 0 := hsh
        go_wp2_with fail
        go_ret2
        exact ⟨by rw [HP.out, HB.out]; rfl, rfl⟩
end Go.Proofs.Ytppbgkdkioldbaa

/- Integers that are handed in, as plain numbers. -/
set_option maxRecDepth 4000
namespace Go.Proofs.Ytppbgkdkioldbaa
open Go Go.RowKit
theorem nat_u8 {n : Int} (h : (Lit.int .u8 n).wf = true) : ∃ m : Nat, n = (m : Int) ∧ m < 256 := by
  simp only [Lit.wf, Bool.and_eq_true, decide_eq_true_eq] at h
  have h1 : IntKind.u8.min = 0 := by decide
  have h2 : IntKind.u8.max = 255 := by decide
  exact ⟨n.toNat, by omega, by omega⟩
theorem nat_u16 {n : Int} (h : (Lit.int .u16 n).wf = true) : ∃ m : Nat, n = (m : Int) ∧ m < 65536 := by
  simp only [Lit.wf, Bool.and_eq_true, decide_eq_true_eq] at h
  have h1 : IntKind.u16.min = 0 := by decide
  have h2 : IntKind.u16.max = 65535 := by decide
  exact ⟨n.toNat, by omega, by omega⟩
theorem nat_u32 {n : Int} (h : (Lit.int .u32 n).wf = true) : ∃ m : Nat, n = (m : Int) ∧ m < 4294967296 := by
  simp only [Lit.wf, Bool.and_eq_true, decide_eq_true_eq] at h
  have h1 : IntKind.u32.min = 0 := by decide
  have h2 : IntKind.u32.max = 4294967295 := by decide
  exact ⟨n.toNat, by omega, by omega⟩
theorem int_i64 {n : Int} (h : (Lit.int .i64 n).wf = true) : -9223372036854775808 ≤ n ∧ n < 9223372036854775808 := by
  simp only [Lit.wf, Bool.and_eq_true, decide_eq_true_eq] at h
  have h1 : IntKind.i64.min = -9223372036854775808 := by decide
  have h2 : IntKind.i64.max = 9223372036854775807 := by decide
  omega
end Go.Proofs.Ytppbgkdkioldbaa

/- An argument opened: an array of two bytes. -/
set_option maxRecDepth 4000
namespace Go.Proofs.Ytppbgkdkioldbaa
open Go Go.ChangeShapes Go.WideShapes Go.ChangeAt Go.RowKit
theorem cells2 : Try.prog.cellsOf 55 = 2 := by kernel_rfl
theorem open_two {H : Type} {enc : TypeId × Value → H} {W : World} {r : Reach} {base : Nat} {v : Value} {d : DataW H} {ps : List MemPlace} (hval : Value.okWide Try.prog W r base 55 v)
    (h : DataW.Trod enc Try.prog W 0 (fun _ => true) true 55 v d ps) : ∃ q : List (BitVec 8), q.length = 2 ∧ v = .agg (bs q) := by
  obtain ⟨cs, rfl⟩ := okWide_arr Try.underlying55 hval
  obtain ⟨hs, hi⟩ := open_row Try.underlying55 Try.underlying5 cellsB cells2 h
  refine ⟨cs.toList.map fun v => BitVec.ofInt 8 (intIn v), by simp [hs], ?_⟩
  congr 1
  apply Array.ext_getElem?
  intro i
  by_cases hlt : i < 2
  · obtain ⟨z, hz, hw⟩ := hi i hlt
    have hb := bounds_u8 hw
    have hin : i < cs.size := by omega
    rw [hz, get_bs _ i (by simp [hs]; omega)]
    have e1 : cs[i] = .int .u8 z := by rw [Array.getElem?_eq_getElem hin] at hz; injection hz
    simp [hin, e1, intIn, ← bd_of z hb.1 (by omega)]
  · rw [Array.getElem?_eq_none (by omega), Array.getElem?_eq_none (by rw [size_bs]; simp [hs]; omega)]
end Go.Proofs.Ytppbgkdkioldbaa

/- The document's: which puts may be an op's. -/
set_option maxRecDepth 4000
namespace Go.Proofs.Ytppbgkdkioldbaa
open Go Go.RowKit
set_option maxHeartbeats 800000 in
theorem refgood_any (l : List (Int × List (BitVec 8))) (v : Value) (w : World) (hv : PutsAt w v l) (hl : l.length ≤ maxLen) :
    Calls Try.prog 40 #[v] w fun e w' => e = .returned (.bool (goodB (l.map (·.1)))) ∧ Below w.heap.size w w' := by
  obtain ⟨A, c, rfl, _, hb, h3⟩ := hv
  obtain ⟨n, hn⟩ : ∃ n, l.length = n := ⟨_, rfl⟩
  obtain ⟨L, hL⟩ : ∃ L, l.map (·.1) = L := ⟨_, rfl⟩
  have hLn : L.length = n := by rw [← hL, List.length_map, hn]
  have HX : Hid (∀ k, k < n → ∃ b o, A = some ⟨b, o, none⟩ ∧ b < w.heap.size ∧ w.cell? ⟨b, o + k * 33, none⟩ = some (.int .i64 (L.getD k 0)) ∧ -9223372036854775808 ≤ L.getD k 0 ∧ L.getD k 0 < 9223372036854775808) := Lib.hid fun k hk => by
    obtain ⟨x, hx⟩ : ∃ x, l[k]? = some x := ⟨_, List.getElem?_eq_getElem (by rw [hn]; exact hk)⟩
    obtain ⟨b, o, h5, h6, h7⟩ := h3 (by intro e; rw [e] at hx; simp at hx)
    have hd : L.getD k 0 = x.1 := by rw [← hL, List.getD_eq_getElem?_getD, List.getElem?_map, hx]; rfl
    have hr := (hb x (List.mem_of_getElem? hx)).2
    have hc := h7 k x hx 0 _ rfl
    rw [Nat.add_zero] at hc
    rw [hd]
    exact ⟨b, o, h5, h6, hc, hr⟩
  have HG : Hid (goodB L = (decide (∀ k < n, okAt L k) && (decide (1 ≤ n) && decide (n ≤ 5)))) := Lib.hid (by unfold goodB; rw [hLn])
  obtain ⟨G, hG⟩ : ∃ G, goodB L = G := ⟨_, rfl⟩
  rw [hG] at HG
  rw [hL, hG]
  obtain ⟨D, hD⟩ : ∃ D : Nat → Int, ∀ k, L.getD k 0 = D k := ⟨_, fun _ => rfl⟩
  have HK : Hid (∀ k, okAt L k ↔ (0 ≤ D k ∧ D k < 12 ∧ ∀ i < k, D i ≠ D k)) := Lib.hid fun k => by unfold okAt; simp only [hD]
  simp only [hD] at HX
  have HNO : Hid (∀ k, k < n → ¬ okAt L k → G = false) := Lib.hid fun k hk h => by
    rw [HG.out, decide_eq_false (fun h' => h (h' k hk))]; rfl
  rw [hn] at hl ⊢
  unfold maxLen at hl
  clear hD h3 hn hb hL hLn hG
  go_enter Try.func40, Try.ntmps40
  go_wp2_with fail
  go_loopw [3] (fun i wr => ∃ k : Nat, k ≤ n ∧ i = .int .i64 k ∧ (∀ j < k, okAt L j) ∧ Below w.heap.size w wr) (fun i _ => n - (intOf i).toNat)
  case atStart => exact ⟨0, by omega, rfl, fun j hj => by omega, Below.refl _ _⟩
  case round =>
    obtain ⟨k, hk, rfl, hok, hB⟩ := hrel
    have HOK := Lib.hid hok
    have HB := Lib.hid hB
    clear hok
    by_cases hlt : k < n
    · obtain ⟨b, o, rfl, hbw, ck, hlo, hhi⟩ := HX.out k hlt
      have ci : wr.cell? ⟨b, o + k * 33, none⟩ = some (.int .i64 (D k)) := (hB.cell (p := ⟨b, o + k * 33, none⟩) hbw).trans ck
      have CK := Lib.hid ck
      have HBW := Lib.hid hbw
      have hk0 : (0 : Int) ≤ (k : Int) := by omega
      have hk1 : (k : Int) < (n : Int) := by omega
      clear ck hbw hB
      by_cases h0 : 0 ≤ D k
      · by_cases h12 : D k < 12
        · have hd3 : decide (D k < 0) = false := decide_eq_false (by omega)
          have hd4 : decide (12 ≤ D k) = false := decide_eq_false (by omega)
          go_wp2_with fail
          go_loopw [4] (fun m wr' => ∃ j : Nat, j ≤ k ∧ m = .int .i64 j ∧ (∀ i < j, D i ≠ D k) ∧ Below w.heap.size w wr') (fun m _ => k - (intOf m).toNat)
          case atStart => exact ⟨0, by omega, rfl, fun j hj => by omega, HB.out⟩
          case round =>
            obtain ⟨j, hj, rfl, hne, hB2⟩ := hrel
            have HNE := Lib.hid hne
            have HB2 := Lib.hid hB2
            clear hne ci
            by_cases hjk : j < k
            · obtain ⟨b2, o2, e2, _, cj, hlo2, hhi2⟩ := HX.out j (by omega)
              cases e2
              have CJ := Lib.hid cj
              have hj0 : (0 : Int) ≤ (j : Int) := by omega
              have hj1 : (j : Int) < (k : Int) := by omega
              have hj2 : (j : Int) < (n : Int) := by omega
              have hjn : j < n := by omega
              clear cj hB2
              go_upto_region 9 with fail
              have hF0 : Wl [fun W => Below w.heap.size w W] 0 (World.drew _) := HB2.out.drew
              by_cases heq : D j = D k
              · have HQ : Hid ((D j == D k) = true) := Lib.hid (by simpa using heq)
                have HEQ := Lib.hid heq
                clear heq
                refine wp_region_phs [is (.slice (some ⟨b, o, none⟩) n c), is (.int .i64 (j : Int)), is (.pointer (some ⟨b, o + j * 33, none⟩)), is (.pointer (some ⟨b, o + j * 33, none⟩)), is (.int .i64 (D j)), is (.slice (some ⟨b, o, none⟩) n c), is (.int .i64 (k : Int)), is (.pointer (some ⟨b, o + k * 33, none⟩)), is (.pointer (some ⟨b, o + k * 33, none⟩)), is (.int .i64 (D k)), is (.bool true)] [true, true, true, true, true, true, true, true, true, true, true] [(fun W => Below w.heap.size w W)] [false, false, false, false, false, false, false, false, false, false, false] [some 0, some 0, some 0, some 0, some 0, some 0, some 0, some 0, some 0, some 0, some 0] [some 30, some 31, some 32, some 33, some 34, some 35, some 36, some 37, some 38, some 39, some 40] 11 0 (fun _ => true) rfl rfl (by kernel_rfl) (by kernel_rfl) (by kernel_rfl) (by kernel_rfl) ?_ ?_ ?_ ?_ ?_ ?_
                · repeat first | exact wok_nil | refine wok_cons (by first | exact fun _ _ h k => h.trans (k.mono h.size)) ?_
                · repeat first | exact vok_nil | refine vok_rig (by first | exact fun _ _ _ h => h) ?_ | refine vok_soft (by first | exact fun _ _ _ h _ => h) ?_
                · exact hF0
                · repeat first | exact all_end (by decide) | refine all_cons (by first | exact rfl | exact ⟨rfl, fun _ _ h => Or.inl h⟩ | exact ⟨rfl, fun _ _ h => Or.inr ⟨h, rfl⟩⟩) ?_
                · refine allp_mild 0 rfl rfl rfl (fun a x W hout hin hP => ?_) ?_
                  · have e0 : a.tmps[0]? = some (.slice (some ⟨b, o, none⟩) n c) := (hout 0 (by kernel_rfl)).trans rfl
                    exact does_move rfl e0 ⟨Same.refl _, rfl⟩
                  refine allp_mild 0 rfl rfl rfl (fun a x W hout hin hP => ?_) ?_
                  · have e4 : a.tmps[4]? = some (.int .i64 (j : Int)) := (hout 4 (by kernel_rfl)).trans rfl
                    exact does_move rfl e4 ⟨Same.refl _, rfl⟩
                  refine allp_mild 0 rfl rfl rfl (fun a x W hout hin hP => ?_) ?_
                  · have e30 := hin.is 0 30 (by kernel_rfl) (by decide) (by kernel_rfl) (by kernel_rfl) _ rfl
                    have e31 := hin.is 1 31 (by kernel_rfl) (by decide) (by kernel_rfl) (by kernel_rfl) _ rfl
                    clear hin hout
                    intro K Q hK
                    go_simp
                    exact hK _ _ ⟨Same.refl _, rfl⟩
                  refine allp_mild 0 rfl rfl rfl (fun a x W hout hin hP => ?_) ?_
                  · have e32 := hin.is 2 32 (by kernel_rfl) (by decide) (by kernel_rfl) (by kernel_rfl) _ rfl
                    clear hin hout
                    intro K Q hK
                    go_simp
                    exact hK _ _ ⟨Same.refl _, rfl⟩
                  refine allp_mild 0 rfl rfl rfl (fun a x W hout hin hP => ?_) ?_
                  · have e33 := hin.is 3 33 (by kernel_rfl) (by decide) (by kernel_rfl) (by kernel_rfl) _ rfl
                    have hc : W.cell? ⟨b, o + j * 33, none⟩ = some (.int .i64 (D j)) := (hP.cell (p := ⟨b, o + j * 33, none⟩) HBW.out).trans CJ.out
                    clear hP
                    clear hin hout
                    intro K Q hK
                    go_simp
                    exact hK _ _ ⟨Same.refl _, rfl⟩
                  refine allp_mild 0 rfl rfl rfl (fun a x W hout hin hP => ?_) ?_
                  · have e0 : a.tmps[0]? = some (.slice (some ⟨b, o, none⟩) n c) := (hout 0 (by kernel_rfl)).trans rfl
                    exact does_move rfl e0 ⟨Same.refl _, rfl⟩
                  refine allp_mild 0 rfl rfl rfl (fun a x W hout hin hP => ?_) ?_
                  · have e3 : a.tmps[3]? = some (.int .i64 (k : Int)) := (hout 3 (by kernel_rfl)).trans rfl
                    exact does_move rfl e3 ⟨Same.refl _, rfl⟩
                  refine allp_mild 0 rfl rfl rfl (fun a x W hout hin hP => ?_) ?_
                  · have e35 := hin.is 5 35 (by kernel_rfl) (by decide) (by kernel_rfl) (by kernel_rfl) _ rfl
                    have e36 := hin.is 6 36 (by kernel_rfl) (by decide) (by kernel_rfl) (by kernel_rfl) _ rfl
                    clear hin hout
                    intro K Q hK
                    go_simp
                    exact hK _ _ ⟨Same.refl _, rfl⟩
                  refine allp_mild 0 rfl rfl rfl (fun a x W hout hin hP => ?_) ?_
                  · have e37 := hin.is 7 37 (by kernel_rfl) (by decide) (by kernel_rfl) (by kernel_rfl) _ rfl
                    clear hin hout
                    intro K Q hK
                    go_simp
                    exact hK _ _ ⟨Same.refl _, rfl⟩
                  refine allp_mild 0 rfl rfl rfl (fun a x W hout hin hP => ?_) ?_
                  · have e38 := hin.is 8 38 (by kernel_rfl) (by decide) (by kernel_rfl) (by kernel_rfl) _ rfl
                    have hc : W.cell? ⟨b, o + k * 33, none⟩ = some (.int .i64 (D k)) := (hP.cell (p := ⟨b, o + k * 33, none⟩) HBW.out).trans CK.out
                    clear hP
                    clear hin hout
                    intro K Q hK
                    go_simp
                    exact hK _ _ ⟨Same.refl _, rfl⟩
                  refine allp_mild 0 rfl rfl rfl (fun a x W hout hin hP => ?_) ?_
                  · have e34 := hin.is 4 34 (by kernel_rfl) (by decide) (by kernel_rfl) (by kernel_rfl) _ rfl
                    have e39 := hin.is 9 39 (by kernel_rfl) (by decide) (by kernel_rfl) (by kernel_rfl) _ rfl
                    have hq := HQ.out
                    clear hin hout
                    intro K Q hK
                    go_simp
                    exact hK _ _ ⟨Same.refl _, rfl⟩
                  exact all_end (by decide)
                · intro x V hP hV
                  have hB9 := hP
                  have h10 : x 10 = .bool true := hV 10 (by decide) (.inl (by kernel_rfl))
                  clear hP hV
                  simp only [putL, Act.put, List.setIfInBounds_toArray, List.set_cons_succ, List.set_cons_zero, h10]
                  refine wpAnyH_done (by kernel_rfl) ?_ _
                  clear h10
                  go_wp2_with fail
                  go_ret
                  have hG := HNO.out k hlt (fun h => ((HK.out k).1 h).2.2 j hjk HEQ.out)
                  exact ⟨by first | rfl | (rw [hG]; rfl), hB9⟩
              · have HQ : Hid ((D j == D k) = false) := Lib.hid (by simpa using heq)
                have HEQ := Lib.hid heq
                clear heq
                refine wp_region_phs [is (.slice (some ⟨b, o, none⟩) n c), is (.int .i64 (j : Int)), is (.pointer (some ⟨b, o + j * 33, none⟩)), is (.pointer (some ⟨b, o + j * 33, none⟩)), is (.int .i64 (D j)), is (.slice (some ⟨b, o, none⟩) n c), is (.int .i64 (k : Int)), is (.pointer (some ⟨b, o + k * 33, none⟩)), is (.pointer (some ⟨b, o + k * 33, none⟩)), is (.int .i64 (D k)), is (.bool false)] [true, true, true, true, true, true, true, true, true, true, true] [(fun W => Below w.heap.size w W)] [false, false, false, false, false, false, false, false, false, false, false] [some 0, some 0, some 0, some 0, some 0, some 0, some 0, some 0, some 0, some 0, some 0] [some 30, some 31, some 32, some 33, some 34, some 35, some 36, some 37, some 38, some 39, some 40] 11 0 (fun _ => true) rfl rfl (by kernel_rfl) (by kernel_rfl) (by kernel_rfl) (by kernel_rfl) ?_ ?_ ?_ ?_ ?_ ?_
                · repeat first | exact wok_nil | refine wok_cons (by first | exact fun _ _ h k => h.trans (k.mono h.size)) ?_
                · repeat first | exact vok_nil | refine vok_rig (by first | exact fun _ _ _ h => h) ?_ | refine vok_soft (by first | exact fun _ _ _ h _ => h) ?_
                · exact hF0
                · repeat first | exact all_end (by decide) | refine all_cons (by first | exact rfl | exact ⟨rfl, fun _ _ h => Or.inl h⟩ | exact ⟨rfl, fun _ _ h => Or.inr ⟨h, rfl⟩⟩) ?_
                · refine allp_mild 0 rfl rfl rfl (fun a x W hout hin hP => ?_) ?_
                  · have e0 : a.tmps[0]? = some (.slice (some ⟨b, o, none⟩) n c) := (hout 0 (by kernel_rfl)).trans rfl
                    exact does_move rfl e0 ⟨Same.refl _, rfl⟩
                  refine allp_mild 0 rfl rfl rfl (fun a x W hout hin hP => ?_) ?_
                  · have e4 : a.tmps[4]? = some (.int .i64 (j : Int)) := (hout 4 (by kernel_rfl)).trans rfl
                    exact does_move rfl e4 ⟨Same.refl _, rfl⟩
                  refine allp_mild 0 rfl rfl rfl (fun a x W hout hin hP => ?_) ?_
                  · have e30 := hin.is 0 30 (by kernel_rfl) (by decide) (by kernel_rfl) (by kernel_rfl) _ rfl
                    have e31 := hin.is 1 31 (by kernel_rfl) (by decide) (by kernel_rfl) (by kernel_rfl) _ rfl
                    clear hin hout
                    intro K Q hK
                    go_simp
                    exact hK _ _ ⟨Same.refl _, rfl⟩
                  refine allp_mild 0 rfl rfl rfl (fun a x W hout hin hP => ?_) ?_
                  · have e32 := hin.is 2 32 (by kernel_rfl) (by decide) (by kernel_rfl) (by kernel_rfl) _ rfl
                    clear hin hout
                    intro K Q hK
                    go_simp
                    exact hK _ _ ⟨Same.refl _, rfl⟩
                  refine allp_mild 0 rfl rfl rfl (fun a x W hout hin hP => ?_) ?_
                  · have e33 := hin.is 3 33 (by kernel_rfl) (by decide) (by kernel_rfl) (by kernel_rfl) _ rfl
                    have hc : W.cell? ⟨b, o + j * 33, none⟩ = some (.int .i64 (D j)) := (hP.cell (p := ⟨b, o + j * 33, none⟩) HBW.out).trans CJ.out
                    clear hP
                    clear hin hout
                    intro K Q hK
                    go_simp
                    exact hK _ _ ⟨Same.refl _, rfl⟩
                  refine allp_mild 0 rfl rfl rfl (fun a x W hout hin hP => ?_) ?_
                  · have e0 : a.tmps[0]? = some (.slice (some ⟨b, o, none⟩) n c) := (hout 0 (by kernel_rfl)).trans rfl
                    exact does_move rfl e0 ⟨Same.refl _, rfl⟩
                  refine allp_mild 0 rfl rfl rfl (fun a x W hout hin hP => ?_) ?_
                  · have e3 : a.tmps[3]? = some (.int .i64 (k : Int)) := (hout 3 (by kernel_rfl)).trans rfl
                    exact does_move rfl e3 ⟨Same.refl _, rfl⟩
                  refine allp_mild 0 rfl rfl rfl (fun a x W hout hin hP => ?_) ?_
                  · have e35 := hin.is 5 35 (by kernel_rfl) (by decide) (by kernel_rfl) (by kernel_rfl) _ rfl
                    have e36 := hin.is 6 36 (by kernel_rfl) (by decide) (by kernel_rfl) (by kernel_rfl) _ rfl
                    clear hin hout
                    intro K Q hK
                    go_simp
                    exact hK _ _ ⟨Same.refl _, rfl⟩
                  refine allp_mild 0 rfl rfl rfl (fun a x W hout hin hP => ?_) ?_
                  · have e37 := hin.is 7 37 (by kernel_rfl) (by decide) (by kernel_rfl) (by kernel_rfl) _ rfl
                    clear hin hout
                    intro K Q hK
                    go_simp
                    exact hK _ _ ⟨Same.refl _, rfl⟩
                  refine allp_mild 0 rfl rfl rfl (fun a x W hout hin hP => ?_) ?_
                  · have e38 := hin.is 8 38 (by kernel_rfl) (by decide) (by kernel_rfl) (by kernel_rfl) _ rfl
                    have hc : W.cell? ⟨b, o + k * 33, none⟩ = some (.int .i64 (D k)) := (hP.cell (p := ⟨b, o + k * 33, none⟩) HBW.out).trans CK.out
                    clear hP
                    clear hin hout
                    intro K Q hK
                    go_simp
                    exact hK _ _ ⟨Same.refl _, rfl⟩
                  refine allp_mild 0 rfl rfl rfl (fun a x W hout hin hP => ?_) ?_
                  · have e34 := hin.is 4 34 (by kernel_rfl) (by decide) (by kernel_rfl) (by kernel_rfl) _ rfl
                    have e39 := hin.is 9 39 (by kernel_rfl) (by decide) (by kernel_rfl) (by kernel_rfl) _ rfl
                    have hq := HQ.out
                    clear hin hout
                    intro K Q hK
                    go_simp
                    exact hK _ _ ⟨Same.refl _, rfl⟩
                  exact all_end (by decide)
                · intro x V hP hV
                  have hB9 := hP
                  have h10 : x 10 = .bool false := hV 10 (by decide) (.inl (by kernel_rfl))
                  clear hP hV
                  simp only [putL, Act.put, List.setIfInBounds_toArray, List.set_cons_succ, List.set_cons_zero, h10]
                  refine wpAnyH_done (by kernel_rfl) ?_ _
                  clear h10
                  go_wp2_with fail
                  refine ⟨⟨j + 1, by omega, by go_num, fun i hi => ?_, hB9⟩, by simp [intOf] <;> omega⟩
                  rcases Nat.lt_or_eq_of_le (Nat.le_of_lt_succ hi) with h | rfl
                  · exact HNE.out i h
                  · exact HEQ.out
            · obtain rfl : j = k := by omega
              go_wp2_with fail
              refine ⟨⟨j + 1, by omega, by go_num, fun i hi => ?_, HB2.out⟩, by simp [intOf] <;> omega⟩
              rcases Nat.lt_or_eq_of_le (Nat.le_of_lt_succ hi) with h | rfl
              · exact HOK.out i h
              · exact (HK.out i).2 ⟨h0, h12, HNE.out⟩
        · have hd3 : decide (D k < 0) = false := decide_eq_false (by omega)
          have hd4 : decide (12 ≤ D k) = true := decide_eq_true (by omega)
          have hG := HNO.out k hlt (fun h => h12 ((HK.out k).1 h).2.1)
          go_wp2_with fail
          go_ret
          exact ⟨by first | rfl | (rw [hG]; rfl), HB.out⟩
      · have hd3 : decide (D k < 0) = true := decide_eq_true (by omega)
        have hG := HNO.out k hlt (fun h => h0 ((HK.out k).1 h).1)
        go_wp2_with fail
        go_ret
        exact ⟨by first | rfl | (rw [hG]; rfl), HB.out⟩
    · obtain rfl : k = n := by omega
      have hG := HG.out
      rw [decide_eq_true HOK.out, Bool.true_and] at hG
      by_cases h1 : 1 ≤ k
      · have hd1 : decide ((1 : Int) ≤ (k : Int)) = true := decide_eq_true (by omega)
        by_cases h5 : k ≤ 5
        · have hd2 : decide ((k : Int) ≤ 5) = true := decide_eq_true (by omega)
          rw [decide_eq_true h1, decide_eq_true h5] at hG
          go_wp2_with fail
          go_ret
          exact ⟨by first | rfl | (rw [hG]; rfl), hB⟩
        · have hd2 : decide ((k : Int) ≤ 5) = false := decide_eq_false (by omega)
          rw [decide_eq_true h1, decide_eq_false h5] at hG
          go_wp2_with fail
          go_ret
          exact ⟨by first | rfl | (rw [hG]; rfl), hB⟩
      · have hd1 : decide ((1 : Int) ≤ (k : Int)) = false := decide_eq_false (by omega)
        rw [decide_eq_false h1] at hG
        go_wp2_with fail
        go_ret
        exact ⟨by first | rfl | (rw [hG]; rfl), hB⟩
end Go.Proofs.Ytppbgkdkioldbaa

/- Two puts compared. -/
set_option maxRecDepth 4000
namespace Go.Proofs.Ytppbgkdkioldbaa
open Go Go.RowKit
theorem take_pcell (i : Int) (q : List (BitVec 8)) (hq : q.length = 32) : (List.take 32 (pcell (i, q)).tail).toArray = bs q := by
  show (List.take 32 (bytesV q)).toArray = _
  rw [List.take_of_length_le (by rw [len_bytesV, hq]; exact Nat.le_refl _)]; rfl
theorem eql_put (x y : Int × List (BitVec 8)) (hx : x.2.length = 32) (hy : y.2.length = 32) (w : World) : (Op.equalIn 10000 61 (.agg (pcell x).toArray) (.agg (pcell y).toArray)).run Try.prog w = .ok (decide (x = y)) w := by
  have hS : Try.prog.underlying 61 = some (.struct (Try.prog.fieldsOf 61)) := by kernel_rfl
  obtain ⟨i, p⟩ := x
  obtain ⟨j, q⟩ := y
  have h3 := equal_bytesD 9997 59 32 p q hx hy Try.underlying59 w
  rw [show (10000 : Nat) = 9999 + 1 from rfl, run_equalIn_agg w 9999 61 _ _ hS (by kernel_rfl)]
  simp only [Program.fieldsOf, Try.underlying61]
  have u1 := Try.underlying3
  have c1 : (pcell (i, p))[0]? = some (.int .i64 i) := rfl
  have c2 : (pcell (j, q))[0]? = some (.int .i64 j) := rfl
  go_simp
  rw [take_pcell i p hx, take_pcell j q hy]
  rw [show (9999 : Nat) = 9997 + 2 from rfl, h3]
  by_cases h1 : i = j <;> by_cases h2 : p = q <;> simp [h1, h2]
end Go.Proofs.Ytppbgkdkioldbaa

/- Are two lists of puts alike? -/
set_option maxRecDepth 4000
namespace Go.Proofs.Ytppbgkdkioldbaa
open Go Go.RowKit
attribute [local go_sem high] eql_put
theorem size_put33 : (Try.prog.info? 61).map (·.size) = some 33 := by kernel_rfl
theorem range_below {w W : World} {b o : Nat} {L : List Value} (h : w.rangeAt b o L) (hb : Below w.heap.size w W) (hw : b < w.heap.size) : W.rangeAt b o L := fun j v hv => (hb.cell (p := ⟨b, o + j, none⟩) hw).trans (h j v hv)
set_option maxRecDepth 20000 in
set_option maxHeartbeats 800000 in
theorem keepputs_any (la lb : List (Int × List (BitVec 8))) (u v : Value) (w : World) (hu : PutsAt w u la) (hv : PutsAt w v lb) (hl : la.length ≤ 1000000) :
    Calls Try.prog 33 #[u, v] w fun e w' => e = .returned (.bool (decide (la = lb))) ∧ Below w.heap.size w w' := by
  obtain ⟨A1, c1, rfl, _, h13, h14⟩ := hu
  obtain ⟨A2, c2, rfl, _, h23, h24⟩ := hv
  obtain ⟨G, hG⟩ : ∃ G, decide (la = lb) = G := ⟨_, rfl⟩
  by_cases hlen : la.length = lb.length
  case neg =>
    have hG0 : G = false := by rw [← hG, decide_eq_false (fun h => hlen (by rw [h]))]
    rw [hG, hG0]
    have hq : (la.length : Int) ≠ (lb.length : Int) := by omega
    clear h13 h14 h23 h24 hG hlen
    generalize la.length = n1 at *
    generalize lb.length = n2 at *
    go_enter Try.func33, Try.ntmps33
    go_wp2_with fail
    go_ret
    exact ⟨rfl, Below.refl _ _⟩
  obtain ⟨n, hn⟩ : ∃ n, la.length = n := ⟨_, rfl⟩
  have hm : lb.length = n := by omega
  have HF : Hid (∀ k, k < n → ∃ x y b1 o1 b2 o2, la[k]? = some x ∧ lb[k]? = some y ∧ A1 = some ⟨b1, o1, none⟩ ∧ A2 = some ⟨b2, o2, none⟩ ∧ w.rangeAt b1 (o1 + k * 33) (pcell x) ∧ w.rangeAt b2 (o2 + k * 33) (pcell y) ∧ b1 < w.heap.size ∧ b2 < w.heap.size ∧ x.2.length = 32 ∧ y.2.length = 32) := Lib.hid fun k hk => by
    obtain ⟨x, hx⟩ : ∃ x, la[k]? = some x := ⟨_, List.getElem?_eq_getElem (by rw [hn]; exact hk)⟩
    obtain ⟨y, hy⟩ : ∃ x, lb[k]? = some x := ⟨_, List.getElem?_eq_getElem (by rw [hm]; exact hk)⟩
    obtain ⟨b1, o1, e1, w1, r1⟩ := h14 (by rintro rfl; simp at hx)
    obtain ⟨b2, o2, e2, w2, r2⟩ := h24 (by rintro rfl; simp at hy)
    exact ⟨x, y, b1, o1, b2, o2, hx, hy, e1, e2, r1 k x hx, r2 k y hy, w1, w2, (h13 x (List.mem_of_getElem? hx)).1, (h23 y (List.mem_of_getElem? hy)).1⟩
  have HALL : Hid ((∀ i < n, la[i]? = lb[i]?) → G = true) := Lib.hid fun h => by
    rw [← hG]
    refine decide_eq_true (List.ext_getElem? fun i => ?_)
    by_cases hi : i < n
    · exact h i hi
    · rw [List.getElem?_eq_none (by omega), List.getElem?_eq_none (by omega)]
  have HNO : Hid (∀ k : Nat, la[k]? ≠ lb[k]? → G = false) := Lib.hid fun k h => by
    rw [← hG]; exact decide_eq_false (fun e => h (by rw [e]))
  have hl6 : n ≤ 1000000 := by omega
  rw [hG, hn, hm]
  clear h13 h14 h23 h24 hG hn hm hlen hl
  go_enter Try.func33, Try.ntmps33
  go_wp2_with fail
  go_loopw [5] (fun i wr => ∃ k : Nat, k ≤ n ∧ i = .int .i64 k ∧ (∀ j < k, la[j]? = lb[j]?) ∧ Below w.heap.size w wr) (fun i _ => n - (intOf i).toNat)
  case atStart => exact ⟨0, by omega, rfl, fun j hj => by omega, Below.refl _ _⟩
  case round =>
    obtain ⟨k, hk, rfl, hE, hB⟩ := hrel
    have HE := Lib.hid hE
    have HB := Lib.hid hB
    clear hE
    by_cases hlt : k < n
    · obtain ⟨x, y, b1, o1, b2, o2, hx, hy, rfl, rfl, r1, r2, w1, w2, l1, l2⟩ := HF.out k hlt
      obtain ⟨O1, hO1⟩ : ∃ O, o1 + k * 33 = O := ⟨_, rfl⟩
      obtain ⟨O2, hO2⟩ : ∃ O, o2 + k * 33 = O := ⟨_, rfl⟩
      rw [hO1] at r1
      rw [hO2] at r2
      have HX1 := Lib.hid hx
      have HX2 := Lib.hid hy
      have HR1 := Lib.hid r1
      have HR2 := Lib.hid r2
      have HW1 := Lib.hid w1
      have HW2 := Lib.hid w2
      have HL1 := Lib.hid l1
      have HL2 := Lib.hid l2
      have HO1 := Lib.hid hO1
      have HO2 := Lib.hid hO2
      have hk0 : (0 : Int) ≤ (k : Int) := by omega
      have hk1 : (k : Int) < (n : Int) := by omega
      clear hx hy r1 r2 w1 w2 l1 l2 hO1 hO2 hB
      go_upto_region 6 with fail
      have hF0 : Wl [fun W => Below w.heap.size w W] 0 (World.drew _) := HB.out.drew
      by_cases hxy : x = y
      · have HQ : Hid (decide (x = y) = true) := Lib.hid (decide_eq_true hxy)
        have HXY := Lib.hid hxy
        clear hxy
        refine wp_region_phs [is (.slice (some ⟨b1, o1, none⟩) n c1), is (.int .i64 (k : Int)), is (.pointer (some ⟨b1, O1, none⟩)), is (.agg (pcell x).toArray), is (.slice (some ⟨b2, o2, none⟩) n c2), is (.int .i64 (k : Int)), is (.pointer (some ⟨b2, O2, none⟩)), is (.agg (pcell y).toArray), is (.bool false)] [true, true, true, true, true, true, true, true, true] [(fun W => Below w.heap.size w W)] [false, false, false, false, false, false, false, false, false] [some 0, some 0, some 0, some 0, some 0, some 0, some 0, some 0, some 0] [some 17, some 18, some 19, some 20, some 21, some 22, some 23, some 24, some 25] 9 0 (fun _ => true) rfl rfl (by kernel_rfl) (by kernel_rfl) (by kernel_rfl) (by kernel_rfl) ?_ ?_ ?_ ?_ ?_ ?_
        · repeat first | exact wok_nil | refine wok_cons (by first | exact fun _ _ h k => h.trans (k.mono h.size)) ?_
        · repeat first | exact vok_nil | refine vok_rig (by first | exact fun _ _ _ h => h) ?_ | refine vok_soft (by first | exact fun _ _ _ h _ => h) ?_
        · exact hF0
        · repeat first | exact all_end (by decide) | refine all_cons (by first | exact rfl | exact ⟨rfl, fun _ _ h => Or.inl h⟩ | exact ⟨rfl, fun _ _ h => Or.inr ⟨h, rfl⟩⟩) ?_
        · refine allp_mild 0 rfl rfl rfl (fun a x_ W hout hin hP => ?_) ?_
          · have e0 : a.tmps[0]? = some (.slice (some ⟨b1, o1, none⟩) n c1) := (hout 0 (by kernel_rfl)).trans rfl
            exact does_move rfl e0 ⟨Same.refl _, rfl⟩
          refine allp_mild 0 rfl rfl rfl (fun a x_ W hout hin hP => ?_) ?_
          · have e5 : a.tmps[5]? = some (.int .i64 (k : Int)) := (hout 5 (by kernel_rfl)).trans rfl
            exact does_move rfl e5 ⟨Same.refl _, rfl⟩
          refine allp_mild 0 rfl rfl rfl (fun a x_ W hout hin hP => ?_) ?_
          · have e17 := hin.is 0 17 (by kernel_rfl) (by decide) (by kernel_rfl) (by kernel_rfl) _ rfl
            have e18 := hin.is 1 18 (by kernel_rfl) (by decide) (by kernel_rfl) (by kernel_rfl) _ rfl
            have hO := HO1.out
            clear hin hout
            intro K Q hK
            go_simp
            exact hK _ _ ⟨Same.refl _, rfl⟩
          refine allp_mild 0 rfl rfl rfl (fun a x_ W hout hin hP => ?_) ?_
          · have e19 := hin.is 2 19 (by kernel_rfl) (by decide) (by kernel_rfl) (by kernel_rfl) _ rfl
            clear hin hout
            intro K Q hK
            exact wp_load_mid 61 (.tmp 19) rfl b1 O1 (eval_of_get e19) (pcell x) _ (range_below HR1.out hP HW1.out) Try.underlying61 rfl (by rw [len_pcell HL1.out]; exact size_put33) (hK _ _ ⟨Same.refl _, rfl⟩)
          refine allp_mild 0 rfl rfl rfl (fun a x_ W hout hin hP => ?_) ?_
          · have e1 : a.tmps[1]? = some (.slice (some ⟨b2, o2, none⟩) n c2) := (hout 1 (by kernel_rfl)).trans rfl
            exact does_move rfl e1 ⟨Same.refl _, rfl⟩
          refine allp_mild 0 rfl rfl rfl (fun a x_ W hout hin hP => ?_) ?_
          · have e5 : a.tmps[5]? = some (.int .i64 (k : Int)) := (hout 5 (by kernel_rfl)).trans rfl
            exact does_move rfl e5 ⟨Same.refl _, rfl⟩
          refine allp_mild 0 rfl rfl rfl (fun a x_ W hout hin hP => ?_) ?_
          · have e21 := hin.is 4 21 (by kernel_rfl) (by decide) (by kernel_rfl) (by kernel_rfl) _ rfl
            have e22 := hin.is 5 22 (by kernel_rfl) (by decide) (by kernel_rfl) (by kernel_rfl) _ rfl
            have hO := HO2.out
            clear hin hout
            intro K Q hK
            go_simp
            exact hK _ _ ⟨Same.refl _, rfl⟩
          refine allp_mild 0 rfl rfl rfl (fun a x_ W hout hin hP => ?_) ?_
          · have e23 := hin.is 6 23 (by kernel_rfl) (by decide) (by kernel_rfl) (by kernel_rfl) _ rfl
            clear hin hout
            intro K Q hK
            exact wp_load_mid 61 (.tmp 23) rfl b2 O2 (eval_of_get e23) (pcell y) _ (range_below HR2.out hP HW2.out) Try.underlying61 rfl (by rw [len_pcell HL2.out]; exact size_put33) (hK _ _ ⟨Same.refl _, rfl⟩)
          refine allp_mild 0 rfl rfl rfl (fun a x_ W hout hin hP => ?_) ?_
          · have e20 := hin.is 3 20 (by kernel_rfl) (by decide) (by kernel_rfl) (by kernel_rfl) _ rfl
            have e24 := hin.is 7 24 (by kernel_rfl) (by decide) (by kernel_rfl) (by kernel_rfl) _ rfl
            have hq := HQ.out
            have hl1 := HL1.out
            have hl2 := HL2.out
            clear hP
            clear hin hout
            intro K Q hK
            go_simp
            exact hK _ _ ⟨Same.refl _, rfl⟩
          exact all_end (by decide)
        · intro x_ V hP hV
          have hB9 := hP
          have h8 : x_ 8 = .bool false := hV 8 (by decide) (.inl (by kernel_rfl))
          clear hP hV
          simp only [putL, Act.put, List.setIfInBounds_toArray, List.set_cons_succ, List.set_cons_zero, h8]
          refine wpAnyH_done (by kernel_rfl) ?_ _
          clear h8
          go_wp2_with fail
          refine ⟨⟨k + 1, by omega, by go_num, fun i hi => ?_, hB9⟩, by simp [intOf] <;> omega⟩
          rcases Nat.lt_or_eq_of_le (Nat.le_of_lt_succ hi) with h | rfl
          · exact HE.out i h
          · rw [HX1.out, HX2.out, HXY.out]
      · have HQ : Hid (decide (x = y) = false) := Lib.hid (decide_eq_false hxy)
        have HXY := Lib.hid hxy
        clear hxy
        refine wp_region_phs [is (.slice (some ⟨b1, o1, none⟩) n c1), is (.int .i64 (k : Int)), is (.pointer (some ⟨b1, O1, none⟩)), is (.agg (pcell x).toArray), is (.slice (some ⟨b2, o2, none⟩) n c2), is (.int .i64 (k : Int)), is (.pointer (some ⟨b2, O2, none⟩)), is (.agg (pcell y).toArray), is (.bool true)] [true, true, true, true, true, true, true, true, true] [(fun W => Below w.heap.size w W)] [false, false, false, false, false, false, false, false, false] [some 0, some 0, some 0, some 0, some 0, some 0, some 0, some 0, some 0] [some 17, some 18, some 19, some 20, some 21, some 22, some 23, some 24, some 25] 9 0 (fun _ => true) rfl rfl (by kernel_rfl) (by kernel_rfl) (by kernel_rfl) (by kernel_rfl) ?_ ?_ ?_ ?_ ?_ ?_
        · repeat first | exact wok_nil | refine wok_cons (by first | exact fun _ _ h k => h.trans (k.mono h.size)) ?_
        · repeat first | exact vok_nil | refine vok_rig (by first | exact fun _ _ _ h => h) ?_ | refine vok_soft (by first | exact fun _ _ _ h _ => h) ?_
        · exact hF0
        · repeat first | exact all_end (by decide) | refine all_cons (by first | exact rfl | exact ⟨rfl, fun _ _ h => Or.inl h⟩ | exact ⟨rfl, fun _ _ h => Or.inr ⟨h, rfl⟩⟩) ?_
        · refine allp_mild 0 rfl rfl rfl (fun a x_ W hout hin hP => ?_) ?_
          · have e0 : a.tmps[0]? = some (.slice (some ⟨b1, o1, none⟩) n c1) := (hout 0 (by kernel_rfl)).trans rfl
            exact does_move rfl e0 ⟨Same.refl _, rfl⟩
          refine allp_mild 0 rfl rfl rfl (fun a x_ W hout hin hP => ?_) ?_
          · have e5 : a.tmps[5]? = some (.int .i64 (k : Int)) := (hout 5 (by kernel_rfl)).trans rfl
            exact does_move rfl e5 ⟨Same.refl _, rfl⟩
          refine allp_mild 0 rfl rfl rfl (fun a x_ W hout hin hP => ?_) ?_
          · have e17 := hin.is 0 17 (by kernel_rfl) (by decide) (by kernel_rfl) (by kernel_rfl) _ rfl
            have e18 := hin.is 1 18 (by kernel_rfl) (by decide) (by kernel_rfl) (by kernel_rfl) _ rfl
            have hO := HO1.out
            clear hin hout
            intro K Q hK
            go_simp
            exact hK _ _ ⟨Same.refl _, rfl⟩
          refine allp_mild 0 rfl rfl rfl (fun a x_ W hout hin hP => ?_) ?_
          · have e19 := hin.is 2 19 (by kernel_rfl) (by decide) (by kernel_rfl) (by kernel_rfl) _ rfl
            clear hin hout
            intro K Q hK
            exact wp_load_mid 61 (.tmp 19) rfl b1 O1 (eval_of_get e19) (pcell x) _ (range_below HR1.out hP HW1.out) Try.underlying61 rfl (by rw [len_pcell HL1.out]; exact size_put33) (hK _ _ ⟨Same.refl _, rfl⟩)
          refine allp_mild 0 rfl rfl rfl (fun a x_ W hout hin hP => ?_) ?_
          · have e1 : a.tmps[1]? = some (.slice (some ⟨b2, o2, none⟩) n c2) := (hout 1 (by kernel_rfl)).trans rfl
            exact does_move rfl e1 ⟨Same.refl _, rfl⟩
          refine allp_mild 0 rfl rfl rfl (fun a x_ W hout hin hP => ?_) ?_
          · have e5 : a.tmps[5]? = some (.int .i64 (k : Int)) := (hout 5 (by kernel_rfl)).trans rfl
            exact does_move rfl e5 ⟨Same.refl _, rfl⟩
          refine allp_mild 0 rfl rfl rfl (fun a x_ W hout hin hP => ?_) ?_
          · have e21 := hin.is 4 21 (by kernel_rfl) (by decide) (by kernel_rfl) (by kernel_rfl) _ rfl
            have e22 := hin.is 5 22 (by kernel_rfl) (by decide) (by kernel_rfl) (by kernel_rfl) _ rfl
            have hO := HO2.out
            clear hin hout
            intro K Q hK
            go_simp
            exact hK _ _ ⟨Same.refl _, rfl⟩
          refine allp_mild 0 rfl rfl rfl (fun a x_ W hout hin hP => ?_) ?_
          · have e23 := hin.is 6 23 (by kernel_rfl) (by decide) (by kernel_rfl) (by kernel_rfl) _ rfl
            clear hin hout
            intro K Q hK
            exact wp_load_mid 61 (.tmp 23) rfl b2 O2 (eval_of_get e23) (pcell y) _ (range_below HR2.out hP HW2.out) Try.underlying61 rfl (by rw [len_pcell HL2.out]; exact size_put33) (hK _ _ ⟨Same.refl _, rfl⟩)
          refine allp_mild 0 rfl rfl rfl (fun a x_ W hout hin hP => ?_) ?_
          · have e20 := hin.is 3 20 (by kernel_rfl) (by decide) (by kernel_rfl) (by kernel_rfl) _ rfl
            have e24 := hin.is 7 24 (by kernel_rfl) (by decide) (by kernel_rfl) (by kernel_rfl) _ rfl
            have hq := HQ.out
            have hl1 := HL1.out
            have hl2 := HL2.out
            clear hP
            clear hin hout
            intro K Q hK
            go_simp
            exact hK _ _ ⟨Same.refl _, rfl⟩
          exact all_end (by decide)
        · intro x_ V hP hV
          have hB9 := hP
          have h8 : x_ 8 = .bool true := hV 8 (by decide) (.inl (by kernel_rfl))
          clear hP hV
          simp only [putL, Act.put, List.setIfInBounds_toArray, List.set_cons_succ, List.set_cons_zero, h8]
          refine wpAnyH_done (by kernel_rfl) ?_ _
          clear h8
          have hG := HNO.out k (by rw [HX1.out, HX2.out]; exact fun h => HXY.out (Option.some.inj h))
          go_wp2_with fail
          go_ret
          exact ⟨by first | rfl | (rw [hG]; rfl), hB9⟩
    · obtain rfl : k = n := by omega
      have hG := HALL.out HE.out
      go_wp2_with fail
      go_ret
      exact ⟨by first | rfl | (rw [hG]; rfl), hB⟩
end Go.Proofs.Ytppbgkdkioldbaa
