/- The program's wal: which puts may be. -/
import Derived.Test.YtppbgkdkioldbaaGoodB
import Derived.Test.YtppbgkdkioldbaaPuts
import Derived.Test.YtppbgkdkioldbaaSt
import Derived.Deep.Cut
set_option maxRecDepth 4000
namespace Go.Proofs.Ytppbgkdkioldbaa
open Go Go.RowKit
theorem st_cut {w0 w : World} {F : Nat → Prop} {R S : List Blk} (h : St w0 F (R ++ S) w) : St w0 F R w := by
  have at_ : ∀ (k : Nat) (r : Blk), R[k]? = some r → (R ++ S)[k]? = some r := fun k r hk => by
    rw [List.getElem?_append_left (List.getElem?_eq_some_iff.1 hk).1]; exact hk
  exact ⟨h.chg, fun k r hk => h.rows k r (at_ k r hk), fun j k r s hne hj hk => h.apart j k r s hne (at_ j r hj) (at_ k s hk), fun k r hk => h.own k r (at_ k r hk)⟩
/- which blocks the first k have -/
def took (L : List Int) (k : Nat) : Array Value := ((List.range 12).map fun (i : Nat) => Value.bool (decide ((i : Int) ∈ L.take k))).toArray
theorem size_took (L : List Int) (k : Nat) : (took L k).size = 12 := by simp [took]
theorem took0 (L : List Int) : took L 0 = #[.bool false, .bool false, .bool false, .bool false, .bool false, .bool false, .bool false, .bool false, .bool false, .bool false, .bool false, .bool false] := by unfold took; rfl
theorem took_at (L : List Int) (k d : Nat) (hd : d < 12) : (took L k)[d]? = some (.bool (decide ((d : Int) ∈ L.take k))) := by simp [took, hd]
theorem took_set (L : List Int) (k d : Nat) (hk : k < L.length) (hd : L.getD k 0 = (d : Int)) : (took L k).setIfInBounds d (.bool true) = took L (k + 1) := by
  apply Array.ext'
  unfold took
  simp only [List.setIfInBounds_toArray]
  apply List.ext_getElem (by simp)
  intro i h1 h2
  have hg : L[k] = (d : Int) := by rw [← hd, List.getD_eq_getElem?_getD, List.getElem?_eq_getElem hk]; rfl
  rw [List.getElem_set, List.getElem_map, List.getElem_range, List.getElem_map, List.getElem_range, List.take_succ_eq_append_getElem hk, hg]
  by_cases e : d = i
  · subst e; simp
  · rw [if_neg e]
    have : ¬ (i : Int) = (d : Int) := by omega
    simp [this]
theorem ok_took (L : List Int) (k d : Nat) (hk : k < L.length) (hd : L.getD k 0 = (d : Int)) (h12 : d < 12) : okAt L k ↔ decide ((d : Int) ∈ L.take k) = false := by
  unfold okAt
  rw [hd, decide_eq_false_iff_not, List.mem_take_iff_getElem]
  constructor
  · rintro ⟨_, _, h⟩ ⟨i, hi, e⟩
    exact h i (by omega) (by rw [List.getD_eq_getElem?_getD, List.getElem?_eq_getElem (by omega)]; exact e)
  · intro h
    refine ⟨by omega, by omega, fun i hi e => h ⟨i, by omega, ?_⟩⟩
    rw [List.getD_eq_getElem?_getD, List.getElem?_eq_getElem (by omega)] at e; exact e
theorem put_at_mem {w : World} {A : Option Addr} {n c : Nat} {l : List (Int × List (BitVec 8))} (h : PutsAt w (.slice A n c) l) (_ : l.length = n) {k : Nat} {D : Int} {q : List (BitVec 8)} (hx : l[k]? = some (D, q)) :
    ∃ b o, A = some ⟨b, o, none⟩ ∧ b < w.heap.size ∧ w.rangeAt b (o + k * 33) (pcell (D, q)) ∧ q.length = 32 ∧ -9223372036854775808 ≤ D ∧ D < 9223372036854775808 := by
  obtain ⟨A', c', e1, _, hb, h4⟩ := h
  injection e1 with e1 _ _
  subst e1
  obtain ⟨b, o, e2, h5, h6⟩ := h4 (by intro e; rw [e] at hx; simp at hx)
  have := hb _ (List.mem_of_getElem? hx)
  exact ⟨b, o, e2, h5, h6 k _ hx, this.1, this.2.1, this.2.2⟩
theorem one_pc (x : Int × List (BitVec 8)) : (pcell x).toArray.all (·.oneCell') = true := by
  rw [Array.all_eq_true_iff_forall_mem]; intro v hv; exact one_pcell0 v (by simpa using hv)
theorem size_pc {D : Int} {q : List (BitVec 8)} (h : q.length = 32) : (pcell (D, q)).toArray.size = 33 := by rw [List.size_toArray]; exact len_pcell h
theorem info_put33 : (Try.prog.info? 61).map (·.size) = some 33 := by kernel_rfl
theorem size_zput : zput0.size = 33 := by rfl
set_option maxHeartbeats 800000 in
theorem walgood_any (l : List (Int × List (BitVec 8))) (v : Value) (w : World) (hv : PutsAt w v l) (hl : l.length ≤ maxLen) :
    Calls Try.prog 41 #[v] w fun e w' => e = .returned (.bool (goodB (l.map (·.1)))) ∧ Below w.heap.size w w' := by
  obtain ⟨A, c, rfl⟩ : ∃ A c, v = .slice A l.length c := by obtain ⟨A, c, h, _⟩ := hv; exact ⟨A, c, h⟩
  obtain ⟨n, hn⟩ : ∃ n, l.length = n := ⟨_, rfl⟩
  obtain ⟨L, hL⟩ : ∃ L, l.map (·.1) = L := ⟨_, rfl⟩
  have HLL := Lib.hid hL
  have HLn : Hid (L.length = n) := Lib.hid (by rw [← hL, List.length_map, hn])
  have HN := Lib.hid hn
  have HG : Hid (goodB L = (decide (∀ k < n, okAt L k) && (decide (1 ≤ n) && decide (n ≤ 5)))) := Lib.hid (by unfold goodB; rw [HLn.out])
  obtain ⟨G, hG⟩ : ∃ G, goodB L = G := ⟨_, rfl⟩
  rw [hG] at HG
  rw [hL, hG]
  rw [hn] at hv hl ⊢
  have HV := Lib.hid hv
  unfold maxLen at hl
  clear hL hG hn hv
  by_cases h1 : 1 ≤ n
  case neg =>
    have hG : G = false := by rw [HG.out, decide_eq_false h1, Bool.false_and, Bool.and_false]
    have hq : decide ((n : Int) < 1) = true := decide_eq_true (by omega)
    clear HG
    go_enter Try.func41, Try.ntmps41
    go_wp2_with fail
    go_ret
    first | exact ⟨rfl, Below.refl _ _⟩ | (rw [hG]; exact ⟨rfl, Below.refl _ _⟩)
  by_cases h5 : n ≤ 5
  case neg =>
    have hG : G = false := by rw [HG.out, decide_eq_false h5, Bool.and_false, Bool.and_false]
    have hq : decide ((n : Int) < 1) = false := decide_eq_false (by omega)
    have hq5 : decide ((5 : Int) < (n : Int)) = true := decide_eq_true (by omega)
    clear HG
    go_enter Try.func41, Try.ntmps41
    go_wp2_with fail
    go_ret
    first | exact ⟨rfl, Below.refl _ _⟩ | (rw [hG]; exact ⟨rfl, Below.refl _ _⟩)
  have HNO : Hid (∀ k, k < n → ¬ okAt L k → G = false) := Lib.hid fun k hk h => by rw [HG.out, decide_eq_false (fun h' => h (h' k hk))]; rfl
  have HYES : Hid ((∀ k < n, okAt L k) → G = true) := Lib.hid fun h => by rw [HG.out, decide_eq_true h, decide_eq_true h1, decide_eq_true h5]; rfl
  have hq : decide ((n : Int) < 1) = false := decide_eq_false (by omega)
  have hq5 : decide ((5 : Int) < (n : Int)) = false := decide_eq_false (by omega)
  clear HG
  have HS := St.nil w noF
  go_enter Try.func41, Try.ntmps41
  go_upto_region 5 with (first | ((with_reducible refine wpList_plain ?_ ?_); exact rfl; intro KK hKK; refine wp_st_alloc HS 88 (took L 0) rfl (.agg (took L 0)) (by kernel_rfl) (rfl) (fun g3 W1 HSx => hKK _ _ ?_); clear hKK KK HS; have HS : St w noF [⟨g3, 88, took L 0⟩] W1 := HSx; clear HSx))
  clear hq hq5
  go_loopw [16] (fun i wr => ∃ k : Nat, k ≤ n ∧ i = .int .i64 k ∧ (∀ j < k, okAt L j) ∧ St w noF [⟨g3, 88, took L k⟩] wr) (fun i _ => n - (intOf i).toNat)
  case atStart => exact ⟨0, by omega, rfl, fun j hj => by omega, HS⟩
  case round =>
    clear HS
    obtain ⟨k, hk, rfl, hok, HS⟩ := hrel
    have HOK := Lib.hid hok
    clear hok
    by_cases hlt : k < n
    · obtain ⟨⟨D, q⟩, hx⟩ : ∃ x, l[k]? = some x := ⟨_, List.getElem?_eq_getElem (by rw [HN.out]; exact hlt)⟩
      have HX := Lib.hid hx
      have HDk : Hid (L.getD k 0 = D) := Lib.hid (by rw [← HLL.out, List.getD_eq_getElem?_getD, List.getElem?_map, hx]; rfl)
      obtain ⟨b, o, rfl, hbw, hr, hq, hlo, hhi⟩ := put_at_mem (HV.out.below HS.below (Nat.le_refl _)) HN.out hx
      have HRG := Lib.hid hr
      have HQ := Lib.hid hq
      have hk0 : (0 : Int) ≤ (k : Int) := by omega
      have hk1 : (k : Int) < (n : Int) := by omega
      clear hx hr hq
      go_upto_region 7 with (first | (refine wpList_load_mid rfl 61 _ rfl b (o + k * 33) rfl (pcell (D, q)) _ HRG.out Try.underlying61 rfl (by rw [len_pcell HQ.out]; exact info_put33) ?_) | ((with_reducible refine wpList_plain ?_ ?_); exact rfl; intro KK hKK; refine wp_st_alloc HS 61 (zput0) rfl (.agg (zput0)) (by kernel_rfl) (rfl) (fun g5 W4 HSx => hKK _ _ ?_); clear hKK KK HS; have HS : St w noF [⟨g3, 88, took L k⟩, ⟨g5, 61, zput0⟩] W4 := HSx; clear HSx) | ((with_reducible refine wpList_plain ?_ ?_); exact rfl; intro KK hKK; refine wp_st_store HS 1 0 61 (.tmp 5) (.tmp 19) rfl rfl rfl (.agg (pcell (D, q)).toArray) rfl (by exact (size_pc HQ.out).symm ▸ info_put33) (by rw [Nat.zero_add]; exact Nat.le_of_eq ((size_pc HQ.out).trans size_zput.symm)) (one_pc (D, q)) ((pcell (D, q)).toArray) (spl_agg _ _ _ rfl (size_zput.trans (size_pc HQ.out).symm)) (fun W5 HSx => hKK _ _ ?_); clear hKK KK HS; have HS : St w noF [⟨g3, 88, took L k⟩, ⟨g5, 61, (pcell (D, q)).toArray⟩] W5 := HSx; clear HSx))
      have c5 : W5.cell? ⟨g5, 0, none⟩ = some (.int .i64 D) := (HS.row 1 rfl).get rfl
      clear HRG
      by_cases h0 : 0 ≤ D
      case neg =>
        have hd3 : decide (D < 0) = true := decide_eq_true (by omega)
        have hG : G = false := HNO.out k hlt (fun h => by unfold okAt at h; rw [HDk.out] at h; exact h0 h.1)
        go_wp2_with fail
        go_ret
        first | exact ⟨rfl, HS.below⟩ | (rw [hG]; exact ⟨rfl, HS.below⟩)
      by_cases h12 : D < 12
      case neg =>
        have hd3 : decide (D < 0) = false := decide_eq_false (by omega)
        have hd4 : decide (12 ≤ D) = true := decide_eq_true (by omega)
        have hG : G = false := HNO.out k hlt (fun h => by unfold okAt at h; rw [HDk.out] at h; exact h12 h.2.1)
        go_wp2_with fail
        go_ret
        first | exact ⟨rfl, HS.below⟩ | (rw [hG]; exact ⟨rfl, HS.below⟩)
      obtain ⟨d, rfl⟩ := Int.eq_ofNat_of_zero_le h0
      have hd3 : decide ((d : Int) < 0) = false := decide_eq_false (by omega)
      have hd4 : decide ((12 : Int) ≤ (d : Int)) = false := decide_eq_false (by omega)
      have HD12 : Hid (d < 12) := Lib.hid (by omega)
      have HOT := Lib.hid (ok_took L k d (by rw [HLn.out]; exact hlt) HDk.out HD12.out)
      have c3 : W5.cell? ⟨g3, d, none⟩ = some (.bool (decide ((d : Int) ∈ L.take k))) := (HS.row 0 rfl).get (took_at L k d HD12.out)
      cases ht : decide ((d : Int) ∈ L.take k) with
      | true =>
        rw [ht] at c3
        have hG : G = false := HNO.out k hlt (fun h => by have := HOT.out.1 h; rw [ht] at this; cases this)
        clear ht
        go_wp2_with fail
        go_ret
        first | exact ⟨rfl, HS.below⟩ | (rw [hG]; exact ⟨rfl, HS.below⟩)
      | false =>
        rw [ht] at c3
        have HOKk : Hid (okAt L k) := Lib.hid (HOT.out.2 ht)
        have HTS := Lib.hid (took_set L k d (by rw [HLn.out]; exact hlt) HDk.out)
        clear ht
        go_wp2_with (first | ((with_reducible refine wpList_plain ?_ ?_); exact rfl; intro KK hKK; refine wp_st_put HS 0 d 4 (.tmp 36) (.const (.bool true)) rfl rfl rfl (.bool true) rfl (by kernel_rfl) rfl rfl (by rw [size_took]; exact HD12.out) (took L (k + 1)) (HTS.out) (fun W6 HSx => hKK _ _ ?_); clear hKK KK HS; have HS : St w noF [⟨g3, 88, took L (k + 1)⟩, ⟨g5, 61, (pcell ((d : Int), q)).toArray⟩] W6 := HSx; clear HSx))
        refine ⟨⟨k + 1, by omega, by go_num, fun j hj => ?_, st_cut (show St w noF ([⟨g3, 88, took L (k + 1)⟩] ++ [⟨g5, 61, (pcell ((d : Int), q)).toArray⟩]) W6 from HS)⟩, by simp [intOf] <;> omega⟩
        by_cases e : j = k
        · rw [e]; exact HOKk.out
        · exact HOK.out j (by omega)
    · obtain rfl : k = n := by omega
      have hG : G = true := HYES.out HOK.out
      go_wp2_with fail
      go_ret
      first | exact ⟨rfl, HS.below⟩ | (rw [hG]; exact ⟨rfl, HS.below⟩)
end Go.Proofs.Ytppbgkdkioldbaa
