/- Merged: WalGd PktPrg SndPrg SndPrg2 SndPrg3 SndPrg4 SndPrg5 SndSit SndOpen SndWakes. -/
import Derived.Deep.Cut
import Derived.Lib.SliceRun
import Derived.Test.YtppbgkdkioldbaaMGen0
import Derived.Test.YtppbgkdkioldbaaMLabel0
import Derived.Test.YtppbgkdkioldbaaMGen1
/- The program's wal: which puts may be. -/
set_option maxRecDepth 4000
namespace Go.Proofs.Ytppbgkdkioldbaa
open Go Go.RowKit
theorem st_cut {w0 w : World} {F : Nat → Prop} {R S : List Blk} (h : St w0 F (R ++ S) w) : St w0 F R w := by
  have at_ : ∀ (k : Nat) (r : Blk), R[k]? = some r → (R ++ S)[k]? = some r := fun k r hk => by
    rw [List.getElem?_append_left (List.getElem?_eq_some_iff.1 hk).1]; exact hk
  exact ⟨h.chg, fun k r hk => h.rows k r (at_ k r hk), fun j k r s hne hj hk => h.apart j k r s hne (at_ j r hj) (at_ k s hk), fun k r hk => h.own k r (at_ k r hk)⟩
/- which blocks the first k have -/
def took (L : List Int) (k : Nat) : Array Value := ((List.range 12).map fun (i : Nat) => Value.bool (decide ((i : Int) ∈ L.take k))).toArray
theorem size_took (L : List Int) (k : Nat) : (took L k).size = 12 := by simp [took]
theorem took0 (L : List Int) : took L 0 = #[.bool false, .bool false, .bool false, .bool false, .bool false, .bool false, .bool false, .bool false, .bool false, .bool false, .bool false, .bool false] := by unfold took; rfl
theorem took_at (L : List Int) (k d : Nat) (hd : d < 12) : (took L k)[d]? = some (.bool (decide ((d : Int) ∈ L.take k))) := by simp [took, hd]
theorem took_set (L : List Int) (k d : Nat) (hk : k < L.length) (hd : L.getD k 0 = (d : Int)) : (took L k).setIfInBounds d (.bool true) = took L (k + 1) := by
  apply Array.ext'
  unfold took
  simp only [List.setIfInBounds_toArray]
  apply List.ext_getElem (by simp)
  intro i h1 h2
  have hg : L[k] = (d : Int) := by rw [← hd, List.getD_eq_getElem?_getD, List.getElem?_eq_getElem hk]; rfl
  rw [List.getElem_set, List.getElem_map, List.getElem_range, List.getElem_map, List.getElem_range, List.take_succ_eq_append_getElem hk, hg]
  by_cases e : d = i
  · subst e; simp
  · rw [if_neg e]
    have : ¬ (i : Int) = (d : Int) := by omega
    simp [this]
theorem ok_took (L : List Int) (k d : Nat) (hk : k < L.length) (hd : L.getD k 0 = (d : Int)) (h12 : d < 12) : okAt L k ↔ decide ((d : Int) ∈ L.take k) = false := by
  unfold okAt
  rw [hd, decide_eq_false_iff_not, List.mem_take_iff_getElem]
  constructor
  · rintro ⟨_, _, h⟩ ⟨i, hi, e⟩
    exact h i (by omega) (by rw [List.getD_eq_getElem?_getD, List.getElem?_eq_getElem (by omega)]; exact e)
  · intro h
    refine ⟨by omega, by omega, fun i hi e => h ⟨i, by omega, ?_⟩⟩
    rw [List.getD_eq_getElem?_getD, List.getElem?_eq_getElem (by omega)] at e; exact e
theorem put_at_mem {w : World} {A : Option Addr} {n c : Nat} {l : List (Int × List (BitVec 8))} (h : PutsAt w (.slice A n c) l) (_ : l.length = n) {k : Nat} {D : Int} {q : List (BitVec 8)} (hx : l[k]? = some (D, q)) :
    ∃ b o, A = some ⟨b, o, none⟩ ∧ b < w.heap.size ∧ w.rangeAt b (o + k * 33) (pcell (D, q)) ∧ q.length = 32 ∧ -9223372036854775808 ≤ D ∧ D < 9223372036854775808 := by
  obtain ⟨A', c', e1, _, hb, h4⟩ := h
  injection e1 with e1 _ _
  subst e1
  obtain ⟨b, o, e2, h5, h6⟩ := h4 (by intro e; rw [e] at hx; simp at hx)
  have := hb _ (List.mem_of_getElem? hx)
  exact ⟨b, o, e2, h5, h6 k _ hx, this.1, this.2.1, this.2.2⟩
theorem one_pc (x : Int × List (BitVec 8)) : (pcell x).toArray.all (·.oneCell') = true := by
  rw [Array.all_eq_true_iff_forall_mem]; intro v hv; exact one_pcell0 v (by simpa using hv)
theorem size_pc {D : Int} {q : List (BitVec 8)} (h : q.length = 32) : (pcell (D, q)).toArray.size = 33 := by rw [List.size_toArray]; exact len_pcell h
theorem info_put33 : (Try.prog.info? 61).map (·.size) = some 33 := by kernel_rfl
theorem size_zput : zput0.size = 33 := by rfl
set_option maxHeartbeats 800000 in
theorem walgood_any (l : List (Int × List (BitVec 8))) (v : Value) (w : World) (hv : PutsAt w v l) (hl : l.length ≤ maxLen) :
    Calls Try.prog 41 #[v] w fun e w' => e = .returned (.bool (goodB (l.map (·.1)))) ∧ Below w.heap.size w w' := by
  obtain ⟨A, c, rfl⟩ : ∃ A c, v = .slice A l.length c := by obtain ⟨A, c, h, _⟩ := hv; exact ⟨A, c, h⟩
  obtain ⟨n, hn⟩ : ∃ n, l.length = n := ⟨_, rfl⟩
  obtain ⟨L, hL⟩ : ∃ L, l.map (·.1) = L := ⟨_, rfl⟩
  have HLL := Lib.hid hL
  have HLn : Hid (L.length = n) := Lib.hid (by rw [← hL, List.length_map, hn])
  have HN := Lib.hid hn
  have HG : Hid (goodB L = (decide (∀ k < n, okAt L k) && (decide (1 ≤ n) && decide (n ≤ 5)))) := Lib.hid (by unfold goodB; rw [HLn.out])
  obtain ⟨G, hG⟩ : ∃ G, goodB L = G := ⟨_, rfl⟩
  rw [hG] at HG
  rw [hL, hG]
  rw [hn] at hv hl ⊢
  have HV := Lib.hid hv
  unfold maxLen at hl
  clear hL hG hn hv
  by_cases h1 : 1 ≤ n
  case neg =>
    have hG : G = false := by rw [HG.out, decide_eq_false h1, Bool.false_and, Bool.and_false]
    have hq : decide ((n : Int) < 1) = true := decide_eq_true (by omega)
    clear HG
    go_enter Try.func41, Try.ntmps41
    go_wp2_with fail
    go_ret
    first | exact ⟨rfl, Below.refl _ _⟩ | (rw [hG]; exact ⟨rfl, Below.refl _ _⟩)
  by_cases h5 : n ≤ 5
  case neg =>
    have hG : G = false := by rw [HG.out, decide_eq_false h5, Bool.and_false, Bool.and_false]
    have hq : decide ((n : Int) < 1) = false := decide_eq_false (by omega)
    have hq5 : decide ((5 : Int) < (n : Int)) = true := decide_eq_true (by omega)
    clear HG
    go_enter Try.func41, Try.ntmps41
    go_wp2_with fail
    go_ret
    first | exact ⟨rfl, Below.refl _ _⟩ | (rw [hG]; exact ⟨rfl, Below.refl _ _⟩)
  have HNO : Hid (∀ k, k < n → ¬ okAt L k → G = false) := Lib.hid fun k hk h => by rw [HG.out, decide_eq_false (fun h' => h (h' k hk))]; rfl
  have HYES : Hid ((∀ k < n, okAt L k) → G = true) := Lib.hid fun h => by rw [HG.out, decide_eq_true h, decide_eq_true h1, decide_eq_true h5]; rfl
  have hq : decide ((n : Int) < 1) = false := decide_eq_false (by omega)
  have hq5 : decide ((5 : Int) < (n : Int)) = false := decide_eq_false (by omega)
  clear HG
  have HS := St.nil w noF
  go_enter Try.func41, Try.ntmps41
  go_upto_region 5 with (first | ((with_reducible refine wpList_plain ?_ ?_); exact rfl; intro KK hKK; refine wp_st_alloc HS 88 (took L 0) rfl (.agg (took L 0)) (by kernel_rfl) (rfl) (fun g3 W1 HSx => hKK _ _ ?_); clear hKK KK HS; have HS : St w noF [⟨g3, 88, took L 0⟩] W1 := HSx; clear HSx))
  clear hq hq5
  go_loopw [16] (fun i wr => ∃ k : Nat, k ≤ n ∧ i = .int .i64 k ∧ (∀ j < k, okAt L j) ∧ St w noF [⟨g3, 88, took L k⟩] wr) (fun i _ => n - (intOf i).toNat)
  case atStart => exact ⟨0, by omega, rfl, fun j hj => by omega, HS⟩
  case round =>
    clear HS
    obtain ⟨k, hk, rfl, hok, HS⟩ := hrel
    have HOK := Lib.hid hok
    clear hok
    by_cases hlt : k < n
    · obtain ⟨⟨D, q⟩, hx⟩ : ∃ x, l[k]? = some x := ⟨_, List.getElem?_eq_getElem (by rw [HN.out]; exact hlt)⟩
      have HX := Lib.hid hx
      have HDk : Hid (L.getD k 0 = D) := Lib.hid (by rw [← HLL.out, List.getD_eq_getElem?_getD, List.getElem?_map, hx]; rfl)
      obtain ⟨b, o, rfl, hbw, hr, hq, hlo, hhi⟩ := put_at_mem (HV.out.below HS.below (Nat.le_refl _)) HN.out hx
      have HRG := Lib.hid hr
      have HQ := Lib.hid hq
      have hk0 : (0 : Int) ≤ (k : Int) := by omega
      have hk1 : (k : Int) < (n : Int) := by omega
      clear hx hr hq
      go_upto_region 7 with (first | (refine wpList_load_mid rfl 61 _ rfl b (o + k * 33) rfl (pcell (D, q)) _ HRG.out Try.underlying61 rfl (by rw [len_pcell HQ.out]; exact info_put33) ?_) | ((with_reducible refine wpList_plain ?_ ?_); exact rfl; intro KK hKK; refine wp_st_alloc HS 61 (zput0) rfl (.agg (zput0)) (by kernel_rfl) (rfl) (fun g5 W4 HSx => hKK _ _ ?_); clear hKK KK HS; have HS : St w noF [⟨g3, 88, took L k⟩, ⟨g5, 61, zput0⟩] W4 := HSx; clear HSx) | ((with_reducible refine wpList_plain ?_ ?_); exact rfl; intro KK hKK; refine wp_st_store HS 1 0 61 (.tmp 5) (.tmp 19) rfl rfl rfl (.agg (pcell (D, q)).toArray) rfl (by exact (size_pc HQ.out).symm ▸ info_put33) (by rw [Nat.zero_add]; exact Nat.le_of_eq ((size_pc HQ.out).trans size_zput.symm)) (one_pc (D, q)) ((pcell (D, q)).toArray) (spl_agg _ _ _ rfl (size_zput.trans (size_pc HQ.out).symm)) (fun W5 HSx => hKK _ _ ?_); clear hKK KK HS; have HS : St w noF [⟨g3, 88, took L k⟩, ⟨g5, 61, (pcell (D, q)).toArray⟩] W5 := HSx; clear HSx))
      have c5 : W5.cell? ⟨g5, 0, none⟩ = some (.int .i64 D) := (HS.row 1 rfl).get rfl
      clear HRG
      by_cases h0 : 0 ≤ D
      case neg =>
        have hd3 : decide (D < 0) = true := decide_eq_true (by omega)
        have hG : G = false := HNO.out k hlt (fun h => by unfold okAt at h; rw [HDk.out] at h; exact h0 h.1)
        go_wp2_with fail
        go_ret
        first | exact ⟨rfl, HS.below⟩ | (rw [hG]; exact ⟨rfl, HS.below⟩)
      by_cases h12 : D < 12
      case neg =>
        have hd3 : decide (D < 0) = false := decide_eq_false (by omega)
        have hd4 : decide (12 ≤ D) = true := decide_eq_true (by omega)
        have hG : G = false := HNO.out k hlt (fun h => by unfold okAt at h; rw [HDk.out] at h; exact h12 h.2.1)
        go_wp2_with fail
        go_ret
        first | exact ⟨rfl, HS.below⟩ | (rw [hG]; exact ⟨rfl, HS.below⟩)
      obtain ⟨d, rfl⟩ := Int.eq_ofNat_of_zero_le h0
      have hd3 : decide ((d : Int) < 0) = false := decide_eq_false (by omega)
      have hd4 : decide ((12 : Int) ≤ (d : Int)) = false := decide_eq_false (by omega)
      have HD12 : Hid (d < 12) := Lib.hid (by omega)
      have HOT := Lib.hid (ok_took L k d (by rw [HLn.out]; exact hlt) HDk.out HD12.out)
      have c3 : W5.cell? ⟨g3, d, none⟩ = some (.bool (decide ((d : Int) ∈ L.take k))) := (HS.row 0 rfl).get (took_at L k d HD12.out)
      cases ht : decide ((d : Int) ∈ L.take k) with
      | true =>
        rw [ht] at c3
        have hG : G = false := HNO.out k hlt (fun h => by have := HOT.out.1 h; rw [ht] at this; cases this)
        clear ht
        go_wp2_with fail
        go_ret
        first | exact ⟨rfl, HS.below⟩ | (rw [hG]; exact ⟨rfl, HS.below⟩)
      | false =>
        rw [ht] at c3
        have HOKk : Hid (okAt L k) := Lib.hid (HOT.out.2 ht)
        have HTS := Lib.hid (took_set L k d (by rw [HLn.out]; exact hlt) HDk.out)
        clear ht
        go_wp2_with (first | ((with_reducible refine wpList_plain ?_ ?_); exact rfl; intro KK hKK; refine wp_st_put HS 0 d 4 (.tmp 36) (.const (.bool true)) rfl rfl rfl (.bool true) rfl (by kernel_rfl) rfl rfl (by rw [size_took]; exact HD12.out) (took L (k + 1)) (HTS.out) (fun W6 HSx => hKK _ _ ?_); clear hKK KK HS; have HS : St w noF [⟨g3, 88, took L (k + 1)⟩, ⟨g5, 61, (pcell ((d : Int), q)).toArray⟩] W6 := HSx; clear HSx))
        refine ⟨⟨k + 1, by omega, by go_num, fun j hj => ?_, st_cut (show St w noF ([⟨g3, 88, took L (k + 1)⟩] ++ [⟨g5, 61, (pcell ((d : Int), q)).toArray⟩]) W6 from HS)⟩, by simp [intOf] <;> omega⟩
        by_cases e : j = k
        · rw [e]; exact HOKk.out
        · exact HOK.out j (by omega)
    · obtain rfl : k = n := by omega
      have hG : G = true := HYES.out HOK.out
      go_wp2_with fail
      go_ret
      first | exact ⟨rfl, HS.below⟩ | (rw [hG]; exact ⟨rfl, HS.below⟩)
end Go.Proofs.Ytppbgkdkioldbaa

/- The program's packet: may there be such a packet; its head; its bytes. -/
set_option maxRecDepth 4000
namespace Go.Proofs.Ytppbgkdkioldbaa
open Go Go.RowKit
theorem size_pkt : (Try.prog.info? 30).map (·.size) = some 4 := by kernel_rfl
theorem size_head : (Try.prog.info? 77).map (·.size) = some 4 := by kernel_rfl
def headA (k : Int) (e s : BitVec 32) (n : Int) : Array Value := #[.int .i64 k, .int .u32 (wd e), .int .u32 (wd s), .int .i64 n]
theorem head_one (k : Int) (e s : BitVec 32) (n : Int) : (Value.agg (headA k e s n)).cells.all (·.oneCell') = true := by simp [Value.cells, headA, Value.oneCell']
theorem puts_form {w : World} {v : Value} {l : List Pt} (h : PutsAt w v l) : ∃ A n c, v = .slice A n c ∧ l.length = n ∧ n ≤ c := by
  obtain ⟨A, c, h1, h2, _⟩ := h
  exact ⟨A, _, c, h1, rfl, h2⟩
set_option maxHeartbeats 800000 in
theorem pmay_any (p : Pkt) (v : Value) (w : World) (hv : PutsAt w v p.l) (hl : p.l.length ≤ maxLen) : Calls Try.prog 34 #[.agg (pktA p.k p.e p.s v)] w fun x w' => x = .returned (.bool (mayP p)) ∧ Below w.heap.size w w' := by
  obtain ⟨k, e, s, l⟩ := p
  obtain ⟨A, n, c, rfl, hn, _⟩ := puts_form hv
  obtain ⟨G, hG⟩ : ∃ G, mayP ⟨k, e, s, l⟩ = G := ⟨_, rfl⟩
  rw [hG]
  unfold mayP at hG
  simp only at hG hv hl
  have HV := Lib.hid hv
  have HL := Lib.hid hl
  have HN := Lib.hid hn
  have HG := Lib.hid hG
  clear hv hl hn hG
  have HS := St.nil w noF
  go_enter Try.func34, Try.ntmps34
  go_upto_region 1 with (first | ((with_reducible refine wpList_plain ?_ ?_); exact rfl; intro KK hKK; refine wp_st_box HS 30 (.tmp 0) rfl _ rfl (pktA k e s (.slice A n c)) (rfl) (fun g1 W1 HSx => hKK _ _ ?_); clear hKK KK HS; have HS : St w noF [⟨g1, 30, pktA k e s (.slice A n c)⟩] W1 := HSx; clear HSx))
  have c0 : W1.cell? ⟨g1, 0, none⟩ = some (.int .i64 k) := (HS.row 0 rfl).get rfl
  have c3 : W1.cell? ⟨g1, 3, none⟩ = some (.slice A n c) := (HS.row 0 rfl).get rfl
  have HB := Lib.hid HS.below
  have C := Lib.hid (walgood_any l _ W1 (HV.out.below HS.below (Nat.le_refl _)) HL.out)
  clear HS
  by_cases h12 : k = 1 ∨ k = 2
  · have hG : goodB (l.map (·.1)) = G := by rw [← HG.out, if_pos h12]
    have C := C.out
    rw [hG] at C
    clear hG HG
    rcases h12 with rfl | rfl
    all_goals
      go_wp2_with fail
      refine C.mono ?_
      rintro x w2 ⟨rfl, hb⟩
      have HB2 := Lib.hid (HB.out.trans (hb.mono HB.out.size))
      clear hb C
      go_wp2_with fail
      go_ret
      exact ⟨rfl, HB2.out⟩
  by_cases h34 : k = 3 ∨ k = 4
  · have hG : decide (n = 0) = G := by rw [← HG.out, if_neg h12, if_pos h34, HN.out]
    clear HG C
    cases n with
    | zero =>
      rw [decide_eq_true rfl] at hG
      subst hG
      rcases h34 with rfl | rfl
      all_goals
        go_wp2_with fail
        go_ret
        exact ⟨rfl, HB.out⟩
    | succ n =>
      rw [decide_eq_false (Nat.succ_ne_zero n)] at hG
      subst hG
      have hq : ((n + 1 : Nat) : Int) ≠ 0 := by omega
      rcases h34 with rfl | rfl
      all_goals
        go_wp2_with fail
        go_ret
        exact ⟨rfl, HB.out⟩
  have hG : false = G := by rw [← HG.out, if_neg h12, if_neg h34]
  subst hG
  have h1 : k ≠ 1 := fun h => h12 (.inl h)
  have h2 : k ≠ 2 := fun h => h12 (.inr h)
  have h3 : k ≠ 3 := fun h => h34 (.inl h)
  have h4 : k ≠ 4 := fun h => h34 (.inr h)
  clear HG C h12 h34
  go_wp2_with fail
  go_ret
  exact ⟨rfl, HB.out⟩
set_option maxHeartbeats 800000 in
theorem headof_any (k : Int) (e s : BitVec 32) (A : Option Addr) (n c : Nat) (w : World) : Calls Try.prog 35 #[.agg (pktA k e s (.slice A n c))] w fun x w' => x = .returned (.agg (headA k e s n)) ∧ Below w.heap.size w w' := by
  have HS := St.nil w noF
  go_enter Try.func35, Try.ntmps35
  go_upto_region 1 with (first | ((with_reducible refine wpList_plain ?_ ?_); exact rfl; intro KK hKK; refine wp_st_box HS 30 (.tmp 0) rfl _ rfl (pktA k e s (.slice A n c)) (rfl) (fun g1 W1 HSx => hKK _ _ ?_); clear hKK KK HS; have HS : St w noF [⟨g1, 30, pktA k e s (.slice A n c)⟩] W1 := HSx; clear HSx) | ((with_reducible refine wpList_plain ?_ ?_); exact rfl; intro KK hKK; refine wp_st_alloc HS 77 (headA 0 0#32 0#32 0) rfl (.agg (headA 0 0#32 0#32 0)) (by kernel_rfl) (rfl) (fun g2 W2 HSx => hKK _ _ ?_); clear hKK KK HS; have HS : St w noF [⟨g1, 30, pktA k e s (.slice A n c)⟩, ⟨g2, 77, headA 0 0#32 0#32 0⟩] W2 := HSx; clear HSx))
  have c0 : W2.cell? ⟨g1, 0, none⟩ = some (.int .i64 k) := (HS.row 0 rfl).get rfl
  have c1 : W2.cell? ⟨g1, 1, none⟩ = some (.int .u32 (wd e)) := (HS.row 0 rfl).get rfl
  have c2 : W2.cell? ⟨g1, 2, none⟩ = some (.int .u32 (wd s)) := (HS.row 0 rfl).get rfl
  have c3 : W2.cell? ⟨g1, 3, none⟩ = some (.slice A n c) := (HS.row 0 rfl).get rfl
  go_wp2_with (first | ((with_reducible refine wpList_plain ?_ ?_); exact rfl; intro KK hKK; refine wp_st_store HS 1 0 77 (.tmp 2) (.tmp 13) rfl rfl rfl (.agg (headA k e s n)) rfl (by exact size_head) (Nat.le_refl 4) (head_one ..) (headA k e s n) (by exact spl_agg _ _ _ rfl rfl) (fun W3 HSx => hKK _ _ ?_); clear hKK KK HS; have HS : St w noF [⟨g1, 30, pktA k e s (.slice A n c)⟩, ⟨g2, 77, headA k e s n⟩] W3 := HSx; clear HSx))
  refine bodyPost_ret (results_cell_row Try.results35 _ _ g2 77 (headA k e s n) (0, 0) _ rfl (HS.row 1 rfl) Try.underlying77 rfl (by exact size_head)) rfl ?_
  exact ⟨rfl, HS.below⟩
set_option maxHeartbeats 1600000 in
theorem headbytes_any (k : Int) (e s : BitVec 32) (n : Nat) (w : World) : Calls Try.prog 36 #[.agg (headA k e s n)] w fun x w' => ∃ v, x = .returned v ∧ w'.ownsRow w.heap.size 5 1 v 10 (bytesV (hdB k e s n)) ∧ Below w.heap.size w w' := by
  have HS := St.nil w noF
  go_enter Try.func36, Try.ntmps36
  go_upto_region 1 with (first | ((with_reducible refine wpList_plain ?_ ?_); exact rfl; intro KK hKK; refine wp_st_box HS 77 (.tmp 0) rfl _ rfl (headA k e s n) (rfl) (fun g1 W1 HSx => hKK _ _ ?_); clear hKK KK HS; have HS : St w noF [⟨g1, 77, headA k e s n⟩] W1 := HSx; clear HSx))
  obtain ⟨B0, hB0⟩ : ∃ B0, W1.heap.size = B0 := ⟨_, rfl⟩
  have HB0 := Lib.hid hB0
  have HSW := Lib.hid HS
  have c0 : W1.cell? ⟨g1, 0, none⟩ = some (.int .i64 k) := (HS.row 0 rfl).get rfl
  have hw0 : IntKind.u8.wrap k = bd (byteP k) := wrap_u8_bd k
  have OW := own_litq W1 [byteP k] (by unfold maxLen; simp)
  have HBA := Lib.hid ((Below.refl W1.heap.size W1).alloc (Nat.le_refl _) (.cells #[.int .u8 (bd (byteP k))] 5))
  clear HS
  rw [hB0] at OW HBA
  have HOW : Hid ((W1.alloc (.cells #[.int .u8 (bd (byteP k))] 5)).ownsRow B0 5 1 (.slice (some ⟨B0, 0, none⟩) 1 1) [byteP k].length (bytesV [byteP k])) := Lib.hid OW
  clear OW hB0
  go_upto_region 2 with fail
  rw [HB0.out]
  generalize W1.alloc (.cells #[.int .u8 (bd (byteP k))] 5) = W13 at *
  have HS13 := Lib.hid (HSW.out.same (by rw [HB0.out]; exact HBA.out))
  have c1 : W13.cell? ⟨g1, 1, none⟩ = some (.int .u32 (wd e)) := (HS13.out.row 0 rfl).get rfl
  have C := applong_any B0 [byteP k] e _ W13 HOW.out (Nat.le_trans (Nat.le_of_eq HB0.out.symm) HBA.out.size) (Nat.le_of_ble_eq_true rfl)
  clear HOW HS13 c0 hw0
  go_wp2_with fail
  refine C.mono ?_
  rintro x W16 ⟨v7, rfl, h7, b7⟩
  have HB8 := Lib.hid (HBA.out.trans b7)
  clear C c1 b7 HBA
  have HS16 := Lib.hid (HSW.out.same (by rw [HB0.out]; exact HB8.out))
  have c2 : W16.cell? ⟨g1, 2, none⟩ = some (.int .u32 (wd s)) := (HS16.out.row 0 rfl).get rfl
  have C := applong_any B0 ([byteP k] ++ four e) s v7 W16 h7 (Nat.le_trans (Nat.le_of_eq HB0.out.symm) HB8.out.size) (Nat.le_of_ble_eq_true rfl)
  clear h7 HS16
  go_wp2_with fail
  refine C.mono ?_
  rintro x W17 ⟨v8, rfl, h8, b8⟩
  have HB9 := Lib.hid (HB8.out.trans b8)
  have HO8 : Hid (W17.ownsRow B0 5 1 v8 9 (bytesV ([byteP k] ++ four e ++ four s))) := Lib.hid h8
  clear C c2 b8 HB8 h8
  have HS17 := Lib.hid (HSW.out.same (by rw [HB0.out]; exact HB9.out))
  have c3 : W17.cell? ⟨g1, 3, none⟩ = some (.int .i64 n) := (HS17.out.row 0 rfl).get rfl
  have hw3 : IntKind.u8.wrap (n : Int) = bd (byteP n) := wrap_u8_bd _
  have HP5 : Hid (Slice (W17.alloc (.cells #[.int .u8 (bd (byteP n))] 5)) (.slice (some ⟨W17.heap.size, 0, none⟩) 1 1) [byteP n]) := Lib.hid (row_slice (Row.fresh W17 5 (bs [byteP n])) (c := 1) (Nat.le_refl _))
  have HO9 := Lib.hid (HO8.out.alloc (.cells #[.int .u8 (bd (byteP n))] 5))
  have HBX := Lib.hid (HB9.out.alloc (by rw [← HB0.out]; exact HB9.out.size) (.cells #[.int .u8 (bd (byteP n))] 5))
  clear HS17 HO8
  go_wp2_with (at_builtin; refine wpList_append_slice rfl (.tmp 18) (.tmp 22) rfl B0 _ 9 _ rfl HO9.out (some ⟨W17.heap.size, 0, none⟩) 1 1 _ rfl HP5.out (fun h => by cases h) (by decide) (Nat.le_trans (Nat.le_of_eq HB0.out.symm) HBX.out.size) ?_; intro v6 W18 own6 hb6; rw [← bytesV_apps] at own6; have HO7 := Lib.hid own6; have HB7 := Lib.hid (HBX.out.trans hb6); clear own6 hb6)
  go_ret
  have hz : w.heap.size ≤ B0 := by rw [← HB0.out]; exact HSW.out.below.size
  exact ⟨_, rfl, own_base HO7.out hz, HSW.out.below.trans (HB7.out.mono hz)⟩
theorem row_grown {w w' : World} {base e n g size : Nat} {t : TypeId} {v : Value} {xs : List Value} {cs : Array Value} (hr : Row w g t cs) (h : w.ownsRow base e size v n xs) (hne : e ≠ t) (hg : w.grownBy w' v.ownBlock) : Row w' g t cs :=
  (hg.block g hr.lt (fun e0 => own_apart h hr hne g e0.symm rfl)).trans hr
/- an append to a slice of bytes of one's own, and what it changes -/
theorem wpList_append_sliceG {w : World} {ops : Array Oper} {rest : List Oper} {o : Oper} {a : Act} {Q : Exit → Act → World → Prop} (hgd : o.guard = none) (s x : Operand)
    (ho : o.op = .call { callee := .builtin .append, args := #[s, x], argTypes := #[56, 56] }) (base : Nat)
    (v : Value) (n : Nat) (xs : List Value) (hs : a.eval s = v) (hown : w.ownsRow base 5 1 v n xs)
    (ad : Addr) (m c : Nat) (q : List (BitVec 8)) (hx : a.eval x = .slice (some ad) m c) (hq : Slice w (.slice (some ad) m c) q)
    (hnm : n + m ≤ 1000000000) (hbase : base ≤ w.heap.size)
    (h : ∀ v' w', w'.ownsRow base 5 1 v' (n + m) (xs ++ bytesV q) → Below base w w' → w.grownBy w' v.ownBlock → wpList Try.prog ops Q rest (a.put o.dst v') w') : wpList Try.prog ops Q (o :: rest) a w := by
  obtain ⟨i0, hi, hz0, hz1, hz2⟩ := info_parts info_u8
  have hblk : ∀ g, v.ownBlock = some g → base ≤ g := fun g hg => (hown.lt g hg).1
  obtain ⟨A', c', e1, _, h3⟩ := hq
  injection e1 with e1 e2 e3
  subst e1 e2 e3
  refine wpList_append_own w hgd s x 56 ho base 5 i0 (.int .u8 0) 1 1 Try.underlying56 hi hz0 hz1 hz2 rfl (by omega) v n xs hs hown ad q.length c (bytesV q) hx (by simp [bytesV]) ?_ (one_bytesV q) (by unfold maxLen; omega) (by omega) hbase ?_
  · intro j u hu
    have hne : q ≠ [] := by rintro rfl; simp [bytesV] at hu
    obtain ⟨b, o, h4, _, h6⟩ := h3 hne
    have h4 := Option.some.inj h4
    subst h4
    rw [Addr.add_mid]
    simp only [bytesV, List.getElem?_map, Option.map_eq_some_iff] at hu
    obtain ⟨y, hy, rfl⟩ := hu
    exact h6 j y hy
  · intro v' w' h1 h2 _
    exact h v' w' h1 (below_of_grown h2 hblk hbase) h2
theorem put_slice {w : World} {g : Nat} {t : TypeId} {D : Int} {q : List (BitVec 8)} (h : Row w g t (pcell (D, q)).toArray) (hq : q.length = 32) : Slice w (.slice (some ⟨g, 1, none⟩) 32 32) q := by
  refine ⟨some ⟨g, 1, none⟩, 32, by rw [hq], by rw [hq]; exact Nat.le_refl _, fun _ => ⟨g, 1, rfl, h.lt, fun j x hx => ?_⟩⟩
  refine h.get ?_
  rw [List.getElem?_toArray, show 1 + j = j + 1 by omega]
  show (bytesV q)[j]? = _
  simp [bytesV, hx]
set_option maxHeartbeats 800000 in
theorem pktenc_bad (p : Pkt) (v : Value) (w : World) (hv : PutsAt w v p.l) (hl : p.l.length ≤ maxLen) (hc : mayP p = false) : Calls Try.prog 27 #[.agg (pktA p.k p.e p.s v)] w fun x w' => x = .returned (.tuple #[.slice none 0 0, .int .i64 11]) ∧ Below w.heap.size w w' := by
  have C := Lib.hid (fun W (hb : Below w.heap.size w W) => pmay_any p v W (hv.below hb (Nat.le_refl _)) hl)
  rw [hc] at C
  obtain ⟨k, e, s, l⟩ := p
  obtain ⟨A, n, c, rfl, hn, _⟩ := puts_form hv
  clear hc hv hl hn
  have HS := St.nil w noF
  go_enter Try.func27, Try.ntmps27
  go_upto_region 1 with (first | ((with_reducible refine wpList_plain ?_ ?_); exact rfl; intro KK hKK; refine wp_st_box HS 30 (.tmp 0) rfl _ rfl (pktA k e s (.slice A n c)) (rfl) (fun g1 W1 HSx => hKK _ _ ?_); clear hKK KK HS; have HS : St w noF [⟨g1, 30, pktA k e s (.slice A n c)⟩] W1 := HSx; clear HSx))
  have HB := Lib.hid HS.below
  go_wp2_with (first | ((with_reducible refine wpList_plain ?_ ?_); exact rfl; intro KK hKK; refine wp_st_load HS 0 0 30 (.tmp 1) rfl rfl rfl (pktA k e s (.slice A n c)) (slab_whole _) _ Try.underlying30 rfl (by exact size_pkt) (hKK _ _ ?_); clear hKK KK))
  refine (C.out _ HB.out).mono ?_
  rintro x w1 ⟨rfl, hb⟩
  have HB2 := Lib.hid (HB.out.trans (hb.mono HB.out.size))
  clear HS hb C
  go_wp2_with fail
  go_ret2
  exact ⟨rfl, HB2.out⟩
set_option maxHeartbeats 3200000 in
theorem pktenc_good (p : Pkt) (v : Value) (w : World) (hv : PutsAt w v p.l) (hc : mayP p = true) :
    Calls Try.prog 27 #[.agg (pktA p.k p.e p.s v)] w fun x w' => ∃ v', x = .returned (.tuple #[v', .int .i64 0]) ∧ w'.ownsRow w.heap.size 5 1 v' (encP p).length (bytesV (encP p)) ∧ Below w.heap.size w w' := by
  have hn5 := mayP_len hc
  have C := Lib.hid (fun W (hb : Below w.heap.size w W) => pmay_any p v W (hv.below hb (Nat.le_refl _)) (by unfold maxLen; omega))
  rw [hc] at C
  have h32 : ∀ x ∈ p.l, x.2.length = 32 := by obtain ⟨_, _, _, _, h, _⟩ := hv; exact fun x hx => (h x hx).1
  have HLB := Lib.hid (length_bodyP h32)
  have HLE := Lib.hid (length_encP h32)
  obtain ⟨Z, hZ⟩ : ∃ Z, encP p = Z := ⟨_, rfl⟩
  obtain ⟨Y, hY⟩ : ∃ Y, bodyP p = Y := ⟨_, rfl⟩
  have HZ : Hid (Z = Y ++ two (crcOf Y)) := Lib.hid (by rw [← hZ, ← hY]; rfl)
  rw [hZ] at HLE ⊢
  rw [hY] at HLB
  obtain ⟨k, e, s, l⟩ := p
  obtain ⟨A, n, c, rfl, hn, _⟩ := puts_form hv
  simp only at hv hn5 hY HLB HLE h32
  have HY : Hid (hdB k e s n ++ (l.map putB).flatten = Y) := Lib.hid (by rw [← hn]; exact hY)
  rw [hn] at HLB HLE hn5
  have HV := Lib.hid hv
  have HN := Lib.hid hn
  have HN5 := Lib.hid hn5
  have H32 := Lib.hid h32
  clear hv hc hn hn5 hZ hY h32
  have HS := St.nil w noF
  go_enter Try.func27, Try.ntmps27
  go_upto_region 1 with (first | ((with_reducible refine wpList_plain ?_ ?_); exact rfl; intro KK hKK; refine wp_st_box HS 30 (.tmp 0) rfl _ rfl (pktA k e s (.slice A n c)) (rfl) (fun g1 W1 HSx => hKK _ _ ?_); clear hKK KK HS; have HS : St w noF [⟨g1, 30, pktA k e s (.slice A n c)⟩] W1 := HSx; clear HSx))
  have HB := Lib.hid HS.below
  go_wp2_with (first | ((with_reducible refine wpList_plain ?_ ?_); exact rfl; intro KK hKK; refine wp_st_load HS 0 0 30 (.tmp 1) rfl rfl rfl (pktA k e s (.slice A n c)) (slab_whole _) _ Try.underlying30 rfl (by exact size_pkt) (hKK _ _ ?_); clear hKK KK))
  refine (C.out _ HB.out).mono ?_
  rintro x w1 ⟨rfl, hb⟩
  have HSx := HS.same hb
  clear HS hb C HB
  have HS := HSx
  clear HSx
  have CH := fun W => headof_any k e s A n c W
  have CB := fun W => headbytes_any k e s n W
  go_wp2_with (first | ((with_reducible refine wpList_plain ?_ ?_); exact rfl; intro KK hKK; refine wp_st_load HS 0 0 30 (.tmp 1) rfl rfl rfl (pktA k e s (.slice A n c)) (slab_whole _) _ Try.underlying30 rfl (by exact size_pkt) (hKK _ _ ?_); clear hKK KK))
  refine (CH _).mono ?_
  rintro x w2 ⟨rfl, hb⟩
  have HSx := HS.same hb
  clear HS hb CH
  have HS := HSx
  clear HSx
  go_wp2_with fail
  refine (CB _).mono ?_
  rintro x w3 ⟨v3, rfl, ho, hb⟩
  have HSx := HS.same hb
  have HO3 := Lib.hid (own_base ho HS.below.size)
  clear HS hb CB ho
  have HS := HSx
  clear HSx
  have c3 : w3.cell? ⟨g1, 3, none⟩ = some (.slice A n c) := (HS.row 0 rfl).get rfl
  have HB3 := Lib.hid HS.below
  clear HS
  go_wp2_with fail
  clear c3
  go_loopw [4, 16] (fun v i wr => ∃ j : Nat, j ≤ n ∧ i = .int .i64 j ∧ wr.ownsRow w.heap.size 5 1 v (10 + 33 * j) (bytesV (hdB k e s n ++ ((l.take j).map putB).flatten)) ∧ Below w.heap.size w wr) (fun _ i _ => n - (intOf i).toNat)
  case atStart => exact ⟨0, by omega, rfl, by rw [List.take_zero]; simpa using HO3.out, HB3.out⟩
  case round =>
    obtain ⟨j, hj, rfl, ho, hb⟩ := hrel
    obtain ⟨B4, c4, rfl, _⟩ := own_slice_form ho
    have HO := Lib.hid ho
    have HB := Lib.hid hb
    have hn5 := HN5.out
    clear ho hb
    by_cases hlt : j < n
    · obtain ⟨⟨D, q⟩, hx⟩ : ∃ x, l[j]? = some x := ⟨_, List.getElem?_eq_getElem (by rw [HN.out]; exact hlt)⟩
      have HTK : Hid (((l.take (j + 1)).map putB).flatten = ((l.take j).map putB).flatten ++ ([byteP D] ++ q)) := Lib.hid (by rw [List.take_add_one, hx]; simp [putB])
      obtain ⟨b, o, rfl, hbw, hr, hq, hlo, hhi⟩ := put_at_mem HV.out HN.out hx
      obtain ⟨O, hO⟩ : ∃ O, o + j * 33 = O := ⟨_, rfl⟩
      rw [hO] at hr
      have HRG : Hid (wr.rangeAt b O (pcell (D, q))) := Lib.hid fun i v hv => (HB.out.cell (p := ⟨b, O + i, none⟩) hbw).trans (hr i v hv)
      have HQ := Lib.hid hq
      have hk0 : (0 : Int) ≤ (j : Int) := by omega
      have hk1 : (j : Int) < (n : Int) := by omega
      clear hx hr hq
      have HS := St.nil wr noF
      go_upto_region 7 with (first | ((with_reducible refine wpList_plain ?_ ?_); exact rfl; intro KK hKK; refine wp_load_mid 61 (.tmp 18) rfl b O rfl (pcell (D, q)) _ HRG.out Try.underlying61 rfl (by rw [len_pcell HQ.out]; exact info_put33) (hKK _ _ ?_); clear hKK KK) | ((with_reducible refine wpList_plain ?_ ?_); exact rfl; intro KK hKK; refine wp_st_alloc HS 61 (zput0) rfl (.agg (zput0)) (by kernel_rfl) (rfl) (fun g6 W1 HSx => hKK _ _ ?_); clear hKK KK HS; have HS : St wr noF [⟨g6, 61, zput0⟩] W1 := HSx; clear HSx) | ((with_reducible refine wpList_plain ?_ ?_); exact rfl; intro KK hKK; refine wp_st_store HS 0 0 61 (.tmp 6) (.tmp 19) rfl rfl rfl (.agg (pcell (D, q)).toArray) rfl (by exact (size_pc HQ.out).symm ▸ info_put33) (by rw [Nat.zero_add]; exact Nat.le_of_eq ((size_pc HQ.out).trans size_zput.symm)) (one_pc (D, q)) ((pcell (D, q)).toArray) (spl_agg _ _ _ rfl (size_zput.trans (size_pc HQ.out).symm)) (fun W2 HSx => hKK _ _ ?_); clear hKK KK HS; have HS : St wr noF [⟨g6, 61, (pcell (D, q)).toArray⟩] W2 := HSx; clear HSx))
      have c0 : W2.cell? ⟨g6, 0, none⟩ = some (.int .i64 D) := (HS.row 0 rfl).get rfl
      have hw0 : IntKind.u8.wrap D = bd (byteP D) := wrap_u8_bd D
      have HRW : Hid (Row W2 g6 61 (pcell (D, q)).toArray) := Lib.hid (HS.row 0 rfl)
      have HBE := Lib.hid HS.below
      clear HS hk0 hk1 hO
      have HP5 : Hid (Slice (W2.alloc (.cells #[.int .u8 (bd (byteP D))] 5)) (.slice (some ⟨W2.heap.size, 0, none⟩) 1 1) [byteP D]) := Lib.hid (row_slice (Row.fresh W2 5 (bs [byteP D])) (c := 1) (Nat.le_refl _))
      have HB6 := Lib.hid ((HB.out.trans (HBE.out.mono HB.out.size)).alloc (HB.out.trans (HBE.out.mono HB.out.size)).size (.cells #[.int .u8 (bd (byteP D))] 5))
      have HO6 := Lib.hid ((owns_call HO.out HBE.out).alloc (.cells #[.int .u8 (bd (byteP D))] 5))
      go_upto_region 8 with (at_builtin; refine wpList_append_sliceG rfl (.tmp 20) (.tmp 24) rfl w.heap.size _ (10 + 33 * j) _ rfl HO6.out ⟨W2.heap.size, 0, none⟩ 1 1 _ rfl HP5.out (by omega) HB6.out.size ?_; intro v7 w7 own7 hb7 hg7; rw [← bytesV_apps] at own7; have HO7 := Lib.hid own7; have HB7 := Lib.hid (HB6.out.trans hb7); have HRX := Lib.hid (row_grown (HRW.out.alloc (.cells #[.int .u8 (bd (byteP D))] 5)) HO6.out (by decide) hg7); clear own7 hb7 hg7 HP5 HO6 HB6)
      clear c0 hw0
      have HSL : Hid (Slice w7 (.slice (some ⟨g6, 1, none⟩) 32 32) q) := Lib.hid (put_slice HRX.out HQ.out)
      go_wp2_with (at_builtin; refine wpList_append_slice rfl (.tmp 26) (.tmp 28) rfl w.heap.size _ (10 + 33 * j + 1) _ rfl HO7.out (some ⟨g6, 1, none⟩) 32 32 q rfl HSL.out (fun h => by cases h) (by omega) HB7.out.size ?_; intro v8 w8 own8 hb8; rw [← bytesV_apps] at own8; have HO8 := Lib.hid own8; have HB8 := Lib.hid (HB7.out.trans hb8); clear own8 hb8)
      refine ⟨⟨j + 1, by omega, by go_num, ?_, HB8.out⟩, by simp [intOf]; omega⟩
      have h8 := HO8.out
      rw [HTK.out, show 10 + 33 * (j + 1) = 10 + 33 * j + 1 + 32 by omega]
      rw [List.append_assoc, List.append_assoc] at h8
      exact h8
    · obtain rfl : j = n := by omega
      have own5 := HO.out
      rw [List.take_of_length_le (by rw [HN.out]; exact Nat.le_refl _), HY.out] at own5
      have hs5 := own_slice (q := Y) (by rw [HLB.out]; exact own5)
      have HB6 := Lib.hid (HB.out.alloc HB.out.size (.cells #[.slice B4 (10 + 33 * j) c4] 56))
      have HO6 := Lib.hid (own5.alloc (.cells #[.slice B4 (10 + 33 * j) c4] 56))
      have CK := check_any [Y] _ _ (parts1 hs5) (by simp [maxLen]) (by have := HLB.out; simp [maxLen]; omega)
      rw [List.flatten_cons, List.flatten_nil, List.append_nil] at CK
      obtain ⟨K, hK⟩ : ∃ K, crcOf Y = K := ⟨_, rfl⟩
      rw [hK] at CK
      obtain ⟨w6, hw6⟩ : ∃ w6, wr.alloc (.cells #[.slice B4 (10 + 33 * j) c4] 56) = w6 := ⟨_, rfl⟩
      rw [hw6] at HB6 HO6 CK
      have CS := appshort_any w.heap.size Y K _ w6 (by rw [HLB.out]; exact HO6.out) HB6.out.size (by rw [HLB.out]; omega)
      have HKZ : Hid (Y ++ two K = Z) := Lib.hid (by rw [HZ.out, hK])
      clear own5 hs5 hK HO
      go_wp2_with fail
      refine CK.mono ?_
      rintro x w7 ⟨rfl, rfl⟩
      clear CK
      go_wp2_with fail
      refine CS.mono ?_
      rintro x w8 ⟨v8, rfl, h8, b8⟩
      rw [HKZ.out, HLB.out] at h8
      have HO8 := Lib.hid h8
      have HB8 := Lib.hid (HB6.out.trans b8)
      clear CS h8 b8
      go_wp2_with fail
      go_ret2
      exact ⟨_, rfl, by rw [HLE.out, show 12 + 33 * j = 10 + 33 * j + 2 by omega]; exact HO8.out, HB8.out⟩
end Go.Proofs.Ytppbgkdkioldbaa

/- The program's sender: slices.Clone of puts, is, copied, replace. -/
set_option maxRecDepth 4000
namespace Go.Proofs.Ytppbgkdkioldbaa
open Go Go.RowKit
theorem pkt_one (k : Int) (e s : BitVec 32) (A : Option Addr) (n c : Nat) : (Value.agg (pktA k e s (.slice A n c))).cells.all (·.oneCell') = true := by simp [Value.cells, pktA, Value.oneCell']
theorem st_again {w0 w : World} {F G : Nat → Prop} {R : List Blk} (h : St w0 F R w) (hG : ∀ (k : Nat) (r : Blk), R[k]? = some r → G r.g) : St w G R w := ⟨Chg.refl _ _, h.rows, h.apart, fun k r hk => .inl (hG k r hk)⟩
theorem chg_belowF {w w' : World} {F : Nat → Prop} {B : Nat} (h : Chg F w w') (hF : ∀ k, F k → B ≤ k) (hB : B ≤ w.heap.size) : Below B w w' :=
  ⟨h.os, h.tape, h.output, h.size, fun k hk => h.block k (by omega) (fun e => by have := hF k e; omega)⟩
def NoU8 (cs : Array Value) : Prop := ∀ (j : Nat) (x : Value), cs[j]? = some x → ∀ z, x ≠ .int .u8 z
theorem nou8_list {l : List Value} (h : ∀ x ∈ l, ∀ z, x ≠ .int .u8 z) : NoU8 l.toArray := fun j x hx z => h x (List.mem_of_getElem? (by simpa using hx)) z
theorem nou8_pkt (k : Int) (e s : BitVec 32) (A : Option Addr) (n c : Nat) : NoU8 (pktA k e s (.slice A n c)) := nou8_list (by simp)
/- puts stay where blocks are written that hold no bytes -/
theorem puts_keep {w w' : World} {F : Nat → Prop} {v : Value} {l : List Pt} (h : PutsAt w v l) (k : Chg F w w') (hF : ∀ g, F g → g < w.heap.size → ∃ t cs, Row w g t cs ∧ NoU8 cs) : PutsAt w' v l := by
  obtain ⟨A, c, h1, h2, h3, h4⟩ := h
  refine ⟨A, c, h1, h2, h3, fun hne => ?_⟩
  obtain ⟨b, o, h5, h6, h7⟩ := h4 hne
  have hb : ¬ F b := fun hb => by
    obtain ⟨t, cs, hr, hn⟩ := hF b hb h6
    obtain ⟨x, hx⟩ : ∃ x, l[0]? = some x := ⟨_, List.getElem?_eq_getElem (List.length_pos_iff.2 hne)⟩
    have hq := (h3 x (List.mem_of_getElem? hx)).1
    have hc := h7 0 x hx 1 (.int .u8 (bd (x.2.getD 0 0#8))) (by
      show (bytesV x.2)[0]? = _
      cases hl : x.2 with
      | nil => rw [hl] at hq; cases hq
      | cons y t => rfl)
    rw [hr.cell] at hc
    exact hn _ _ hc _ rfl
  refine ⟨b, o, h5, Nat.lt_of_lt_of_le h6 k.size, fun i x hx j u hu => ?_⟩
  rw [World.cell?_of_block (w := w) (w' := w') (a := ⟨b, o + i * 33 + j, none⟩) (k.block b h6 hb)]
  exact h7 i x hx j u hu
theorem puts_len {w : World} {A : Option Addr} {n c : Nat} {l : List Pt} (h : PutsAt w (.slice A n c) l) : l.length = n := by
  obtain ⟨A', c', e, _⟩ := h
  injection e with _ e _
  exact e.symm
set_option maxHeartbeats 800000 in
theorem clone_puts (A : Option Addr) (n c : Nat) (l : List Pt) (w : World) (h : PutsAt w (.slice A n c) l) (hn : n ≤ 1000000) :
    Calls Try.prog 39 #[.slice A n c] w fun x w' => ∃ B m d, x = .returned (.slice B m d) ∧ PutsAt w' (.slice B m d) l ∧ Below w.heap.size w w' := by
  obtain rfl := puts_len h
  cases A with
  | none =>
    have hl : l = [] := by
      apply Decidable.byContradiction
      intro hne
      obtain ⟨_, _, e, _, _, h4⟩ := h
      injection e with e _ _
      obtain ⟨_, _, e2, _⟩ := h4 hne
      rw [← e] at e2
      cases e2
    subst hl
    have hz : (binOp .eql 28 (.slice none 0 c) (.slice none 0 0)).run Try.prog w = .ok (.bool true) w := Lib.run_eql_slice_nil w _ _ none 0 c 0 0 Try.underlying28
    clear h hn
    simp only [List.length_nil]
    go_enter Try.func39, Try.ntmps39
    go_wp2_with fail
    go_ret
    exact ⟨_, _, _, rfl, ⟨none, 0, rfl, Nat.le_refl _, fun x hx => by simp at hx, fun h => absurd rfl h⟩, Below.refl _ _⟩
  | some ad =>
    have hz : (binOp .eql 28 (.slice (some ad) l.length c) (.slice none 0 0)).run Try.prog w = .ok (.bool false) w := Lib.run_eql_slice_nil w _ _ (some ad) l.length c 0 0 Try.underlying28
    have HE : Hid (Row (w.alloc (.cells #[] 61)) w.heap.size 61 #[]) := Lib.hid (Row.fresh w 61 #[])
    have HB := Lib.hid ((Below.refl w.heap.size w).alloc (Nat.le_refl _) (.cells #[] 61))
    have HI := Lib.hid (h.below HB.out (Nat.le_refl _))
    have HN := Lib.hid hn
    clear h hn
    go_enter Try.func39, Try.ntmps39
    go_wp2_with ((with_reducible refine wpList_plain ?_ ?_); exact rfl; intro KK hKK; refine wp_append_puts_own (.tmp 5) (.tmp 6) rfl w.heap.size rfl HE.out (some ad) c l rfl HI.out HN.out (fun kv w4 hp hb4 hf _ => hKK _ _ ?_); clear hKK KK; obtain ⟨B9, m9, d9, rfl⟩ := hf; have HO := Lib.hid hp; have HB4 := Lib.hid (HB.out.trans (hb4.mono HB.out.size)); clear hp hb4)
    go_ret
    exact ⟨_, _, _, rfl, HO.out, HB4.out⟩
theorem is_any (k : Int) (e s : BitVec 32) (v : Value) (w : World) : Calls Try.prog 28 #[.agg (pktA k e s v)] w fun x w' => x = .returned (.bool (decide (k ≠ 0))) ∧ Below w.heap.size w w' := by
  have HS := St.nil w noF
  by_cases h : k = 0
  · subst h
    go_enter Try.func28, Try.ntmps28
    go_upto_region 1 with (first | ((with_reducible refine wpList_plain ?_ ?_); exact rfl; intro KK hKK; refine wp_st_box HS 30 (.tmp 0) rfl _ rfl (pktA 0 e s v) (rfl) (fun g1 W1 HSx => hKK _ _ ?_); clear hKK KK HS; have HS : St w noF [⟨g1, 30, pktA 0 e s v⟩] W1 := HSx; clear HSx))
    have c0 : W1.cell? ⟨g1, 0, none⟩ = some (.int .i64 0) := (HS.row 0 rfl).get rfl
    go_wp2_with fail
    go_ret
    exact ⟨rfl, HS.below⟩
  · have hd : decide (k ≠ 0) = true := decide_eq_true h
    rw [hd]
    go_enter Try.func28, Try.ntmps28
    go_upto_region 1 with (first | ((with_reducible refine wpList_plain ?_ ?_); exact rfl; intro KK hKK; refine wp_st_box HS 30 (.tmp 0) rfl _ rfl (pktA k e s v) (rfl) (fun g1 W1 HSx => hKK _ _ ?_); clear hKK KK HS; have HS : St w noF [⟨g1, 30, pktA k e s v⟩] W1 := HSx; clear HSx))
    have c0 : W1.cell? ⟨g1, 0, none⟩ = some (.int .i64 k) := (HS.row 0 rfl).get rfl
    clear hd
    go_wp2_with fail
    go_ret
    exact ⟨by simp [h], HS.below⟩
set_option maxHeartbeats 800000 in
theorem copied_any (k : Int) (e s : BitVec 32) (A : Option Addr) (n c : Nat) (l : List Pt) (w : World) (h : PutsAt w (.slice A n c) l) (hn : n ≤ 1000000) :
    Calls Try.prog 30 #[.agg (pktA k e s (.slice A n c))] w fun x w' => ∃ B m d, x = .returned (.agg (pktA k e s (.slice B m d))) ∧ PutsAt w' (.slice B m d) l ∧ Below w.heap.size w w' := by
  have HV := Lib.hid h
  clear h
  have HS := St.nil w noF
  go_enter Try.func30, Try.ntmps30
  go_upto_region 1 with (first | ((with_reducible refine wpList_plain ?_ ?_); exact rfl; intro KK hKK; refine wp_st_box HS 30 (.tmp 0) rfl _ rfl (pktA k e s (.slice A n c)) (rfl) (fun g1 W1 HSx => hKK _ _ ?_); clear hKK KK HS; have HS : St w noF [⟨g1, 30, pktA k e s (.slice A n c)⟩] W1 := HSx; clear HSx) | ((with_reducible refine wpList_plain ?_ ?_); exact rfl; intro KK hKK; refine wp_st_alloc HS 30 (pktA 0 0#32 0#32 (.slice none 0 0)) rfl (.agg (pktA 0 0#32 0#32 (.slice none 0 0))) (by kernel_rfl) (rfl) (fun g2 W2 HSx => hKK _ _ ?_); clear hKK KK HS; have HS : St w noF [⟨g1, 30, pktA k e s (.slice A n c)⟩, ⟨g2, 30, pktA 0 0#32 0#32 (.slice none 0 0)⟩] W2 := HSx; clear HSx))
  have c3 : W2.cell? ⟨g1, 3, none⟩ = some (.slice A n c) := (HS.row 0 rfl).get rfl
  have C := clone_puts A n c l W2 (HV.out.below HS.below (Nat.le_refl _)) hn
  go_wp2_with fail
  refine C.mono ?_
  rintro x W5 ⟨B, m, d, rfl, hp, hb⟩
  have HSx := HS.same hb
  have HP := Lib.hid hp
  have HS := st_again (G := fun k => k = g1 ∨ k = g2) HSx (fun k r hk => by
    match k, hk with
    | 0, hk => cases hk; exact .inl rfl
    | 1, hk => cases hk; exact .inr rfl)
  have HF : Hid (∀ y, (y = g1 ∨ y = g2) → w.heap.size ≤ y ∧ ∃ t cs, Row W5 y t cs ∧ NoU8 cs) := Lib.hid fun y hy => by
    rcases hy with rfl | rfl
    · exact ⟨(HSx.own 0 _ rfl).resolve_left (fun h => h), 30, pktA k e s (.slice A n c), HSx.row 0 rfl, nou8_pkt _ _ _ _ _ _⟩
    · exact ⟨(HSx.own 1 _ rfl).resolve_left (fun h => h), 30, pktA 0 0#32 0#32 (.slice none 0 0), HSx.row 1 rfl, nou8_pkt _ _ _ _ _ _⟩
  have HS5 := Lib.hid HSx.below
  clear hb C c3 hp HSx
  go_wp2_with (first | ((with_reducible refine wpList_plain ?_ ?_); exact rfl; intro KK hKK; refine wp_st_put HS 0 3 28 (.tmp 6) (.tmp 5) rfl rfl rfl (.slice B m d) rfl (by kernel_rfl) rfl rfl (by show 3 < 4; decide) (pktA k e s (.slice B m d)) (by exact rfl) (fun W6 HSx => hKK _ _ ?_); clear hKK KK HS; have HS : St W5 (fun k => k = g1 ∨ k = g2) [⟨g1, 30, pktA k e s (.slice B m d)⟩, ⟨g2, 30, pktA 0 0#32 0#32 (.slice none 0 0)⟩] W6 := HSx; clear HSx) | ((with_reducible refine wpList_plain ?_ ?_); exact rfl; intro KK hKK; refine wp_st_load HS 0 0 30 (.tmp 1) rfl rfl rfl (pktA k e s (.slice B m d)) (slab_whole _) _ Try.underlying30 rfl (by exact size_pkt) (hKK _ _ ?_); clear hKK KK) | ((with_reducible refine wpList_plain ?_ ?_); exact rfl; intro KK hKK; refine wp_st_store HS 1 0 30 (.tmp 2) (.tmp 7) rfl rfl rfl (.agg (pktA k e s (.slice B m d))) rfl (by exact size_pkt) (Nat.le_refl 4) (pkt_one ..) (pktA k e s (.slice B m d)) (by exact spl_agg _ _ _ rfl rfl) (fun W7 HSx => hKK _ _ ?_); clear hKK KK HS; have HS : St W5 (fun k => k = g1 ∨ k = g2) [⟨g1, 30, pktA k e s (.slice B m d)⟩, ⟨g2, 30, pktA k e s (.slice B m d)⟩] W7 := HSx; clear HSx))
  refine bodyPost_ret (results_cell_row Try.results30 _ _ g2 30 (pktA k e s (.slice B m d)) (0, 0) _ rfl (HS.row 1 rfl) Try.underlying30 rfl (by exact size_pkt)) rfl ?_
  exact ⟨_, _, _, rfl, puts_keep HP.out HS.chg (fun k hk _ => (HF.out k hk).2), HS5.out.trans (chg_belowF HS.chg (fun k hk => (HF.out k hk).1) HS5.out.size)⟩
end Go.Proofs.Ytppbgkdkioldbaa

/- The program's sender: replace, Stop, Missed, Send. -/
set_option maxRecDepth 4000
namespace Go.Proofs.Ytppbgkdkioldbaa
open Go Go.RowKit
def sndC (o p : Pkt) (u v : Value) (n : Int) (t : Bool) : Array Value := #[.int .i64 o.k, .int .u32 (wd o.e), .int .u32 (wd o.s), u, .int .i64 p.k, .int .u32 (wd p.e), .int .u32 (wd p.s), v, .int .i64 n, .bool t]
theorem size_snd : (Try.prog.info? 32).map (·.size) = some 10 := by kernel_rfl
theorem nou8_snd (o p : Pkt) (A B : Option Addr) (n c m d : Nat) (z : Int) (t : Bool) : NoU8 (sndC o p (.slice A n c) (.slice B m d) z t) := nou8_list (by simp)
def SndAt (W : World) (g : Nat) (S : Snd) : Prop := ∃ A n c B m d, Row W g 32 (sndC S.o S.p (.slice A n c) (.slice B m d) S.n S.t) ∧ PutsAt W (.slice A n c) S.o.l ∧ PutsAt W (.slice B m d) S.p.l
theorem SndAt.call {W W' : World} {g : Nat} {S : Snd} (h : SndAt W g S) (hb : Below W.heap.size W W') : SndAt W' g S := by
  obtain ⟨A, n, c, B, m, d, h1, h2, h3⟩ := h
  exact ⟨A, n, c, B, m, d, h1.call hb, h2.below hb (Nat.le_refl _), h3.below hb (Nat.le_refl _)⟩
theorem SndAt.lt {W : World} {g : Nat} {S : Snd} (h : SndAt W g S) : g < W.heap.size := by
  obtain ⟨A, n, c, B, m, d, h1, _⟩ := h
  exact h1.lt
theorem st_only {w : World} {g : Nat} {t : TypeId} {cs : Array Value} (h : Row w g t cs) : St w (fun k => k = g) [⟨g, t, cs⟩] w :=
  ⟨Chg.refl _ _, (fun j r hj => by cases j with | zero => (cases hj; exact h) | succ j => cases hj), (fun j k r q hjk hj hk => by cases j with | zero => (cases k with | zero => exact absurd rfl hjk | succ k => cases hk) | succ j => cases hj), (fun j r hj => by cases j with | zero => (cases hj; exact .inl rfl) | succ j => cases hj)⟩
theorem puts_nil (w : World) : PutsAt w (.slice none 0 0) [] := ⟨none, 0, rfl, Nat.le_refl _, fun x hx => by simp at hx, fun h => absurd rfl h⟩
set_option maxHeartbeats 1600000 in
theorem replace_any (g : Nat) (S : Snd) (p : Pkt) (D : Option Addr) (q f : Nat) (w : World) (h : SndAt w g S) (hp : PutsAt w (.slice D q f) p.l) :
    Calls Try.prog 29 #[.pointer (some ⟨g, 0, none⟩), .agg (pktA p.k p.e p.s (.slice D q f))] w fun x w' => x = .returned (.tuple #[]) ∧ SndAt w' g ⟨p, S.p, 0, false⟩ ∧ Chg (fun k => k = g) w w' := by
  obtain ⟨A, n, c, B, m, d, hr, hpo, hpp⟩ := h
  have HR := Lib.hid hr
  have HPO := Lib.hid hpo
  have HPP := Lib.hid hpp
  clear hr hpo hpp
  have HPN := Lib.hid hp
  clear hp
  have HS := st_only HR.out
  go_enter Try.func29, Try.ntmps29
  go_upto_region 1 with (first | ((with_reducible refine wpList_plain ?_ ?_); exact rfl; intro KK hKK; refine wp_st_box HS 30 (.tmp 1) rfl _ rfl (pktA p.k p.e p.s (.slice D q f)) (rfl) (fun g1 W1 HSx => hKK _ _ ?_); clear hKK KK HS; have HS : St w (fun k => k = g) [⟨g, 32, sndC S.o S.p (.slice A n c) (.slice B m d) S.n S.t⟩, ⟨g1, 30, pktA p.k p.e p.s (.slice D q f)⟩] W1 := HSx; clear HSx))
  go_wp2_with (first | ((with_reducible refine wpList_plain ?_ ?_); exact rfl; intro KK hKK; refine wp_st_load HS 1 0 30 (.tmp 3) rfl rfl rfl (pktA p.k p.e p.s (.slice D q f)) (slab_whole _) _ Try.underlying30 rfl (by exact size_pkt) (hKK _ _ ?_); clear hKK KK) | ((with_reducible refine wpList_plain ?_ ?_); exact rfl; intro KK hKK; refine wp_st_store HS 0 0 30 (.tmp 9) (.tmp 7) rfl rfl rfl (.agg (pktA p.k p.e p.s (.slice D q f))) rfl (by exact size_pkt) (by show 0 + 4 ≤ 10; decide) (pkt_one ..) (sndC p S.p (.slice D q f) (.slice B m d) S.n S.t) (by exact rfl) (fun W2 HSx => hKK _ _ ?_); clear hKK KK HS; have HS : St w (fun k => k = g) [⟨g, 32, sndC p S.p (.slice D q f) (.slice B m d) S.n S.t⟩, ⟨g1, 30, pktA p.k p.e p.s (.slice D q f)⟩] W2 := HSx; clear HSx) | ((with_reducible refine wpList_plain ?_ ?_); exact rfl; intro KK hKK; refine wp_st_put HS 0 8 3 (.tmp 11) (.const (.int .i64 0)) rfl rfl rfl (.int .i64 0) rfl (by kernel_rfl) rfl rfl (by show 8 < 10; decide) (sndC p S.p (.slice D q f) (.slice B m d) 0 S.t) (by exact rfl) (fun W3 HSx => hKK _ _ ?_); clear hKK KK HS; have HS : St w (fun k => k = g) [⟨g, 32, sndC p S.p (.slice D q f) (.slice B m d) 0 S.t⟩, ⟨g1, 30, pktA p.k p.e p.s (.slice D q f)⟩] W3 := HSx; clear HSx) | ((with_reducible refine wpList_plain ?_ ?_); exact rfl; intro KK hKK; refine wp_st_put HS 0 9 4 (.tmp 13) (.const (.bool false)) rfl rfl rfl (.bool false) rfl (by kernel_rfl) rfl rfl (by show 9 < 10; decide) (sndC p S.p (.slice D q f) (.slice B m d) 0 false) (by exact rfl) (fun W4 HSx => hKK _ _ ?_); clear hKK KK HS; have HS : St w (fun k => k = g) [⟨g, 32, sndC p S.p (.slice D q f) (.slice B m d) 0 false⟩, ⟨g1, 30, pktA p.k p.e p.s (.slice D q f)⟩] W4 := HSx; clear HSx))
  go_end0
  exact ⟨rfl, ⟨D, q, f, B, m, d, HS.row 0 rfl, puts_keep HPN.out HS.chg (fun y hy _ => by subst hy; exact ⟨_, _, HR.out, nou8_snd _ _ _ _ _ _ _ _ _ _⟩), puts_keep HPP.out HS.chg (fun y hy _ => by subst hy; exact ⟨_, _, HR.out, nou8_snd _ _ _ _ _ _ _ _ _ _⟩)⟩, HS.chg⟩
theorem stop_nil (b : Bool) (w : World) : Calls Try.prog 19 #[.pointer none, .bool b] w fun x w' => x = .returned (.tuple #[]) ∧ Below w.heap.size w w' := by
  go_enter Try.func19, Try.ntmps19
  go_wp2_with fail
  exact bodyPost_ret (results_none Try.results19 _ _ _) rfl ⟨rfl, Below.refl _ _⟩
set_option maxHeartbeats 1600000 in
theorem stop_any (g : Nat) (S : Snd) (b : Bool) (w : World) (h : SndAt w g S) :
    Calls Try.prog 19 #[.pointer (some ⟨g, 0, none⟩), .bool b] w fun x w' => x = .returned (.tuple #[]) ∧ SndAt w' g (stopS S b) ∧ Chg (fun k => k = g) w w' := by
  obtain ⟨A, n, c, B, m, d, hr, hpo, hpp⟩ := h
  have HR := Lib.hid hr
  have HPO := Lib.hid hpo
  have HPP := Lib.hid hpp
  clear hr hpo hpp
  have HS := st_only HR.out
  cases b with
  | false =>
    go_enter Try.func19, Try.ntmps19
    go_upto_region 5 with (first | ((with_reducible refine wpList_plain ?_ ?_); exact rfl; intro KK hKK; refine wp_st_store HS 0 4 30 (.tmp 13) (.tmp 11) rfl rfl rfl (.agg #[.int .i64 0, .int .u32 0, .int .u32 0, .slice none 0 0]) rfl (by exact size_pkt) (by show 4 + 4 ≤ 10; decide) (by simp [Value.cells, Value.oneCell']) (sndC S.o pkt0 (.slice A n c) (.slice none 0 0) S.n S.t) (by exact rfl) (fun W1 HSx => hKK _ _ ?_); clear hKK KK HS; have HS : St w (fun k => k = g) [⟨g, 32, sndC S.o pkt0 (.slice A n c) (.slice none 0 0) S.n S.t⟩] W1 := HSx; clear HSx))
    have HAT : Hid (SndAt W1 g ⟨S.o, pkt0, S.n, S.t⟩) := Lib.hid ⟨A, n, c, none, 0, 0, HS.row 0 rfl, puts_keep HPO.out HS.chg (fun y hy _ => by subst hy; exact ⟨_, _, HR.out, nou8_snd _ _ _ _ _ _ _ _ _ _⟩), puts_nil _⟩
    have HC := Lib.hid HS.chg
    clear HS
    have C := replace_any g ⟨S.o, pkt0, S.n, S.t⟩ pkt0 none 0 0 W1 HAT.out (puts_nil W1)
    go_wp2_with fail
    refine C.mono ?_
    rintro x w9 ⟨rfl, hs9, hc9⟩
    go_wp2_with fail
    go_end0
    exact ⟨rfl, hs9, HC.out.trans hc9 (fun i hi => .inl hi)⟩
  | true =>
    have CI := fun W => is_any S.o.k S.o.e S.o.s (.slice A n c) W
    by_cases h0 : S.o.k = 0
    · have hS : stopS S true = ⟨pkt0, S.p, 0, false⟩ := by unfold stopS; rw [if_pos rfl, if_pos h0]
      rw [hS]
      rw [decide_eq_false (by simp [h0])] at CI
      clear hS h0
      go_enter Try.func19, Try.ntmps19
      go_upto_region 3 with fail
      go_wp2_with (first | ((with_reducible refine wpList_plain ?_ ?_); exact rfl; intro KK hKK; refine wp_st_load HS 0 0 30 (.tmp 17) rfl rfl rfl (pktA S.o.k S.o.e S.o.s (.slice A n c)) (by exact rfl) _ Try.underlying30 rfl (by exact size_pkt) (hKK _ _ ?_); clear hKK KK))
      refine (CI _).mono ?_
      rintro x w3 ⟨rfl, hb⟩
      have HAT : Hid (SndAt w3 g S) := Lib.hid (SndAt.call ⟨A, n, c, B, m, d, HR.out, HPO.out, HPP.out⟩ hb)
      have HC : Hid (Chg (fun k => k = g) w w3) := Lib.hid (Chg.of_below hb)
      clear HS CI hb
      have C := replace_any g S pkt0 none 0 0 w3 HAT.out (puts_nil w3)
      go_wp2_with fail
      refine C.mono ?_
      rintro x w9 ⟨rfl, hs9, hc9⟩
      go_wp2_with fail
      go_end0
      exact ⟨rfl, hs9, HC.out.trans hc9 (fun i hi => .inl hi)⟩
    · have hS : stopS S true = ⟨pkt0, S.o, 0, false⟩ := by unfold stopS; rw [if_pos rfl, if_neg h0]
      rw [hS]
      rw [decide_eq_true h0] at CI
      clear hS h0
      go_enter Try.func19, Try.ntmps19
      go_upto_region 3 with fail
      go_wp2_with (first | ((with_reducible refine wpList_plain ?_ ?_); exact rfl; intro KK hKK; refine wp_st_load HS 0 0 30 (.tmp 17) rfl rfl rfl (pktA S.o.k S.o.e S.o.s (.slice A n c)) (by exact rfl) _ Try.underlying30 rfl (by exact size_pkt) (hKK _ _ ?_); clear hKK KK))
      refine (CI _).mono ?_
      rintro x w3 ⟨rfl, hb⟩
      have HR3 := Lib.hid (HR.out.call hb)
      have HPO3 := Lib.hid (HPO.out.below hb (Nat.le_refl _))
      have HC : Hid (Chg (fun k => k = g) w w3) := Lib.hid (Chg.of_below hb)
      clear HS CI hb
      have HS := st_only HR3.out
      go_upto_region 5 with (first | ((with_reducible refine wpList_plain ?_ ?_); exact rfl; intro KK hKK; refine wp_st_load HS 0 0 30 (.tmp 23) rfl rfl rfl (pktA S.o.k S.o.e S.o.s (.slice A n c)) (by exact rfl) _ Try.underlying30 rfl (by exact size_pkt) (hKK _ _ ?_); clear hKK KK) | ((with_reducible refine wpList_plain ?_ ?_); exact rfl; intro KK hKK; refine wp_st_store HS 0 4 30 (.tmp 26) (.tmp 24) rfl rfl rfl (.agg (pktA S.o.k S.o.e S.o.s (.slice A n c))) rfl (by exact size_pkt) (by show 4 + 4 ≤ 10; decide) (pkt_one ..) (sndC S.o S.o (.slice A n c) (.slice A n c) S.n S.t) (by exact rfl) (fun W1 HSx => hKK _ _ ?_); clear hKK KK HS; have HS : St w3 (fun k => k = g) [⟨g, 32, sndC S.o S.o (.slice A n c) (.slice A n c) S.n S.t⟩] W1 := HSx; clear HSx))
      have HAT : Hid (SndAt W1 g ⟨S.o, S.o, S.n, S.t⟩) := Lib.hid ⟨A, n, c, A, n, c, HS.row 0 rfl, puts_keep HPO3.out HS.chg (fun y hy _ => by subst hy; exact ⟨_, _, HR3.out, nou8_snd _ _ _ _ _ _ _ _ _ _⟩), puts_keep HPO3.out HS.chg (fun y hy _ => by subst hy; exact ⟨_, _, HR3.out, nou8_snd _ _ _ _ _ _ _ _ _ _⟩)⟩
      have HC2 := Lib.hid (HC.out.trans HS.chg (fun i hi => .inl hi))
      clear HS
      have C := replace_any g ⟨S.o, S.o, S.n, S.t⟩ pkt0 none 0 0 W1 HAT.out (puts_nil W1)
      go_wp2_with fail
      refine C.mono ?_
      rintro x w9 ⟨rfl, hs9, hc9⟩
      go_wp2_with fail
      go_end0
      exact ⟨rfl, hs9, HC2.out.trans hc9 (fun i hi => .inl hi)⟩
theorem missed_nil (w : World) : Calls Try.prog 13 #[.pointer none] w fun x w' => x = .returned (.int .i64 0) ∧ Below w.heap.size w w' := by
  go_enter Try.func13, Try.ntmps13
  go_wp2_with fail
  go_ret
  exact ⟨rfl, Below.refl _ _⟩
set_option maxHeartbeats 1600000 in
theorem missed_any (g : Nat) (S : Snd) (w : World) (h : SndAt w g S) (hn : 0 ≤ S.n ∧ S.n ≤ 1000000) :
    Calls Try.prog 13 #[.pointer (some ⟨g, 0, none⟩)] w fun x w' => x = .returned (.int .i64 (missN S)) ∧ SndAt w' g (missS S) ∧ Chg (fun k => k = g) w w' := by
  obtain ⟨A, n, c, B, m, d, hr, hpo, hpp⟩ := h
  have HR := Lib.hid hr
  have HPO := Lib.hid hpo
  have HPP := Lib.hid hpp
  clear hr hpo hpp
  have CI := fun W => is_any S.o.k S.o.e S.o.s (.slice A n c) W
  have HS := st_only HR.out
  have hw : IntKind.i64.wrap (S.n + 1) = S.n + 1 := by rw [IntKind.wrap_i64]; omega
  by_cases h0 : S.o.k = 0
  · have hS : missS S = S := if_pos h0
    have hN : missN S = 0 := if_pos h0
    rw [hS, hN]
    rw [decide_eq_false (by simp [h0])] at CI
    clear hS hN h0
    go_enter Try.func13, Try.ntmps13
    go_wp2_with (first | (refine wpList_guarded (by rfl) (fun KK hKK => ?_); refine wp_st_load HS 0 0 30 (.tmp 8) rfl rfl rfl (pktA S.o.k S.o.e S.o.s (.slice A n c)) (by exact rfl) _ Try.underlying30 rfl (by exact size_pkt) (hKK _ _ ?_); clear hKK KK))
    refine (CI _).mono ?_
    rintro x w3 ⟨rfl, hb⟩
    have HAT : Hid (SndAt w3 g S) := Lib.hid (SndAt.call ⟨A, n, c, B, m, d, HR.out, HPO.out, HPP.out⟩ hb)
    have HC : Hid (Chg (fun k => k = g) w w3) := Lib.hid (Chg.of_below hb)
    clear HS CI hb
    go_wp2_with fail
    go_ret
    exact ⟨rfl, HAT.out, HC.out⟩
  · have hS : missS S = ⟨S.o, S.p, S.n + 1, S.t⟩ := if_neg h0
    have hN : missN S = S.n + 1 := if_neg h0
    rw [hS, hN]
    rw [decide_eq_true h0] at CI
    clear hS hN h0
    go_enter Try.func13, Try.ntmps13
    go_wp2_with (first | (refine wpList_guarded (by rfl) (fun KK hKK => ?_); refine wp_st_load HS 0 0 30 (.tmp 8) rfl rfl rfl (pktA S.o.k S.o.e S.o.s (.slice A n c)) (by exact rfl) _ Try.underlying30 rfl (by exact size_pkt) (hKK _ _ ?_); clear hKK KK))
    refine (CI _).mono ?_
    rintro x w3 ⟨rfl, hb⟩
    have HR3 := Lib.hid (HR.out.call hb)
    have HPO3 := Lib.hid (HPO.out.below hb (Nat.le_refl _))
    have HPP3 := Lib.hid (HPP.out.below hb (Nat.le_refl _))
    have HC : Hid (Chg (fun k => k = g) w w3) := Lib.hid (Chg.of_below hb)
    clear HS CI hb
    have HS := st_only HR3.out
    have c8 : w3.cell? ⟨g, 8, none⟩ = some (.int .i64 S.n) := HR3.out.get rfl
    go_upto_region 4 with (first | ((with_reducible refine wpList_plain ?_ ?_); exact rfl; intro KK hKK; refine wp_st_put HS 0 8 3 (.tmp 19) (.tmp 17) rfl rfl rfl (.int .i64 (S.n + 1)) rfl (by kernel_rfl) rfl rfl (by show 8 < 10; decide) (sndC S.o S.p (.slice A n c) (.slice B m d) (S.n + 1) S.t) (by exact rfl) (fun W1 HSx => hKK _ _ ?_); clear hKK KK HS; have HS : St w3 (fun k => k = g) [⟨g, 32, sndC S.o S.p (.slice A n c) (.slice B m d) (S.n + 1) S.t⟩] W1 := HSx; clear HSx))
    have KF : Hid (∀ y, y = g → y < w3.heap.size → ∃ t cs, Row w3 y t cs ∧ NoU8 cs) := Lib.hid (fun y hy _ => by subst hy; exact ⟨_, _, HR3.out, nou8_snd _ _ _ _ _ _ _ _ _ _⟩)
    have HAT : Hid (SndAt W1 g ⟨S.o, S.p, S.n + 1, S.t⟩) := Lib.hid ⟨A, n, c, B, m, d, HS.row 0 rfl, puts_keep HPO3.out HS.chg KF.out, puts_keep HPP3.out HS.chg KF.out⟩
    have HC2 := Lib.hid (HC.out.trans HS.chg (fun i hi => .inl hi))
    have c9 : W1.cell? ⟨g, 8, none⟩ = some (.int .i64 (S.n + 1)) := (HS.row 0 rfl).get rfl
    clear HS c8
    go_wp2_with fail
    go_ret
    exact ⟨rfl, HAT.out, HC2.out⟩
end Go.Proofs.Ytppbgkdkioldbaa

/- The program's sender: Send, Acked, Touch. -/
set_option maxRecDepth 4000
namespace Go.Proofs.Ytppbgkdkioldbaa
open Go Go.RowKit
theorem send_nil (p : Pkt) (v : Value) (w : World) : Calls Try.prog 10 #[.pointer none, .agg (pktA p.k p.e p.s v)] w fun x w' => x = .returned (.int .i64 1) ∧ Below w.heap.size w w' := by
  obtain ⟨k, e, s, l⟩ := p
  have HS := St.nil w noF
  go_enter Try.func10, Try.ntmps10
  go_upto_region 1 with (first | ((with_reducible refine wpList_plain ?_ ?_); exact rfl; intro KK hKK; refine wp_st_box HS 30 (.tmp 1) rfl _ rfl (pktA k e s v) (rfl) (fun g1 W1 HSx => hKK _ _ ?_); clear hKK KK HS; have HS : St w noF [⟨g1, 30, pktA k e s v⟩] W1 := HSx; clear HSx))
  have HB := Lib.hid HS.below
  clear HS
  go_wp2_with fail
  go_ret
  exact ⟨rfl, HB.out⟩
set_option maxHeartbeats 3200000 in
theorem send_any (g : Nat) (S : Snd) (p : Pkt) (D : Option Addr) (q f : Nat) (w : World) (h : SndAt w g S) (hp : PutsAt w (.slice D q f) p.l) (hl : p.l.length ≤ maxLen) :
    Calls Try.prog 10 #[.pointer (some ⟨g, 0, none⟩), .agg (pktA p.k p.e p.s (.slice D q f))] w fun x w' => x = .returned (.int .i64 (sendE S p)) ∧ SndAt w' g (sendS S p) ∧ Chg (fun k => k = g) w w' := by
  obtain ⟨A, n, c, B, m, d, hr, hpo, hpp⟩ := h
  have HR := Lib.hid hr
  have HPO := Lib.hid hpo
  have HPP := Lib.hid hpp
  clear hr hpo hpp
  have HPN := Lib.hid hp
  have HL := Lib.hid hl
  have hq := puts_len hp
  clear hp hl
  by_cases hk : p.k = 1 ∨ p.k = 2
  case neg =>
    have hO : opB p = false := by unfold opB; rw [decide_eq_false hk]; rfl
    have hE : sendE S p = 1 := by unfold sendE; rw [hO]; rfl
    have hS : sendS S p = S := by unfold sendS; rw [hO]; exact if_neg (fun h => by cases h.1)
    rw [hE, hS]
    obtain ⟨k, e, s, l⟩ := p
    simp only at hk HPN ⊢
    have h1 : (k != 1) = true := bne_iff_ne.2 fun h => hk (.inl h)
    have h2 : (k != 2) = true := bne_iff_ne.2 fun h => hk (.inr h)
    have HS := St.nil w noF
    clear hO hE hS hk
    go_enter Try.func10, Try.ntmps10
    go_upto_region 1 with (first | ((with_reducible refine wpList_plain ?_ ?_); exact rfl; intro KK hKK; refine wp_st_box HS 30 (.tmp 1) rfl _ rfl (pktA k e s (.slice D q f)) (rfl) (fun g1 W1 HSx => hKK _ _ ?_); clear hKK KK HS; have HS : St w noF [⟨g1, 30, pktA k e s (.slice D q f)⟩] W1 := HSx; clear HSx))
    have c0 : W1.cell? ⟨g1, 0, none⟩ = some (.int .i64 k) := (HS.row 0 rfl).get rfl
    have HB := Lib.hid HS.below
    go_wp2_with fail
    go_ret
    exact ⟨rfl, SndAt.call ⟨A, n, c, B, m, d, HR.out, HPO.out, HPP.out⟩ HB.out, Chg.of_below HB.out⟩
  have CE := Lib.hid (fun W (hb : Below w.heap.size w W) => pktenc_bad p (.slice D q f) W (HPN.out.below hb (Nat.le_refl _)) HL.out)
  have CG := Lib.hid (fun W (hb : Below w.heap.size w W) => pktenc_good p (.slice D q f) W (HPN.out.below hb (Nat.le_refl _)))
  cases hm : mayP p with
  | false =>
    have hO : opB p = false := by unfold opB; rw [hm, Bool.and_false]
    have hE : sendE S p = 1 := by unfold sendE; rw [hO]; rfl
    have hS : sendS S p = S := by unfold sendS; rw [hO]; exact if_neg (fun h => by cases h.1)
    rw [hE, hS]
    have C := Lib.hid (fun W hb => CE.out W hb hm)
    clear CE CG hO hE hS hm
    obtain ⟨k, e, s, l⟩ := p
    simp only at hk HPN C ⊢
    have HS := St.nil w noF
    rcases hk with rfl | rfl
    · go_enter Try.func10, Try.ntmps10
      go_upto_region 1 with (first | ((with_reducible refine wpList_plain ?_ ?_); exact rfl; intro KK hKK; refine wp_st_box HS 30 (.tmp 1) rfl _ rfl (pktA 1 e s (.slice D q f)) (rfl) (fun g1 W1 HSx => hKK _ _ ?_); clear hKK KK HS; have HS : St w noF [⟨g1, 30, pktA 1 e s (.slice D q f)⟩] W1 := HSx; clear HSx))
      have c0 : W1.cell? ⟨g1, 0, none⟩ = some (.int .i64 1) := (HS.row 0 rfl).get rfl
      have HB := Lib.hid HS.below
      go_wp2_with (first | ((with_reducible refine wpList_plain ?_ ?_); exact rfl; intro KK hKK; refine wp_st_load HS 0 0 30 (.tmp 3) rfl rfl rfl (pktA 1 e s (.slice D q f)) (slab_whole _) _ Try.underlying30 rfl (by exact size_pkt) (hKK _ _ ?_); clear hKK KK))
      refine (C.out _ HB.out).mono ?_
      rintro x w2 ⟨rfl, hb⟩
      have HB2 := Lib.hid (HB.out.trans (hb.mono HB.out.size))
      clear HS hb C c0
      go_wp2_with fail
      go_ret
      exact ⟨rfl, SndAt.call ⟨A, n, c, B, m, d, HR.out, HPO.out, HPP.out⟩ HB2.out, Chg.of_below HB2.out⟩
    · go_enter Try.func10, Try.ntmps10
      go_upto_region 1 with (first | ((with_reducible refine wpList_plain ?_ ?_); exact rfl; intro KK hKK; refine wp_st_box HS 30 (.tmp 1) rfl _ rfl (pktA 2 e s (.slice D q f)) (rfl) (fun g1 W1 HSx => hKK _ _ ?_); clear hKK KK HS; have HS : St w noF [⟨g1, 30, pktA 2 e s (.slice D q f)⟩] W1 := HSx; clear HSx))
      have c0 : W1.cell? ⟨g1, 0, none⟩ = some (.int .i64 2) := (HS.row 0 rfl).get rfl
      have HB := Lib.hid HS.below
      go_wp2_with (first | ((with_reducible refine wpList_plain ?_ ?_); exact rfl; intro KK hKK; refine wp_st_load HS 0 0 30 (.tmp 3) rfl rfl rfl (pktA 2 e s (.slice D q f)) (slab_whole _) _ Try.underlying30 rfl (by exact size_pkt) (hKK _ _ ?_); clear hKK KK))
      refine (C.out _ HB.out).mono ?_
      rintro x w2 ⟨rfl, hb⟩
      have HB2 := Lib.hid (HB.out.trans (hb.mono HB.out.size))
      clear HS hb C c0
      go_wp2_with fail
      go_ret
      exact ⟨rfl, SndAt.call ⟨A, n, c, B, m, d, HR.out, HPO.out, HPP.out⟩ HB2.out, Chg.of_below HB2.out⟩
  | true =>
    have hO : opB p = true := by unfold opB; rw [hm, decide_eq_true hk]; rfl
    have hl5 := mayP_len hm
    have HLq : Hid (q ≤ 5) := Lib.hid (by rw [← hq]; exact hl5)
    have C := Lib.hid (fun W hb => CG.out W hb hm)
    have CI := Lib.hid (fun W => is_any S.o.k S.o.e S.o.s (.slice A n c) W)
    have HOK := Lib.hid hO
    clear CE CG hm hl5 hq
    by_cases h0 : S.o.k = 0
    · have hE : sendE S p = 0 := by unfold sendE; rw [HOK.out, if_pos rfl, if_pos h0]
      have hS : sendS S p = ⟨p, S.p, 0, false⟩ := if_pos ⟨HOK.out, h0⟩
      rw [hE, hS]
      rw [decide_eq_false (by simp [h0])] at CI
      clear hE hS h0 hO
      obtain ⟨k, e, s, l⟩ := p
      simp only at hk HPN C ⊢
      have HS := St.nil w noF
      rcases hk with rfl | rfl
      · go_enter Try.func10, Try.ntmps10
        go_upto_region 1 with (first | ((with_reducible refine wpList_plain ?_ ?_); exact rfl; intro KK hKK; refine wp_st_box HS 30 (.tmp 1) rfl _ rfl (pktA 1 e s (.slice D q f)) (rfl) (fun g1 W1 HSx => hKK _ _ ?_); clear hKK KK HS; have HS : St w noF [⟨g1, 30, pktA 1 e s (.slice D q f)⟩] W1 := HSx; clear HSx))
        have c0 : W1.cell? ⟨g1, 0, none⟩ = some (.int .i64 1) := (HS.row 0 rfl).get rfl
        have HB := Lib.hid HS.below
        go_wp2_with (first | ((with_reducible refine wpList_plain ?_ ?_); exact rfl; intro KK hKK; refine wp_st_load HS 0 0 30 (.tmp 3) rfl rfl rfl (pktA 1 e s (.slice D q f)) (slab_whole _) _ Try.underlying30 rfl (by exact size_pkt) (hKK _ _ ?_); clear hKK KK))
        refine (C.out _ HB.out).mono ?_
        rintro x w2 ⟨v2, rfl, _, hb⟩
        have HB2 := Lib.hid (HB.out.trans (hb.mono HB.out.size))
        have HSx := HS.same hb
        clear HS hb C c0
        have HG := st_only (HR.out.call HB2.out)
        go_wp2_with (first | ((with_reducible refine wpList_plain ?_ ?_); exact rfl; intro KK hKK; refine wp_st_load HG 0 0 30 (.tmp 28) rfl rfl rfl (pktA S.o.k S.o.e S.o.s (.slice A n c)) (by exact rfl) _ Try.underlying30 rfl (by exact size_pkt) (hKK _ _ ?_); clear hKK KK))
        refine (CI.out _).mono ?_
        rintro x w3 ⟨rfl, hb⟩
        have HB3 := Lib.hid (HB2.out.trans (hb.mono HB2.out.size))
        have HS := HSx.same hb
        clear HSx HG hb CI
        have CC := copied_any 1 e s D q f l w3 (HPN.out.below HB3.out (Nat.le_refl _)) (by have := HLq.out; omega)
        go_wp2_with (first | ((with_reducible refine wpList_plain ?_ ?_); exact rfl; intro KK hKK; refine wp_st_load HS 0 0 30 (.tmp 3) rfl rfl rfl (pktA 1 e s (.slice D q f)) (slab_whole _) _ Try.underlying30 rfl (by exact size_pkt) (hKK _ _ ?_); clear hKK KK))
        refine CC.mono ?_
        rintro x w4 ⟨D2, q2, f2, rfl, hp2, hb⟩
        have HB4 := Lib.hid (HB3.out.trans (hb.mono HB3.out.size))
        have CR := replace_any g S ⟨1, e, s, l⟩ D2 q2 f2 w4 (SndAt.call ⟨A, n, c, B, m, d, HR.out, HPO.out, HPP.out⟩ HB4.out) hp2
        simp only at CR
        clear HS hb CC hp2
        go_wp2_with fail
        refine CR.mono ?_
        rintro x w5 ⟨rfl, hs5, hc5⟩
        have HAT := Lib.hid hs5
        have HC := Lib.hid ((Chg.of_below (F := (fun k => k = g)) HB4.out).trans hc5 (fun i hi => .inl hi))
        clear CR hs5 hc5
        go_wp2_with fail
        go_ret
        exact ⟨rfl, HAT.out, HC.out⟩
      · go_enter Try.func10, Try.ntmps10
        go_upto_region 1 with (first | ((with_reducible refine wpList_plain ?_ ?_); exact rfl; intro KK hKK; refine wp_st_box HS 30 (.tmp 1) rfl _ rfl (pktA 2 e s (.slice D q f)) (rfl) (fun g1 W1 HSx => hKK _ _ ?_); clear hKK KK HS; have HS : St w noF [⟨g1, 30, pktA 2 e s (.slice D q f)⟩] W1 := HSx; clear HSx))
        have c0 : W1.cell? ⟨g1, 0, none⟩ = some (.int .i64 2) := (HS.row 0 rfl).get rfl
        have HB := Lib.hid HS.below
        go_wp2_with (first | ((with_reducible refine wpList_plain ?_ ?_); exact rfl; intro KK hKK; refine wp_st_load HS 0 0 30 (.tmp 3) rfl rfl rfl (pktA 2 e s (.slice D q f)) (slab_whole _) _ Try.underlying30 rfl (by exact size_pkt) (hKK _ _ ?_); clear hKK KK))
        refine (C.out _ HB.out).mono ?_
        rintro x w2 ⟨v2, rfl, _, hb⟩
        have HB2 := Lib.hid (HB.out.trans (hb.mono HB.out.size))
        have HSx := HS.same hb
        clear HS hb C c0
        have HG := st_only (HR.out.call HB2.out)
        go_wp2_with (first | ((with_reducible refine wpList_plain ?_ ?_); exact rfl; intro KK hKK; refine wp_st_load HG 0 0 30 (.tmp 28) rfl rfl rfl (pktA S.o.k S.o.e S.o.s (.slice A n c)) (by exact rfl) _ Try.underlying30 rfl (by exact size_pkt) (hKK _ _ ?_); clear hKK KK))
        refine (CI.out _).mono ?_
        rintro x w3 ⟨rfl, hb⟩
        have HB3 := Lib.hid (HB2.out.trans (hb.mono HB2.out.size))
        have HS := HSx.same hb
        clear HSx HG hb CI
        have CC := copied_any 2 e s D q f l w3 (HPN.out.below HB3.out (Nat.le_refl _)) (by have := HLq.out; omega)
        go_wp2_with (first | ((with_reducible refine wpList_plain ?_ ?_); exact rfl; intro KK hKK; refine wp_st_load HS 0 0 30 (.tmp 3) rfl rfl rfl (pktA 2 e s (.slice D q f)) (slab_whole _) _ Try.underlying30 rfl (by exact size_pkt) (hKK _ _ ?_); clear hKK KK))
        refine CC.mono ?_
        rintro x w4 ⟨D2, q2, f2, rfl, hp2, hb⟩
        have HB4 := Lib.hid (HB3.out.trans (hb.mono HB3.out.size))
        have CR := replace_any g S ⟨2, e, s, l⟩ D2 q2 f2 w4 (SndAt.call ⟨A, n, c, B, m, d, HR.out, HPO.out, HPP.out⟩ HB4.out) hp2
        simp only at CR
        clear HS hb CC hp2
        go_wp2_with fail
        refine CR.mono ?_
        rintro x w5 ⟨rfl, hs5, hc5⟩
        have HAT := Lib.hid hs5
        have HC := Lib.hid ((Chg.of_below (F := (fun k => k = g)) HB4.out).trans hc5 (fun i hi => .inl hi))
        clear CR hs5 hc5
        go_wp2_with fail
        go_ret
        exact ⟨rfl, HAT.out, HC.out⟩
    · have hE : sendE S p = 19 := by unfold sendE; rw [HOK.out, if_pos rfl, if_neg h0]
      have hS : sendS S p = S := if_neg (fun h => h0 h.2)
      rw [hE, hS]
      rw [decide_eq_true h0] at CI
      clear hE hS h0 hO
      obtain ⟨k, e, s, l⟩ := p
      simp only at hk HPN C ⊢
      have HS := St.nil w noF
      rcases hk with rfl | rfl
      · go_enter Try.func10, Try.ntmps10
        go_upto_region 1 with (first | ((with_reducible refine wpList_plain ?_ ?_); exact rfl; intro KK hKK; refine wp_st_box HS 30 (.tmp 1) rfl _ rfl (pktA 1 e s (.slice D q f)) (rfl) (fun g1 W1 HSx => hKK _ _ ?_); clear hKK KK HS; have HS : St w noF [⟨g1, 30, pktA 1 e s (.slice D q f)⟩] W1 := HSx; clear HSx))
        have c0 : W1.cell? ⟨g1, 0, none⟩ = some (.int .i64 1) := (HS.row 0 rfl).get rfl
        have HB := Lib.hid HS.below
        go_wp2_with (first | ((with_reducible refine wpList_plain ?_ ?_); exact rfl; intro KK hKK; refine wp_st_load HS 0 0 30 (.tmp 3) rfl rfl rfl (pktA 1 e s (.slice D q f)) (slab_whole _) _ Try.underlying30 rfl (by exact size_pkt) (hKK _ _ ?_); clear hKK KK))
        refine (C.out _ HB.out).mono ?_
        rintro x w2 ⟨v2, rfl, _, hb⟩
        have HB2 := Lib.hid (HB.out.trans (hb.mono HB.out.size))
        clear HS hb C c0
        have HG := st_only (HR.out.call HB2.out)
        go_wp2_with (first | ((with_reducible refine wpList_plain ?_ ?_); exact rfl; intro KK hKK; refine wp_st_load HG 0 0 30 (.tmp 28) rfl rfl rfl (pktA S.o.k S.o.e S.o.s (.slice A n c)) (by exact rfl) _ Try.underlying30 rfl (by exact size_pkt) (hKK _ _ ?_); clear hKK KK))
        refine (CI.out _).mono ?_
        rintro x w3 ⟨rfl, hb⟩
        have HB3 := Lib.hid (HB2.out.trans (hb.mono HB2.out.size))
        clear HG hb CI
        go_wp2_with fail
        go_ret
        exact ⟨rfl, SndAt.call ⟨A, n, c, B, m, d, HR.out, HPO.out, HPP.out⟩ HB3.out, Chg.of_below HB3.out⟩
      · go_enter Try.func10, Try.ntmps10
        go_upto_region 1 with (first | ((with_reducible refine wpList_plain ?_ ?_); exact rfl; intro KK hKK; refine wp_st_box HS 30 (.tmp 1) rfl _ rfl (pktA 2 e s (.slice D q f)) (rfl) (fun g1 W1 HSx => hKK _ _ ?_); clear hKK KK HS; have HS : St w noF [⟨g1, 30, pktA 2 e s (.slice D q f)⟩] W1 := HSx; clear HSx))
        have c0 : W1.cell? ⟨g1, 0, none⟩ = some (.int .i64 2) := (HS.row 0 rfl).get rfl
        have HB := Lib.hid HS.below
        go_wp2_with (first | ((with_reducible refine wpList_plain ?_ ?_); exact rfl; intro KK hKK; refine wp_st_load HS 0 0 30 (.tmp 3) rfl rfl rfl (pktA 2 e s (.slice D q f)) (slab_whole _) _ Try.underlying30 rfl (by exact size_pkt) (hKK _ _ ?_); clear hKK KK))
        refine (C.out _ HB.out).mono ?_
        rintro x w2 ⟨v2, rfl, _, hb⟩
        have HB2 := Lib.hid (HB.out.trans (hb.mono HB.out.size))
        clear HS hb C c0
        have HG := st_only (HR.out.call HB2.out)
        go_wp2_with (first | ((with_reducible refine wpList_plain ?_ ?_); exact rfl; intro KK hKK; refine wp_st_load HG 0 0 30 (.tmp 28) rfl rfl rfl (pktA S.o.k S.o.e S.o.s (.slice A n c)) (by exact rfl) _ Try.underlying30 rfl (by exact size_pkt) (hKK _ _ ?_); clear hKK KK))
        refine (CI.out _).mono ?_
        rintro x w3 ⟨rfl, hb⟩
        have HB3 := Lib.hid (HB2.out.trans (hb.mono HB2.out.size))
        clear HG hb CI
        go_wp2_with fail
        go_ret
        exact ⟨rfl, SndAt.call ⟨A, n, c, B, m, d, HR.out, HPO.out, HPP.out⟩ HB3.out, Chg.of_below HB3.out⟩
end Go.Proofs.Ytppbgkdkioldbaa

/- The program's sender: Acked. -/
set_option maxRecDepth 4000
namespace Go.Proofs.Ytppbgkdkioldbaa
open Go Go.RowKit
set_option maxRecDepth 20000 in
set_option maxHeartbeats 3200000 in
theorem acked_any (g : Nat) (S : Snd) (y : Pkt) (v : Value) (w : World) (h : SndAt w g S) :
    Calls Try.prog 17 #[.pointer (some ⟨g, 0, none⟩), .agg (pktA y.k y.e y.s v)] w fun x w' => x = .returned (.tuple #[.bool (ackB S y && S.t), .bool (ackB S y)]) ∧ SndAt w' g (ackS S y) ∧ Chg (fun k => k = g) w w' := by
  obtain ⟨A, n, c, B, m, d, hr, hpo, hpp⟩ := h
  have HR := Lib.hid hr
  have HPO := Lib.hid hpo
  have HPP := Lib.hid hpp
  clear hr hpo hpp
  have CI := Lib.hid (fun W => is_any S.o.k S.o.e S.o.s (.slice A n c) W)
  have HS := St.nil w noF
  by_cases h0 : S.o.k = 0
  · have hB : ackB S y = false := by unfold ackB; rw [decide_eq_false (p := S.o.k ≠ 0) (by simp [h0])]; simp
    have hS : ackS S y = S := by unfold ackS; rw [hB]; exact if_neg (fun h => by cases h)
    rw [hB, hS]
    clear hB hS
    rw [decide_eq_false (by simp [h0])] at CI
    clear h0
    go_enter Try.func17, Try.ntmps17
    go_upto_region 1 with (first | ((with_reducible refine wpList_plain ?_ ?_); exact rfl; intro KK hKK; refine wp_st_box HS 30 (.tmp 1) rfl _ rfl (pktA y.k y.e y.s v) (rfl) (fun g1 W1 HSx => hKK _ _ ?_); clear hKK KK HS; have HS : St w noF [⟨g1, 30, pktA y.k y.e y.s v⟩] W1 := HSx; clear HSx))
    have hF0 : Wl [(fun W => St w noF [⟨g1, 30, pktA y.k y.e y.s v⟩] W ∧ Row W g 32 (sndC S.o S.p (.slice A n c) (.slice B m d) S.n S.t))] 0 (World.drew _) := ⟨HS.same (Below.refl _ _).drew, (HR.out.call HS.below).call (Below.refl _ _).drew⟩
    clear HS
    refine wp_region_phs [is (.pointer (some ⟨g, 0, none⟩)), is (.bool false), is (.bool false), is (.pointer (some ⟨g, 0, none⟩)), is (.pointer (some ⟨g, 0, none⟩)), is (.pointer (some ⟨g, 0, none⟩)), is (.agg (pktA S.o.k S.o.e S.o.s (.slice A n c))), is (.bool false), is (.bool true), is (.bool true), is (.bool true), is undef, is undef, is undef, is (.bool true), is (.bool true), is undef, is undef, is undef, is undef, is undef, is undef, is undef, is undef, is (.bool true), is (.bool true), is undef, is undef, is undef, is undef, is undef, is undef, is undef, is undef, is (.bool true)] [true, true, true, true, true, true, true, true, true, true, true, true, true, true, true, true, true, true, true, true, true, true, true, true, true, true, true, true, true, true, true, true, true, true, true] [(fun W => St w noF [⟨g1, 30, pktA y.k y.e y.s v⟩] W ∧ Row W g 32 (sndC S.o S.p (.slice A n c) (.slice B m d) S.n S.t))] [false, false, false, false, false, false, false, false, false, false, false, false, false, false, false, false, false, false, false, false, false, false, false, false, false, false, false, false, false, false, false, false, false, false, false] [some 0, some 0, some 0, some 0, some 0, some 0, some 0, some 0, some 0, some 0, some 0, some 0, some 0, some 0, some 0, some 0, some 0, some 0, some 0, some 0, some 0, some 0, some 0, some 0, some 0, some 0, some 0, some 0, some 0, some 0, some 0, some 0, some 0, some 0, some 0] [some 6, some 7, some 8, some 9, some 10, some 11, some 12, some 13, some 14, some 15, some 16, some 17, some 18, some 19, some 20, some 21, some 22, some 23, some 24, some 25, some 26, some 27, some 28, some 29, some 30, some 31, some 32, some 33, some 34, some 35, some 36, some 37, some 38, some 39, some 40] 35 0 (fun i => !([11, 12, 13, 16, 17, 18, 19, 20, 21, 22, 23, 26, 27, 28, 29, 30, 31, 32, 33] : List Nat).contains i) rfl rfl (by kernel_rfl) (by kernel_rfl) (by kernel_rfl) (by kernel_rfl) ?_ ?_ ?_ ?_ ?_ ?_
    · repeat first | exact wok_nil | refine wok_cons (by first | exact fun _ _ h k => ⟨h.1.same k, h.2.call k⟩) ?_
    · repeat first | exact vok_nil | refine vok_rig (by first | exact fun _ _ _ h => h) ?_ | refine vok_soft (by first | exact fun _ _ _ h _ => h) ?_
    · exact hF0
    · repeat first | exact all_end (by decide) | refine all_cons (by first | exact rfl | exact ⟨rfl, fun _ _ h => Or.inl h⟩ | exact ⟨rfl, fun _ _ h => Or.inr ⟨h, rfl⟩⟩) ?_
    · refine allp_mild 0 rfl rfl rfl (fun a x_ W hout hin hP => ?_) ?_
      · have e0 : a.tmps[0]? = some (.pointer (some ⟨g, 0, none⟩)) := (hout 0 (by kernel_rfl)).trans rfl
        exact does_move rfl e0 ⟨Same.refl _, rfl⟩
      refine allp_mild 0 rfl rfl rfl (fun a x_ W hout hin hP => ?_) ?_
      · have e6 := hin.is 0 6 (by kernel_rfl) (by decide) (by kernel_rfl) (by kernel_rfl) _ rfl
        clear hP
        clear hin hout
        intro K Q hK
        go_simp
        exact hK _ _ ⟨Same.refl _, rfl⟩
      refine allp_mild 0 rfl rfl rfl (fun a x_ W hout hin hP => ?_) ?_
      · have e7 := hin.is 1 7 (by kernel_rfl) (by decide) (by kernel_rfl) (by kernel_rfl) _ rfl
        exact does_move rfl e7 ⟨Same.refl _, rfl⟩
      refine allp_mild 0 rfl rfl rfl (fun a x_ W hout hin hP => ?_) ?_
      · have e0 : a.tmps[0]? = some (.pointer (some ⟨g, 0, none⟩)) := (hout 0 (by kernel_rfl)).trans rfl
        exact does_move rfl e0 ⟨Same.refl _, rfl⟩
      refine allp_mild 0 rfl rfl rfl (fun a x_ W hout hin hP => ?_) ?_
      · have e9 := hin.is 3 9 (by kernel_rfl) (by decide) (by kernel_rfl) (by kernel_rfl) _ rfl
        clear hP
        clear hin hout
        intro K Q hK
        go_simp
        exact hK _ _ ⟨Same.refl _, rfl⟩
      refine allp_mild 0 rfl rfl rfl (fun a x_ W hout hin hP => ?_) ?_
      · have e10 := hin.is 4 10 (by kernel_rfl) (by decide) (by kernel_rfl) (by kernel_rfl) _ rfl
        clear hP
        clear hin hout
        intro K Q hK
        go_simp
        exact hK _ _ ⟨Same.refl _, rfl⟩
      refine allp_mild 0 rfl rfl rfl (fun a x_ W hout hin hP => ?_) ?_
      · have e11 := hin.is 5 11 (by kernel_rfl) (by decide) (by kernel_rfl) (by kernel_rfl) _ rfl
        clear hin hout
        intro K Q hK
        refine wp_load_mid 30 (.tmp 11) rfl g 0 (eval_of_get e11) (pktA S.o.k S.o.e S.o.s (.slice A n c)).toList _ (hP.2.slab 0 _ rfl) Try.underlying30 rfl (by exact size_pkt) (hK _ _ ⟨Same.refl _, rfl⟩)
      refine allp_mild 0 rfl rfl rfl (fun a x_ W hout hin hP => ?_) ?_
      · have e12 := hin.is 6 12 (by kernel_rfl) (by decide) (by kernel_rfl) (by kernel_rfl) _ rfl
        have C := CI.out W
        clear hP
        clear hin hout
        intro K Q hK
        go_simp
        refine C.mono ?_
        rintro e W' ⟨rfl, hb⟩
        exact hK _ _ ⟨hb, rfl⟩
      refine allp_mild 0 rfl rfl rfl (fun a x_ W hout hin hP => ?_) ?_
      · have e13 := hin.is 7 13 (by kernel_rfl) (by decide) (by kernel_rfl) (by kernel_rfl) _ rfl
        exact does_not rfl e13 ⟨Same.refl _, rfl⟩
      refine allp_mild 0 rfl rfl rfl (fun a x_ W hout hin hP => ?_) ?_
      · have e8 := hin.is 2 8 (by kernel_rfl) (by decide) (by kernel_rfl) (by kernel_rfl) _ rfl
        have e14 := hin.is 8 14 (by kernel_rfl) (by decide) (by kernel_rfl) (by kernel_rfl) _ rfl
        exact does_pick rfl e8 ⟨Same.refl _, eval_of_get e14⟩
      refine allp_mild 0 rfl rfl rfl (fun a x_ W hout hin hP => ?_) ?_
      · have e15 := hin.is 9 15 (by kernel_rfl) (by decide) (by kernel_rfl) (by kernel_rfl) _ rfl
        exact does_move rfl e15 ⟨Same.refl _, rfl⟩
      refine allp_skip rfl rfl (fun _ => rfl) ?_
      refine allp_skip rfl rfl (fun _ => rfl) ?_
      refine allp_skip rfl rfl (fun _ => rfl) ?_
      refine allp_mild 0 rfl rfl rfl (fun a x_ W hout hin hP => ?_) ?_
      · have e16 := hin.is 10 16 (by kernel_rfl) (by decide) (by kernel_rfl) (by kernel_rfl) _ rfl
        have e19 := hin.is 13 19 (by kernel_rfl) (by decide) (by kernel_rfl) (by kernel_rfl) _ rfl
        exact does_pick rfl e16 ⟨Same.refl _, rfl⟩
      refine allp_mild 0 rfl rfl rfl (fun a x_ W hout hin hP => ?_) ?_
      · have e20 := hin.is 14 20 (by kernel_rfl) (by decide) (by kernel_rfl) (by kernel_rfl) _ rfl
        exact does_move rfl e20 ⟨Same.refl _, rfl⟩
      refine allp_skip rfl rfl (fun _ => rfl) ?_
      refine allp_skip rfl rfl (fun _ => rfl) ?_
      refine allp_skip rfl rfl (fun _ => rfl) ?_
      refine allp_skip rfl rfl (fun _ => rfl) ?_
      refine allp_skip rfl rfl (fun _ => rfl) ?_
      refine allp_skip rfl rfl (fun _ => rfl) ?_
      refine allp_skip rfl rfl (fun _ => rfl) ?_
      refine allp_skip rfl rfl (fun _ => rfl) ?_
      refine allp_mild 0 rfl rfl rfl (fun a x_ W hout hin hP => ?_) ?_
      · have e21 := hin.is 15 21 (by kernel_rfl) (by decide) (by kernel_rfl) (by kernel_rfl) _ rfl
        have e29 := hin.is 23 29 (by kernel_rfl) (by decide) (by kernel_rfl) (by kernel_rfl) _ rfl
        exact does_pick rfl e21 ⟨Same.refl _, rfl⟩
      refine allp_mild 0 rfl rfl rfl (fun a x_ W hout hin hP => ?_) ?_
      · have e30 := hin.is 24 30 (by kernel_rfl) (by decide) (by kernel_rfl) (by kernel_rfl) _ rfl
        exact does_move rfl e30 ⟨Same.refl _, rfl⟩
      refine allp_skip rfl rfl (fun _ => rfl) ?_
      refine allp_skip rfl rfl (fun _ => rfl) ?_
      refine allp_skip rfl rfl (fun _ => rfl) ?_
      refine allp_skip rfl rfl (fun _ => rfl) ?_
      refine allp_skip rfl rfl (fun _ => rfl) ?_
      refine allp_skip rfl rfl (fun _ => rfl) ?_
      refine allp_skip rfl rfl (fun _ => rfl) ?_
      refine allp_skip rfl rfl (fun _ => rfl) ?_
      refine allp_mild 0 rfl rfl rfl (fun a x_ W hout hin hP => ?_) ?_
      · have e31 := hin.is 25 31 (by kernel_rfl) (by decide) (by kernel_rfl) (by kernel_rfl) _ rfl
        have e39 := hin.is 33 39 (by kernel_rfl) (by decide) (by kernel_rfl) (by kernel_rfl) _ rfl
        exact does_pick rfl e31 ⟨Same.refl _, rfl⟩
      exact all_end (by decide)
    · intro x_ W hP hV
      have h34 : x_ 34 = .bool true := hV 34 (by decide) (.inl (by kernel_rfl))
      have HST := Lib.hid hP.1
      have HRW := Lib.hid hP.2
      clear hP hV
      simp only [putL, Act.put, List.setIfInBounds_toArray, List.set_cons_succ, List.set_cons_zero, h34]
      refine wpAnyH_done (by kernel_rfl) ?_ _
      clear h34
      go_wp2_with fail
      go_ret2
      exact ⟨rfl, SndAt.call ⟨A, n, c, B, m, d, HR.out, HPO.out, HPP.out⟩ HST.out.below, Chg.of_below HST.out.below⟩
  rw [decide_eq_true h0] at CI
  by_cases h1 : y.k = 3
  case neg =>
    have hB : ackB S y = false := by unfold ackB; rw [decide_eq_false h1]; simp
    have hS : ackS S y = S := by unfold ackS; rw [hB]; exact if_neg (fun h => by cases h)
    rw [hB, hS]
    clear hB hS
    have HQK : Hid ((y.k != 3) = true) := Lib.hid (bne_iff_ne.2 h1)
    clear h0 h1
    go_enter Try.func17, Try.ntmps17
    go_upto_region 1 with (first | ((with_reducible refine wpList_plain ?_ ?_); exact rfl; intro KK hKK; refine wp_st_box HS 30 (.tmp 1) rfl _ rfl (pktA y.k y.e y.s v) (rfl) (fun g1 W1 HSx => hKK _ _ ?_); clear hKK KK HS; have HS : St w noF [⟨g1, 30, pktA y.k y.e y.s v⟩] W1 := HSx; clear HSx))
    have hF0 : Wl [(fun W => St w noF [⟨g1, 30, pktA y.k y.e y.s v⟩] W ∧ Row W g 32 (sndC S.o S.p (.slice A n c) (.slice B m d) S.n S.t))] 0 (World.drew _) := ⟨HS.same (Below.refl _ _).drew, (HR.out.call HS.below).call (Below.refl _ _).drew⟩
    clear HS
    refine wp_region_phs [is (.pointer (some ⟨g, 0, none⟩)), is (.bool false), is (.bool false), is (.pointer (some ⟨g, 0, none⟩)), is (.pointer (some ⟨g, 0, none⟩)), is (.pointer (some ⟨g, 0, none⟩)), is (.agg (pktA S.o.k S.o.e S.o.s (.slice A n c))), is (.bool true), is (.bool false), is (.bool false), is (.bool false), is (.pointer (some ⟨g1, 0, none⟩)), is (.int .i64 y.k), is (.bool true), is (.bool true), is (.bool true), is undef, is undef, is undef, is undef, is undef, is undef, is undef, is undef, is (.bool true), is (.bool true), is undef, is undef, is undef, is undef, is undef, is undef, is undef, is undef, is (.bool true)] [true, true, true, true, true, true, true, true, true, true, true, true, true, true, true, true, true, true, true, true, true, true, true, true, true, true, true, true, true, true, true, true, true, true, true] [(fun W => St w noF [⟨g1, 30, pktA y.k y.e y.s v⟩] W ∧ Row W g 32 (sndC S.o S.p (.slice A n c) (.slice B m d) S.n S.t))] [false, false, false, false, false, false, false, false, false, false, false, false, false, false, false, false, false, false, false, false, false, false, false, false, false, false, false, false, false, false, false, false, false, false, false] [some 0, some 0, some 0, some 0, some 0, some 0, some 0, some 0, some 0, some 0, some 0, some 0, some 0, some 0, some 0, some 0, some 0, some 0, some 0, some 0, some 0, some 0, some 0, some 0, some 0, some 0, some 0, some 0, some 0, some 0, some 0, some 0, some 0, some 0, some 0] [some 6, some 7, some 8, some 9, some 10, some 11, some 12, some 13, some 14, some 15, some 16, some 17, some 18, some 19, some 20, some 21, some 22, some 23, some 24, some 25, some 26, some 27, some 28, some 29, some 30, some 31, some 32, some 33, some 34, some 35, some 36, some 37, some 38, some 39, some 40] 35 0 (fun i => !([16, 17, 18, 19, 20, 21, 22, 23, 26, 27, 28, 29, 30, 31, 32, 33] : List Nat).contains i) rfl rfl (by kernel_rfl) (by kernel_rfl) (by kernel_rfl) (by kernel_rfl) ?_ ?_ ?_ ?_ ?_ ?_
    · repeat first | exact wok_nil | refine wok_cons (by first | exact fun _ _ h k => ⟨h.1.same k, h.2.call k⟩) ?_
    · repeat first | exact vok_nil | refine vok_rig (by first | exact fun _ _ _ h => h) ?_ | refine vok_soft (by first | exact fun _ _ _ h _ => h) ?_
    · exact hF0
    · repeat first | exact all_end (by decide) | refine all_cons (by first | exact rfl | exact ⟨rfl, fun _ _ h => Or.inl h⟩ | exact ⟨rfl, fun _ _ h => Or.inr ⟨h, rfl⟩⟩) ?_
    · refine allp_mild 0 rfl rfl rfl (fun a x_ W hout hin hP => ?_) ?_
      · have e0 : a.tmps[0]? = some (.pointer (some ⟨g, 0, none⟩)) := (hout 0 (by kernel_rfl)).trans rfl
        exact does_move rfl e0 ⟨Same.refl _, rfl⟩
      refine allp_mild 0 rfl rfl rfl (fun a x_ W hout hin hP => ?_) ?_
      · have e6 := hin.is 0 6 (by kernel_rfl) (by decide) (by kernel_rfl) (by kernel_rfl) _ rfl
        clear hP
        clear hin hout
        intro K Q hK
        go_simp
        exact hK _ _ ⟨Same.refl _, rfl⟩
      refine allp_mild 0 rfl rfl rfl (fun a x_ W hout hin hP => ?_) ?_
      · have e7 := hin.is 1 7 (by kernel_rfl) (by decide) (by kernel_rfl) (by kernel_rfl) _ rfl
        exact does_move rfl e7 ⟨Same.refl _, rfl⟩
      refine allp_mild 0 rfl rfl rfl (fun a x_ W hout hin hP => ?_) ?_
      · have e0 : a.tmps[0]? = some (.pointer (some ⟨g, 0, none⟩)) := (hout 0 (by kernel_rfl)).trans rfl
        exact does_move rfl e0 ⟨Same.refl _, rfl⟩
      refine allp_mild 0 rfl rfl rfl (fun a x_ W hout hin hP => ?_) ?_
      · have e9 := hin.is 3 9 (by kernel_rfl) (by decide) (by kernel_rfl) (by kernel_rfl) _ rfl
        clear hP
        clear hin hout
        intro K Q hK
        go_simp
        exact hK _ _ ⟨Same.refl _, rfl⟩
      refine allp_mild 0 rfl rfl rfl (fun a x_ W hout hin hP => ?_) ?_
      · have e10 := hin.is 4 10 (by kernel_rfl) (by decide) (by kernel_rfl) (by kernel_rfl) _ rfl
        clear hP
        clear hin hout
        intro K Q hK
        go_simp
        exact hK _ _ ⟨Same.refl _, rfl⟩
      refine allp_mild 0 rfl rfl rfl (fun a x_ W hout hin hP => ?_) ?_
      · have e11 := hin.is 5 11 (by kernel_rfl) (by decide) (by kernel_rfl) (by kernel_rfl) _ rfl
        clear hin hout
        intro K Q hK
        refine wp_load_mid 30 (.tmp 11) rfl g 0 (eval_of_get e11) (pktA S.o.k S.o.e S.o.s (.slice A n c)).toList _ (hP.2.slab 0 _ rfl) Try.underlying30 rfl (by exact size_pkt) (hK _ _ ⟨Same.refl _, rfl⟩)
      refine allp_mild 0 rfl rfl rfl (fun a x_ W hout hin hP => ?_) ?_
      · have e12 := hin.is 6 12 (by kernel_rfl) (by decide) (by kernel_rfl) (by kernel_rfl) _ rfl
        have C := CI.out W
        clear hP
        clear hin hout
        intro K Q hK
        go_simp
        refine C.mono ?_
        rintro e W' ⟨rfl, hb⟩
        exact hK _ _ ⟨hb, rfl⟩
      refine allp_mild 0 rfl rfl rfl (fun a x_ W hout hin hP => ?_) ?_
      · have e13 := hin.is 7 13 (by kernel_rfl) (by decide) (by kernel_rfl) (by kernel_rfl) _ rfl
        exact does_not rfl e13 ⟨Same.refl _, rfl⟩
      refine allp_mild 0 rfl rfl rfl (fun a x_ W hout hin hP => ?_) ?_
      · have e8 := hin.is 2 8 (by kernel_rfl) (by decide) (by kernel_rfl) (by kernel_rfl) _ rfl
        have e14 := hin.is 8 14 (by kernel_rfl) (by decide) (by kernel_rfl) (by kernel_rfl) _ rfl
        exact does_pick rfl e8 ⟨Same.refl _, eval_of_get e14⟩
      refine allp_mild 0 rfl rfl rfl (fun a x_ W hout hin hP => ?_) ?_
      · have e15 := hin.is 9 15 (by kernel_rfl) (by decide) (by kernel_rfl) (by kernel_rfl) _ rfl
        exact does_move rfl e15 ⟨Same.refl _, rfl⟩
      refine allp_mild 0 rfl rfl rfl (fun a x_ W hout hin hP => ?_) ?_
      · have e3 : a.tmps[3]? = some (.pointer (some ⟨g1, 0, none⟩)) := (hout 3 (by kernel_rfl)).trans rfl
        clear hP
        clear hin hout
        intro K Q hK
        go_simp
        exact hK _ _ ⟨Same.refl _, rfl⟩
      refine allp_mild 0 rfl rfl rfl (fun a x_ W hout hin hP => ?_) ?_
      · have e17 := hin.is 11 17 (by kernel_rfl) (by decide) (by kernel_rfl) (by kernel_rfl) _ rfl
        have hc : W.cell? ⟨g1, 0, none⟩ = some (.int .i64 y.k) := (hP.1.row 0 rfl).get rfl
        clear hP
        clear hin hout
        intro K Q hK
        go_simp
        exact hK _ _ ⟨Same.refl _, rfl⟩
      refine allp_mild 0 rfl rfl rfl (fun a x_ W hout hin hP => ?_) ?_
      · have e18 := hin.is 12 18 (by kernel_rfl) (by decide) (by kernel_rfl) (by kernel_rfl) _ rfl
        have hq := HQK.out
        clear hP
        clear hin hout
        intro K Q hK
        go_simp
        exact hK _ _ ⟨Same.refl _, rfl⟩
      refine allp_mild 0 rfl rfl rfl (fun a x_ W hout hin hP => ?_) ?_
      · have e16 := hin.is 10 16 (by kernel_rfl) (by decide) (by kernel_rfl) (by kernel_rfl) _ rfl
        have e19 := hin.is 13 19 (by kernel_rfl) (by decide) (by kernel_rfl) (by kernel_rfl) _ rfl
        exact does_pick rfl e16 ⟨Same.refl _, eval_of_get e19⟩
      refine allp_mild 0 rfl rfl rfl (fun a x_ W hout hin hP => ?_) ?_
      · have e20 := hin.is 14 20 (by kernel_rfl) (by decide) (by kernel_rfl) (by kernel_rfl) _ rfl
        exact does_move rfl e20 ⟨Same.refl _, rfl⟩
      refine allp_skip rfl rfl (fun _ => rfl) ?_
      refine allp_skip rfl rfl (fun _ => rfl) ?_
      refine allp_skip rfl rfl (fun _ => rfl) ?_
      refine allp_skip rfl rfl (fun _ => rfl) ?_
      refine allp_skip rfl rfl (fun _ => rfl) ?_
      refine allp_skip rfl rfl (fun _ => rfl) ?_
      refine allp_skip rfl rfl (fun _ => rfl) ?_
      refine allp_skip rfl rfl (fun _ => rfl) ?_
      refine allp_mild 0 rfl rfl rfl (fun a x_ W hout hin hP => ?_) ?_
      · have e21 := hin.is 15 21 (by kernel_rfl) (by decide) (by kernel_rfl) (by kernel_rfl) _ rfl
        have e29 := hin.is 23 29 (by kernel_rfl) (by decide) (by kernel_rfl) (by kernel_rfl) _ rfl
        exact does_pick rfl e21 ⟨Same.refl _, rfl⟩
      refine allp_mild 0 rfl rfl rfl (fun a x_ W hout hin hP => ?_) ?_
      · have e30 := hin.is 24 30 (by kernel_rfl) (by decide) (by kernel_rfl) (by kernel_rfl) _ rfl
        exact does_move rfl e30 ⟨Same.refl _, rfl⟩
      refine allp_skip rfl rfl (fun _ => rfl) ?_
      refine allp_skip rfl rfl (fun _ => rfl) ?_
      refine allp_skip rfl rfl (fun _ => rfl) ?_
      refine allp_skip rfl rfl (fun _ => rfl) ?_
      refine allp_skip rfl rfl (fun _ => rfl) ?_
      refine allp_skip rfl rfl (fun _ => rfl) ?_
      refine allp_skip rfl rfl (fun _ => rfl) ?_
      refine allp_skip rfl rfl (fun _ => rfl) ?_
      refine allp_mild 0 rfl rfl rfl (fun a x_ W hout hin hP => ?_) ?_
      · have e31 := hin.is 25 31 (by kernel_rfl) (by decide) (by kernel_rfl) (by kernel_rfl) _ rfl
        have e39 := hin.is 33 39 (by kernel_rfl) (by decide) (by kernel_rfl) (by kernel_rfl) _ rfl
        exact does_pick rfl e31 ⟨Same.refl _, rfl⟩
      exact all_end (by decide)
    · intro x_ W hP hV
      have h34 : x_ 34 = .bool true := hV 34 (by decide) (.inl (by kernel_rfl))
      have HST := Lib.hid hP.1
      have HRW := Lib.hid hP.2
      clear hP hV
      simp only [putL, Act.put, List.setIfInBounds_toArray, List.set_cons_succ, List.set_cons_zero, h34]
      refine wpAnyH_done (by kernel_rfl) ?_ _
      clear h34
      go_wp2_with fail
      go_ret2
      exact ⟨rfl, SndAt.call ⟨A, n, c, B, m, d, HR.out, HPO.out, HPP.out⟩ HST.out.below, Chg.of_below HST.out.below⟩
  have HQK : Hid (y.k = 3) := Lib.hid h1
  by_cases h2 : y.e = S.o.e
  case neg =>
    have hB : ackB S y = false := by unfold ackB; rw [decide_eq_false h2]; simp
    have hS : ackS S y = S := by unfold ackS; rw [hB]; exact if_neg (fun h => by cases h)
    rw [hB, hS]
    clear hB hS
    have HQE : Hid ((wd y.e != wd S.o.e) = true) := Lib.hid (bne_iff_ne.2 fun h => h2 (wd_inj h))
    clear h0 h1 h2
    go_enter Try.func17, Try.ntmps17
    go_upto_region 1 with (first | ((with_reducible refine wpList_plain ?_ ?_); exact rfl; intro KK hKK; refine wp_st_box HS 30 (.tmp 1) rfl _ rfl (pktA y.k y.e y.s v) (rfl) (fun g1 W1 HSx => hKK _ _ ?_); clear hKK KK HS; have HS : St w noF [⟨g1, 30, pktA y.k y.e y.s v⟩] W1 := HSx; clear HSx))
    have hF0 : Wl [(fun W => St w noF [⟨g1, 30, pktA y.k y.e y.s v⟩] W ∧ Row W g 32 (sndC S.o S.p (.slice A n c) (.slice B m d) S.n S.t))] 0 (World.drew _) := ⟨HS.same (Below.refl _ _).drew, (HR.out.call HS.below).call (Below.refl _ _).drew⟩
    clear HS
    refine wp_region_phs [is (.pointer (some ⟨g, 0, none⟩)), is (.bool false), is (.bool false), is (.pointer (some ⟨g, 0, none⟩)), is (.pointer (some ⟨g, 0, none⟩)), is (.pointer (some ⟨g, 0, none⟩)), is (.agg (pktA S.o.k S.o.e S.o.s (.slice A n c))), is (.bool true), is (.bool false), is (.bool false), is (.bool false), is (.pointer (some ⟨g1, 0, none⟩)), is (.int .i64 y.k), is (.bool false), is (.bool false), is (.bool false), is (.pointer (some ⟨g1, 1, none⟩)), is (.int .u32 (wd y.e)), is (.pointer (some ⟨g, 0, none⟩)), is (.pointer (some ⟨g, 0, none⟩)), is (.pointer (some ⟨g, 0, none⟩)), is (.pointer (some ⟨g, 1, none⟩)), is (.int .u32 (wd S.o.e)), is (.bool true), is (.bool true), is (.bool true), is undef, is undef, is undef, is undef, is undef, is undef, is undef, is undef, is (.bool true)] [true, true, true, true, true, true, true, true, true, true, true, true, true, true, true, true, true, true, true, true, true, true, true, true, true, true, true, true, true, true, true, true, true, true, true] [(fun W => St w noF [⟨g1, 30, pktA y.k y.e y.s v⟩] W ∧ Row W g 32 (sndC S.o S.p (.slice A n c) (.slice B m d) S.n S.t))] [false, false, false, false, false, false, false, false, false, false, false, false, false, false, false, false, false, false, false, false, false, false, false, false, false, false, false, false, false, false, false, false, false, false, false] [some 0, some 0, some 0, some 0, some 0, some 0, some 0, some 0, some 0, some 0, some 0, some 0, some 0, some 0, some 0, some 0, some 0, some 0, some 0, some 0, some 0, some 0, some 0, some 0, some 0, some 0, some 0, some 0, some 0, some 0, some 0, some 0, some 0, some 0, some 0] [some 6, some 7, some 8, some 9, some 10, some 11, some 12, some 13, some 14, some 15, some 16, some 17, some 18, some 19, some 20, some 21, some 22, some 23, some 24, some 25, some 26, some 27, some 28, some 29, some 30, some 31, some 32, some 33, some 34, some 35, some 36, some 37, some 38, some 39, some 40] 35 0 (fun i => !([26, 27, 28, 29, 30, 31, 32, 33] : List Nat).contains i) rfl rfl (by kernel_rfl) (by kernel_rfl) (by kernel_rfl) (by kernel_rfl) ?_ ?_ ?_ ?_ ?_ ?_
    · repeat first | exact wok_nil | refine wok_cons (by first | exact fun _ _ h k => ⟨h.1.same k, h.2.call k⟩) ?_
    · repeat first | exact vok_nil | refine vok_rig (by first | exact fun _ _ _ h => h) ?_ | refine vok_soft (by first | exact fun _ _ _ h _ => h) ?_
    · exact hF0
    · repeat first | exact all_end (by decide) | refine all_cons (by first | exact rfl | exact ⟨rfl, fun _ _ h => Or.inl h⟩ | exact ⟨rfl, fun _ _ h => Or.inr ⟨h, rfl⟩⟩) ?_
    · refine allp_mild 0 rfl rfl rfl (fun a x_ W hout hin hP => ?_) ?_
      · have e0 : a.tmps[0]? = some (.pointer (some ⟨g, 0, none⟩)) := (hout 0 (by kernel_rfl)).trans rfl
        exact does_move rfl e0 ⟨Same.refl _, rfl⟩
      refine allp_mild 0 rfl rfl rfl (fun a x_ W hout hin hP => ?_) ?_
      · have e6 := hin.is 0 6 (by kernel_rfl) (by decide) (by kernel_rfl) (by kernel_rfl) _ rfl
        clear hP
        clear hin hout
        intro K Q hK
        go_simp
        exact hK _ _ ⟨Same.refl _, rfl⟩
      refine allp_mild 0 rfl rfl rfl (fun a x_ W hout hin hP => ?_) ?_
      · have e7 := hin.is 1 7 (by kernel_rfl) (by decide) (by kernel_rfl) (by kernel_rfl) _ rfl
        exact does_move rfl e7 ⟨Same.refl _, rfl⟩
      refine allp_mild 0 rfl rfl rfl (fun a x_ W hout hin hP => ?_) ?_
      · have e0 : a.tmps[0]? = some (.pointer (some ⟨g, 0, none⟩)) := (hout 0 (by kernel_rfl)).trans rfl
        exact does_move rfl e0 ⟨Same.refl _, rfl⟩
      refine allp_mild 0 rfl rfl rfl (fun a x_ W hout hin hP => ?_) ?_
      · have e9 := hin.is 3 9 (by kernel_rfl) (by decide) (by kernel_rfl) (by kernel_rfl) _ rfl
        clear hP
        clear hin hout
        intro K Q hK
        go_simp
        exact hK _ _ ⟨Same.refl _, rfl⟩
      refine allp_mild 0 rfl rfl rfl (fun a x_ W hout hin hP => ?_) ?_
      · have e10 := hin.is 4 10 (by kernel_rfl) (by decide) (by kernel_rfl) (by kernel_rfl) _ rfl
        clear hP
        clear hin hout
        intro K Q hK
        go_simp
        exact hK _ _ ⟨Same.refl _, rfl⟩
      refine allp_mild 0 rfl rfl rfl (fun a x_ W hout hin hP => ?_) ?_
      · have e11 := hin.is 5 11 (by kernel_rfl) (by decide) (by kernel_rfl) (by kernel_rfl) _ rfl
        clear hin hout
        intro K Q hK
        refine wp_load_mid 30 (.tmp 11) rfl g 0 (eval_of_get e11) (pktA S.o.k S.o.e S.o.s (.slice A n c)).toList _ (hP.2.slab 0 _ rfl) Try.underlying30 rfl (by exact size_pkt) (hK _ _ ⟨Same.refl _, rfl⟩)
      refine allp_mild 0 rfl rfl rfl (fun a x_ W hout hin hP => ?_) ?_
      · have e12 := hin.is 6 12 (by kernel_rfl) (by decide) (by kernel_rfl) (by kernel_rfl) _ rfl
        have C := CI.out W
        clear hP
        clear hin hout
        intro K Q hK
        go_simp
        refine C.mono ?_
        rintro e W' ⟨rfl, hb⟩
        exact hK _ _ ⟨hb, rfl⟩
      refine allp_mild 0 rfl rfl rfl (fun a x_ W hout hin hP => ?_) ?_
      · have e13 := hin.is 7 13 (by kernel_rfl) (by decide) (by kernel_rfl) (by kernel_rfl) _ rfl
        exact does_not rfl e13 ⟨Same.refl _, rfl⟩
      refine allp_mild 0 rfl rfl rfl (fun a x_ W hout hin hP => ?_) ?_
      · have e8 := hin.is 2 8 (by kernel_rfl) (by decide) (by kernel_rfl) (by kernel_rfl) _ rfl
        have e14 := hin.is 8 14 (by kernel_rfl) (by decide) (by kernel_rfl) (by kernel_rfl) _ rfl
        exact does_pick rfl e8 ⟨Same.refl _, eval_of_get e14⟩
      refine allp_mild 0 rfl rfl rfl (fun a x_ W hout hin hP => ?_) ?_
      · have e15 := hin.is 9 15 (by kernel_rfl) (by decide) (by kernel_rfl) (by kernel_rfl) _ rfl
        exact does_move rfl e15 ⟨Same.refl _, rfl⟩
      refine allp_mild 0 rfl rfl rfl (fun a x_ W hout hin hP => ?_) ?_
      · have e3 : a.tmps[3]? = some (.pointer (some ⟨g1, 0, none⟩)) := (hout 3 (by kernel_rfl)).trans rfl
        clear hP
        clear hin hout
        intro K Q hK
        go_simp
        exact hK _ _ ⟨Same.refl _, rfl⟩
      refine allp_mild 0 rfl rfl rfl (fun a x_ W hout hin hP => ?_) ?_
      · have e17 := hin.is 11 17 (by kernel_rfl) (by decide) (by kernel_rfl) (by kernel_rfl) _ rfl
        have hc : W.cell? ⟨g1, 0, none⟩ = some (.int .i64 y.k) := (hP.1.row 0 rfl).get rfl
        clear hP
        clear hin hout
        intro K Q hK
        go_simp
        exact hK _ _ ⟨Same.refl _, rfl⟩
      refine allp_mild 0 rfl rfl rfl (fun a x_ W hout hin hP => ?_) ?_
      · have e18 := hin.is 12 18 (by kernel_rfl) (by decide) (by kernel_rfl) (by kernel_rfl) _ rfl
        have hq := HQK.out
        clear hP
        clear hin hout
        intro K Q hK
        go_simp
        exact hK _ _ ⟨Same.refl _, rfl⟩
      refine allp_mild 0 rfl rfl rfl (fun a x_ W hout hin hP => ?_) ?_
      · have e16 := hin.is 10 16 (by kernel_rfl) (by decide) (by kernel_rfl) (by kernel_rfl) _ rfl
        have e19 := hin.is 13 19 (by kernel_rfl) (by decide) (by kernel_rfl) (by kernel_rfl) _ rfl
        exact does_pick rfl e16 ⟨Same.refl _, eval_of_get e19⟩
      refine allp_mild 0 rfl rfl rfl (fun a x_ W hout hin hP => ?_) ?_
      · have e20 := hin.is 14 20 (by kernel_rfl) (by decide) (by kernel_rfl) (by kernel_rfl) _ rfl
        exact does_move rfl e20 ⟨Same.refl _, rfl⟩
      refine allp_mild 0 rfl rfl rfl (fun a x_ W hout hin hP => ?_) ?_
      · have e3 : a.tmps[3]? = some (.pointer (some ⟨g1, 0, none⟩)) := (hout 3 (by kernel_rfl)).trans rfl
        clear hP
        clear hin hout
        intro K Q hK
        go_simp
        exact hK _ _ ⟨Same.refl _, rfl⟩
      refine allp_mild 0 rfl rfl rfl (fun a x_ W hout hin hP => ?_) ?_
      · have e22 := hin.is 16 22 (by kernel_rfl) (by decide) (by kernel_rfl) (by kernel_rfl) _ rfl
        have hc : W.cell? ⟨g1, 1, none⟩ = some (.int .u32 (wd y.e)) := (hP.1.row 0 rfl).get rfl
        clear hP
        clear hin hout
        intro K Q hK
        go_simp
        exact hK _ _ ⟨Same.refl _, rfl⟩
      refine allp_mild 0 rfl rfl rfl (fun a x_ W hout hin hP => ?_) ?_
      · have e0 : a.tmps[0]? = some (.pointer (some ⟨g, 0, none⟩)) := (hout 0 (by kernel_rfl)).trans rfl
        exact does_move rfl e0 ⟨Same.refl _, rfl⟩
      refine allp_mild 0 rfl rfl rfl (fun a x_ W hout hin hP => ?_) ?_
      · have e24 := hin.is 18 24 (by kernel_rfl) (by decide) (by kernel_rfl) (by kernel_rfl) _ rfl
        clear hP
        clear hin hout
        intro K Q hK
        go_simp
        exact hK _ _ ⟨Same.refl _, rfl⟩
      refine allp_mild 0 rfl rfl rfl (fun a x_ W hout hin hP => ?_) ?_
      · have e25 := hin.is 19 25 (by kernel_rfl) (by decide) (by kernel_rfl) (by kernel_rfl) _ rfl
        clear hP
        clear hin hout
        intro K Q hK
        go_simp
        exact hK _ _ ⟨Same.refl _, rfl⟩
      refine allp_mild 0 rfl rfl rfl (fun a x_ W hout hin hP => ?_) ?_
      · have e26 := hin.is 20 26 (by kernel_rfl) (by decide) (by kernel_rfl) (by kernel_rfl) _ rfl
        clear hP
        clear hin hout
        intro K Q hK
        go_simp
        exact hK _ _ ⟨Same.refl _, rfl⟩
      refine allp_mild 0 rfl rfl rfl (fun a x_ W hout hin hP => ?_) ?_
      · have e27 := hin.is 21 27 (by kernel_rfl) (by decide) (by kernel_rfl) (by kernel_rfl) _ rfl
        have hc : W.cell? ⟨g, 1, none⟩ = some (.int .u32 (wd S.o.e)) := hP.2.get rfl
        clear hP
        clear hin hout
        intro K Q hK
        go_simp
        exact hK _ _ ⟨Same.refl _, rfl⟩
      refine allp_mild 0 rfl rfl rfl (fun a x_ W hout hin hP => ?_) ?_
      · have e23 := hin.is 17 23 (by kernel_rfl) (by decide) (by kernel_rfl) (by kernel_rfl) _ rfl
        have e28 := hin.is 22 28 (by kernel_rfl) (by decide) (by kernel_rfl) (by kernel_rfl) _ rfl
        have hq := HQE.out
        clear hP
        clear hin hout
        intro K Q hK
        go_simp
        exact hK _ _ ⟨Same.refl _, rfl⟩
      refine allp_mild 0 rfl rfl rfl (fun a x_ W hout hin hP => ?_) ?_
      · have e21 := hin.is 15 21 (by kernel_rfl) (by decide) (by kernel_rfl) (by kernel_rfl) _ rfl
        have e29 := hin.is 23 29 (by kernel_rfl) (by decide) (by kernel_rfl) (by kernel_rfl) _ rfl
        exact does_pick rfl e21 ⟨Same.refl _, eval_of_get e29⟩
      refine allp_mild 0 rfl rfl rfl (fun a x_ W hout hin hP => ?_) ?_
      · have e30 := hin.is 24 30 (by kernel_rfl) (by decide) (by kernel_rfl) (by kernel_rfl) _ rfl
        exact does_move rfl e30 ⟨Same.refl _, rfl⟩
      refine allp_skip rfl rfl (fun _ => rfl) ?_
      refine allp_skip rfl rfl (fun _ => rfl) ?_
      refine allp_skip rfl rfl (fun _ => rfl) ?_
      refine allp_skip rfl rfl (fun _ => rfl) ?_
      refine allp_skip rfl rfl (fun _ => rfl) ?_
      refine allp_skip rfl rfl (fun _ => rfl) ?_
      refine allp_skip rfl rfl (fun _ => rfl) ?_
      refine allp_skip rfl rfl (fun _ => rfl) ?_
      refine allp_mild 0 rfl rfl rfl (fun a x_ W hout hin hP => ?_) ?_
      · have e31 := hin.is 25 31 (by kernel_rfl) (by decide) (by kernel_rfl) (by kernel_rfl) _ rfl
        have e39 := hin.is 33 39 (by kernel_rfl) (by decide) (by kernel_rfl) (by kernel_rfl) _ rfl
        exact does_pick rfl e31 ⟨Same.refl _, rfl⟩
      exact all_end (by decide)
    · intro x_ W hP hV
      have h34 : x_ 34 = .bool true := hV 34 (by decide) (.inl (by kernel_rfl))
      have HST := Lib.hid hP.1
      have HRW := Lib.hid hP.2
      clear hP hV
      simp only [putL, Act.put, List.setIfInBounds_toArray, List.set_cons_succ, List.set_cons_zero, h34]
      refine wpAnyH_done (by kernel_rfl) ?_ _
      clear h34
      go_wp2_with fail
      go_ret2
      exact ⟨rfl, SndAt.call ⟨A, n, c, B, m, d, HR.out, HPO.out, HPP.out⟩ HST.out.below, Chg.of_below HST.out.below⟩
  have HQE : Hid (wd y.e = wd S.o.e) := Lib.hid (by rw [h2])
  by_cases h3 : y.s = S.o.s
  case neg =>
    have hB : ackB S y = false := by unfold ackB; rw [decide_eq_false h3]; simp
    have hS : ackS S y = S := by unfold ackS; rw [hB]; exact if_neg (fun h => by cases h)
    rw [hB, hS]
    clear hB hS
    have HQS : Hid ((wd y.s != wd S.o.s) = true) := Lib.hid (bne_iff_ne.2 fun h => h3 (wd_inj h))
    clear h0 h1 h2 h3
    go_enter Try.func17, Try.ntmps17
    go_upto_region 1 with (first | ((with_reducible refine wpList_plain ?_ ?_); exact rfl; intro KK hKK; refine wp_st_box HS 30 (.tmp 1) rfl _ rfl (pktA y.k y.e y.s v) (rfl) (fun g1 W1 HSx => hKK _ _ ?_); clear hKK KK HS; have HS : St w noF [⟨g1, 30, pktA y.k y.e y.s v⟩] W1 := HSx; clear HSx))
    have hF0 : Wl [(fun W => St w noF [⟨g1, 30, pktA y.k y.e y.s v⟩] W ∧ Row W g 32 (sndC S.o S.p (.slice A n c) (.slice B m d) S.n S.t))] 0 (World.drew _) := ⟨HS.same (Below.refl _ _).drew, (HR.out.call HS.below).call (Below.refl _ _).drew⟩
    clear HS
    refine wp_region_phs [is (.pointer (some ⟨g, 0, none⟩)), is (.bool false), is (.bool false), is (.pointer (some ⟨g, 0, none⟩)), is (.pointer (some ⟨g, 0, none⟩)), is (.pointer (some ⟨g, 0, none⟩)), is (.agg (pktA S.o.k S.o.e S.o.s (.slice A n c))), is (.bool true), is (.bool false), is (.bool false), is (.bool false), is (.pointer (some ⟨g1, 0, none⟩)), is (.int .i64 y.k), is (.bool false), is (.bool false), is (.bool false), is (.pointer (some ⟨g1, 1, none⟩)), is (.int .u32 (wd y.e)), is (.pointer (some ⟨g, 0, none⟩)), is (.pointer (some ⟨g, 0, none⟩)), is (.pointer (some ⟨g, 0, none⟩)), is (.pointer (some ⟨g, 1, none⟩)), is (.int .u32 (wd S.o.e)), is (.bool false), is (.bool false), is (.bool false), is (.pointer (some ⟨g1, 2, none⟩)), is (.int .u32 (wd y.s)), is (.pointer (some ⟨g, 0, none⟩)), is (.pointer (some ⟨g, 0, none⟩)), is (.pointer (some ⟨g, 0, none⟩)), is (.pointer (some ⟨g, 2, none⟩)), is (.int .u32 (wd S.o.s)), is (.bool true), is (.bool true)] [true, true, true, true, true, true, true, true, true, true, true, true, true, true, true, true, true, true, true, true, true, true, true, true, true, true, true, true, true, true, true, true, true, true, true] [(fun W => St w noF [⟨g1, 30, pktA y.k y.e y.s v⟩] W ∧ Row W g 32 (sndC S.o S.p (.slice A n c) (.slice B m d) S.n S.t))] [false, false, false, false, false, false, false, false, false, false, false, false, false, false, false, false, false, false, false, false, false, false, false, false, false, false, false, false, false, false, false, false, false, false, false] [some 0, some 0, some 0, some 0, some 0, some 0, some 0, some 0, some 0, some 0, some 0, some 0, some 0, some 0, some 0, some 0, some 0, some 0, some 0, some 0, some 0, some 0, some 0, some 0, some 0, some 0, some 0, some 0, some 0, some 0, some 0, some 0, some 0, some 0, some 0] [some 6, some 7, some 8, some 9, some 10, some 11, some 12, some 13, some 14, some 15, some 16, some 17, some 18, some 19, some 20, some 21, some 22, some 23, some 24, some 25, some 26, some 27, some 28, some 29, some 30, some 31, some 32, some 33, some 34, some 35, some 36, some 37, some 38, some 39, some 40] 35 0 (fun _ => true) rfl rfl (by kernel_rfl) (by kernel_rfl) (by kernel_rfl) (by kernel_rfl) ?_ ?_ ?_ ?_ ?_ ?_
    · repeat first | exact wok_nil | refine wok_cons (by first | exact fun _ _ h k => ⟨h.1.same k, h.2.call k⟩) ?_
    · repeat first | exact vok_nil | refine vok_rig (by first | exact fun _ _ _ h => h) ?_ | refine vok_soft (by first | exact fun _ _ _ h _ => h) ?_
    · exact hF0
    · repeat first | exact all_end (by decide) | refine all_cons (by first | exact rfl | exact ⟨rfl, fun _ _ h => Or.inl h⟩ | exact ⟨rfl, fun _ _ h => Or.inr ⟨h, rfl⟩⟩) ?_
    · refine allp_mild 0 rfl rfl rfl (fun a x_ W hout hin hP => ?_) ?_
      · have e0 : a.tmps[0]? = some (.pointer (some ⟨g, 0, none⟩)) := (hout 0 (by kernel_rfl)).trans rfl
        exact does_move rfl e0 ⟨Same.refl _, rfl⟩
      refine allp_mild 0 rfl rfl rfl (fun a x_ W hout hin hP => ?_) ?_
      · have e6 := hin.is 0 6 (by kernel_rfl) (by decide) (by kernel_rfl) (by kernel_rfl) _ rfl
        clear hP
        clear hin hout
        intro K Q hK
        go_simp
        exact hK _ _ ⟨Same.refl _, rfl⟩
      refine allp_mild 0 rfl rfl rfl (fun a x_ W hout hin hP => ?_) ?_
      · have e7 := hin.is 1 7 (by kernel_rfl) (by decide) (by kernel_rfl) (by kernel_rfl) _ rfl
        exact does_move rfl e7 ⟨Same.refl _, rfl⟩
      refine allp_mild 0 rfl rfl rfl (fun a x_ W hout hin hP => ?_) ?_
      · have e0 : a.tmps[0]? = some (.pointer (some ⟨g, 0, none⟩)) := (hout 0 (by kernel_rfl)).trans rfl
        exact does_move rfl e0 ⟨Same.refl _, rfl⟩
      refine allp_mild 0 rfl rfl rfl (fun a x_ W hout hin hP => ?_) ?_
      · have e9 := hin.is 3 9 (by kernel_rfl) (by decide) (by kernel_rfl) (by kernel_rfl) _ rfl
        clear hP
        clear hin hout
        intro K Q hK
        go_simp
        exact hK _ _ ⟨Same.refl _, rfl⟩
      refine allp_mild 0 rfl rfl rfl (fun a x_ W hout hin hP => ?_) ?_
      · have e10 := hin.is 4 10 (by kernel_rfl) (by decide) (by kernel_rfl) (by kernel_rfl) _ rfl
        clear hP
        clear hin hout
        intro K Q hK
        go_simp
        exact hK _ _ ⟨Same.refl _, rfl⟩
      refine allp_mild 0 rfl rfl rfl (fun a x_ W hout hin hP => ?_) ?_
      · have e11 := hin.is 5 11 (by kernel_rfl) (by decide) (by kernel_rfl) (by kernel_rfl) _ rfl
        clear hin hout
        intro K Q hK
        refine wp_load_mid 30 (.tmp 11) rfl g 0 (eval_of_get e11) (pktA S.o.k S.o.e S.o.s (.slice A n c)).toList _ (hP.2.slab 0 _ rfl) Try.underlying30 rfl (by exact size_pkt) (hK _ _ ⟨Same.refl _, rfl⟩)
      refine allp_mild 0 rfl rfl rfl (fun a x_ W hout hin hP => ?_) ?_
      · have e12 := hin.is 6 12 (by kernel_rfl) (by decide) (by kernel_rfl) (by kernel_rfl) _ rfl
        have C := CI.out W
        clear hP
        clear hin hout
        intro K Q hK
        go_simp
        refine C.mono ?_
        rintro e W' ⟨rfl, hb⟩
        exact hK _ _ ⟨hb, rfl⟩
      refine allp_mild 0 rfl rfl rfl (fun a x_ W hout hin hP => ?_) ?_
      · have e13 := hin.is 7 13 (by kernel_rfl) (by decide) (by kernel_rfl) (by kernel_rfl) _ rfl
        exact does_not rfl e13 ⟨Same.refl _, rfl⟩
      refine allp_mild 0 rfl rfl rfl (fun a x_ W hout hin hP => ?_) ?_
      · have e8 := hin.is 2 8 (by kernel_rfl) (by decide) (by kernel_rfl) (by kernel_rfl) _ rfl
        have e14 := hin.is 8 14 (by kernel_rfl) (by decide) (by kernel_rfl) (by kernel_rfl) _ rfl
        exact does_pick rfl e8 ⟨Same.refl _, eval_of_get e14⟩
      refine allp_mild 0 rfl rfl rfl (fun a x_ W hout hin hP => ?_) ?_
      · have e15 := hin.is 9 15 (by kernel_rfl) (by decide) (by kernel_rfl) (by kernel_rfl) _ rfl
        exact does_move rfl e15 ⟨Same.refl _, rfl⟩
      refine allp_mild 0 rfl rfl rfl (fun a x_ W hout hin hP => ?_) ?_
      · have e3 : a.tmps[3]? = some (.pointer (some ⟨g1, 0, none⟩)) := (hout 3 (by kernel_rfl)).trans rfl
        clear hP
        clear hin hout
        intro K Q hK
        go_simp
        exact hK _ _ ⟨Same.refl _, rfl⟩
      refine allp_mild 0 rfl rfl rfl (fun a x_ W hout hin hP => ?_) ?_
      · have e17 := hin.is 11 17 (by kernel_rfl) (by decide) (by kernel_rfl) (by kernel_rfl) _ rfl
        have hc : W.cell? ⟨g1, 0, none⟩ = some (.int .i64 y.k) := (hP.1.row 0 rfl).get rfl
        clear hP
        clear hin hout
        intro K Q hK
        go_simp
        exact hK _ _ ⟨Same.refl _, rfl⟩
      refine allp_mild 0 rfl rfl rfl (fun a x_ W hout hin hP => ?_) ?_
      · have e18 := hin.is 12 18 (by kernel_rfl) (by decide) (by kernel_rfl) (by kernel_rfl) _ rfl
        have hq := HQK.out
        clear hP
        clear hin hout
        intro K Q hK
        go_simp
        exact hK _ _ ⟨Same.refl _, rfl⟩
      refine allp_mild 0 rfl rfl rfl (fun a x_ W hout hin hP => ?_) ?_
      · have e16 := hin.is 10 16 (by kernel_rfl) (by decide) (by kernel_rfl) (by kernel_rfl) _ rfl
        have e19 := hin.is 13 19 (by kernel_rfl) (by decide) (by kernel_rfl) (by kernel_rfl) _ rfl
        exact does_pick rfl e16 ⟨Same.refl _, eval_of_get e19⟩
      refine allp_mild 0 rfl rfl rfl (fun a x_ W hout hin hP => ?_) ?_
      · have e20 := hin.is 14 20 (by kernel_rfl) (by decide) (by kernel_rfl) (by kernel_rfl) _ rfl
        exact does_move rfl e20 ⟨Same.refl _, rfl⟩
      refine allp_mild 0 rfl rfl rfl (fun a x_ W hout hin hP => ?_) ?_
      · have e3 : a.tmps[3]? = some (.pointer (some ⟨g1, 0, none⟩)) := (hout 3 (by kernel_rfl)).trans rfl
        clear hP
        clear hin hout
        intro K Q hK
        go_simp
        exact hK _ _ ⟨Same.refl _, rfl⟩
      refine allp_mild 0 rfl rfl rfl (fun a x_ W hout hin hP => ?_) ?_
      · have e22 := hin.is 16 22 (by kernel_rfl) (by decide) (by kernel_rfl) (by kernel_rfl) _ rfl
        have hc : W.cell? ⟨g1, 1, none⟩ = some (.int .u32 (wd y.e)) := (hP.1.row 0 rfl).get rfl
        clear hP
        clear hin hout
        intro K Q hK
        go_simp
        exact hK _ _ ⟨Same.refl _, rfl⟩
      refine allp_mild 0 rfl rfl rfl (fun a x_ W hout hin hP => ?_) ?_
      · have e0 : a.tmps[0]? = some (.pointer (some ⟨g, 0, none⟩)) := (hout 0 (by kernel_rfl)).trans rfl
        exact does_move rfl e0 ⟨Same.refl _, rfl⟩
      refine allp_mild 0 rfl rfl rfl (fun a x_ W hout hin hP => ?_) ?_
      · have e24 := hin.is 18 24 (by kernel_rfl) (by decide) (by kernel_rfl) (by kernel_rfl) _ rfl
        clear hP
        clear hin hout
        intro K Q hK
        go_simp
        exact hK _ _ ⟨Same.refl _, rfl⟩
      refine allp_mild 0 rfl rfl rfl (fun a x_ W hout hin hP => ?_) ?_
      · have e25 := hin.is 19 25 (by kernel_rfl) (by decide) (by kernel_rfl) (by kernel_rfl) _ rfl
        clear hP
        clear hin hout
        intro K Q hK
        go_simp
        exact hK _ _ ⟨Same.refl _, rfl⟩
      refine allp_mild 0 rfl rfl rfl (fun a x_ W hout hin hP => ?_) ?_
      · have e26 := hin.is 20 26 (by kernel_rfl) (by decide) (by kernel_rfl) (by kernel_rfl) _ rfl
        clear hP
        clear hin hout
        intro K Q hK
        go_simp
        exact hK _ _ ⟨Same.refl _, rfl⟩
      refine allp_mild 0 rfl rfl rfl (fun a x_ W hout hin hP => ?_) ?_
      · have e27 := hin.is 21 27 (by kernel_rfl) (by decide) (by kernel_rfl) (by kernel_rfl) _ rfl
        have hc : W.cell? ⟨g, 1, none⟩ = some (.int .u32 (wd S.o.e)) := hP.2.get rfl
        clear hP
        clear hin hout
        intro K Q hK
        go_simp
        exact hK _ _ ⟨Same.refl _, rfl⟩
      refine allp_mild 0 rfl rfl rfl (fun a x_ W hout hin hP => ?_) ?_
      · have e23 := hin.is 17 23 (by kernel_rfl) (by decide) (by kernel_rfl) (by kernel_rfl) _ rfl
        have e28 := hin.is 22 28 (by kernel_rfl) (by decide) (by kernel_rfl) (by kernel_rfl) _ rfl
        have hq := HQE.out
        clear hP
        clear hin hout
        intro K Q hK
        go_simp
        exact hK _ _ ⟨Same.refl _, rfl⟩
      refine allp_mild 0 rfl rfl rfl (fun a x_ W hout hin hP => ?_) ?_
      · have e21 := hin.is 15 21 (by kernel_rfl) (by decide) (by kernel_rfl) (by kernel_rfl) _ rfl
        have e29 := hin.is 23 29 (by kernel_rfl) (by decide) (by kernel_rfl) (by kernel_rfl) _ rfl
        exact does_pick rfl e21 ⟨Same.refl _, eval_of_get e29⟩
      refine allp_mild 0 rfl rfl rfl (fun a x_ W hout hin hP => ?_) ?_
      · have e30 := hin.is 24 30 (by kernel_rfl) (by decide) (by kernel_rfl) (by kernel_rfl) _ rfl
        exact does_move rfl e30 ⟨Same.refl _, rfl⟩
      refine allp_mild 0 rfl rfl rfl (fun a x_ W hout hin hP => ?_) ?_
      · have e3 : a.tmps[3]? = some (.pointer (some ⟨g1, 0, none⟩)) := (hout 3 (by kernel_rfl)).trans rfl
        clear hP
        clear hin hout
        intro K Q hK
        go_simp
        exact hK _ _ ⟨Same.refl _, rfl⟩
      refine allp_mild 0 rfl rfl rfl (fun a x_ W hout hin hP => ?_) ?_
      · have e32 := hin.is 26 32 (by kernel_rfl) (by decide) (by kernel_rfl) (by kernel_rfl) _ rfl
        have hc : W.cell? ⟨g1, 2, none⟩ = some (.int .u32 (wd y.s)) := (hP.1.row 0 rfl).get rfl
        clear hP
        clear hin hout
        intro K Q hK
        go_simp
        exact hK _ _ ⟨Same.refl _, rfl⟩
      refine allp_mild 0 rfl rfl rfl (fun a x_ W hout hin hP => ?_) ?_
      · have e0 : a.tmps[0]? = some (.pointer (some ⟨g, 0, none⟩)) := (hout 0 (by kernel_rfl)).trans rfl
        exact does_move rfl e0 ⟨Same.refl _, rfl⟩
      refine allp_mild 0 rfl rfl rfl (fun a x_ W hout hin hP => ?_) ?_
      · have e34 := hin.is 28 34 (by kernel_rfl) (by decide) (by kernel_rfl) (by kernel_rfl) _ rfl
        clear hP
        clear hin hout
        intro K Q hK
        go_simp
        exact hK _ _ ⟨Same.refl _, rfl⟩
      refine allp_mild 0 rfl rfl rfl (fun a x_ W hout hin hP => ?_) ?_
      · have e35 := hin.is 29 35 (by kernel_rfl) (by decide) (by kernel_rfl) (by kernel_rfl) _ rfl
        clear hP
        clear hin hout
        intro K Q hK
        go_simp
        exact hK _ _ ⟨Same.refl _, rfl⟩
      refine allp_mild 0 rfl rfl rfl (fun a x_ W hout hin hP => ?_) ?_
      · have e36 := hin.is 30 36 (by kernel_rfl) (by decide) (by kernel_rfl) (by kernel_rfl) _ rfl
        clear hP
        clear hin hout
        intro K Q hK
        go_simp
        exact hK _ _ ⟨Same.refl _, rfl⟩
      refine allp_mild 0 rfl rfl rfl (fun a x_ W hout hin hP => ?_) ?_
      · have e37 := hin.is 31 37 (by kernel_rfl) (by decide) (by kernel_rfl) (by kernel_rfl) _ rfl
        have hc : W.cell? ⟨g, 2, none⟩ = some (.int .u32 (wd S.o.s)) := hP.2.get rfl
        clear hP
        clear hin hout
        intro K Q hK
        go_simp
        exact hK _ _ ⟨Same.refl _, rfl⟩
      refine allp_mild 0 rfl rfl rfl (fun a x_ W hout hin hP => ?_) ?_
      · have e33 := hin.is 27 33 (by kernel_rfl) (by decide) (by kernel_rfl) (by kernel_rfl) _ rfl
        have e38 := hin.is 32 38 (by kernel_rfl) (by decide) (by kernel_rfl) (by kernel_rfl) _ rfl
        have hq := HQS.out
        clear hP
        clear hin hout
        intro K Q hK
        go_simp
        exact hK _ _ ⟨Same.refl _, rfl⟩
      refine allp_mild 0 rfl rfl rfl (fun a x_ W hout hin hP => ?_) ?_
      · have e31 := hin.is 25 31 (by kernel_rfl) (by decide) (by kernel_rfl) (by kernel_rfl) _ rfl
        have e39 := hin.is 33 39 (by kernel_rfl) (by decide) (by kernel_rfl) (by kernel_rfl) _ rfl
        exact does_pick rfl e31 ⟨Same.refl _, eval_of_get e39⟩
      exact all_end (by decide)
    · intro x_ W hP hV
      have h34 : x_ 34 = .bool true := hV 34 (by decide) (.inl (by kernel_rfl))
      have HST := Lib.hid hP.1
      have HRW := Lib.hid hP.2
      clear hP hV
      simp only [putL, Act.put, List.setIfInBounds_toArray, List.set_cons_succ, List.set_cons_zero, h34]
      refine wpAnyH_done (by kernel_rfl) ?_ _
      clear h34
      go_wp2_with fail
      go_ret2
      exact ⟨rfl, SndAt.call ⟨A, n, c, B, m, d, HR.out, HPO.out, HPP.out⟩ HST.out.below, Chg.of_below HST.out.below⟩
  have HQS : Hid (wd y.s = wd S.o.s) := Lib.hid (by rw [h3])
  have hB : ackB S y = true := by unfold ackB; rw [decide_eq_true h0, decide_eq_true h1, decide_eq_true h2, decide_eq_true h3]; rfl
  have hS : ackS S y = stopS S true := by unfold ackS; rw [hB]; exact if_pos rfl
  rw [hB, hS]
  clear hB hS
  clear h0 h1 h2 h3
  go_enter Try.func17, Try.ntmps17
  go_upto_region 1 with (first | ((with_reducible refine wpList_plain ?_ ?_); exact rfl; intro KK hKK; refine wp_st_box HS 30 (.tmp 1) rfl _ rfl (pktA y.k y.e y.s v) (rfl) (fun g1 W1 HSx => hKK _ _ ?_); clear hKK KK HS; have HS : St w noF [⟨g1, 30, pktA y.k y.e y.s v⟩] W1 := HSx; clear HSx))
  have hF0 : Wl [(fun W => St w noF [⟨g1, 30, pktA y.k y.e y.s v⟩] W ∧ Row W g 32 (sndC S.o S.p (.slice A n c) (.slice B m d) S.n S.t))] 0 (World.drew _) := ⟨HS.same (Below.refl _ _).drew, (HR.out.call HS.below).call (Below.refl _ _).drew⟩
  clear HS
  refine wp_region_phs [is (.pointer (some ⟨g, 0, none⟩)), is (.bool false), is (.bool false), is (.pointer (some ⟨g, 0, none⟩)), is (.pointer (some ⟨g, 0, none⟩)), is (.pointer (some ⟨g, 0, none⟩)), is (.agg (pktA S.o.k S.o.e S.o.s (.slice A n c))), is (.bool true), is (.bool false), is (.bool false), is (.bool false), is (.pointer (some ⟨g1, 0, none⟩)), is (.int .i64 y.k), is (.bool false), is (.bool false), is (.bool false), is (.pointer (some ⟨g1, 1, none⟩)), is (.int .u32 (wd y.e)), is (.pointer (some ⟨g, 0, none⟩)), is (.pointer (some ⟨g, 0, none⟩)), is (.pointer (some ⟨g, 0, none⟩)), is (.pointer (some ⟨g, 1, none⟩)), is (.int .u32 (wd S.o.e)), is (.bool false), is (.bool false), is (.bool false), is (.pointer (some ⟨g1, 2, none⟩)), is (.int .u32 (wd y.s)), is (.pointer (some ⟨g, 0, none⟩)), is (.pointer (some ⟨g, 0, none⟩)), is (.pointer (some ⟨g, 0, none⟩)), is (.pointer (some ⟨g, 2, none⟩)), is (.int .u32 (wd S.o.s)), is (.bool false), is (.bool false)] [true, true, true, true, true, true, true, true, true, true, true, true, true, true, true, true, true, true, true, true, true, true, true, true, true, true, true, true, true, true, true, true, true, true, true] [(fun W => St w noF [⟨g1, 30, pktA y.k y.e y.s v⟩] W ∧ Row W g 32 (sndC S.o S.p (.slice A n c) (.slice B m d) S.n S.t))] [false, false, false, false, false, false, false, false, false, false, false, false, false, false, false, false, false, false, false, false, false, false, false, false, false, false, false, false, false, false, false, false, false, false, false] [some 0, some 0, some 0, some 0, some 0, some 0, some 0, some 0, some 0, some 0, some 0, some 0, some 0, some 0, some 0, some 0, some 0, some 0, some 0, some 0, some 0, some 0, some 0, some 0, some 0, some 0, some 0, some 0, some 0, some 0, some 0, some 0, some 0, some 0, some 0] [some 6, some 7, some 8, some 9, some 10, some 11, some 12, some 13, some 14, some 15, some 16, some 17, some 18, some 19, some 20, some 21, some 22, some 23, some 24, some 25, some 26, some 27, some 28, some 29, some 30, some 31, some 32, some 33, some 34, some 35, some 36, some 37, some 38, some 39, some 40] 35 0 (fun _ => true) rfl rfl (by kernel_rfl) (by kernel_rfl) (by kernel_rfl) (by kernel_rfl) ?_ ?_ ?_ ?_ ?_ ?_
  · repeat first | exact wok_nil | refine wok_cons (by first | exact fun _ _ h k => ⟨h.1.same k, h.2.call k⟩) ?_
  · repeat first | exact vok_nil | refine vok_rig (by first | exact fun _ _ _ h => h) ?_ | refine vok_soft (by first | exact fun _ _ _ h _ => h) ?_
  · exact hF0
  · repeat first | exact all_end (by decide) | refine all_cons (by first | exact rfl | exact ⟨rfl, fun _ _ h => Or.inl h⟩ | exact ⟨rfl, fun _ _ h => Or.inr ⟨h, rfl⟩⟩) ?_
  · refine allp_mild 0 rfl rfl rfl (fun a x_ W hout hin hP => ?_) ?_
    · have e0 : a.tmps[0]? = some (.pointer (some ⟨g, 0, none⟩)) := (hout 0 (by kernel_rfl)).trans rfl
      exact does_move rfl e0 ⟨Same.refl _, rfl⟩
    refine allp_mild 0 rfl rfl rfl (fun a x_ W hout hin hP => ?_) ?_
    · have e6 := hin.is 0 6 (by kernel_rfl) (by decide) (by kernel_rfl) (by kernel_rfl) _ rfl
      clear hP
      clear hin hout
      intro K Q hK
      go_simp
      exact hK _ _ ⟨Same.refl _, rfl⟩
    refine allp_mild 0 rfl rfl rfl (fun a x_ W hout hin hP => ?_) ?_
    · have e7 := hin.is 1 7 (by kernel_rfl) (by decide) (by kernel_rfl) (by kernel_rfl) _ rfl
      exact does_move rfl e7 ⟨Same.refl _, rfl⟩
    refine allp_mild 0 rfl rfl rfl (fun a x_ W hout hin hP => ?_) ?_
    · have e0 : a.tmps[0]? = some (.pointer (some ⟨g, 0, none⟩)) := (hout 0 (by kernel_rfl)).trans rfl
      exact does_move rfl e0 ⟨Same.refl _, rfl⟩
    refine allp_mild 0 rfl rfl rfl (fun a x_ W hout hin hP => ?_) ?_
    · have e9 := hin.is 3 9 (by kernel_rfl) (by decide) (by kernel_rfl) (by kernel_rfl) _ rfl
      clear hP
      clear hin hout
      intro K Q hK
      go_simp
      exact hK _ _ ⟨Same.refl _, rfl⟩
    refine allp_mild 0 rfl rfl rfl (fun a x_ W hout hin hP => ?_) ?_
    · have e10 := hin.is 4 10 (by kernel_rfl) (by decide) (by kernel_rfl) (by kernel_rfl) _ rfl
      clear hP
      clear hin hout
      intro K Q hK
      go_simp
      exact hK _ _ ⟨Same.refl _, rfl⟩
    refine allp_mild 0 rfl rfl rfl (fun a x_ W hout hin hP => ?_) ?_
    · have e11 := hin.is 5 11 (by kernel_rfl) (by decide) (by kernel_rfl) (by kernel_rfl) _ rfl
      clear hin hout
      intro K Q hK
      refine wp_load_mid 30 (.tmp 11) rfl g 0 (eval_of_get e11) (pktA S.o.k S.o.e S.o.s (.slice A n c)).toList _ (hP.2.slab 0 _ rfl) Try.underlying30 rfl (by exact size_pkt) (hK _ _ ⟨Same.refl _, rfl⟩)
    refine allp_mild 0 rfl rfl rfl (fun a x_ W hout hin hP => ?_) ?_
    · have e12 := hin.is 6 12 (by kernel_rfl) (by decide) (by kernel_rfl) (by kernel_rfl) _ rfl
      have C := CI.out W
      clear hP
      clear hin hout
      intro K Q hK
      go_simp
      refine C.mono ?_
      rintro e W' ⟨rfl, hb⟩
      exact hK _ _ ⟨hb, rfl⟩
    refine allp_mild 0 rfl rfl rfl (fun a x_ W hout hin hP => ?_) ?_
    · have e13 := hin.is 7 13 (by kernel_rfl) (by decide) (by kernel_rfl) (by kernel_rfl) _ rfl
      exact does_not rfl e13 ⟨Same.refl _, rfl⟩
    refine allp_mild 0 rfl rfl rfl (fun a x_ W hout hin hP => ?_) ?_
    · have e8 := hin.is 2 8 (by kernel_rfl) (by decide) (by kernel_rfl) (by kernel_rfl) _ rfl
      have e14 := hin.is 8 14 (by kernel_rfl) (by decide) (by kernel_rfl) (by kernel_rfl) _ rfl
      exact does_pick rfl e8 ⟨Same.refl _, eval_of_get e14⟩
    refine allp_mild 0 rfl rfl rfl (fun a x_ W hout hin hP => ?_) ?_
    · have e15 := hin.is 9 15 (by kernel_rfl) (by decide) (by kernel_rfl) (by kernel_rfl) _ rfl
      exact does_move rfl e15 ⟨Same.refl _, rfl⟩
    refine allp_mild 0 rfl rfl rfl (fun a x_ W hout hin hP => ?_) ?_
    · have e3 : a.tmps[3]? = some (.pointer (some ⟨g1, 0, none⟩)) := (hout 3 (by kernel_rfl)).trans rfl
      clear hP
      clear hin hout
      intro K Q hK
      go_simp
      exact hK _ _ ⟨Same.refl _, rfl⟩
    refine allp_mild 0 rfl rfl rfl (fun a x_ W hout hin hP => ?_) ?_
    · have e17 := hin.is 11 17 (by kernel_rfl) (by decide) (by kernel_rfl) (by kernel_rfl) _ rfl
      have hc : W.cell? ⟨g1, 0, none⟩ = some (.int .i64 y.k) := (hP.1.row 0 rfl).get rfl
      clear hP
      clear hin hout
      intro K Q hK
      go_simp
      exact hK _ _ ⟨Same.refl _, rfl⟩
    refine allp_mild 0 rfl rfl rfl (fun a x_ W hout hin hP => ?_) ?_
    · have e18 := hin.is 12 18 (by kernel_rfl) (by decide) (by kernel_rfl) (by kernel_rfl) _ rfl
      have hq := HQK.out
      clear hP
      clear hin hout
      intro K Q hK
      go_simp
      exact hK _ _ ⟨Same.refl _, rfl⟩
    refine allp_mild 0 rfl rfl rfl (fun a x_ W hout hin hP => ?_) ?_
    · have e16 := hin.is 10 16 (by kernel_rfl) (by decide) (by kernel_rfl) (by kernel_rfl) _ rfl
      have e19 := hin.is 13 19 (by kernel_rfl) (by decide) (by kernel_rfl) (by kernel_rfl) _ rfl
      exact does_pick rfl e16 ⟨Same.refl _, eval_of_get e19⟩
    refine allp_mild 0 rfl rfl rfl (fun a x_ W hout hin hP => ?_) ?_
    · have e20 := hin.is 14 20 (by kernel_rfl) (by decide) (by kernel_rfl) (by kernel_rfl) _ rfl
      exact does_move rfl e20 ⟨Same.refl _, rfl⟩
    refine allp_mild 0 rfl rfl rfl (fun a x_ W hout hin hP => ?_) ?_
    · have e3 : a.tmps[3]? = some (.pointer (some ⟨g1, 0, none⟩)) := (hout 3 (by kernel_rfl)).trans rfl
      clear hP
      clear hin hout
      intro K Q hK
      go_simp
      exact hK _ _ ⟨Same.refl _, rfl⟩
    refine allp_mild 0 rfl rfl rfl (fun a x_ W hout hin hP => ?_) ?_
    · have e22 := hin.is 16 22 (by kernel_rfl) (by decide) (by kernel_rfl) (by kernel_rfl) _ rfl
      have hc : W.cell? ⟨g1, 1, none⟩ = some (.int .u32 (wd y.e)) := (hP.1.row 0 rfl).get rfl
      clear hP
      clear hin hout
      intro K Q hK
      go_simp
      exact hK _ _ ⟨Same.refl _, rfl⟩
    refine allp_mild 0 rfl rfl rfl (fun a x_ W hout hin hP => ?_) ?_
    · have e0 : a.tmps[0]? = some (.pointer (some ⟨g, 0, none⟩)) := (hout 0 (by kernel_rfl)).trans rfl
      exact does_move rfl e0 ⟨Same.refl _, rfl⟩
    refine allp_mild 0 rfl rfl rfl (fun a x_ W hout hin hP => ?_) ?_
    · have e24 := hin.is 18 24 (by kernel_rfl) (by decide) (by kernel_rfl) (by kernel_rfl) _ rfl
      clear hP
      clear hin hout
      intro K Q hK
      go_simp
      exact hK _ _ ⟨Same.refl _, rfl⟩
    refine allp_mild 0 rfl rfl rfl (fun a x_ W hout hin hP => ?_) ?_
    · have e25 := hin.is 19 25 (by kernel_rfl) (by decide) (by kernel_rfl) (by kernel_rfl) _ rfl
      clear hP
      clear hin hout
      intro K Q hK
      go_simp
      exact hK _ _ ⟨Same.refl _, rfl⟩
    refine allp_mild 0 rfl rfl rfl (fun a x_ W hout hin hP => ?_) ?_
    · have e26 := hin.is 20 26 (by kernel_rfl) (by decide) (by kernel_rfl) (by kernel_rfl) _ rfl
      clear hP
      clear hin hout
      intro K Q hK
      go_simp
      exact hK _ _ ⟨Same.refl _, rfl⟩
    refine allp_mild 0 rfl rfl rfl (fun a x_ W hout hin hP => ?_) ?_
    · have e27 := hin.is 21 27 (by kernel_rfl) (by decide) (by kernel_rfl) (by kernel_rfl) _ rfl
      have hc : W.cell? ⟨g, 1, none⟩ = some (.int .u32 (wd S.o.e)) := hP.2.get rfl
      clear hP
      clear hin hout
      intro K Q hK
      go_simp
      exact hK _ _ ⟨Same.refl _, rfl⟩
    refine allp_mild 0 rfl rfl rfl (fun a x_ W hout hin hP => ?_) ?_
    · have e23 := hin.is 17 23 (by kernel_rfl) (by decide) (by kernel_rfl) (by kernel_rfl) _ rfl
      have e28 := hin.is 22 28 (by kernel_rfl) (by decide) (by kernel_rfl) (by kernel_rfl) _ rfl
      have hq := HQE.out
      clear hP
      clear hin hout
      intro K Q hK
      go_simp
      exact hK _ _ ⟨Same.refl _, rfl⟩
    refine allp_mild 0 rfl rfl rfl (fun a x_ W hout hin hP => ?_) ?_
    · have e21 := hin.is 15 21 (by kernel_rfl) (by decide) (by kernel_rfl) (by kernel_rfl) _ rfl
      have e29 := hin.is 23 29 (by kernel_rfl) (by decide) (by kernel_rfl) (by kernel_rfl) _ rfl
      exact does_pick rfl e21 ⟨Same.refl _, eval_of_get e29⟩
    refine allp_mild 0 rfl rfl rfl (fun a x_ W hout hin hP => ?_) ?_
    · have e30 := hin.is 24 30 (by kernel_rfl) (by decide) (by kernel_rfl) (by kernel_rfl) _ rfl
      exact does_move rfl e30 ⟨Same.refl _, rfl⟩
    refine allp_mild 0 rfl rfl rfl (fun a x_ W hout hin hP => ?_) ?_
    · have e3 : a.tmps[3]? = some (.pointer (some ⟨g1, 0, none⟩)) := (hout 3 (by kernel_rfl)).trans rfl
      clear hP
      clear hin hout
      intro K Q hK
      go_simp
      exact hK _ _ ⟨Same.refl _, rfl⟩
    refine allp_mild 0 rfl rfl rfl (fun a x_ W hout hin hP => ?_) ?_
    · have e32 := hin.is 26 32 (by kernel_rfl) (by decide) (by kernel_rfl) (by kernel_rfl) _ rfl
      have hc : W.cell? ⟨g1, 2, none⟩ = some (.int .u32 (wd y.s)) := (hP.1.row 0 rfl).get rfl
      clear hP
      clear hin hout
      intro K Q hK
      go_simp
      exact hK _ _ ⟨Same.refl _, rfl⟩
    refine allp_mild 0 rfl rfl rfl (fun a x_ W hout hin hP => ?_) ?_
    · have e0 : a.tmps[0]? = some (.pointer (some ⟨g, 0, none⟩)) := (hout 0 (by kernel_rfl)).trans rfl
      exact does_move rfl e0 ⟨Same.refl _, rfl⟩
    refine allp_mild 0 rfl rfl rfl (fun a x_ W hout hin hP => ?_) ?_
    · have e34 := hin.is 28 34 (by kernel_rfl) (by decide) (by kernel_rfl) (by kernel_rfl) _ rfl
      clear hP
      clear hin hout
      intro K Q hK
      go_simp
      exact hK _ _ ⟨Same.refl _, rfl⟩
    refine allp_mild 0 rfl rfl rfl (fun a x_ W hout hin hP => ?_) ?_
    · have e35 := hin.is 29 35 (by kernel_rfl) (by decide) (by kernel_rfl) (by kernel_rfl) _ rfl
      clear hP
      clear hin hout
      intro K Q hK
      go_simp
      exact hK _ _ ⟨Same.refl _, rfl⟩
    refine allp_mild 0 rfl rfl rfl (fun a x_ W hout hin hP => ?_) ?_
    · have e36 := hin.is 30 36 (by kernel_rfl) (by decide) (by kernel_rfl) (by kernel_rfl) _ rfl
      clear hP
      clear hin hout
      intro K Q hK
      go_simp
      exact hK _ _ ⟨Same.refl _, rfl⟩
    refine allp_mild 0 rfl rfl rfl (fun a x_ W hout hin hP => ?_) ?_
    · have e37 := hin.is 31 37 (by kernel_rfl) (by decide) (by kernel_rfl) (by kernel_rfl) _ rfl
      have hc : W.cell? ⟨g, 2, none⟩ = some (.int .u32 (wd S.o.s)) := hP.2.get rfl
      clear hP
      clear hin hout
      intro K Q hK
      go_simp
      exact hK _ _ ⟨Same.refl _, rfl⟩
    refine allp_mild 0 rfl rfl rfl (fun a x_ W hout hin hP => ?_) ?_
    · have e33 := hin.is 27 33 (by kernel_rfl) (by decide) (by kernel_rfl) (by kernel_rfl) _ rfl
      have e38 := hin.is 32 38 (by kernel_rfl) (by decide) (by kernel_rfl) (by kernel_rfl) _ rfl
      have hq := HQS.out
      clear hP
      clear hin hout
      intro K Q hK
      go_simp
      exact hK _ _ ⟨Same.refl _, rfl⟩
    refine allp_mild 0 rfl rfl rfl (fun a x_ W hout hin hP => ?_) ?_
    · have e31 := hin.is 25 31 (by kernel_rfl) (by decide) (by kernel_rfl) (by kernel_rfl) _ rfl
      have e39 := hin.is 33 39 (by kernel_rfl) (by decide) (by kernel_rfl) (by kernel_rfl) _ rfl
      exact does_pick rfl e31 ⟨Same.refl _, eval_of_get e39⟩
    exact all_end (by decide)
  · intro x_ W hP hV
    have h34 : x_ 34 = .bool false := hV 34 (by decide) (.inl (by kernel_rfl))
    have HST := Lib.hid hP.1
    have HRW := Lib.hid hP.2
    clear hP hV
    simp only [putL, Act.put, List.setIfInBounds_toArray, List.set_cons_succ, List.set_cons_zero, h34]
    refine wpAnyH_done (by kernel_rfl) ?_ _
    clear h34
    have c9 := HRW.out.get (i := 9) rfl
    have HAT := Lib.hid (SndAt.call ⟨A, n, c, B, m, d, HR.out, HPO.out, HPP.out⟩ HST.out.below)
    have HC : Hid (Chg (fun k => k = g) w W) := Lib.hid (Chg.of_below HST.out.below)
    have C := stop_any g S true W HAT.out
    clear HST HAT
    go_wp2_with fail
    refine C.mono ?_
    rintro x w9 ⟨rfl, hs9, hc9⟩
    have HS9 := Lib.hid hs9
    have HC9 := Lib.hid (HC.out.trans hc9 (fun i hi => .inl hi))
    clear C hs9 hc9
    go_wp2_with fail
    go_ret2
    exact ⟨rfl, HS9.out, HC9.out⟩
theorem acked_nil (y : Pkt) (v : Value) (w : World) : Calls Try.prog 17 #[.pointer none, .agg (pktA y.k y.e y.s v)] w fun x w' => x = .returned (.tuple #[.bool false, .bool false]) ∧ Below w.heap.size w w' := by
  have HS := St.nil w noF
  go_enter Try.func17, Try.ntmps17
  go_upto_region 1 with (first | ((with_reducible refine wpList_plain ?_ ?_); exact rfl; intro KK hKK; refine wp_st_box HS 30 (.tmp 1) rfl _ rfl (pktA y.k y.e y.s v) (rfl) (fun g1 W1 HSx => hKK _ _ ?_); clear hKK KK HS; have HS : St w noF [⟨g1, 30, pktA y.k y.e y.s v⟩] W1 := HSx; clear HSx))
  have hF0 : Wl [(fun W => St w noF [⟨g1, 30, pktA y.k y.e y.s v⟩] W)] 0 (World.drew _) := HS.same (Below.refl _ _).drew
  clear HS
  refine wp_region_phs [is (.pointer none), is (.bool true), is (.bool true), is undef, is undef, is undef, is undef, is undef, is undef, is (.bool true), is (.bool true), is undef, is undef, is undef, is (.bool true), is (.bool true), is undef, is undef, is undef, is undef, is undef, is undef, is undef, is undef, is (.bool true), is (.bool true), is undef, is undef, is undef, is undef, is undef, is undef, is undef, is undef, is (.bool true)] [true, true, true, true, true, true, true, true, true, true, true, true, true, true, true, true, true, true, true, true, true, true, true, true, true, true, true, true, true, true, true, true, true, true, true] [(fun W => St w noF [⟨g1, 30, pktA y.k y.e y.s v⟩] W)] [false, false, false, false, false, false, false, false, false, false, false, false, false, false, false, false, false, false, false, false, false, false, false, false, false, false, false, false, false, false, false, false, false, false, false] [some 0, some 0, some 0, some 0, some 0, some 0, some 0, some 0, some 0, some 0, some 0, some 0, some 0, some 0, some 0, some 0, some 0, some 0, some 0, some 0, some 0, some 0, some 0, some 0, some 0, some 0, some 0, some 0, some 0, some 0, some 0, some 0, some 0, some 0, some 0] [some 6, some 7, some 8, some 9, some 10, some 11, some 12, some 13, some 14, some 15, some 16, some 17, some 18, some 19, some 20, some 21, some 22, some 23, some 24, some 25, some 26, some 27, some 28, some 29, some 30, some 31, some 32, some 33, some 34, some 35, some 36, some 37, some 38, some 39, some 40] 35 0 (fun i => !([3, 4, 5, 6, 7, 8, 11, 12, 13, 16, 17, 18, 19, 20, 21, 22, 23, 26, 27, 28, 29, 30, 31, 32, 33] : List Nat).contains i) rfl rfl (by kernel_rfl) (by kernel_rfl) (by kernel_rfl) (by kernel_rfl) ?_ ?_ ?_ ?_ ?_ ?_
  · repeat first | exact wok_nil | refine wok_cons (by first | exact fun _ _ h k => h.same k) ?_
  · repeat first | exact vok_nil | refine vok_rig (by first | exact fun _ _ _ h => h) ?_ | refine vok_soft (by first | exact fun _ _ _ h _ => h) ?_
  · exact hF0
  · repeat first | exact all_end (by decide) | refine all_cons (by first | exact rfl | exact ⟨rfl, fun _ _ h => Or.inl h⟩ | exact ⟨rfl, fun _ _ h => Or.inr ⟨h, rfl⟩⟩) ?_
  · refine allp_mild 0 rfl rfl rfl (fun a x_ W hout hin hP => ?_) ?_
    · have e0 : a.tmps[0]? = some (.pointer none) := (hout 0 (by kernel_rfl)).trans rfl
      exact does_move rfl e0 ⟨Same.refl _, rfl⟩
    refine allp_mild 0 rfl rfl rfl (fun a x_ W hout hin hP => ?_) ?_
    · have e6 := hin.is 0 6 (by kernel_rfl) (by decide) (by kernel_rfl) (by kernel_rfl) _ rfl
      clear hP
      clear hin hout
      intro K Q hK
      go_simp
      exact hK _ _ ⟨Same.refl _, rfl⟩
    refine allp_mild 0 rfl rfl rfl (fun a x_ W hout hin hP => ?_) ?_
    · have e7 := hin.is 1 7 (by kernel_rfl) (by decide) (by kernel_rfl) (by kernel_rfl) _ rfl
      exact does_move rfl e7 ⟨Same.refl _, rfl⟩
    refine allp_skip rfl rfl (fun _ => rfl) ?_
    refine allp_skip rfl rfl (fun _ => rfl) ?_
    refine allp_skip rfl rfl (fun _ => rfl) ?_
    refine allp_skip rfl rfl (fun _ => rfl) ?_
    refine allp_skip rfl rfl (fun _ => rfl) ?_
    refine allp_skip rfl rfl (fun _ => rfl) ?_
    refine allp_mild 0 rfl rfl rfl (fun a x_ W hout hin hP => ?_) ?_
    · have e8 := hin.is 2 8 (by kernel_rfl) (by decide) (by kernel_rfl) (by kernel_rfl) _ rfl
      have e14 := hin.is 8 14 (by kernel_rfl) (by decide) (by kernel_rfl) (by kernel_rfl) _ rfl
      exact does_pick rfl e8 ⟨Same.refl _, rfl⟩
    refine allp_mild 0 rfl rfl rfl (fun a x_ W hout hin hP => ?_) ?_
    · have e15 := hin.is 9 15 (by kernel_rfl) (by decide) (by kernel_rfl) (by kernel_rfl) _ rfl
      exact does_move rfl e15 ⟨Same.refl _, rfl⟩
    refine allp_skip rfl rfl (fun _ => rfl) ?_
    refine allp_skip rfl rfl (fun _ => rfl) ?_
    refine allp_skip rfl rfl (fun _ => rfl) ?_
    refine allp_mild 0 rfl rfl rfl (fun a x_ W hout hin hP => ?_) ?_
    · have e16 := hin.is 10 16 (by kernel_rfl) (by decide) (by kernel_rfl) (by kernel_rfl) _ rfl
      have e19 := hin.is 13 19 (by kernel_rfl) (by decide) (by kernel_rfl) (by kernel_rfl) _ rfl
      exact does_pick rfl e16 ⟨Same.refl _, rfl⟩
    refine allp_mild 0 rfl rfl rfl (fun a x_ W hout hin hP => ?_) ?_
    · have e20 := hin.is 14 20 (by kernel_rfl) (by decide) (by kernel_rfl) (by kernel_rfl) _ rfl
      exact does_move rfl e20 ⟨Same.refl _, rfl⟩
    refine allp_skip rfl rfl (fun _ => rfl) ?_
    refine allp_skip rfl rfl (fun _ => rfl) ?_
    refine allp_skip rfl rfl (fun _ => rfl) ?_
    refine allp_skip rfl rfl (fun _ => rfl) ?_
    refine allp_skip rfl rfl (fun _ => rfl) ?_
    refine allp_skip rfl rfl (fun _ => rfl) ?_
    refine allp_skip rfl rfl (fun _ => rfl) ?_
    refine allp_skip rfl rfl (fun _ => rfl) ?_
    refine allp_mild 0 rfl rfl rfl (fun a x_ W hout hin hP => ?_) ?_
    · have e21 := hin.is 15 21 (by kernel_rfl) (by decide) (by kernel_rfl) (by kernel_rfl) _ rfl
      have e29 := hin.is 23 29 (by kernel_rfl) (by decide) (by kernel_rfl) (by kernel_rfl) _ rfl
      exact does_pick rfl e21 ⟨Same.refl _, rfl⟩
    refine allp_mild 0 rfl rfl rfl (fun a x_ W hout hin hP => ?_) ?_
    · have e30 := hin.is 24 30 (by kernel_rfl) (by decide) (by kernel_rfl) (by kernel_rfl) _ rfl
      exact does_move rfl e30 ⟨Same.refl _, rfl⟩
    refine allp_skip rfl rfl (fun _ => rfl) ?_
    refine allp_skip rfl rfl (fun _ => rfl) ?_
    refine allp_skip rfl rfl (fun _ => rfl) ?_
    refine allp_skip rfl rfl (fun _ => rfl) ?_
    refine allp_skip rfl rfl (fun _ => rfl) ?_
    refine allp_skip rfl rfl (fun _ => rfl) ?_
    refine allp_skip rfl rfl (fun _ => rfl) ?_
    refine allp_skip rfl rfl (fun _ => rfl) ?_
    refine allp_mild 0 rfl rfl rfl (fun a x_ W hout hin hP => ?_) ?_
    · have e31 := hin.is 25 31 (by kernel_rfl) (by decide) (by kernel_rfl) (by kernel_rfl) _ rfl
      have e39 := hin.is 33 39 (by kernel_rfl) (by decide) (by kernel_rfl) (by kernel_rfl) _ rfl
      exact does_pick rfl e31 ⟨Same.refl _, rfl⟩
    exact all_end (by decide)
  · intro x_ W hP hV
    have h34 : x_ 34 = .bool true := hV 34 (by decide) (.inl (by kernel_rfl))
    have HST := Lib.hid hP
    clear hP hV
    simp only [putL, Act.put, List.setIfInBounds_toArray, List.set_cons_succ, List.set_cons_zero, h34]
    refine wpAnyH_done (by kernel_rfl) ?_ _
    clear h34
    go_wp2_with fail
    go_ret2
    exact ⟨rfl, HST.out.below⟩
end Go.Proofs.Ytppbgkdkioldbaa

/- The program's sender: Touch, Out, Early. -/
set_option maxRecDepth 4000
namespace Go.Proofs.Ytppbgkdkioldbaa
open Go Go.RowKit
theorem st_then {w0 w w' : World} {F G : Nat → Prop} {R R' : List Blk} (h : St w0 F R w) (k : St w G R' w') (hG : ∀ i, G i → F i ∨ w0.heap.size ≤ i) (ho : ∀ (j : Nat) (r : Blk), R'[j]? = some r → F r.g ∨ w0.heap.size ≤ r.g) : St w0 F R' w' :=
  ⟨h.chg.trans k.chg hG, k.rows, k.apart, ho⟩
theorem puts_one {w : World} {g : Nat} {t : TypeId} {x : Pt} (h : Row w g t (pcell x).toArray) (hx : x.2.length = 32 ∧ -9223372036854775808 ≤ x.1 ∧ x.1 < 9223372036854775808) : PutsAt w (.slice (some ⟨g, 0, none⟩) 1 1) [x] :=
  puts_row (l := [x]) (t := t) (by rw [List.map_singleton, List.flatten_singleton]; exact h) (Nat.le_refl _) (fun y hy => by rw [List.mem_singleton.1 hy]; exact hx)
theorem touch_nil (v : Value) (w : World) : Calls Try.prog 15 #[.pointer none, v] w fun x w' => x = .returned (.tuple #[]) ∧ Below w.heap.size w w' := by
  go_enter Try.func15, Try.ntmps15
  go_wp2_with fail
  exact bodyPost_ret (results_none Try.results15 _ _ _) rfl ⟨rfl, Below.refl _ _⟩
set_option maxRecDepth 20000 in
set_option maxHeartbeats 3200000 in
theorem touch_any (g : Nat) (S : Snd) (l : List Pt) (D : Option Addr) (q f : Nat) (w : World) (h : SndAt w g S) (hok : OutOk S) (hl : PutsAt w (.slice D q f) l) (hln : l.length ≤ 1000000) :
    Calls Try.prog 15 #[.pointer (some ⟨g, 0, none⟩), .slice D q f] w fun x w' => x = .returned (.tuple #[]) ∧ SndAt w' g (touchS S l) ∧ Chg (fun k => k = g) w w' := by
  obtain ⟨A, n, c, B, m, d, hr, hpo, hpp⟩ := h
  have HR := Lib.hid hr
  have HPO := Lib.hid hpo
  have HPP := Lib.hid hpp
  clear hr hpo hpp
  have c0 : w.cell? ⟨g, 0, none⟩ = some (.int .i64 S.o.k) := HR.out.get rfl
  have HL := Lib.hid hl
  have HLN := Lib.hid hln
  clear hl hln
  by_cases h2 : S.o.k = 2
  case neg =>
    have hS : touchS S l = S := by unfold touchS touchB; rw [decide_eq_false h2]; exact if_neg (fun h => by cases h)
    rw [hS]
    have hne : (S.o.k != 2) = true := bne_iff_ne.2 h2
    clear hS h2 hok
    go_enter Try.func15, Try.ntmps15
    go_wp2_with fail
    exact bodyPost_ret (results_none Try.results15 _ _ _) rfl ⟨rfl, ⟨A, n, c, B, m, d, HR.out, HPO.out, HPP.out⟩, Chg.refl _ _⟩
  have hop : opB S.o = true := hok.resolve_left (fun h => by rw [h] at h2; cases h2)
  have hpos := (opB_put hop).1
  have hnl := puts_len HPO.out
  obtain ⟨⟨Y, q0⟩, hx⟩ : ∃ x, S.o.l[0]? = some x := ⟨_, List.getElem?_eq_getElem hpos⟩
  have hT1 : S.o.l.take 1 = [(Y, q0)] := by rw [List.take_one, List.head?_eq_getElem?, hx]; rfl
  obtain ⟨b, o, rfl, hbw, hr, hq, hlo, hhi⟩ := put_at_mem HPO.out hnl hx
  rw [Nat.zero_mul, Nat.add_zero] at hr
  have HRG := Lib.hid hr
  have HQ := Lib.hid hq
  have HYB := Lib.hid (And.intro hlo hhi)
  have HBW := Lib.hid hbw
  have HN1 : Hid (0 < n) := Lib.hid (by omega)
  obtain ⟨X, hX⟩ : ∃ X, bitsOf (l.map (·.1)) = X := ⟨_, rfl⟩
  obtain ⟨Z, hZ⟩ : ∃ Z, bitsOf ([(Y, q0)].map (·.1)) = Z := ⟨_, rfl⟩
  obtain ⟨U, hU⟩ : ∃ U, X &&& Z = U := ⟨_, rfl⟩
  have hB : touchB S l = decide (U ≠ 0#16) := by unfold touchB; rw [decide_eq_true h2, hT1, hX, hZ, hU]; rfl
  have HX := Lib.hid hX
  have HZ := Lib.hid hZ
  have HAND : Hid (bits .and .u16 (hd X) (hd Z) = hd U) := Lib.hid (by rw [and_hd, hU])
  rw [h2] at c0
  clear hx hr hq hlo hhi hbw hX hZ hU hT1 hpos hop hok hnl
  by_cases hu : U = 0#16
  · have hS : touchS S l = S := by unfold touchS; rw [hB, decide_eq_false (by simp [hu])]; exact if_neg (fun h => by cases h)
    rw [hS]
    have HQU : Hid (hd U = 0) := Lib.hid (by rw [hu]; rfl)
    clear hS hB hu h2
    go_enter Try.func15, Try.ntmps15
    go_upto_region 1 with fail
    have hF0 : Wl [(fun W => Below w.heap.size w W)] 0 (World.drew _) := (Below.refl _ _).drew
    clear c0
    refine wp_region_phs [is (.slice D q f), is (.int .u16 (hd X)), is (.pointer (some ⟨g, 0, none⟩)), is (.pointer (some ⟨g, 0, none⟩)), is (.pointer (some ⟨g, 0, none⟩)), is (.pointer (some ⟨g, 3, none⟩)), is (.slice (some ⟨b, o, none⟩) n c), is (.pointer (some ⟨b, o, none⟩)), is (.agg (pcell (Y, q0)).toArray), (fun v W => ∃ g9, v = Value.slice (some ⟨g9, 0, none⟩) 1 1 ∧ PutsAt W v [(Y, q0)]), is (.int .u16 (hd Z)), is (.int .u16 (hd U)), is (.bool false)] [true, true, true, true, true, true, true, true, true, false, true, true, true] [(fun W => Below w.heap.size w W)] [false, false, false, false, false, false, false, false, false, false, false, false, false] [some 0, some 0, some 0, some 0, some 0, some 0, some 0, some 0, some 0, some 0, some 0, some 0, some 0] [some 14, some 15, some 16, some 17, some 18, some 19, some 20, some 21, some 22, some 23, some 24, some 25, some 26] 13 0 (fun _ => true) rfl rfl (by kernel_rfl) (by kernel_rfl) (by kernel_rfl) (by kernel_rfl) ?_ ?_ ?_ ?_ ?_ ?_
    · repeat first | exact wok_nil | refine wok_cons (by first | exact fun _ _ h k => h.trans (k.mono h.size)) ?_
    · repeat first | exact vok_nil | refine vok_rig (by first | exact fun _ _ _ h => h) ?_ | refine vok_soft (by first | exact fun _ _ _ h _ => h | exact fun _ _ _ h k => ⟨h.choose, h.choose_spec.1, h.choose_spec.2.below k (Nat.le_refl _)⟩) ?_
    · exact hF0
    · repeat first | exact all_end (by decide) | refine all_cons (by first | exact rfl | exact ⟨rfl, fun _ _ h => Or.inl h⟩ | exact ⟨rfl, fun _ _ h => Or.inr ⟨h, rfl⟩⟩) ?_
    · refine allp_mild 0 rfl rfl rfl (fun a x_ W hout hin hP => ?_) ?_
      · have e1 : a.tmps[1]? = some (.slice D q f) := (hout 1 (by kernel_rfl)).trans rfl
        exact does_move rfl e1 ⟨Same.refl _, rfl⟩
      refine allp_mild 0 rfl rfl rfl (fun a x_ W hout hin hP => ?_) ?_
      · have e14 := hin.is 0 14 (by kernel_rfl) (by decide) (by kernel_rfl) (by kernel_rfl) _ rfl
        have C := labbits_any l _ W (HL.out.below hP (Nat.le_refl _)) HLN.out
        rw [HX.out] at C
        clear hP
        clear hin hout
        intro K Q hK
        go_simp
        refine C.mono ?_
        rintro e W' ⟨rfl, hb⟩
        exact hK _ _ ⟨hb, rfl⟩
      refine allp_mild 0 rfl rfl rfl (fun a x_ W hout hin hP => ?_) ?_
      · have e0 : a.tmps[0]? = some (.pointer (some ⟨g, 0, none⟩)) := (hout 0 (by kernel_rfl)).trans rfl
        exact does_move rfl e0 ⟨Same.refl _, rfl⟩
      refine allp_mild 0 rfl rfl rfl (fun a x_ W hout hin hP => ?_) ?_
      · have e16 := hin.is 2 16 (by kernel_rfl) (by decide) (by kernel_rfl) (by kernel_rfl) _ rfl
        clear hP
        clear hin hout
        intro K Q hK
        go_simp
        exact hK _ _ ⟨Same.refl _, rfl⟩
      refine allp_mild 0 rfl rfl rfl (fun a x_ W hout hin hP => ?_) ?_
      · have e17 := hin.is 3 17 (by kernel_rfl) (by decide) (by kernel_rfl) (by kernel_rfl) _ rfl
        clear hP
        clear hin hout
        intro K Q hK
        go_simp
        exact hK _ _ ⟨Same.refl _, rfl⟩
      refine allp_mild 0 rfl rfl rfl (fun a x_ W hout hin hP => ?_) ?_
      · have e18 := hin.is 4 18 (by kernel_rfl) (by decide) (by kernel_rfl) (by kernel_rfl) _ rfl
        clear hP
        clear hin hout
        intro K Q hK
        go_simp
        exact hK _ _ ⟨Same.refl _, rfl⟩
      refine allp_mild 0 rfl rfl rfl (fun a x_ W hout hin hP => ?_) ?_
      · have e19 := hin.is 5 19 (by kernel_rfl) (by decide) (by kernel_rfl) (by kernel_rfl) _ rfl
        have hr := HR.out.call hP
        have hc : W.cell? ⟨g, 3, none⟩ = some (.slice (some ⟨b, o, none⟩) n c) := hr.get rfl
        clear hP
        clear hin hout
        intro K Q hK
        go_simp
        exact hK _ _ ⟨Same.refl _, rfl⟩
      refine allp_mild 0 rfl rfl rfl (fun a x_ W hout hin hP => ?_) ?_
      · have e20 := hin.is 6 20 (by kernel_rfl) (by decide) (by kernel_rfl) (by kernel_rfl) _ rfl
        have hn := HN1.out
        clear hP
        clear hin hout
        intro K Q hK
        go_simp
        exact hK _ _ ⟨Same.refl _, rfl⟩
      refine allp_mild 0 rfl rfl rfl (fun a x_ W hout hin hP => ?_) ?_
      · have e21 := hin.is 7 21 (by kernel_rfl) (by decide) (by kernel_rfl) (by kernel_rfl) _ rfl
        clear hin hout
        intro K Q hK
        refine wp_load_mid 61 (.tmp 21) rfl b o (eval_of_get e21) (pcell (Y, q0)) _ (fun j u hu => (hP.cell (p := ⟨b, o + j, none⟩) HBW.out).trans (HRG.out j u hu)) Try.underlying61 rfl (by rw [len_pcell HQ.out]; exact info_put33) (hK _ _ ⟨Same.refl _, rfl⟩)
      refine allp_mild 0 rfl rfl rfl (fun a x_ W hout hin hP => ?_) ?_
      · have e22 := hin.is 8 22 (by kernel_rfl) (by decide) (by kernel_rfl) (by kernel_rfl) _ rfl
        clear hin hout hP
        intro K Q hK
        refine wp_buildOne 28 61 (.tmp 22) rfl (pcell (Y, q0)).toArray _ 33 (eval_of_get e22) Try.underlying28 rfl (by rw [List.size_toArray, len_pcell HQ.out]) (by decide) (by decide) (hK _ _ ⟨Same.alloc _ _, _, rfl, puts_one (Row.fresh _ _ _) ⟨HQ.out, HYB.out⟩⟩)
      refine allp_mild 0 rfl rfl rfl (fun a x_ W hout hin hP => ?_) ?_
      · obtain ⟨v23, e23, hv23⟩ := hin.get 9 23 (by kernel_rfl) (by decide) (by kernel_rfl) (.inr ⟨rfl, by kernel_rfl⟩)
        obtain ⟨g9, rfl, hp9⟩ := hv23
        have C := labbits_any [(Y, q0)] _ W hp9 (Nat.le_of_ble_eq_true rfl)
        rw [HZ.out] at C
        clear hP hp9
        clear hin hout
        intro K Q hK
        go_simp
        refine C.mono ?_
        rintro e W' ⟨rfl, hb⟩
        exact hK _ _ ⟨hb, rfl⟩
      refine allp_mild 0 rfl rfl rfl (fun a x_ W hout hin hP => ?_) ?_
      · have e15 := hin.is 1 15 (by kernel_rfl) (by decide) (by kernel_rfl) (by kernel_rfl) _ rfl
        have e24 := hin.is 10 24 (by kernel_rfl) (by decide) (by kernel_rfl) (by kernel_rfl) _ rfl
        have hand := HAND.out
        clear hP
        clear hin hout
        intro K Q hK
        go_simp
        exact hK _ _ ⟨Same.refl _, rfl⟩
      refine allp_mild 0 rfl rfl rfl (fun a x_ W hout hin hP => ?_) ?_
      · have e25 := hin.is 11 25 (by kernel_rfl) (by decide) (by kernel_rfl) (by kernel_rfl) _ rfl
        have hq := HQU.out
        clear hP
        clear hin hout
        intro K Q hK
        go_simp
        exact hK _ _ ⟨Same.refl _, rfl⟩
      exact all_end (by decide)
    · intro x_ W hP hV
      have h12 : x_ 12 = .bool false := hV 12 (by decide) (.inl (by kernel_rfl))
      have HB := Lib.hid hP
      clear hP hV
      simp only [putL, Act.put, List.setIfInBounds_toArray, List.set_cons_succ, List.set_cons_zero, h12]
      refine wpAnyH_done (by kernel_rfl) ?_ _
      clear h12
      go_wp2_with fail
      go_end0
      exact ⟨rfl, SndAt.call ⟨some ⟨b, o, none⟩, n, c, B, m, d, HR.out, HPO.out, HPP.out⟩ HB.out, Chg.of_below HB.out⟩
  · have hS : touchS S l = ⟨S.o, S.p, S.n, true⟩ := by unfold touchS; rw [hB, decide_eq_true hu]; exact if_pos rfl
    rw [hS]
    have HQU : Hid ((hd U != 0) = true) := Lib.hid (bne_iff_ne.2 fun h => hu (hd_inj (by rw [h]; rfl)))
    clear hS hB hu h2
    go_enter Try.func15, Try.ntmps15
    go_upto_region 1 with fail
    have hF0 : Wl [(fun W => Below w.heap.size w W)] 0 (World.drew _) := (Below.refl _ _).drew
    clear c0
    refine wp_region_phs [is (.slice D q f), is (.int .u16 (hd X)), is (.pointer (some ⟨g, 0, none⟩)), is (.pointer (some ⟨g, 0, none⟩)), is (.pointer (some ⟨g, 0, none⟩)), is (.pointer (some ⟨g, 3, none⟩)), is (.slice (some ⟨b, o, none⟩) n c), is (.pointer (some ⟨b, o, none⟩)), is (.agg (pcell (Y, q0)).toArray), (fun v W => ∃ g9, v = Value.slice (some ⟨g9, 0, none⟩) 1 1 ∧ PutsAt W v [(Y, q0)]), is (.int .u16 (hd Z)), is (.int .u16 (hd U)), is (.bool true)] [true, true, true, true, true, true, true, true, true, false, true, true, true] [(fun W => Below w.heap.size w W)] [false, false, false, false, false, false, false, false, false, false, false, false, false] [some 0, some 0, some 0, some 0, some 0, some 0, some 0, some 0, some 0, some 0, some 0, some 0, some 0] [some 14, some 15, some 16, some 17, some 18, some 19, some 20, some 21, some 22, some 23, some 24, some 25, some 26] 13 0 (fun _ => true) rfl rfl (by kernel_rfl) (by kernel_rfl) (by kernel_rfl) (by kernel_rfl) ?_ ?_ ?_ ?_ ?_ ?_
    · repeat first | exact wok_nil | refine wok_cons (by first | exact fun _ _ h k => h.trans (k.mono h.size)) ?_
    · repeat first | exact vok_nil | refine vok_rig (by first | exact fun _ _ _ h => h) ?_ | refine vok_soft (by first | exact fun _ _ _ h _ => h | exact fun _ _ _ h k => ⟨h.choose, h.choose_spec.1, h.choose_spec.2.below k (Nat.le_refl _)⟩) ?_
    · exact hF0
    · repeat first | exact all_end (by decide) | refine all_cons (by first | exact rfl | exact ⟨rfl, fun _ _ h => Or.inl h⟩ | exact ⟨rfl, fun _ _ h => Or.inr ⟨h, rfl⟩⟩) ?_
    · refine allp_mild 0 rfl rfl rfl (fun a x_ W hout hin hP => ?_) ?_
      · have e1 : a.tmps[1]? = some (.slice D q f) := (hout 1 (by kernel_rfl)).trans rfl
        exact does_move rfl e1 ⟨Same.refl _, rfl⟩
      refine allp_mild 0 rfl rfl rfl (fun a x_ W hout hin hP => ?_) ?_
      · have e14 := hin.is 0 14 (by kernel_rfl) (by decide) (by kernel_rfl) (by kernel_rfl) _ rfl
        have C := labbits_any l _ W (HL.out.below hP (Nat.le_refl _)) HLN.out
        rw [HX.out] at C
        clear hP
        clear hin hout
        intro K Q hK
        go_simp
        refine C.mono ?_
        rintro e W' ⟨rfl, hb⟩
        exact hK _ _ ⟨hb, rfl⟩
      refine allp_mild 0 rfl rfl rfl (fun a x_ W hout hin hP => ?_) ?_
      · have e0 : a.tmps[0]? = some (.pointer (some ⟨g, 0, none⟩)) := (hout 0 (by kernel_rfl)).trans rfl
        exact does_move rfl e0 ⟨Same.refl _, rfl⟩
      refine allp_mild 0 rfl rfl rfl (fun a x_ W hout hin hP => ?_) ?_
      · have e16 := hin.is 2 16 (by kernel_rfl) (by decide) (by kernel_rfl) (by kernel_rfl) _ rfl
        clear hP
        clear hin hout
        intro K Q hK
        go_simp
        exact hK _ _ ⟨Same.refl _, rfl⟩
      refine allp_mild 0 rfl rfl rfl (fun a x_ W hout hin hP => ?_) ?_
      · have e17 := hin.is 3 17 (by kernel_rfl) (by decide) (by kernel_rfl) (by kernel_rfl) _ rfl
        clear hP
        clear hin hout
        intro K Q hK
        go_simp
        exact hK _ _ ⟨Same.refl _, rfl⟩
      refine allp_mild 0 rfl rfl rfl (fun a x_ W hout hin hP => ?_) ?_
      · have e18 := hin.is 4 18 (by kernel_rfl) (by decide) (by kernel_rfl) (by kernel_rfl) _ rfl
        clear hP
        clear hin hout
        intro K Q hK
        go_simp
        exact hK _ _ ⟨Same.refl _, rfl⟩
      refine allp_mild 0 rfl rfl rfl (fun a x_ W hout hin hP => ?_) ?_
      · have e19 := hin.is 5 19 (by kernel_rfl) (by decide) (by kernel_rfl) (by kernel_rfl) _ rfl
        have hr := HR.out.call hP
        have hc : W.cell? ⟨g, 3, none⟩ = some (.slice (some ⟨b, o, none⟩) n c) := hr.get rfl
        clear hP
        clear hin hout
        intro K Q hK
        go_simp
        exact hK _ _ ⟨Same.refl _, rfl⟩
      refine allp_mild 0 rfl rfl rfl (fun a x_ W hout hin hP => ?_) ?_
      · have e20 := hin.is 6 20 (by kernel_rfl) (by decide) (by kernel_rfl) (by kernel_rfl) _ rfl
        have hn := HN1.out
        clear hP
        clear hin hout
        intro K Q hK
        go_simp
        exact hK _ _ ⟨Same.refl _, rfl⟩
      refine allp_mild 0 rfl rfl rfl (fun a x_ W hout hin hP => ?_) ?_
      · have e21 := hin.is 7 21 (by kernel_rfl) (by decide) (by kernel_rfl) (by kernel_rfl) _ rfl
        clear hin hout
        intro K Q hK
        refine wp_load_mid 61 (.tmp 21) rfl b o (eval_of_get e21) (pcell (Y, q0)) _ (fun j u hu => (hP.cell (p := ⟨b, o + j, none⟩) HBW.out).trans (HRG.out j u hu)) Try.underlying61 rfl (by rw [len_pcell HQ.out]; exact info_put33) (hK _ _ ⟨Same.refl _, rfl⟩)
      refine allp_mild 0 rfl rfl rfl (fun a x_ W hout hin hP => ?_) ?_
      · have e22 := hin.is 8 22 (by kernel_rfl) (by decide) (by kernel_rfl) (by kernel_rfl) _ rfl
        clear hin hout hP
        intro K Q hK
        refine wp_buildOne 28 61 (.tmp 22) rfl (pcell (Y, q0)).toArray _ 33 (eval_of_get e22) Try.underlying28 rfl (by rw [List.size_toArray, len_pcell HQ.out]) (by decide) (by decide) (hK _ _ ⟨Same.alloc _ _, _, rfl, puts_one (Row.fresh _ _ _) ⟨HQ.out, HYB.out⟩⟩)
      refine allp_mild 0 rfl rfl rfl (fun a x_ W hout hin hP => ?_) ?_
      · obtain ⟨v23, e23, hv23⟩ := hin.get 9 23 (by kernel_rfl) (by decide) (by kernel_rfl) (.inr ⟨rfl, by kernel_rfl⟩)
        obtain ⟨g9, rfl, hp9⟩ := hv23
        have C := labbits_any [(Y, q0)] _ W hp9 (Nat.le_of_ble_eq_true rfl)
        rw [HZ.out] at C
        clear hP hp9
        clear hin hout
        intro K Q hK
        go_simp
        refine C.mono ?_
        rintro e W' ⟨rfl, hb⟩
        exact hK _ _ ⟨hb, rfl⟩
      refine allp_mild 0 rfl rfl rfl (fun a x_ W hout hin hP => ?_) ?_
      · have e15 := hin.is 1 15 (by kernel_rfl) (by decide) (by kernel_rfl) (by kernel_rfl) _ rfl
        have e24 := hin.is 10 24 (by kernel_rfl) (by decide) (by kernel_rfl) (by kernel_rfl) _ rfl
        have hand := HAND.out
        clear hP
        clear hin hout
        intro K Q hK
        go_simp
        exact hK _ _ ⟨Same.refl _, rfl⟩
      refine allp_mild 0 rfl rfl rfl (fun a x_ W hout hin hP => ?_) ?_
      · have e25 := hin.is 11 25 (by kernel_rfl) (by decide) (by kernel_rfl) (by kernel_rfl) _ rfl
        have hq := HQU.out
        clear hP
        clear hin hout
        intro K Q hK
        go_simp
        exact hK _ _ ⟨Same.refl _, rfl⟩
      exact all_end (by decide)
    · intro x_ W hP hV
      have h12 : x_ 12 = .bool true := hV 12 (by decide) (.inl (by kernel_rfl))
      have HB := Lib.hid hP
      clear hP hV
      simp only [putL, Act.put, List.setIfInBounds_toArray, List.set_cons_succ, List.set_cons_zero, h12]
      refine wpAnyH_done (by kernel_rfl) ?_ _
      clear h12
      have HR9 := Lib.hid (HR.out.call HB.out)
      have HS := st_only HR9.out
      go_wp2_with (first | ((with_reducible refine wpList_plain ?_ ?_); exact rfl; intro KK hKK; refine wp_st_put HS 0 9 4 (.tmp 29) (.const (.bool true)) rfl rfl rfl (.bool true) rfl (by kernel_rfl) rfl rfl (by show 9 < 10; decide) (sndC S.o S.p (.slice (some ⟨b, o, none⟩) n c) (.slice B m d) S.n true) (by exact rfl) (fun W21 HSx => hKK _ _ ?_); clear hKK KK HS; have HS : St W (fun k => k = g) [⟨g, 32, sndC S.o S.p (.slice (some ⟨b, o, none⟩) n c) (.slice B m d) S.n true⟩] W21 := HSx; clear HSx))
      go_end0
      have KF : ∀ y, y = g → y < W.heap.size → ∃ t cs, Row W y t cs ∧ NoU8 cs := fun y hy _ => by subst hy; exact ⟨_, _, HR9.out, nou8_snd _ _ _ _ _ _ _ _ _ _⟩
      exact ⟨rfl, ⟨some ⟨b, o, none⟩, n, c, B, m, d, HS.row 0 rfl, puts_keep (HPO.out.below HB.out (Nat.le_refl _)) HS.chg KF, puts_keep (HPP.out.below HB.out (Nat.le_refl _)) HS.chg KF⟩, (Chg.of_below (F := (fun k => k = g)) HB.out).trans HS.chg (fun i hi => .inl hi)⟩
set_option maxHeartbeats 800000 in
theorem out_nil (w : World) : Calls Try.prog 21 #[.pointer none] w fun x w' => x = .returned (.tuple #[.agg (pktA 0 0#32 0#32 (.slice none 0 0)), .bool false]) ∧ Below w.heap.size w w' := by
  have HS := St.nil w noF
  go_enter Try.func21, Try.ntmps21
  go_upto_region 1 with (first | ((with_reducible refine wpList_plain ?_ ?_); exact rfl; intro KK hKK; refine wp_st_alloc HS 30 (pktA 0 0#32 0#32 (.slice none 0 0)) rfl (.agg (pktA 0 0#32 0#32 (.slice none 0 0))) (by kernel_rfl) (rfl) (fun g2 W1 HSx => hKK _ _ ?_); clear hKK KK HS; have HS : St w noF [⟨g2, 30, pktA 0 0#32 0#32 (.slice none 0 0)⟩] W1 := HSx; clear HSx))
  go_wp2_with (first | ((with_reducible refine wpList_plain ?_ ?_); exact rfl; intro KK hKK; refine wp_st_store HS 0 0 30 (.tmp 2) (.tmp 6) rfl rfl rfl (.agg #[.int .i64 0, .int .u32 0, .int .u32 0, .slice none 0 0]) rfl (by exact size_pkt) (Nat.le_refl 4) (by simp [Value.cells, Value.oneCell']) (pktA 0 0#32 0#32 (.slice none 0 0)) (by exact rfl) (fun W31 HSx => hKK _ _ ?_); clear hKK KK HS; have HS : St w noF [⟨g2, 30, pktA 0 0#32 0#32 (.slice none 0 0)⟩] W31 := HSx; clear HSx))
  refine bodyPost_ret (results_cell_tmp Try.results21 _ _ g2 30 (pktA 0 0#32 0#32 (.slice none 0 0)) (0, 0) _ rfl (HS.row 0 rfl) Try.underlying30 rfl (by exact size_pkt)) rfl ?_
  exact ⟨rfl, HS.below⟩
set_option maxRecDepth 20000 in
set_option maxHeartbeats 1600000 in
theorem out_any (g : Nat) (S : Snd) (w : World) (h : SndAt w g S) (hlo : S.o.l.length ≤ 5) :
    Calls Try.prog 21 #[.pointer (some ⟨g, 0, none⟩)] w fun x w' => ∃ B9 m9 d9, x = .returned (.tuple #[.agg (pktA S.o.k S.o.e S.o.s (.slice B9 m9 d9)), .bool (decide (S.o.k ≠ 0))]) ∧ PutsAt w' (.slice B9 m9 d9) S.o.l ∧ Below w.heap.size w w' := by
  obtain ⟨A, n, c, B, m, d, hr, hpo, hpp⟩ := h
  have HR := Lib.hid hr
  have HPO := Lib.hid hpo
  have HPP := Lib.hid hpp
  clear hr hpo hpp
  have HLO : Hid (n ≤ 1000000) := Lib.hid (by have := puts_len HPO.out; omega)
  clear hlo
  have HS := St.nil w noF
  go_enter Try.func21, Try.ntmps21
  go_upto_region 1 with (first | ((with_reducible refine wpList_plain ?_ ?_); exact rfl; intro KK hKK; refine wp_st_alloc HS 30 (pktA 0 0#32 0#32 (.slice none 0 0)) rfl (.agg (pktA 0 0#32 0#32 (.slice none 0 0))) (by kernel_rfl) (rfl) (fun g2 W1 HSx => hKK _ _ ?_); clear hKK KK HS; have HS : St w noF [⟨g2, 30, pktA 0 0#32 0#32 (.slice none 0 0)⟩] W1 := HSx; clear HSx))
  go_upto_region 3 with fail
  have hF0 : Wl [(fun W => St w noF [⟨g2, 30, pktA 0 0#32 0#32 (.slice none 0 0)⟩] W), (fun W => ∃ B9 m9 d9, St w noF [⟨g2, 30, pktA S.o.k S.o.e S.o.s (.slice B9 m9 d9)⟩] W ∧ PutsAt W (.slice B9 m9 d9) S.o.l)] 0 (World.drew _) := HS.same (Below.refl _ _).drew
  clear HS
  refine wp_region_phs [is (.pointer (some ⟨g, 0, none⟩)), is (.pointer (some ⟨g, 0, none⟩)), is (.pointer (some ⟨g, 0, none⟩)), is (.agg (pktA S.o.k S.o.e S.o.s (.slice A n c))), (fun v W => ∃ B9 m9 d9, v = Value.agg (pktA S.o.k S.o.e S.o.s (.slice B9 m9 d9)) ∧ PutsAt W (.slice B9 m9 d9) S.o.l), is (.pointer (some ⟨g, 0, none⟩)), is (.pointer (some ⟨g, 0, none⟩)), is (.pointer (some ⟨g, 0, none⟩)), is (.agg (pktA S.o.k S.o.e S.o.s (.slice A n c))), is (.bool (decide (S.o.k ≠ 0))), anyV, is (.bool (decide (S.o.k ≠ 0)))] [true, true, true, true, false, true, true, true, true, true, true, true] [(fun W => St w noF [⟨g2, 30, pktA 0 0#32 0#32 (.slice none 0 0)⟩] W), (fun W => ∃ B9 m9 d9, St w noF [⟨g2, 30, pktA S.o.k S.o.e S.o.s (.slice B9 m9 d9)⟩] W ∧ PutsAt W (.slice B9 m9 d9) S.o.l)] [false, false, false, false, false, false, false, false, false, false, true, false] [some 0, some 0, some 0, some 0, some 0, some 0, some 0, some 0, some 0, some 0, some 0, some 1] [some 7, some 8, some 9, some 10, some 11, some 12, some 13, some 14, some 15, some 16, none, some 3] 12 1 (fun _ => true) rfl rfl (by kernel_rfl) (by kernel_rfl) (by kernel_rfl) (by kernel_rfl) ?_ ?_ ?_ ?_ ?_ ?_
  · repeat first | exact wok_nil | refine wok_cons (by first | exact fun _ _ h k => h.same k | exact fun _ _ h k => ⟨h.choose, h.choose_spec.choose, h.choose_spec.choose_spec.choose, h.choose_spec.choose_spec.choose_spec.1.same k, h.choose_spec.choose_spec.choose_spec.2.below k (Nat.le_refl _)⟩) ?_
  · repeat first | exact vok_nil | refine vok_rig (by first | exact fun _ _ _ h => h) ?_ | refine vok_soft (by first | exact fun _ _ _ h _ => h | exact fun _ _ _ h k => ⟨h.choose, h.choose_spec.choose, h.choose_spec.choose_spec.choose, h.choose_spec.choose_spec.choose_spec.1, h.choose_spec.choose_spec.choose_spec.2.below k (Nat.le_refl _)⟩) ?_
  · exact hF0
  · repeat first | exact all_end (by decide) | refine all_cons (by first | exact rfl | exact ⟨rfl, fun _ _ h => Or.inl h⟩ | exact ⟨rfl, fun _ _ h => Or.inr ⟨h, rfl⟩⟩) ?_
  · refine allp_mild 0 rfl rfl rfl (fun a x_ W hout hin hP => ?_) ?_
    · have e0 : a.tmps[0]? = some (.pointer (some ⟨g, 0, none⟩)) := (hout 0 (by kernel_rfl)).trans rfl
      exact does_move rfl e0 ⟨Same.refl _, rfl⟩
    refine allp_mild 0 rfl rfl rfl (fun a x_ W hout hin hP => ?_) ?_
    · have e7 := hin.is 0 7 (by kernel_rfl) (by decide) (by kernel_rfl) (by kernel_rfl) _ rfl
      clear hP
      clear hin hout
      intro K Q hK
      go_simp
      exact hK _ _ ⟨Same.refl _, rfl⟩
    refine allp_mild 0 rfl rfl rfl (fun a x_ W hout hin hP => ?_) ?_
    · have e8 := hin.is 1 8 (by kernel_rfl) (by decide) (by kernel_rfl) (by kernel_rfl) _ rfl
      clear hP
      clear hin hout
      intro K Q hK
      go_simp
      exact hK _ _ ⟨Same.refl _, rfl⟩
    refine allp_mild 0 rfl rfl rfl (fun a x_ W hout hin hP => ?_) ?_
    · have e9 := hin.is 2 9 (by kernel_rfl) (by decide) (by kernel_rfl) (by kernel_rfl) _ rfl
      clear hin hout
      intro K Q hK
      refine wp_load_mid 30 (.tmp 9) rfl g 0 (eval_of_get e9) (pktA S.o.k S.o.e S.o.s (.slice A n c)).toList _ ((HR.out.call hP.below).slab 0 _ rfl) Try.underlying30 rfl (by exact size_pkt) (hK _ _ ⟨Same.refl _, rfl⟩)
    refine allp_mild 0 rfl rfl rfl (fun a x_ W hout hin hP => ?_) ?_
    · have e10 := hin.is 3 10 (by kernel_rfl) (by decide) (by kernel_rfl) (by kernel_rfl) _ rfl
      have C := copied_any S.o.k S.o.e S.o.s _ _ _ S.o.l W (HPO.out.below hP.below (Nat.le_refl _)) HLO.out
      clear hP
      clear hin hout
      intro K Q hK
      go_simp
      refine C.mono ?_
      rintro e W' ⟨B9, m9, d9, rfl, hp9, hb⟩
      exact hK _ _ ⟨hb, B9, m9, d9, rfl, hp9⟩
    refine allp_mild 0 rfl rfl rfl (fun a x_ W hout hin hP => ?_) ?_
    · have e0 : a.tmps[0]? = some (.pointer (some ⟨g, 0, none⟩)) := (hout 0 (by kernel_rfl)).trans rfl
      exact does_move rfl e0 ⟨Same.refl _, rfl⟩
    refine allp_mild 0 rfl rfl rfl (fun a x_ W hout hin hP => ?_) ?_
    · have e12 := hin.is 5 12 (by kernel_rfl) (by decide) (by kernel_rfl) (by kernel_rfl) _ rfl
      clear hP
      clear hin hout
      intro K Q hK
      go_simp
      exact hK _ _ ⟨Same.refl _, rfl⟩
    refine allp_mild 0 rfl rfl rfl (fun a x_ W hout hin hP => ?_) ?_
    · have e13 := hin.is 6 13 (by kernel_rfl) (by decide) (by kernel_rfl) (by kernel_rfl) _ rfl
      clear hP
      clear hin hout
      intro K Q hK
      go_simp
      exact hK _ _ ⟨Same.refl _, rfl⟩
    refine allp_mild 0 rfl rfl rfl (fun a x_ W hout hin hP => ?_) ?_
    · have e14 := hin.is 7 14 (by kernel_rfl) (by decide) (by kernel_rfl) (by kernel_rfl) _ rfl
      clear hin hout
      intro K Q hK
      refine wp_load_mid 30 (.tmp 14) rfl g 0 (eval_of_get e14) (pktA S.o.k S.o.e S.o.s (.slice A n c)).toList _ ((HR.out.call hP.below).slab 0 _ rfl) Try.underlying30 rfl (by exact size_pkt) (hK _ _ ⟨Same.refl _, rfl⟩)
    refine allp_mild 0 rfl rfl rfl (fun a x_ W hout hin hP => ?_) ?_
    · have e15 := hin.is 8 15 (by kernel_rfl) (by decide) (by kernel_rfl) (by kernel_rfl) _ rfl
      have C := is_any S.o.k S.o.e S.o.s (.slice A n c) W
      clear hP
      clear hin hout
      intro K Q hK
      go_simp
      refine C.mono ?_
      rintro e W' ⟨rfl, hb⟩
      exact hK _ _ ⟨hb, rfl⟩
    refine allp_wild 0 rfl rfl rfl (fun a x_ W hout hin hP => ?_) ?_
    · have e2 : a.tmps[2]? = some (.pointer (some ⟨g2, 0, none⟩)) := (hout 2 (by kernel_rfl)).trans rfl
      obtain ⟨v11, e11, hv11⟩ := hin.get 4 11 (by kernel_rfl) (by decide) (by kernel_rfl) (.inr ⟨rfl, by kernel_rfl⟩)
      obtain ⟨B9, m9, d9, rfl, hp9⟩ := hv11
      clear hin hout
      intro K Q hK
      have HS9 := st_again (G := fun k => k = g2) hP (fun k r hk => by match k, hk with | 0, hk => cases hk; rfl)
      exact wp_st_store HS9 0 0 30 (.tmp 2) (.tmp 11) rfl rfl (eval_of_get e2) (.agg (pktA S.o.k S.o.e S.o.s (.slice B9 m9 d9))) (eval_of_get e11) (by exact size_pkt) (Nat.le_refl 4) (pkt_one ..) (pktA S.o.k S.o.e S.o.s (.slice B9 m9 d9)) (by exact spl_agg _ _ _ rfl rfl) (fun W9 HSx => hK _ _ ⟨⟨B9, m9, d9, st_then hP HSx (fun i hi => .inr (by rw [hi]; exact (hP.own 0 _ rfl).resolve_left (fun h => h))) (fun k r hk => by match k, hk with | 0, hk => cases hk; exact (hP.own 0 ⟨g2, 30, pktA 0 0#32 0#32 (.slice none 0 0)⟩ rfl)), puts_keep hp9 HSx.chg (fun y hy _ => by rw [hy]; exact ⟨_, _, hP.row 0 rfl, nou8_pkt _ _ _ _ _ _⟩)⟩, trivial⟩)
    refine allp_mild 1 rfl rfl rfl (fun a x_ W hout hin hP => ?_) ?_
    · have e16 := hin.is 9 16 (by kernel_rfl) (by decide) (by kernel_rfl) (by kernel_rfl) _ rfl
      exact does_assign rfl e16 ⟨Same.refl _, rfl⟩
    exact all_end (by decide)
  · intro x_ W hP hV
    have h11 : x_ 11 = .bool (decide (S.o.k ≠ 0)) := hV 11 (by decide) (.inl (by kernel_rfl))
    obtain ⟨B9, m9, d9, hs9, hp9⟩ := hP
    have HST := Lib.hid hs9
    have HP9 := Lib.hid hp9
    clear hs9 hp9 hV
    simp only [putL, Act.put, List.setIfInBounds_toArray, List.set_cons_succ, List.set_cons_zero, h11]
    refine wpAnyH_done (by kernel_rfl) ?_ _
    clear h11
    go_wp2_with fail
    refine bodyPost_ret (results_cell_tmp Try.results21 _ _ g2 30 (pktA S.o.k S.o.e S.o.s (.slice B9 m9 d9)) (0, 0) _ rfl (HST.out.row 0 rfl) Try.underlying30 rfl (by exact size_pkt)) rfl ?_
    exact ⟨B9, m9, d9, rfl, HP9.out, HST.out.below⟩
set_option maxHeartbeats 800000 in
theorem early_nil (w : World) : Calls Try.prog 22 #[.pointer none] w fun x w' => x = .returned (.tuple #[.agg (pktA 0 0#32 0#32 (.slice none 0 0)), .bool false]) ∧ Below w.heap.size w w' := by
  have HS := St.nil w noF
  go_enter Try.func22, Try.ntmps22
  go_upto_region 1 with (first | ((with_reducible refine wpList_plain ?_ ?_); exact rfl; intro KK hKK; refine wp_st_alloc HS 30 (pktA 0 0#32 0#32 (.slice none 0 0)) rfl (.agg (pktA 0 0#32 0#32 (.slice none 0 0))) (by kernel_rfl) (rfl) (fun g2 W1 HSx => hKK _ _ ?_); clear hKK KK HS; have HS : St w noF [⟨g2, 30, pktA 0 0#32 0#32 (.slice none 0 0)⟩] W1 := HSx; clear HSx))
  go_wp2_with (first | ((with_reducible refine wpList_plain ?_ ?_); exact rfl; intro KK hKK; refine wp_st_store HS 0 0 30 (.tmp 2) (.tmp 6) rfl rfl rfl (.agg #[.int .i64 0, .int .u32 0, .int .u32 0, .slice none 0 0]) rfl (by exact size_pkt) (Nat.le_refl 4) (by simp [Value.cells, Value.oneCell']) (pktA 0 0#32 0#32 (.slice none 0 0)) (by exact rfl) (fun W31 HSx => hKK _ _ ?_); clear hKK KK HS; have HS : St w noF [⟨g2, 30, pktA 0 0#32 0#32 (.slice none 0 0)⟩] W31 := HSx; clear HSx))
  refine bodyPost_ret (results_cell_tmp Try.results22 _ _ g2 30 (pktA 0 0#32 0#32 (.slice none 0 0)) (0, 0) _ rfl (HS.row 0 rfl) Try.underlying30 rfl (by exact size_pkt)) rfl ?_
  exact ⟨rfl, HS.below⟩
set_option maxRecDepth 20000 in
set_option maxHeartbeats 1600000 in
theorem early_any (g : Nat) (S : Snd) (w : World) (h : SndAt w g S) (hlo : S.p.l.length ≤ 5) :
    Calls Try.prog 22 #[.pointer (some ⟨g, 0, none⟩)] w fun x w' => ∃ B9 m9 d9, x = .returned (.tuple #[.agg (pktA S.p.k S.p.e S.p.s (.slice B9 m9 d9)), .bool (decide (S.p.k ≠ 0))]) ∧ PutsAt w' (.slice B9 m9 d9) S.p.l ∧ Below w.heap.size w w' := by
  obtain ⟨A, n, c, B, m, d, hr, hpo, hpp⟩ := h
  have HR := Lib.hid hr
  have HPO := Lib.hid hpo
  have HPP := Lib.hid hpp
  clear hr hpo hpp
  have HLO : Hid (m ≤ 1000000) := Lib.hid (by have := puts_len HPP.out; omega)
  clear hlo
  have HS := St.nil w noF
  go_enter Try.func22, Try.ntmps22
  go_upto_region 1 with (first | ((with_reducible refine wpList_plain ?_ ?_); exact rfl; intro KK hKK; refine wp_st_alloc HS 30 (pktA 0 0#32 0#32 (.slice none 0 0)) rfl (.agg (pktA 0 0#32 0#32 (.slice none 0 0))) (by kernel_rfl) (rfl) (fun g2 W1 HSx => hKK _ _ ?_); clear hKK KK HS; have HS : St w noF [⟨g2, 30, pktA 0 0#32 0#32 (.slice none 0 0)⟩] W1 := HSx; clear HSx))
  go_upto_region 3 with fail
  have hF0 : Wl [(fun W => St w noF [⟨g2, 30, pktA 0 0#32 0#32 (.slice none 0 0)⟩] W), (fun W => ∃ B9 m9 d9, St w noF [⟨g2, 30, pktA S.p.k S.p.e S.p.s (.slice B9 m9 d9)⟩] W ∧ PutsAt W (.slice B9 m9 d9) S.p.l)] 0 (World.drew _) := HS.same (Below.refl _ _).drew
  clear HS
  refine wp_region_phs [is (.pointer (some ⟨g, 0, none⟩)), is (.pointer (some ⟨g, 0, none⟩)), is (.pointer (some ⟨g, 4, none⟩)), is (.agg (pktA S.p.k S.p.e S.p.s (.slice B m d))), (fun v W => ∃ B9 m9 d9, v = Value.agg (pktA S.p.k S.p.e S.p.s (.slice B9 m9 d9)) ∧ PutsAt W (.slice B9 m9 d9) S.p.l), is (.pointer (some ⟨g, 0, none⟩)), is (.pointer (some ⟨g, 0, none⟩)), is (.pointer (some ⟨g, 4, none⟩)), is (.agg (pktA S.p.k S.p.e S.p.s (.slice B m d))), is (.bool (decide (S.p.k ≠ 0))), anyV, is (.bool (decide (S.p.k ≠ 0)))] [true, true, true, true, false, true, true, true, true, true, true, true] [(fun W => St w noF [⟨g2, 30, pktA 0 0#32 0#32 (.slice none 0 0)⟩] W), (fun W => ∃ B9 m9 d9, St w noF [⟨g2, 30, pktA S.p.k S.p.e S.p.s (.slice B9 m9 d9)⟩] W ∧ PutsAt W (.slice B9 m9 d9) S.p.l)] [false, false, false, false, false, false, false, false, false, false, true, false] [some 0, some 0, some 0, some 0, some 0, some 0, some 0, some 0, some 0, some 0, some 0, some 1] [some 7, some 8, some 9, some 10, some 11, some 12, some 13, some 14, some 15, some 16, none, some 3] 12 1 (fun _ => true) rfl rfl (by kernel_rfl) (by kernel_rfl) (by kernel_rfl) (by kernel_rfl) ?_ ?_ ?_ ?_ ?_ ?_
  · repeat first | exact wok_nil | refine wok_cons (by first | exact fun _ _ h k => h.same k | exact fun _ _ h k => ⟨h.choose, h.choose_spec.choose, h.choose_spec.choose_spec.choose, h.choose_spec.choose_spec.choose_spec.1.same k, h.choose_spec.choose_spec.choose_spec.2.below k (Nat.le_refl _)⟩) ?_
  · repeat first | exact vok_nil | refine vok_rig (by first | exact fun _ _ _ h => h) ?_ | refine vok_soft (by first | exact fun _ _ _ h _ => h | exact fun _ _ _ h k => ⟨h.choose, h.choose_spec.choose, h.choose_spec.choose_spec.choose, h.choose_spec.choose_spec.choose_spec.1, h.choose_spec.choose_spec.choose_spec.2.below k (Nat.le_refl _)⟩) ?_
  · exact hF0
  · repeat first | exact all_end (by decide) | refine all_cons (by first | exact rfl | exact ⟨rfl, fun _ _ h => Or.inl h⟩ | exact ⟨rfl, fun _ _ h => Or.inr ⟨h, rfl⟩⟩) ?_
  · refine allp_mild 0 rfl rfl rfl (fun a x_ W hout hin hP => ?_) ?_
    · have e0 : a.tmps[0]? = some (.pointer (some ⟨g, 0, none⟩)) := (hout 0 (by kernel_rfl)).trans rfl
      exact does_move rfl e0 ⟨Same.refl _, rfl⟩
    refine allp_mild 0 rfl rfl rfl (fun a x_ W hout hin hP => ?_) ?_
    · have e7 := hin.is 0 7 (by kernel_rfl) (by decide) (by kernel_rfl) (by kernel_rfl) _ rfl
      clear hP
      clear hin hout
      intro K Q hK
      go_simp
      exact hK _ _ ⟨Same.refl _, rfl⟩
    refine allp_mild 0 rfl rfl rfl (fun a x_ W hout hin hP => ?_) ?_
    · have e8 := hin.is 1 8 (by kernel_rfl) (by decide) (by kernel_rfl) (by kernel_rfl) _ rfl
      clear hP
      clear hin hout
      intro K Q hK
      go_simp
      exact hK _ _ ⟨Same.refl _, rfl⟩
    refine allp_mild 0 rfl rfl rfl (fun a x_ W hout hin hP => ?_) ?_
    · have e9 := hin.is 2 9 (by kernel_rfl) (by decide) (by kernel_rfl) (by kernel_rfl) _ rfl
      clear hin hout
      intro K Q hK
      refine wp_load_mid 30 (.tmp 9) rfl g 4 (eval_of_get e9) (pktA S.p.k S.p.e S.p.s (.slice B m d)).toList _ ((HR.out.call hP.below).slab 4 _ rfl) Try.underlying30 rfl (by exact size_pkt) (hK _ _ ⟨Same.refl _, rfl⟩)
    refine allp_mild 0 rfl rfl rfl (fun a x_ W hout hin hP => ?_) ?_
    · have e10 := hin.is 3 10 (by kernel_rfl) (by decide) (by kernel_rfl) (by kernel_rfl) _ rfl
      have C := copied_any S.p.k S.p.e S.p.s _ _ _ S.p.l W (HPP.out.below hP.below (Nat.le_refl _)) HLO.out
      clear hP
      clear hin hout
      intro K Q hK
      go_simp
      refine C.mono ?_
      rintro e W' ⟨B9, m9, d9, rfl, hp9, hb⟩
      exact hK _ _ ⟨hb, B9, m9, d9, rfl, hp9⟩
    refine allp_mild 0 rfl rfl rfl (fun a x_ W hout hin hP => ?_) ?_
    · have e0 : a.tmps[0]? = some (.pointer (some ⟨g, 0, none⟩)) := (hout 0 (by kernel_rfl)).trans rfl
      exact does_move rfl e0 ⟨Same.refl _, rfl⟩
    refine allp_mild 0 rfl rfl rfl (fun a x_ W hout hin hP => ?_) ?_
    · have e12 := hin.is 5 12 (by kernel_rfl) (by decide) (by kernel_rfl) (by kernel_rfl) _ rfl
      clear hP
      clear hin hout
      intro K Q hK
      go_simp
      exact hK _ _ ⟨Same.refl _, rfl⟩
    refine allp_mild 0 rfl rfl rfl (fun a x_ W hout hin hP => ?_) ?_
    · have e13 := hin.is 6 13 (by kernel_rfl) (by decide) (by kernel_rfl) (by kernel_rfl) _ rfl
      clear hP
      clear hin hout
      intro K Q hK
      go_simp
      exact hK _ _ ⟨Same.refl _, rfl⟩
    refine allp_mild 0 rfl rfl rfl (fun a x_ W hout hin hP => ?_) ?_
    · have e14 := hin.is 7 14 (by kernel_rfl) (by decide) (by kernel_rfl) (by kernel_rfl) _ rfl
      clear hin hout
      intro K Q hK
      refine wp_load_mid 30 (.tmp 14) rfl g 4 (eval_of_get e14) (pktA S.p.k S.p.e S.p.s (.slice B m d)).toList _ ((HR.out.call hP.below).slab 4 _ rfl) Try.underlying30 rfl (by exact size_pkt) (hK _ _ ⟨Same.refl _, rfl⟩)
    refine allp_mild 0 rfl rfl rfl (fun a x_ W hout hin hP => ?_) ?_
    · have e15 := hin.is 8 15 (by kernel_rfl) (by decide) (by kernel_rfl) (by kernel_rfl) _ rfl
      have C := is_any S.p.k S.p.e S.p.s (.slice B m d) W
      clear hP
      clear hin hout
      intro K Q hK
      go_simp
      refine C.mono ?_
      rintro e W' ⟨rfl, hb⟩
      exact hK _ _ ⟨hb, rfl⟩
    refine allp_wild 0 rfl rfl rfl (fun a x_ W hout hin hP => ?_) ?_
    · have e2 : a.tmps[2]? = some (.pointer (some ⟨g2, 0, none⟩)) := (hout 2 (by kernel_rfl)).trans rfl
      obtain ⟨v11, e11, hv11⟩ := hin.get 4 11 (by kernel_rfl) (by decide) (by kernel_rfl) (.inr ⟨rfl, by kernel_rfl⟩)
      obtain ⟨B9, m9, d9, rfl, hp9⟩ := hv11
      clear hin hout
      intro K Q hK
      have HS9 := st_again (G := fun k => k = g2) hP (fun k r hk => by match k, hk with | 0, hk => cases hk; rfl)
      exact wp_st_store HS9 0 0 30 (.tmp 2) (.tmp 11) rfl rfl (eval_of_get e2) (.agg (pktA S.p.k S.p.e S.p.s (.slice B9 m9 d9))) (eval_of_get e11) (by exact size_pkt) (Nat.le_refl 4) (pkt_one ..) (pktA S.p.k S.p.e S.p.s (.slice B9 m9 d9)) (by exact spl_agg _ _ _ rfl rfl) (fun W9 HSx => hK _ _ ⟨⟨B9, m9, d9, st_then hP HSx (fun i hi => .inr (by rw [hi]; exact (hP.own 0 _ rfl).resolve_left (fun h => h))) (fun k r hk => by match k, hk with | 0, hk => cases hk; exact (hP.own 0 ⟨g2, 30, pktA 0 0#32 0#32 (.slice none 0 0)⟩ rfl)), puts_keep hp9 HSx.chg (fun y hy _ => by rw [hy]; exact ⟨_, _, hP.row 0 rfl, nou8_pkt _ _ _ _ _ _⟩)⟩, trivial⟩)
    refine allp_mild 1 rfl rfl rfl (fun a x_ W hout hin hP => ?_) ?_
    · have e16 := hin.is 9 16 (by kernel_rfl) (by decide) (by kernel_rfl) (by kernel_rfl) _ rfl
      exact does_assign rfl e16 ⟨Same.refl _, rfl⟩
    exact all_end (by decide)
  · intro x_ W hP hV
    have h11 : x_ 11 = .bool (decide (S.p.k ≠ 0)) := hV 11 (by decide) (.inl (by kernel_rfl))
    obtain ⟨B9, m9, d9, hs9, hp9⟩ := hP
    have HST := Lib.hid hs9
    have HP9 := Lib.hid hp9
    clear hs9 hp9 hV
    simp only [putL, Act.put, List.setIfInBounds_toArray, List.set_cons_succ, List.set_cons_zero, h11]
    refine wpAnyH_done (by kernel_rfl) ?_ _
    clear h11
    go_wp2_with fail
    refine bodyPost_ret (results_cell_tmp Try.results22 _ _ g2 30 (pktA S.p.k S.p.e S.p.s (.slice B9 m9 d9)) (0, 0) _ rfl (HST.out.row 0 rfl) Try.underlying30 rfl (by exact size_pkt)) rfl ?_
    exact ⟨B9, m9, d9, rfl, HP9.out, HST.out.below⟩
end Go.Proofs.Ytppbgkdkioldbaa

/- A sender as a law has it; the law's sync. -/
set_option maxRecDepth 4000
namespace Go.Proofs.Ytppbgkdkioldbaa
open Go Go.RowKit
def Sit (w W : World) (g : Nat) (S : Snd) : Prop := SndAt W g S ∧ Below w.heap.size w W ∧ w.heap.size ≤ g
theorem Sit.call {w W W' : World} {g : Nat} {S : Snd} (h : Sit w W g S) (hb : Below W.heap.size W W') : Sit w W' g S := ⟨h.1.call hb, h.2.1.trans (hb.mono h.2.1.size), h.2.2⟩
theorem Sit.meth {w W W' : World} {g : Nat} {S S' : Snd} (h : Sit w W g S) (hs : SndAt W' g S') (hc : Chg (fun k => k = g) W W') : Sit w W' g S' :=
  ⟨hs, h.2.1.trans (hc.below (fun i hi => by rw [hi]; exact h.2.2) h.2.1.size), h.2.2⟩
theorem send_sit {w W : World} {g : Nat} {S : Snd} (h : Sit w W g S) (p : Pkt) (D : Option Addr) (q f : Nat) (hp : PutsAt W (.slice D q f) p.l) (hl : p.l.length ≤ maxLen) :
    Calls Try.prog 10 #[.pointer (some ⟨g, 0, none⟩), .agg (pktA p.k p.e p.s (.slice D q f))] W fun x W' => x = .returned (.int .i64 (sendE S p)) ∧ Sit w W' g (sendS S p) :=
  (send_any g S p D q f W h.1 hp hl).mono fun _ _ ⟨h1, h2, h3⟩ => ⟨h1, h.meth h2 h3⟩
theorem stop_sit {w W : World} {g : Nat} {S : Snd} (h : Sit w W g S) (b : Bool) : Calls Try.prog 19 #[.pointer (some ⟨g, 0, none⟩), .bool b] W fun x W' => x = .returned (.tuple #[]) ∧ Sit w W' g (stopS S b) :=
  (stop_any g S b W h.1).mono fun _ _ ⟨h1, h2, h3⟩ => ⟨h1, h.meth h2 h3⟩
theorem missed_sit {w W : World} {g : Nat} {S : Snd} (h : Sit w W g S) (hn : 0 ≤ S.n ∧ S.n ≤ 1000000) : Calls Try.prog 13 #[.pointer (some ⟨g, 0, none⟩)] W fun x W' => x = .returned (.int .i64 (missN S)) ∧ Sit w W' g (missS S) :=
  (missed_any g S W h.1 hn).mono fun _ _ ⟨h1, h2, h3⟩ => ⟨h1, h.meth h2 h3⟩
theorem acked_sit {w W : World} {g : Nat} {S : Snd} (h : Sit w W g S) (y : Pkt) (v : Value) : Calls Try.prog 17 #[.pointer (some ⟨g, 0, none⟩), .agg (pktA y.k y.e y.s v)] W fun x W' => x = .returned (.tuple #[.bool (ackB S y && S.t), .bool (ackB S y)]) ∧ Sit w W' g (ackS S y) :=
  (acked_any g S y v W h.1).mono fun _ _ ⟨h1, h2, h3⟩ => ⟨h1, h.meth h2 h3⟩
theorem touch_sit {w W : World} {g : Nat} {S : Snd} (h : Sit w W g S) (l : List Pt) (D : Option Addr) (q f : Nat) (hok : OutOk S) (hl : PutsAt W (.slice D q f) l) (hln : l.length ≤ 1000000) :
    Calls Try.prog 15 #[.pointer (some ⟨g, 0, none⟩), .slice D q f] W fun x W' => x = .returned (.tuple #[]) ∧ Sit w W' g (touchS S l) :=
  (touch_any g S l D q f W h.1 hok hl hln).mono fun _ _ ⟨h1, h2, h3⟩ => ⟨h1, h.meth h2 h3⟩
theorem out_sit {w W : World} {g : Nat} {S : Snd} (h : Sit w W g S) (hlo : S.o.l.length ≤ 5) :
    Calls Try.prog 21 #[.pointer (some ⟨g, 0, none⟩)] W fun x W' => ∃ B9 m9 d9, x = .returned (.tuple #[.agg (pktA S.o.k S.o.e S.o.s (.slice B9 m9 d9)), .bool (decide (S.o.k ≠ 0))]) ∧ PutsAt W' (.slice B9 m9 d9) S.o.l ∧ Sit w W' g S :=
  (out_any g S W h.1 hlo).mono fun _ _ ⟨B9, m9, d9, h1, h2, h3⟩ => ⟨B9, m9, d9, h1, h2, h.call h3⟩
theorem early_sit {w W : World} {g : Nat} {S : Snd} (h : Sit w W g S) (hlo : S.p.l.length ≤ 5) :
    Calls Try.prog 22 #[.pointer (some ⟨g, 0, none⟩)] W fun x W' => ∃ B9 m9 d9, x = .returned (.tuple #[.agg (pktA S.p.k S.p.e S.p.s (.slice B9 m9 d9)), .bool (decide (S.p.k ≠ 0))]) ∧ PutsAt W' (.slice B9 m9 d9) S.p.l ∧ Sit w W' g S :=
  (early_any g S W h.1 hlo).mono fun _ _ ⟨B9, m9, d9, h1, h2, h3⟩ => ⟨B9, m9, d9, h1, h2, h.call h3⟩
theorem sit_new (w W : World) (hb : Below w.heap.size w W) (cs : Array Value) (hcs : cs = sndC pkt0 pkt0 (.slice none 0 0) (.slice none 0 0) 0 false) : Sit w (W.alloc (.cells cs 32)) W.heap.size snd0 := by
  subst hcs
  exact ⟨⟨none, 0, 0, none, 0, 0, Row.fresh W 32 _, puts_nil _, puts_nil _⟩, hb.alloc hb.size _, hb.size⟩
def syncP (y : Int) (s : BitVec 32) : Pkt := ⟨2, 1#32, s, [(y, zer 32)]⟩
theorem put_fresh (W : World) (y : Int) (hy : -9223372036854775808 ≤ y ∧ y < 9223372036854775808) : PutsAt (W.alloc (.cells #[.int .i64 y, .int .u8 0, .int .u8 0, .int .u8 0, .int .u8 0, .int .u8 0, .int .u8 0, .int .u8 0, .int .u8 0, .int .u8 0, .int .u8 0, .int .u8 0, .int .u8 0, .int .u8 0, .int .u8 0, .int .u8 0, .int .u8 0, .int .u8 0, .int .u8 0, .int .u8 0, .int .u8 0, .int .u8 0, .int .u8 0, .int .u8 0, .int .u8 0, .int .u8 0, .int .u8 0, .int .u8 0, .int .u8 0, .int .u8 0, .int .u8 0, .int .u8 0, .int .u8 0] 61)) (.slice (some ⟨W.heap.size, 0, none⟩) 1 1) [(y, zer 32)] :=
  puts_one (x := (y, zer 32)) (Row.fresh W 61 _) ⟨length_zer 32, hy⟩
set_option maxHeartbeats 1600000 in
theorem sync_any (y : Int) (s : BitVec 32) (w : World) (hy : -9223372036854775808 ≤ y ∧ y < 9223372036854775808) :
    Calls Try.prog 26 #[.int .i64 y, .int .u32 (wd s)] w fun x w' => ∃ B m d, x = .returned (.agg (pktA 2 1#32 s (.slice B m d))) ∧ PutsAt w' (.slice B m d) [(y, zer 32)] ∧ Below w.heap.size w w' := by
  have HY := Lib.hid hy
  clear hy
  have HS := St.nil w noF
  go_enter Try.func26, Try.ntmps26
  go_upto_region 1 with (first | ((with_reducible refine wpList_plain ?_ ?_); exact rfl; intro KK hKK; refine wp_st_alloc HS 30 (pktA 0 0#32 0#32 (.slice none 0 0)) rfl (.agg (pktA 0 0#32 0#32 (.slice none 0 0))) (by kernel_rfl) (rfl) (fun g4 W1 HSx => hKK _ _ ?_); clear hKK KK HS; have HS : St w noF [⟨g4, 30, pktA 0 0#32 0#32 (.slice none 0 0)⟩] W1 := HSx; clear HSx))
  have HP := Lib.hid (put_fresh W1 y HY.out)
  have HB := Lib.hid ((Below.refl W1.heap.size W1).alloc (Nat.le_refl _) (.cells #[.int .i64 y, .int .u8 0, .int .u8 0, .int .u8 0, .int .u8 0, .int .u8 0, .int .u8 0, .int .u8 0, .int .u8 0, .int .u8 0, .int .u8 0, .int .u8 0, .int .u8 0, .int .u8 0, .int .u8 0, .int .u8 0, .int .u8 0, .int .u8 0, .int .u8 0, .int .u8 0, .int .u8 0, .int .u8 0, .int .u8 0, .int .u8 0, .int .u8 0, .int .u8 0, .int .u8 0, .int .u8 0, .int .u8 0, .int .u8 0, .int .u8 0, .int .u8 0, .int .u8 0] 61))
  have HSx := HS.same HB.out
  have HW := Lib.hid (HS.below.alloc HS.below.size (.cells #[.int .i64 y, .int .u8 0, .int .u8 0, .int .u8 0, .int .u8 0, .int .u8 0, .int .u8 0, .int .u8 0, .int .u8 0, .int .u8 0, .int .u8 0, .int .u8 0, .int .u8 0, .int .u8 0, .int .u8 0, .int .u8 0, .int .u8 0, .int .u8 0, .int .u8 0, .int .u8 0, .int .u8 0, .int .u8 0, .int .u8 0, .int .u8 0, .int .u8 0, .int .u8 0, .int .u8 0, .int .u8 0, .int .u8 0, .int .u8 0, .int .u8 0, .int .u8 0, .int .u8 0] 61))
  have HN : Hid (∃ t cs, Row (W1.alloc (.cells #[.int .i64 y, .int .u8 0, .int .u8 0, .int .u8 0, .int .u8 0, .int .u8 0, .int .u8 0, .int .u8 0, .int .u8 0, .int .u8 0, .int .u8 0, .int .u8 0, .int .u8 0, .int .u8 0, .int .u8 0, .int .u8 0, .int .u8 0, .int .u8 0, .int .u8 0, .int .u8 0, .int .u8 0, .int .u8 0, .int .u8 0, .int .u8 0, .int .u8 0, .int .u8 0, .int .u8 0, .int .u8 0, .int .u8 0, .int .u8 0, .int .u8 0, .int .u8 0, .int .u8 0] 61)) g4 t cs ∧ NoU8 cs) := Lib.hid ⟨30, pktA 0 0#32 0#32 (.slice none 0 0), HSx.row 0 rfl, nou8_pkt _ _ _ _ _ _⟩
  have HG : Hid (w.heap.size ≤ g4) := Lib.hid ((HSx.own 0 ⟨g4, 30, pktA 0 0#32 0#32 (.slice none 0 0)⟩ rfl).resolve_left (fun h => h))
  clear HS
  have HS := st_again (G := fun k => k = g4) HSx (fun k r hk => by match k, hk with | 0, hk => cases hk; rfl)
  clear HSx
  go_wp2_with (first | ((with_reducible refine wpList_plain ?_ ?_); exact rfl; intro KK hKK; refine wp_st_store HS 0 0 30 (.tmp 4) (.tmp 9) rfl rfl rfl (.agg (pktA 2 1#32 s (.slice (some ⟨W1.heap.size, 0, none⟩) 1 1))) rfl (by exact size_pkt) (Nat.le_refl 4) (pkt_one ..) (pktA 2 1#32 s (.slice (some ⟨W1.heap.size, 0, none⟩) 1 1)) (by exact spl_agg _ _ _ rfl rfl) (fun W6 HSx => hKK _ _ ?_); clear hKK KK HS; have HS : St (W1.alloc (.cells #[.int .i64 y, .int .u8 0, .int .u8 0, .int .u8 0, .int .u8 0, .int .u8 0, .int .u8 0, .int .u8 0, .int .u8 0, .int .u8 0, .int .u8 0, .int .u8 0, .int .u8 0, .int .u8 0, .int .u8 0, .int .u8 0, .int .u8 0, .int .u8 0, .int .u8 0, .int .u8 0, .int .u8 0, .int .u8 0, .int .u8 0, .int .u8 0, .int .u8 0, .int .u8 0, .int .u8 0, .int .u8 0, .int .u8 0, .int .u8 0, .int .u8 0, .int .u8 0, .int .u8 0] 61)) (fun k => k = g4) [⟨g4, 30, pktA 2 1#32 s (.slice (some ⟨W1.heap.size, 0, none⟩) 1 1)⟩] W6 := HSx; clear HSx))
  refine bodyPost_ret (results_cell_row Try.results26 _ _ g4 30 (pktA 2 1#32 s (.slice (some ⟨W1.heap.size, 0, none⟩) 1 1)) (0, 0) _ rfl (HS.row 0 rfl) Try.underlying30 rfl (by exact size_pkt)) rfl ?_
  exact ⟨_, _, _, rfl, puts_keep HP.out HS.chg (fun y hy _ => by rw [hy]; exact HN.out), HW.out.trans (HS.chg.below (fun i hi => by rw [hi]; exact HG.out) HW.out.size)⟩
end Go.Proofs.Ytppbgkdkioldbaa

/- Steps of a sender, opened; the law's fair. -/
set_option maxRecDepth 4000
namespace Go.Proofs.Ytppbgkdkioldbaa
open Go Go.ChangeShapes Go.WideShapes Go.ChangeAt Go.RowKit
abbrev PR := Int × BitVec 32 × BitVec 32 × List Pt × Unit
abbrev SR := Int × PR × List Pt × Bool × Unit
def rdPkt : Rd PR := rdCons 1 (rdInt .i64) (rdCons 1 rdU32 (rdCons 1 rdU32 (rdCons 1 (rdSl 33 rdPut) rdNil)))
def rdStp : Rd SR := rdCons 1 (rdInt .i64) (rdCons 4 rdPkt (rdCons 1 (rdSl 33 rdPut) (rdCons 1 rdBool rdNil)))
def StpsAt (w : World) (v : Value) (l : List SR) : Prop := rdSl 7 rdStp w [v] l
theorem stp_cells {w : World} {ds : List Value} {kd : Int} {pk : Int} {e s : BitVec 32} {lp lq : List Pt} {bb : Bool} (h : rdStp w ds (kd, (pk, e, s, lp, ()), lq, bb, ())) :
    ∃ A n c B m d, ds = [.int .i64 kd, .int .i64 pk, .int .u32 (wd e), .int .u32 (wd s), .slice A n c, .slice B m d, .bool bb] ∧ PutsAt w (.slice A n c) lp ∧ PutsAt w (.slice B m d) lq := by
  obtain ⟨c0, d0, rfl, _, ⟨rfl, _⟩, c1, d1, rfl, _, h1, c2, d2, rfl, _, h2, c3, d3, rfl, _, h3, h4⟩ := h
  obtain ⟨a0, b0, rfl, _, ⟨rfl, _⟩, a1, b1, rfl, _, k1, a2, b2, rfl, _, k2, a3, b3, rfl, _, k3, k4⟩ := h1
  have k1 : a1 = [.int .u32 (wd e)] := k1
  have k2 : a2 = [.int .u32 (wd s)] := k2
  have k4 : b3 = [] := k4
  have h3 : c3 = [.bool bb] := h3
  have h4 : d3 = [] := h4
  subst k1 k2 k4 h3 h4
  obtain ⟨A, c, rfl, _⟩ := id k3
  obtain ⟨B, d, rfl, _⟩ := id h2
  exact ⟨A, _, c, B, _, d, rfl, puts_at k3, puts_at h2⟩
theorem stps_len {w : World} {A : Option Addr} {n c : Nat} {l : List SR} (h : StpsAt w (.slice A n c) l) : l.length = n := by
  obtain ⟨A', c', e1, _⟩ := h
  have e1 : Value.slice A n c = .slice A' l.length c' := by simpa using e1
  injection e1 with _ e1 _
  exact e1.symm
theorem stps_get {w : World} {A0 : Option Addr} {n0 c0 : Nat} {l : List SR} (h : StpsAt w (.slice A0 n0 c0) l) {k : Nat} (hk : k < l.length) :
    ∃ b o kd pk e s lp lq bb A n c B m d, l[k]? = some (kd, (pk, e, s, lp, ()), lq, bb, ()) ∧ A0 = some ⟨b, o, none⟩ ∧ b < w.heap.size ∧ w.rangeAt b (o + k * 7) [.int .i64 kd, .int .i64 pk, .int .u32 (wd e), .int .u32 (wd s), .slice A n c, .slice B m d, .bool bb] ∧ PutsAt w (.slice A n c) lp ∧ PutsAt w (.slice B m d) lq := by
  obtain ⟨A', c', e1, _, _, _, h5⟩ := h
  have e1 : Value.slice A0 n0 c0 = .slice A' l.length c' := by simpa using e1
  injection e1 with e1 _ _
  subst e1
  obtain ⟨b, o, h6, h7, h8⟩ := h5 (by rintro rfl; simp at hk)
  obtain ⟨x, hx⟩ : ∃ x, l[k]? = some x := ⟨_, List.getElem?_eq_getElem hk⟩
  obtain ⟨ds, _, h10, h11⟩ := h8 k x hx
  obtain ⟨kd, ⟨pk, e, s, lp, ⟨⟩⟩, lq, bb, ⟨⟩⟩ := x
  obtain ⟨A, n, c, B, m, d, rfl, h12, h13⟩ := stp_cells h11
  exact ⟨b, o, kd, pk, e, s, lp, lq, bb, A, n, c, B, m, d, hx, h6, h7, h10, h12, h13⟩
theorem cells24_int : Try.prog.cellsOf 3 = 1 := by kernel_rfl
theorem cells24_u32 : Try.prog.cellsOf 27 = 1 := by kernel_rfl
theorem cells24_bool : Try.prog.cellsOf 4 = 1 := by kernel_rfl
theorem cells24_puts : Try.prog.cellsOf 28 = 1 := by kernel_rfl
theorem cells24_pkt : Try.prog.cellsOf 30 = 4 := by kernel_rfl
theorem cells24_stp : Try.prog.cellsOf 37 = 7 := by kernel_rfl
theorem opens_pkt : Opens Try.prog 30 rdPkt :=
  opens_struct Try.underlying30 (by kernel_rfl) (opensF_cons rfl cells24_int (opens_int Try.underlying3) (opensF_cons rfl cells24_u32 (opens_u32 Try.underlying27) (opensF_cons rfl cells24_u32 (opens_u32 Try.underlying27) (opensF_cons rfl cells24_puts opens_puts opensF_nil))))
theorem opens_stp : Opens Try.prog 37 rdStp :=
  opens_struct Try.underlying37 (by kernel_rfl) (opensF_cons rfl cells24_int (opens_int Try.underlying3) (opensF_cons rfl cells24_pkt opens_pkt (opensF_cons rfl cells24_puts opens_puts (opensF_cons rfl cells24_bool (opens_bool Try.underlying4) opensF_nil))))
theorem opens_stps : Opens Try.prog 22 (rdSl 7 rdStp) := opens_sl Try.underlying22 cells24_stp (by decide) opens_stp
theorem open_stps {H : Type} {enc : TypeId × Value → H} {W : World} {r : Reach} {base : Nat} {v : Value} {d : DataW H} {ps : List MemPlace} (hval : Value.okWide Try.prog W r base 22 v)
    (h : DataW.Trod enc Try.prog W 0 (fun _ => true) true 22 v d ps) (hlt : ∀ x ∈ ps, x.block < W.heap.size) :
    ∃ A n c l, v = .slice A n c ∧ StpsAt W (.slice A n c) l := by
  obtain ⟨A, c, l, e, hx⟩ := open_argSl Try.underlying22 opens_stps hval h hlt
  exact ⟨A, _, c, l, e, hx⟩
def stpA (kd pk : Int) (e s : BitVec 32) (u v : Value) (bb : Bool) : Array Value := #[.int .i64 kd, .int .i64 pk, .int .u32 (wd e), .int .u32 (wd s), u, v, .bool bb]
theorem open_stp {H : Type} {enc : TypeId × Value → H} {W : World} {r : Reach} {base : Nat} {v : Value} {d : DataW H} {ps : List MemPlace} (hval : Value.okWide Try.prog W r base 37 v)
    (h : DataW.Trod enc Try.prog W 0 (fun _ => true) true 37 v d ps) (hlt : ∀ x ∈ ps, x.block < W.heap.size) :
    ∃ kd pk e s lp lq bb A n c B m d, v = .agg (stpA kd pk e s (.slice A n c) (.slice B m d) bb) ∧ PutsAt W (.slice A n c) lp ∧ PutsAt W (.slice B m d) lq := by
  obtain ⟨cs, x, rfl, hx⟩ := open_argRec Try.underlying37 opens_stp hval h hlt
  obtain ⟨kd, ⟨pk, e, s, lp, ⟨⟩⟩, lq, bb, ⟨⟩⟩ := x
  obtain ⟨A, n, c, B, m, d, hcs, h12, h13⟩ := stp_cells hx
  refine ⟨kd, pk, e, s, lp, lq, bb, A, n, c, B, m, d, ?_, h12, h13⟩
  congr 1
  exact Array.ext' (by rw [hcs]; rfl)
/- are steps not too many, nor too long? -/
def fairS (n : Nat) (f : Nat → Nat × Nat) : Bool := decide (∀ k < n, (f k).1 ≤ 50 ∧ (f k).2 ≤ 50) && decide (n ≤ 120)
def LensAt (w : World) (A0 : Option Addr) (n : Nat) (f : Nat → Nat × Nat) : Prop := ∀ k < n, ∃ b o A c B d, A0 = some ⟨b, o, none⟩ ∧ w.cell? ⟨b, o + k * 7 + 4, none⟩ = some (.slice A (f k).1 c) ∧ w.cell? ⟨b, o + k * 7 + 5, none⟩ = some (.slice B (f k).2 d)
set_option maxHeartbeats 1600000 in
theorem fairS_any (A0 : Option Addr) (n c0 : Nat) (f : Nat → Nat × Nat) (w : World) (h : LensAt w A0 n f) (hn : n ≤ maxLen) :
    Calls Try.prog 8 #[.slice A0 n c0] w fun e w' => e = .returned (.bool (fairS n f)) ∧ w = w' := by
  obtain ⟨G, hG⟩ : ∃ G, fairS n f = G := ⟨_, rfl⟩
  have HALL : Hid ((∀ k < n, (f k).1 ≤ 50 ∧ (f k).2 ≤ 50) → G = decide (n ≤ 120)) := Lib.hid fun h => by rw [← hG]; unfold fairS; rw [decide_eq_true h, Bool.true_and]
  have HNO : Hid (∀ k < n, ¬ ((f k).1 ≤ 50 ∧ (f k).2 ≤ 50) → G = false) := Lib.hid fun k hk h => by rw [← hG]; unfold fairS; rw [decide_eq_false (fun h2 => h (h2 k hk)), Bool.false_and]
  have HN9 : Hid (n ≤ 9223372036854775807) := Lib.hid (by unfold maxLen at hn; omega)
  have HF := Lib.hid h
  rw [hG]
  clear h hG hn
  go_enter Try.func8, Try.ntmps8
  go_wp2_with fail
  go_loopw [3] (fun i wr => ∃ k : Nat, k ≤ n ∧ i = .int .i64 k ∧ Hid (∀ j < k, (f j).1 ≤ 50 ∧ (f j).2 ≤ 50) ∧ w = wr) (fun i _ => n - (intOf i).toNat)
  case atStart => exact ⟨0, by omega, rfl, Lib.hid (fun j hj => by omega), rfl⟩
  case round =>
    obtain ⟨k, hk, rfl, HE, rfl⟩ := hrel
    by_cases hlt : k < n
    · obtain ⟨b, o, A, c, B, d, rfl, k1, k2⟩ := HF.out k hlt
      obtain ⟨O, hO⟩ : ∃ O, o + k * 7 = O := ⟨_, rfl⟩
      rw [hO] at k1 k2
      obtain ⟨x, hx⟩ : ∃ x, (f k).1 = x := ⟨_, rfl⟩
      obtain ⟨y, hy⟩ : ∃ y, (f k).2 = y := ⟨_, rfl⟩
      rw [hx] at k1
      rw [hy] at k2
      have hk0 : (0 : Int) ≤ (k : Int) := by omega
      have hk1 : (k : Int) < (n : Int) := by omega
      have hn9 := HN9.out
      have HX := Lib.hid hx
      have HY := Lib.hid hy
      clear hx hy
      by_cases h1 : 50 < x
      · have hd1 : decide (50 < x) = true := decide_eq_true h1
        have hd1' : decide ((50 : Int) < (x : Int)) = true := decide_eq_true (by omega)
        have hG := HNO.out k hlt (by rw [HX.out]; omega)
        go_wp2_with fail
        go_ret
        exact ⟨by rw [hG]; rfl, rfl⟩
      have hd1 : decide (50 < x) = false := decide_eq_false h1
      have hd1' : decide ((50 : Int) < (x : Int)) = false := decide_eq_false (by omega)
      by_cases h2 : 50 < y
      · have hd2 : decide (50 < y) = true := decide_eq_true h2
        have hd2' : decide ((50 : Int) < (y : Int)) = true := decide_eq_true (by omega)
        have hG := HNO.out k hlt (by rw [HY.out]; omega)
        go_wp2_with fail
        go_ret
        exact ⟨by rw [hG]; rfl, rfl⟩
      have hd2 : decide (50 < y) = false := decide_eq_false h2
      have hd2' : decide ((50 : Int) < (y : Int)) = false := decide_eq_false (by omega)
      have HXY : Hid (x ≤ 50 ∧ y ≤ 50) := Lib.hid (by omega)
      go_wp2_with fail
      refine ⟨⟨k + 1, by omega, by go_num, Lib.hid fun j hj => ?_, by first | rfl | trivial⟩, by simp [intOf]; omega⟩
      rcases Nat.lt_or_eq_of_le (Nat.le_of_lt_succ hj) with h | rfl
      · exact HE.out j h
      · rw [HX.out, HY.out]; exact HXY.out
    · obtain rfl : k = n := by omega
      have hG := HALL.out HE.out
      have hn9 := HN9.out
      by_cases h20 : k ≤ 120
      · have hd : decide (k ≤ 120) = true := decide_eq_true h20
        have hd2 : decide ((k : Int) ≤ 120) = true := decide_eq_true (by omega)
        rw [hd] at hG
        go_wp2_with fail
        go_ret
        exact ⟨by rw [hG]; rfl, rfl⟩
      · have hd : decide (k ≤ 120) = false := decide_eq_false h20
        have hd2 : decide ((k : Int) ≤ 120) = false := decide_eq_false (by omega)
        rw [hd] at hG
        go_wp2_with fail
        go_ret
        exact ⟨by rw [hG]; rfl, rfl⟩
end Go.Proofs.Ytppbgkdkioldbaa

/- Does the program's sender wake? -/
set_option maxRecDepth 4000
namespace Go.Proofs.Ytppbgkdkioldbaa
open Go Go.RowKit
def exP3 : Pkt := ⟨2, 1#32, 7#32, [(3, zer 32)]⟩
def exP4 : Pkt := ⟨2, 1#32, 8#32, [(4, zer 32)]⟩
theorem exE1 : sendE snd0 exP3 = 0 := by decide +kernel
theorem exS1 : sendS snd0 exP3 = ⟨exP3, pkt0, 0, false⟩ := by decide +kernel
theorem exE2 : sendE ⟨exP3, pkt0, 0, false⟩ exP4 = 19 := by decide +kernel
theorem exS2 : sendS ⟨exP3, pkt0, 0, false⟩ exP4 = ⟨exP3, pkt0, 0, false⟩ := by decide +kernel
theorem exK1 : OutOk ⟨exP3, pkt0, 0, false⟩ := .inr (by decide +kernel)
theorem exT : touchS ⟨exP3, pkt0, 0, false⟩ [(3, zer 32)] = ⟨exP3, pkt0, 0, true⟩ := by decide +kernel
theorem exM1 : missN ⟨exP3, pkt0, 0, true⟩ = 1 := by decide +kernel
theorem exM2 : missS ⟨exP3, pkt0, 0, true⟩ = ⟨exP3, pkt0, 1, true⟩ := by decide +kernel
theorem exA1 : ackB ⟨exP3, pkt0, 1, true⟩ ⟨3, 1#32, 8#32, []⟩ = false := by decide +kernel
theorem exA2 : ackS ⟨exP3, pkt0, 1, true⟩ ⟨3, 1#32, 8#32, []⟩ = ⟨exP3, pkt0, 1, true⟩ := by decide +kernel
theorem exA3 : ackB ⟨exP3, pkt0, 1, true⟩ ⟨3, 1#32, 7#32, []⟩ = true := by decide +kernel
theorem exA4 : ackS ⟨exP3, pkt0, 1, true⟩ ⟨3, 1#32, 7#32, []⟩ = ⟨pkt0, exP3, 0, false⟩ := by decide +kernel
theorem exQ1 : pickK 3#16 = 1 := by decide +kernel
theorem exQ2 : pickB 3#16 = true := by decide +kernel
theorem exQ3 : pickK 1#16 = 0 := by decide +kernel
theorem exQ4 : pickB 1#16 = true := by decide +kernel
set_option maxHeartbeats 3200000 in
theorem sndwakes_any (w : World) : Calls Try.prog 9 #[] w fun x w' => x = .returned (.bool true) ∧ Below w.heap.size w w' := by
  go_enter Try.func9, Try.ntmps9
  have HSIT := Lib.hid (sit_new w w (Below.refl _ _) #[.int .i64 0, .int .u32 0, .int .u32 0, .slice none 0 0, .int .i64 0, .int .u32 0, .int .u32 0, .slice none 0 0, .int .i64 0, .bool false] rfl)
  go_upto_region 2 with fail
  have C := sync_any 3 7#32 (w.alloc (.cells #[.int .i64 0, .int .u32 0, .int .u32 0, .slice none 0 0, .int .i64 0, .int .u32 0, .int .u32 0, .slice none 0 0, .int .i64 0, .bool false] 32)) (by decide)
  rw [show wd 7#32 = 7 from rfl] at C
  go_wp2_with fail
  refine C.mono ?_
  rintro x w1 ⟨B, m, d, rfl, hp, hb⟩
  have HS1 := Lib.hid (HSIT.out.call hb)
  clear C hb HSIT
  have C := send_sit HS1.out exP3 B m d hp (by decide)
  rw [exE1, exS1] at C
  go_wp2_with fail
  refine C.mono ?_
  rintro x w2 ⟨rfl, hs⟩
  have HS2 := Lib.hid hs
  clear C hs HS1 hp
  have C := sync_any 4 8#32 w2 (by decide)
  rw [show wd 8#32 = 8 from rfl] at C
  go_wp2_with fail
  refine C.mono ?_
  rintro x w3 ⟨B, m, d, rfl, hp, hb⟩
  have HS3 := Lib.hid (HS2.out.call hb)
  clear C hb HS2
  have C := send_sit HS3.out exP4 B m d hp (by decide)
  rw [exE2, exS2] at C
  go_wp2_with fail
  refine C.mono ?_
  rintro x w4 ⟨rfl, hs⟩
  have HS4 := Lib.hid hs
  clear C hs HS3 hp
  have HP := Lib.hid (put_fresh w4 3 (by decide))
  have HS := Lib.hid (HS4.out.call ((Below.refl _ _).alloc (Nat.le_refl _) (.cells #[.int .i64 3, .int .u8 0, .int .u8 0, .int .u8 0, .int .u8 0, .int .u8 0, .int .u8 0, .int .u8 0, .int .u8 0, .int .u8 0, .int .u8 0, .int .u8 0, .int .u8 0, .int .u8 0, .int .u8 0, .int .u8 0, .int .u8 0, .int .u8 0, .int .u8 0, .int .u8 0, .int .u8 0, .int .u8 0, .int .u8 0, .int .u8 0, .int .u8 0, .int .u8 0, .int .u8 0, .int .u8 0, .int .u8 0, .int .u8 0, .int .u8 0, .int .u8 0, .int .u8 0] 61)))
  clear HS4
  have C := touch_sit HS.out [(3, zer 32)] _ 1 1 exK1 HP.out (by decide)
  rw [exT] at C
  go_wp2_with fail
  refine C.mono ?_
  rintro x w5 ⟨rfl, hs⟩
  have HS5 := Lib.hid hs
  clear C hs HS HP
  have C := missed_sit HS5.out (by decide)
  rw [exM1, exM2] at C
  go_wp2_with fail
  refine C.mono ?_
  rintro x w6 ⟨rfl, hs⟩
  have HS6 := Lib.hid hs
  clear C hs HS5 
  have C := acked_sit HS6.out ⟨3, 1#32, 8#32, []⟩ (.slice none 0 0)
  rw [exA1, exA2] at C
  go_wp2_with fail
  refine C.mono ?_
  rintro x w7 ⟨rfl, hs⟩
  have HS7 := Lib.hid hs
  clear C hs HS6 
  have C := acked_sit HS7.out ⟨3, 1#32, 7#32, []⟩ (.slice none 0 0)
  rw [exA3, exA4] at C
  go_wp2_with fail
  refine C.mono ?_
  rintro x w8 ⟨rfl, hs⟩
  have HS8 := Lib.hid hs
  clear C hs HS7 
  have C := out_sit HS8.out (by decide)
  go_wp2_with fail
  refine C.mono ?_
  rintro x w9 ⟨B9, m9, d9, rfl, _, hs⟩
  have HS9 := Lib.hid hs
  clear C hs HS8
  have HT := St.nil w9 noF
  go_upto_region 8 with (first | ((with_reducible refine wpList_plain ?_ ?_); exact rfl; intro KK hKK; refine wp_st_alloc HT 30 (pktA 0 0#32 0#32 (.slice none 0 0)) rfl (.agg (pktA 0 0#32 0#32 (.slice none 0 0))) (by kernel_rfl) (rfl) (fun g9 W61 HSx => hKK _ _ ?_); clear hKK KK HT; have HT : St w9 noF [⟨g9, 30, pktA 0 0#32 0#32 (.slice none 0 0)⟩] W61 := HSx; clear HSx) | ((with_reducible refine wpList_plain ?_ ?_); exact rfl; intro KK hKK; refine wp_st_store HT 0 0 30 (.tmp 9) (.tmp 46) rfl rfl rfl (.agg (pktA 0 0#32 0#32 (.slice B9 m9 d9))) rfl (by exact size_pkt) (Nat.le_refl 4) (pkt_one ..) (pktA 0 0#32 0#32 (.slice B9 m9 d9)) (by exact spl_agg _ _ _ rfl rfl) (fun W62 HSx => hKK _ _ ?_); clear hKK KK HT; have HT : St w9 noF [⟨g9, 30, pktA 0 0#32 0#32 (.slice B9 m9 d9)⟩] W62 := HSx; clear HSx))
  have HS10 := Lib.hid (HS9.out.call HT.below)
  have HR9 := Lib.hid (HT.row 0 rfl)
  clear HT HS9
  clear HR9
  have C := early_sit HS10.out (by decide)
  go_wp2_with fail
  refine C.mono ?_
  rintro x wE ⟨B11, m11, d11, rfl, _, hs⟩
  have HSE := Lib.hid hs
  clear C hs HS10
  have HT := St.nil wE noF
  go_upto_region 9 with (first | ((with_reducible refine wpList_plain ?_ ?_); exact rfl; intro KK hKK; refine wp_st_alloc HT 30 (pktA 0 0#32 0#32 (.slice none 0 0)) rfl (.agg (pktA 0 0#32 0#32 (.slice none 0 0))) (by kernel_rfl) (rfl) (fun g11 W71 HSx => hKK _ _ ?_); clear hKK KK HT; have HT : St wE noF [⟨g11, 30, pktA 0 0#32 0#32 (.slice none 0 0)⟩] W71 := HSx; clear HSx) | ((with_reducible refine wpList_plain ?_ ?_); exact rfl; intro KK hKK; refine wp_st_store HT 0 0 30 (.tmp 11) (.tmp 51) rfl rfl rfl (.agg (pktA 2 1#32 7#32 (.slice B11 m11 d11))) rfl (by exact size_pkt) (Nat.le_refl 4) (pkt_one ..) (pktA 2 1#32 7#32 (.slice B11 m11 d11)) (by exact spl_agg _ _ _ rfl rfl) (fun W72 HSx => hKK _ _ ?_); clear hKK KK HT; have HT : St wE noF [⟨g11, 30, pktA 2 1#32 7#32 (.slice B11 m11 d11)⟩] W72 := HSx; clear HSx))
  have HSF := Lib.hid (HSE.out.call HT.below)
  have c11 : W72.cell? ⟨g11, 2, none⟩ = some (.int .u32 7) := (HT.row 0 rfl).get rfl
  clear HT HSE
  have C1 := pick_any 3#16 W72
  have C2 := pick_any 1#16 W72
  rw [exQ1, exQ2, show hd 3#16 = 3 from rfl] at C1
  rw [exQ3, exQ4, show hd 1#16 = 1 from rfl] at C2
  go_wp2_with fail
  refine C1.mono ?_
  rintro x wG ⟨rfl, rfl⟩
  go_wp2_with fail
  refine C2.mono ?_
  rintro x wG ⟨rfl, rfl⟩
  clear C1 C2
  go_wp2_with fail
  go_ret
  exact ⟨rfl, HSF.out.2.1⟩
end Go.Proofs.Ytppbgkdkioldbaa
