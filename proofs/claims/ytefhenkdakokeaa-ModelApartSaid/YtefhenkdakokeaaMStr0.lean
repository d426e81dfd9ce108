/- Merged: Str NamesPrg NamesPrg2. -/
import Derived.Laws.BytesArg
import Derived.Laws.IdiomStrings
import Derived.Laws.Concat
import Derived.Laws.Strings3
import Derived.Shelf.Bytes.SlSmallAll
import Derived.Deep.Cut
import Derived.Test.YtefhenkdakokeaaMGen0
/- Texts: a byte of one, a part of one, two joined, compared, turned into bytes, copied. No function of the program is named here. -/
set_option maxRecDepth 4000
namespace Go.Proofs.Ytefhenkdakokeaa
open Go Go.RowKit
def strB (q : List (BitVec 8)) : ByteArray := strOfNums (q.map bd)
theorem strB_size (q : List (BitVec 8)) : (strB q).size = q.length := by unfold strB; rw [strOfNums_size, List.length_map]
theorem ofNat_bd (x : BitVec 8) : UInt8.ofNat (bd x).toNat = UInt8.ofBitVec x := by
  apply UInt8.toBitVec_inj.1
  apply BitVec.eq_of_toNat_eq
  simp [bd]
theorem strB_data (q : List (BitVec 8)) : (strB q).data = (q.map UInt8.ofBitVec).toArray := by
  apply Array.ext'
  rw [strB, strOfNums_data, List.map_map]
  have e : ((fun n : Int => UInt8.ofNat n.toNat) ∘ bd) = UInt8.ofBitVec := funext ofNat_bd
  rw [e]
theorem strB_inj {p q : List (BitVec 8)} (h : strB p = strB q) : p = q := by
  have h1 := congrArg (fun s : ByteArray => s.data.toList) h
  simp only [strB_data] at h1
  have h2 := congrArg (List.map UInt8.toBitVec) h1
  simpa [List.map_map, Function.comp_def] using h2
/- every text is some bytes' -/
theorem strB_all (s : ByteArray) : ∃ q, s = strB q := by
  refine ⟨s.data.toList.map UInt8.toBitVec, ?_⟩
  apply ByteArray.ext
  rw [strB_data, List.map_map]
  have e : UInt8.ofBitVec ∘ UInt8.toBitVec = id := by funext x; rfl
  rw [e, List.map_id]
theorem str_beq (p q : List (BitVec 8)) : ((strB p).toList == (strB q).toList) = decide (p = q) := by
  rw [ByteArray.toList_eq, ByteArray.toList_eq]
  by_cases h : p = q
  · subst h; rw [decide_eq_true rfl]; exact beq_self_eq_true _
  · rw [decide_eq_false h]
    refine beq_eq_false_iff_ne.2 fun e => h (strB_inj ?_)
    apply ByteArray.ext
    exact Array.toList_inj.1 e
theorem str_get (q : List (BitVec 8)) (j : Nat) (h : j < (strB q).size) : (((strB q)[j]'h).toNat : Int) = bd (q.getD j 0#8) := by
  have hj : j < q.length := by rw [strB_size] at h; exact h
  have e : (strB q)[j]'h = UInt8.ofBitVec q[j] := by
    show (strB q).data[j] = _
    simp [strB_data]
  rw [e, List.getD_eq_getElem?_getD, List.getElem?_eq_getElem hj]
  rfl
/- []byte(s): a new block -/
theorem conv_str (w : World) (q : List (BitVec 8)) (src : TypeId) (hs : Try.prog.underlying src = some .string) :
    ∃ cap W, (convert src 70 (.string (strB q))).run Try.prog w = .ok (.slice (some ⟨w.heap.size, 0, none⟩) q.length cap) W ∧ Below w.heap.size w W ∧ w.heap.size < W.heap.size ∧ ∀ (j : Nat), j < q.length → W.cell? ⟨w.heap.size, j, none⟩ = some (.int .u8 (bd (q.getD j 0#8))) := by
  have h := run_bytes_of_string (P := Try.prog) w src 70 5 (strB q) hs Try.underlying70 Try.underlying5
  rw [strB_size] at h
  refine ⟨_, _, h, (Below.refl w.heap.size w).drew.alloc (Nat.le_refl _) _, by simp, fun j hj => ?_⟩
  have hs : j < (strB q).data.size := by rw [strB_data]; simpa using hj
  have e : w.drew.heap.size = w.heap.size := rfl
  rw [← e, World.cell?_alloc_mark, bytesRow_at _ _ _ hs]
  have := str_get q j (by rw [strB_size]; exact hj)
  rw [← this]
  rfl
/- a slice of texts -/
def Strs (w : World) (v : Value) (l : List (List (BitVec 8))) : Prop :=
  ∃ A c, v = .slice A l.length c ∧ l.length ≤ c ∧ (A = none → c = 0) ∧ (∀ q ∈ l, q.length ≤ maxLen) ∧ (l ≠ [] → ∃ b o, A = some ⟨b, o, none⟩ ∧ b < w.heap.size ∧ ∀ k q, l[k]? = some q → w.cell? ⟨b, o + k, none⟩ = some (.string (strB q)))
theorem Strs.below {w w' : World} {B : Nat} {v : Value} {l : List (List (BitVec 8))} (h : Strs w v l) (hb : Below B w w') (hB : w.heap.size ≤ B) : Strs w' v l := by
  obtain ⟨A, c, h1, h2, hn, hm, h3⟩ := h
  refine ⟨A, c, h1, h2, hn, hm, fun hne => ?_⟩
  obtain ⟨b, o, h4, h5, h6⟩ := h3 hne
  exact ⟨b, o, h4, Nat.lt_of_lt_of_le h5 hb.size, fun k q hx => (hb.cell (p := ⟨b, o + k, none⟩) (Nat.lt_of_lt_of_le h5 hB)).trans (h6 k q hx)⟩
theorem strs_at {w : World} {A : Option Addr} {n c : Nat} {l : List (List (BitVec 8))} (h : Strs w (.slice A n c) l) {k : Nat} {q : List (BitVec 8)} (hx : l[k]? = some q) :
    ∃ b o, A = some ⟨b, o, none⟩ ∧ b < w.heap.size ∧ w.cell? ⟨b, o + k, none⟩ = some (.string (strB q)) := by
  obtain ⟨A', c', e1, _, _, _, h4⟩ := h
  injection e1 with e1 _ _
  subst e1
  obtain ⟨b, o, e2, h5, h6⟩ := h4 (by intro e; rw [e] at hx; simp at hx)
  exact ⟨b, o, e2, h5, h6 k _ hx⟩
def strsV (l : List (List (BitVec 8))) : List Value := l.map fun q => Value.string (strB q)
theorem len_strsV (l : List (List (BitVec 8))) : (strsV l).length = l.length := by simp [strsV]
end Go.Proofs.Ytefhenkdakokeaa

/- The program's names: allLetters, Good, Pad. -/
set_option maxRecDepth 4000
namespace Go.Proofs.Ytefhenkdakokeaa
open Go Go.RowKit
theorem all_of {q : List (BitVec 8)} (h : ∀ j < q.length, letter (q.getD j 0#8) = true) : q.all letter = true := by
  rw [List.all_eq_true]
  intro x hx
  obtain ⟨j, hj, rfl⟩ := List.getElem_of_mem hx
  have := h j hj
  rwa [List.getD_eq_getElem?_getD, List.getElem?_eq_getElem hj] at this
theorem all_no {q : List (BitVec 8)} {j : Nat} (hj : j < q.length) (h : letter (q.getD j 0#8) = false) : q.all letter = false := by
  rw [List.all_eq_false]
  rw [List.getD_eq_getElem?_getD, List.getElem?_eq_getElem hj] at h
  exact ⟨q[j], List.getElem_mem hj, by rw [show letter q[j] = false from h]; decide⟩
set_option maxHeartbeats 800000 in
theorem letters_any (q : List (BitVec 8)) (w : World) (hm : q.length ≤ maxLen) :
    Calls Try.prog 29 #[.string (strB q)] w fun e w' => e = .returned (.bool (q.all letter)) ∧ Below w.heap.size w w' := by
  obtain ⟨cap, W, hcv, hb, hlt, hcell⟩ := conv_str w q 9 Try.underlying9
  obtain ⟨n, hn⟩ : ∃ n, q.length = n := ⟨_, rfl⟩
  have HN := Lib.hid hn
  rw [hn] at hcv hcell hm
  unfold maxLen at hm
  have HB := Lib.hid hb
  have HC := Lib.hid hcell
  obtain ⟨G, hG⟩ : ∃ G, q.all letter = G := ⟨_, rfl⟩
  have HY : Hid ((∀ j < n, letter (q.getD j 0#8) = true) → G = true) := Lib.hid fun h => by rw [← hG]; exact all_of (by rw [hn]; exact h)
  have HNO : Hid (∀ j < n, letter (q.getD j 0#8) = false → G = false) := Lib.hid fun j hj h => by rw [← hG]; exact all_no (by rw [hn]; exact hj) h
  rw [hG]
  clear hb hcell hn hG hlt
  go_enter Try.func29, Try.ntmps29
  go_wp2_with fail
  clear hcv
  go_loopw [8] (fun i wr => ∃ k : Nat, k ≤ n ∧ i = .int .i64 k ∧ (∀ j < k, letter (q.getD j 0#8) = true) ∧ wr = W) (fun i _ => n - (intOf i).toNat)
  case atStart => exact ⟨0, by omega, rfl, fun j hj => by omega, rfl⟩
  case round =>
    obtain ⟨k, hk, rfl, hok, rfl⟩ := hrel
    have HOK := Lib.hid hok
    clear hok
    by_cases hlt : k < n
    · have hc := HC.out k hlt
      have hk1 : decide ((k : Int) < (n : Int)) = true := decide_eq_true (by omega)
      have hk2 : (k : Int) < (n : Int) := by omega
      have hk3 : (0 : Int) ≤ (k : Int) := by omega
      obtain ⟨x, hx⟩ : ∃ x, q.getD k 0#8 = x := ⟨_, rfl⟩
      have HX := Lib.hid hx
      rw [hx] at hc
      clear hx
      by_cases h97 : bd x < 97
      · have hd1 : decide (bd x < 97) = true := decide_eq_true h97
        have hG : G = false := HNO.out k hlt (by rw [HX.out]; unfold letter; rw [decide_eq_false (by omega)]; rfl)
        go_wp2_with fail
        go_ret
        first | exact ⟨rfl, HB.out⟩ | (rw [hG]; exact ⟨rfl, HB.out⟩)
      have hd1 : decide (bd x < 97) = false := decide_eq_false h97
      by_cases h122 : 122 < bd x
      · have hd2 : decide (122 < bd x) = true := decide_eq_true h122
        have hG : G = false := HNO.out k hlt (by rw [HX.out]; unfold letter; rw [decide_eq_false (show ¬ bd x ≤ 122 by omega), Bool.and_false])
        go_wp2_with fail
        go_ret
        first | exact ⟨rfl, HB.out⟩ | (rw [hG]; exact ⟨rfl, HB.out⟩)
      have hd2 : decide (122 < bd x) = false := decide_eq_false h122
      have hw : IntKind.i64.wrap ((k : Int) + 1) = ((k + 1 : Nat) : Int) := by rw [i64_id _ (by omega) (by omega)]; omega
      go_wp2_with fail
      refine ⟨⟨k + 1, by omega, by go_num, fun j hj => ?_, trivial⟩, by simp [intOf]; omega⟩
      rcases Nat.lt_succ_iff_lt_or_eq.1 hj with h | h
      · exact HOK.out j h
      · subst h; rw [HX.out]; unfold letter; rw [decide_eq_true (by omega), decide_eq_true (by omega)]; rfl
    · have hk1 : decide ((k : Int) < (n : Int)) = false := decide_eq_false (by omega)
      have hG : G = true := HY.out fun j hj => HOK.out j (by omega)
      go_wp2_with fail
      go_ret
      first | exact ⟨rfl, HB.out⟩ | (rw [hG]; exact ⟨rfl, HB.out⟩)
end Go.Proofs.Ytefhenkdakokeaa

/- The program's names: Good, Pad, Cut; strings.TrimRight of one sign. -/
set_option maxRecDepth 4000
namespace Go.Proofs.Ytefhenkdakokeaa
open Go Go.RowKit
attribute [local go_sem] strB_size
theorem good_all {l : List (List (BitVec 8))} (h : ∀ j < l.length, goodN (l.getD j []) = true) : goodNs l = true := by
  unfold goodNs
  rw [List.all_eq_true]
  intro x hx
  obtain ⟨j, hj, rfl⟩ := List.getElem_of_mem hx
  have := h j hj
  rwa [List.getD_eq_getElem?_getD, List.getElem?_eq_getElem hj] at this
theorem good_no {l : List (List (BitVec 8))} {j : Nat} (hj : j < l.length) (h : goodN (l.getD j []) = false) : goodNs l = false := by
  unfold goodNs
  rw [List.all_eq_false]
  rw [List.getD_eq_getElem?_getD, List.getElem?_eq_getElem hj] at h
  exact ⟨l[j], List.getElem_mem hj, by rw [show goodN l[j] = false from h]; decide⟩
set_option maxHeartbeats 800000 in
theorem good_any (l : List (List (BitVec 8))) (v : Value) (w : World) (hv : Strs w v l) (hl : l.length ≤ maxLen) :
    Calls Try.prog 23 #[v] w fun e w' => e = .returned (.bool (goodNs l)) ∧ Below w.heap.size w w' := by
  obtain ⟨A, c, rfl⟩ : ∃ A c, v = .slice A l.length c := by obtain ⟨A, c, h, _⟩ := hv; exact ⟨A, c, h⟩
  obtain ⟨n, hn⟩ : ∃ n, l.length = n := ⟨_, rfl⟩
  have HN := Lib.hid hn
  have HM : Hid (∀ q ∈ l, q.length ≤ maxLen) := Lib.hid (by obtain ⟨_, _, _, _, _, hm, _⟩ := hv; exact hm)
  rw [hn] at hv hl ⊢
  have HV := Lib.hid hv
  unfold maxLen at hl
  obtain ⟨G, hG⟩ : ∃ G, goodNs l = G := ⟨_, rfl⟩
  have HY : Hid ((∀ j < n, goodN (l.getD j []) = true) → G = true) := Lib.hid fun h => by rw [← hG]; exact good_all (by rw [hn]; exact h)
  have HNO : Hid (∀ j < n, goodN (l.getD j []) = false → G = false) := Lib.hid fun j hj h => by rw [← hG]; exact good_no (by rw [hn]; exact hj) h
  rw [hG]
  clear hn hG hv
  have HB := Lib.hid (Below.refl w.heap.size w)
  go_enter Try.func23, Try.ntmps23
  go_wp2_with fail
  go_loopw [7] (fun i wr => ∃ k : Nat, k ≤ n ∧ i = .int .i64 k ∧ (∀ j < k, goodN (l.getD j []) = true) ∧ Below w.heap.size w wr) (fun i _ => n - (intOf i).toNat)
  case atStart => exact ⟨0, by omega, rfl, fun j hj => by omega, HB.out⟩
  case round =>
    clear HB
    obtain ⟨k, hk, rfl, hok, hb⟩ := hrel
    have HB := Lib.hid hb
    have HOK := Lib.hid hok
    clear hok hb
    by_cases hlt : k < n
    · obtain ⟨q, hx⟩ : ∃ x, l[k]? = some x := ⟨_, List.getElem?_eq_getElem (by rw [HN.out]; exact hlt)⟩
      have HQD : Hid (l.getD k [] = q) := Lib.hid (by rw [List.getD_eq_getElem?_getD, hx]; rfl)
      have HQM : Hid (q.length ≤ maxLen) := Lib.hid (HM.out q (List.mem_of_getElem? hx))
      obtain ⟨b, o, rfl, hbw, hcell⟩ := strs_at (HV.out.below HB.out (Nat.le_refl _)) hx
      obtain ⟨m, hm⟩ : ∃ m, q.length = m := ⟨_, rfl⟩
      have hk0 : (0 : Int) ≤ (k : Int) := by omega
      have hk1 : (k : Int) < (n : Int) := by omega
      have hkd : decide ((k : Int) < (n : Int)) = true := decide_eq_true hk1
      have HQ4 : Hid (goodN q = (decide (1 ≤ m) && decide (m ≤ 4) && q.all letter)) := Lib.hid (by rw [← hm]; rfl)
      have C := Lib.hid (letters_any q wr HQM.out)
      clear hx hbw
      by_cases h1 : m < 1
      · have hd1 : decide ((m : Int) < 1) = true := decide_eq_true (by omega)
        have hG : G = false := HNO.out k hlt (by rw [HQD.out, HQ4.out, decide_eq_false (by omega)]; rfl)
        go_wp2_with fail
        go_ret
        first | exact ⟨rfl, HB.out⟩ | (rw [hG]; exact ⟨rfl, HB.out⟩)
      have hd1 : decide ((m : Int) < 1) = false := decide_eq_false (by omega)
      by_cases h4 : 4 < m
      · have hd2 : decide ((4 : Int) < (m : Int)) = true := decide_eq_true (by omega)
        have hG : G = false := HNO.out k hlt (by rw [HQD.out, HQ4.out, decide_eq_false (show ¬ m ≤ 4 by omega), Bool.and_false]; rfl)
        go_wp2_with fail
        go_ret
        first | exact ⟨rfl, HB.out⟩ | (rw [hG]; exact ⟨rfl, HB.out⟩)
      have hd2 : decide ((4 : Int) < (m : Int)) = false := decide_eq_false (by omega)
      have HQ5 : Hid (goodN q = q.all letter) := Lib.hid (by rw [HQ4.out, decide_eq_true (by omega), decide_eq_true (by omega)]; rfl)
      go_wp2_with fail
      refine C.out.mono ?_
      rintro e w1 ⟨rfl, hb1⟩
      have HB1 := Lib.hid (HB.out.trans (hb1.mono HB.out.size))
      clear hb1 HB
      cases hal : q.all letter with
      | false =>
        have hG : G = false := HNO.out k hlt (by rw [HQD.out, HQ5.out, hal])
        clear hal
        go_wp2_with fail
        go_ret
        first | exact ⟨rfl, HB1.out⟩ | (rw [hG]; exact ⟨rfl, HB1.out⟩)
      | true =>
        have HAL := Lib.hid hal
        clear hal
        have hw : IntKind.i64.wrap ((k : Int) + 1) = ((k + 1 : Nat) : Int) := by rw [i64_id _ (by omega) (by omega)]; omega
        go_wp2_with fail
        refine ⟨⟨k + 1, by omega, by go_num, fun j hj => ?_, HB1.out⟩, by simp [intOf]; omega⟩
        rcases Nat.lt_succ_iff_lt_or_eq.1 hj with h | h
        · exact HOK.out j h
        · subst h; rw [HQD.out, HQ5.out]; exact HAL.out
    · have hkd : decide ((k : Int) < (n : Int)) = false := decide_eq_false (by omega)
      have hG : G = true := HY.out fun j hj => HOK.out j (by omega)
      go_wp2_with fail
      go_ret
      first | exact ⟨rfl, HB.out⟩ | (rw [hG]; exact ⟨rfl, HB.out⟩)
end Go.Proofs.Ytefhenkdakokeaa
