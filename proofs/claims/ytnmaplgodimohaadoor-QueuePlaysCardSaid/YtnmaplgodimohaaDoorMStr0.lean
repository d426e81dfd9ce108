/- Merged: Str NamesPrg NamesPrg2 NamesRef NamesCut. -/
import Derived.Laws.BytesArg
import Derived.Laws.IdiomStrings
import Derived.Laws.Concat
import Derived.Laws.Strings3
import Derived.Shelf.Bytes.SlSmallAll
import Derived.Deep.Cut
import Derived.Deep.DeepCutAuto
import Derived.Deep.CutBlock
import Derived.Test.YtnmaplgodimohaaDoorMGen0
/- Texts: a byte of one, a part of one, two joined, compared, turned into bytes, copied. No function of the program is named here. -/
set_option maxRecDepth 4000
namespace Go.Proofs.YtnmaplgodimohaaDoor
open Go Go.RowKit
def strB (q : List (BitVec 8)) : ByteArray := strOfNums (q.map bd)
theorem strB_size (q : List (BitVec 8)) : (strB q).size = q.length := by unfold strB; rw [strOfNums_size, List.length_map]
theorem ofNat_bd (x : BitVec 8) : UInt8.ofNat (bd x).toNat = UInt8.ofBitVec x := by
  apply UInt8.toBitVec_inj.1
  apply BitVec.eq_of_toNat_eq
  simp [bd]
theorem strB_data (q : List (BitVec 8)) : (strB q).data = (q.map UInt8.ofBitVec).toArray := by
  apply Array.ext'
  rw [strB, strOfNums_data, List.map_map]
  have e : ((fun n : Int => UInt8.ofNat n.toNat) ∘ bd) = UInt8.ofBitVec := funext ofNat_bd
  rw [e]
theorem strB_eq (q : List (BitVec 8)) : strB q = ⟨(q.map UInt8.ofBitVec).toArray⟩ := by
  apply ByteArray.ext; rw [strB_data]
theorem strB_inj {p q : List (BitVec 8)} (h : strB p = strB q) : p = q := by
  have h1 := congrArg (fun s : ByteArray => s.data.toList) h
  simp only [strB_data] at h1
  have h2 := congrArg (List.map UInt8.toBitVec) h1
  simpa [List.map_map, Function.comp_def] using h2
/- every text is some bytes' -/
theorem strB_all (s : ByteArray) : ∃ q, s = strB q := by
  refine ⟨s.data.toList.map UInt8.toBitVec, ?_⟩
  apply ByteArray.ext
  rw [strB_data, List.map_map]
  have e : UInt8.ofBitVec ∘ UInt8.toBitVec = id := by funext x; rfl
  rw [e, List.map_id]
theorem str_beq (p q : List (BitVec 8)) : ((strB p).toList == (strB q).toList) = decide (p = q) := by
  rw [ByteArray.toList_eq, ByteArray.toList_eq]
  by_cases h : p = q
  · subst h; rw [decide_eq_true rfl]; exact beq_self_eq_true _
  · rw [decide_eq_false h]
    refine beq_eq_false_iff_ne.2 fun e => h (strB_inj ?_)
    apply ByteArray.ext
    exact Array.toList_inj.1 e
theorem str_lit0 : (⟨#[]⟩ : ByteArray) = strB [] := by rw [strB_eq]; rfl
theorem str_emp (p : List (BitVec 8)) : (strB p).toList.isEmpty = decide (p = []) := by
  rw [ByteArray.toList_eq, strB_data]; cases p <;> simp
theorem str_nil (p : List (BitVec 8)) : ((strB p).toList = []) ↔ p = [] := by
  rw [← List.isEmpty_iff, str_emp, decide_eq_true_iff]
theorem str_get (q : List (BitVec 8)) (j : Nat) (h : j < (strB q).size) : (((strB q)[j]'h).toNat : Int) = bd (q.getD j 0#8) := by
  have hj : j < q.length := by rw [strB_size] at h; exact h
  have e : (strB q)[j]'h = UInt8.ofBitVec q[j] := by
    show (strB q).data[j] = _
    simp [strB_data]
  rw [e, List.getD_eq_getElem?_getD, List.getElem?_eq_getElem hj]
  rfl
theorem run_ix (w : World) (t : TypeId) (q : List (BitVec 8)) (k : IntKind) (j : Nat) (h : Tryd.prog.underlying t = some .string) (hj : j < q.length) :
    (Instr.index t (.string (strB q)) (.int k (j : Int))).run Tryd.prog w = .ok (.int .u8 (bd (q.getD j 0#8))) w := by
  rw [run_index_string w t (strB q) k j h, dif_pos ⟨by omega, by rw [strB_size]; omega⟩]
  congr 2
  exact str_get q j (by rw [strB_size]; exact hj)
theorem str_extract (q : List (BitVec 8)) (a b : Nat) : (strB q).extract a b = strB ((q.drop a).take (b - a)) := by
  rw [strB_eq, strB_eq, ByteArray.extract_mk, List.map_take, List.map_drop]
/- string(b) -/
theorem conv_bytes {w : World} {v : Value} {q : List (BitVec 8)} (h : Slice w v q) (dst : TypeId) (hd : Tryd.prog.underlying dst = some .string) : (convert 106 dst v).run Tryd.prog w = .ok (.string (strB q)) w := by
  obtain ⟨A, c, rfl, _, h3⟩ := h
  by_cases hq : q = []
  · subst hq
    have := run_convert_bytes_zero (P := Tryd.prog) w 106 5 Tryd.underlying106 Tryd.underlying5 A c dst hd
    exact this
  · obtain ⟨b, o, rfl, _, h6⟩ := h3 hq
    refine run_convert_bytes_arg (P := Tryd.prog) w 106 5 Tryd.underlying106 Tryd.underlying5 b o q.length c (q.map bd) (by simp) (fun i hi => ?_) dst hd
    rw [h6 i q[i] (List.getElem?_eq_getElem hi)]
    simp [List.getD_eq_getElem?_getD, hi]
/- []byte(s): a new block -/
theorem conv_str (w : World) (q : List (BitVec 8)) (src : TypeId) (hs : Tryd.prog.underlying src = some .string) :
    ∃ cap W, (convert src 106 (.string (strB q))).run Tryd.prog w = .ok (.slice (some ⟨w.heap.size, 0, none⟩) q.length cap) W ∧ Below w.heap.size w W ∧ w.heap.size < W.heap.size ∧ ∀ (j : Nat), j < q.length → W.cell? ⟨w.heap.size, j, none⟩ = some (.int .u8 (bd (q.getD j 0#8))) := by
  have h := run_bytes_of_string (P := Tryd.prog) w src 106 5 (strB q) hs Tryd.underlying106 Tryd.underlying5
  rw [strB_size] at h
  refine ⟨_, _, h, (Below.refl w.heap.size w).drew.alloc (Nat.le_refl _) _, by simp, fun j hj => ?_⟩
  have hs : j < (strB q).data.size := by rw [strB_data]; simpa using hj
  have e : w.drew.heap.size = w.heap.size := rfl
  rw [← e, World.cell?_alloc_mark, bytesRow_at _ _ _ hs]
  have := str_get q j (by rw [strB_size]; exact hj)
  rw [← this]
  rfl
theorem run_copy_str (w : World) (dT sT ty : TypeId) (g o dLen dCap : Nat) (q : List (BitVec 8)) (cur : Array Value) (t : TypeId)
    (hu : Tryd.prog.underlying dT = some (.slice 5)) (hg : w.heap[g]? = some (.cells cur t (0, 0))) (hfit : o + min q.length dLen ≤ cur.size) :
    (Builtin.copy_ #[dT, sT] ty #[.slice (some ⟨g, o, none⟩) dLen dCap, .string (strB q)]).run Tryd.prog w =
      .ok (goInt ((min q.length dLen : Nat) : Int)) (w.setRow g (spl cur.toList o (bytesV (q.take dLen))).toArray) := by
  have hl : (bytesV (q.take dLen)).length = min q.length dLen := by rw [len_bytesV, List.length_take, Nat.min_comm]
  have hst := run_storeCells_at Tryd.prog g o t (bytesV (q.take dLen)) 0 cur w hg (by rw [hl]; simpa using hfit) (one_bytesV _)
  have hm : (strB q).data.toList.map (fun b => Value.int .u8 (b.toNat : Int)) = bytesV q := by
    rw [strB_data]
    simp only [bytesV, List.map_map]
    rfl
  have ht : (bytesV q).take (q.length.min dLen) = bytesV (q.take dLen) := by
    show (bytesV q).take (min q.length dLen) = _
    unfold bytesV
    rw [← List.map_take]
    rcases Nat.le_total q.length dLen with h | h
    · rw [Nat.min_eq_left h, List.take_of_length_le (Nat.le_refl _), List.take_of_length_le h]
    · rw [Nat.min_eq_right h]
  obtain ⟨i, hq, hi⟩ : ∃ i, Tryd.prog.info? 5 = some i ∧ i.size = 1 := by
    have := size_u8
    cases h : Tryd.prog.info? 5 with
    | none => rw [h] at this; cases this
    | some i => exact ⟨i, rfl, by rw [h] at this; simpa using this⟩
  simp only [Nat.add_zero] at hst
  simp [Builtin.copy_, run_underlying hu, Builtin.lenOf, Builtin.firstCells, sizeOf, typeInfo, hq, strB_size, hm, ht, hst]
  unfold spl
  rw [List.append_assoc]
theorem wp_copy_str {w : World} {o : Oper} {a : Act} {K : Act → World → Prop} {Q : Exit → Act → World → Prop} (d s : Operand) (sT : TypeId)
    (ho : o.op = .call { callee := .builtin .copy, args := #[d, s], argTypes := #[106, sT] })
    (g off n m : Nat) (hd : a.eval d = .slice (some ⟨g, off, none⟩) n m) (q : List (BitVec 8)) (hs : a.eval s = .string (strB q)) (t : TypeId) (cur : Array Value) (hg : Row w g t cur) (hfit : off + min q.length n ≤ cur.size)
    (h : ∀ w', Row w' g t (spl cur.toList off (bytesV (q.take n))).toArray → w.grownBy w' (some g) → K (a.put o.dst (goInt ((min q.length n : Nat) : Int))) w') : o.wp Tryd.prog a w K Q := by
  have hrun := run_copy_str w 106 sT o.type g off n m q cur t Tryd.underlying106 hg hfit
  have := h _ (hg.setRow _) (grown_setRow w g (spl cur.toList off (bytesV (q.take n))).toArray)
  unfold Oper.wp
  simp [execOp, ho, resolve, invoke, builtin, hd, hs, hrun, Result.andThen]
  exact this
/- a slice of texts -/
def Strs (w : World) (v : Value) (l : List (List (BitVec 8))) : Prop :=
  ∃ A c, v = .slice A l.length c ∧ l.length ≤ c ∧ (A = none → c = 0) ∧ (∀ q ∈ l, q.length ≤ maxLen) ∧ (l ≠ [] → ∃ b o, A = some ⟨b, o, none⟩ ∧ b < w.heap.size ∧ ∀ k q, l[k]? = some q → w.cell? ⟨b, o + k, none⟩ = some (.string (strB q)))
theorem Strs.below {w w' : World} {B : Nat} {v : Value} {l : List (List (BitVec 8))} (h : Strs w v l) (hb : Below B w w') (hB : w.heap.size ≤ B) : Strs w' v l := by
  obtain ⟨A, c, h1, h2, hn, hm, h3⟩ := h
  refine ⟨A, c, h1, h2, hn, hm, fun hne => ?_⟩
  obtain ⟨b, o, h4, h5, h6⟩ := h3 hne
  exact ⟨b, o, h4, Nat.lt_of_lt_of_le h5 hb.size, fun k q hx => (hb.cell (p := ⟨b, o + k, none⟩) (Nat.lt_of_lt_of_le h5 hB)).trans (h6 k q hx)⟩
theorem strs_at {w : World} {A : Option Addr} {n c : Nat} {l : List (List (BitVec 8))} (h : Strs w (.slice A n c) l) {k : Nat} {q : List (BitVec 8)} (hx : l[k]? = some q) :
    ∃ b o, A = some ⟨b, o, none⟩ ∧ b < w.heap.size ∧ w.cell? ⟨b, o + k, none⟩ = some (.string (strB q)) := by
  obtain ⟨A', c', e1, _, _, _, h4⟩ := h
  injection e1 with e1 _ _
  subst e1
  obtain ⟨b, o, e2, h5, h6⟩ := h4 (by intro e; rw [e] at hx; simp at hx)
  exact ⟨b, o, e2, h5, h6 k _ hx⟩
theorem strs1 (w : World) (q : List (BitVec 8)) (hm : q.length ≤ maxLen) (t : TypeId) : Strs (w.alloc (.cells #[.string (strB q)] t)) (.slice (some ⟨w.heap.size, 0, none⟩) 1 1) [q] := by
  have r := Row.fresh w t #[.string (strB q)]
  refine ⟨_, 1, rfl, by simp, (fun h => by cases h), by simpa using hm, fun _ => ⟨w.heap.size, 0, rfl, r.lt, fun k p hp => ?_⟩⟩
  match k, hp with
  | 0, hp => obtain rfl : q = p := by simpa using hp
             exact r.get rfl
end Go.Proofs.YtnmaplgodimohaaDoor

/- The program's names: allLetters, Good, Pad. -/
set_option maxRecDepth 4000
namespace Go.Proofs.YtnmaplgodimohaaDoor
open Go Go.RowKit
theorem all_of {q : List (BitVec 8)} (h : ∀ j < q.length, letter (q.getD j 0#8) = true) : q.all letter = true := by
  rw [List.all_eq_true]
  intro x hx
  obtain ⟨j, hj, rfl⟩ := List.getElem_of_mem hx
  have := h j hj
  rwa [List.getD_eq_getElem?_getD, List.getElem?_eq_getElem hj] at this
theorem all_no {q : List (BitVec 8)} {j : Nat} (hj : j < q.length) (h : letter (q.getD j 0#8) = false) : q.all letter = false := by
  rw [List.all_eq_false]
  rw [List.getD_eq_getElem?_getD, List.getElem?_eq_getElem hj] at h
  exact ⟨q[j], List.getElem_mem hj, by rw [show letter q[j] = false from h]; decide⟩
set_option maxHeartbeats 800000 in
theorem letters_any (q : List (BitVec 8)) (w : World) (hm : q.length ≤ maxLen) :
    Calls Tryd.prog 54 #[.string (strB q)] w fun e w' => e = .returned (.bool (q.all letter)) ∧ Below w.heap.size w w' := by
  obtain ⟨cap, W, hcv, hb, hlt, hcell⟩ := conv_str w q 9 Tryd.underlying9
  obtain ⟨n, hn⟩ : ∃ n, q.length = n := ⟨_, rfl⟩
  have HN := Lib.hid hn
  rw [hn] at hcv hcell hm
  unfold maxLen at hm
  have HB := Lib.hid hb
  have HC := Lib.hid hcell
  obtain ⟨G, hG⟩ : ∃ G, q.all letter = G := ⟨_, rfl⟩
  have HY : Hid ((∀ j < n, letter (q.getD j 0#8) = true) → G = true) := Lib.hid fun h => by rw [← hG]; exact all_of (by rw [hn]; exact h)
  have HNO : Hid (∀ j < n, letter (q.getD j 0#8) = false → G = false) := Lib.hid fun j hj h => by rw [← hG]; exact all_no (by rw [hn]; exact hj) h
  rw [hG]
  clear hb hcell hn hG hlt
  go_enter Tryd.func54, Tryd.ntmps54
  go_wp2_with fail
  clear hcv
  go_loopw [8] (fun i wr => ∃ k : Nat, k ≤ n ∧ i = .int .i64 k ∧ (∀ j < k, letter (q.getD j 0#8) = true) ∧ wr = W) (fun i _ => n - (intOf i).toNat)
  case atStart => exact ⟨0, by omega, rfl, fun j hj => by omega, rfl⟩
  case round =>
    obtain ⟨k, hk, rfl, hok, rfl⟩ := hrel
    have HOK := Lib.hid hok
    clear hok
    by_cases hlt : k < n
    · have hc := HC.out k hlt
      have hk1 : decide ((k : Int) < (n : Int)) = true := decide_eq_true (by omega)
      have hk2 : (k : Int) < (n : Int) := by omega
      have hk3 : (0 : Int) ≤ (k : Int) := by omega
      obtain ⟨x, hx⟩ : ∃ x, q.getD k 0#8 = x := ⟨_, rfl⟩
      have HX := Lib.hid hx
      rw [hx] at hc
      clear hx
      by_cases h97 : bd x < 97
      · have hd1 : decide (bd x < 97) = true := decide_eq_true h97
        have hG : G = false := HNO.out k hlt (by rw [HX.out]; unfold letter; rw [decide_eq_false (by omega)]; rfl)
        go_wp2_with fail
        go_ret
        first | exact ⟨rfl, HB.out⟩ | (rw [hG]; exact ⟨rfl, HB.out⟩)
      have hd1 : decide (bd x < 97) = false := decide_eq_false h97
      by_cases h122 : 122 < bd x
      · have hd2 : decide (122 < bd x) = true := decide_eq_true h122
        have hG : G = false := HNO.out k hlt (by rw [HX.out]; unfold letter; rw [decide_eq_false (show ¬ bd x ≤ 122 by omega), Bool.and_false])
        go_wp2_with fail
        go_ret
        first | exact ⟨rfl, HB.out⟩ | (rw [hG]; exact ⟨rfl, HB.out⟩)
      have hd2 : decide (122 < bd x) = false := decide_eq_false h122
      have hw : IntKind.i64.wrap ((k : Int) + 1) = ((k + 1 : Nat) : Int) := by rw [i64_id _ (by omega) (by omega)]; omega
      go_wp2_with fail
      refine ⟨⟨k + 1, by omega, by go_num, fun j hj => ?_, trivial⟩, by simp [intOf]; omega⟩
      rcases Nat.lt_succ_iff_lt_or_eq.1 hj with h | h
      · exact HOK.out j h
      · subst h; rw [HX.out]; unfold letter; rw [decide_eq_true (by omega), decide_eq_true (by omega)]; rfl
    · have hk1 : decide ((k : Int) < (n : Int)) = false := decide_eq_false (by omega)
      have hG : G = true := HY.out fun j hj => HOK.out j (by omega)
      go_wp2_with fail
      go_ret
      first | exact ⟨rfl, HB.out⟩ | (rw [hG]; exact ⟨rfl, HB.out⟩)
end Go.Proofs.YtnmaplgodimohaaDoor

/- The program's names: Good, Pad, Cut; strings.TrimRight of one sign. -/
set_option maxRecDepth 4000
namespace Go.Proofs.YtnmaplgodimohaaDoor
open Go Go.RowKit
attribute [local go_sem] strB_size
theorem good_all {l : List (List (BitVec 8))} (h : ∀ j < l.length, goodN (l.getD j []) = true) : goodNs l = true := by
  unfold goodNs
  rw [List.all_eq_true]
  intro x hx
  obtain ⟨j, hj, rfl⟩ := List.getElem_of_mem hx
  have := h j hj
  rwa [List.getD_eq_getElem?_getD, List.getElem?_eq_getElem hj] at this
theorem good_no {l : List (List (BitVec 8))} {j : Nat} (hj : j < l.length) (h : goodN (l.getD j []) = false) : goodNs l = false := by
  unfold goodNs
  rw [List.all_eq_false]
  rw [List.getD_eq_getElem?_getD, List.getElem?_eq_getElem hj] at h
  exact ⟨l[j], List.getElem_mem hj, by rw [show goodN l[j] = false from h]; decide⟩
set_option maxHeartbeats 800000 in
theorem good_any (l : List (List (BitVec 8))) (v : Value) (w : World) (hv : Strs w v l) (hl : l.length ≤ maxLen) :
    Calls Tryd.prog 45 #[v] w fun e w' => e = .returned (.bool (goodNs l)) ∧ Below w.heap.size w w' := by
  obtain ⟨A, c, rfl⟩ : ∃ A c, v = .slice A l.length c := by obtain ⟨A, c, h, _⟩ := hv; exact ⟨A, c, h⟩
  obtain ⟨n, hn⟩ : ∃ n, l.length = n := ⟨_, rfl⟩
  have HN := Lib.hid hn
  have HM : Hid (∀ q ∈ l, q.length ≤ maxLen) := Lib.hid (by obtain ⟨_, _, _, _, _, hm, _⟩ := hv; exact hm)
  rw [hn] at hv hl ⊢
  have HV := Lib.hid hv
  unfold maxLen at hl
  obtain ⟨G, hG⟩ : ∃ G, goodNs l = G := ⟨_, rfl⟩
  have HY : Hid ((∀ j < n, goodN (l.getD j []) = true) → G = true) := Lib.hid fun h => by rw [← hG]; exact good_all (by rw [hn]; exact h)
  have HNO : Hid (∀ j < n, goodN (l.getD j []) = false → G = false) := Lib.hid fun j hj h => by rw [← hG]; exact good_no (by rw [hn]; exact hj) h
  rw [hG]
  clear hn hG hv
  have HB := Lib.hid (Below.refl w.heap.size w)
  go_enter Tryd.func45, Tryd.ntmps45
  go_wp2_with fail
  go_loopw [7] (fun i wr => ∃ k : Nat, k ≤ n ∧ i = .int .i64 k ∧ (∀ j < k, goodN (l.getD j []) = true) ∧ Below w.heap.size w wr) (fun i _ => n - (intOf i).toNat)
  case atStart => exact ⟨0, by omega, rfl, fun j hj => by omega, HB.out⟩
  case round =>
    clear HB
    obtain ⟨k, hk, rfl, hok, hb⟩ := hrel
    have HB := Lib.hid hb
    have HOK := Lib.hid hok
    clear hok hb
    by_cases hlt : k < n
    · obtain ⟨q, hx⟩ : ∃ x, l[k]? = some x := ⟨_, List.getElem?_eq_getElem (by rw [HN.out]; exact hlt)⟩
      have HQD : Hid (l.getD k [] = q) := Lib.hid (by rw [List.getD_eq_getElem?_getD, hx]; rfl)
      have HQM : Hid (q.length ≤ maxLen) := Lib.hid (HM.out q (List.mem_of_getElem? hx))
      obtain ⟨b, o, rfl, hbw, hcell⟩ := strs_at (HV.out.below HB.out (Nat.le_refl _)) hx
      obtain ⟨m, hm⟩ : ∃ m, q.length = m := ⟨_, rfl⟩
      have hk0 : (0 : Int) ≤ (k : Int) := by omega
      have hk1 : (k : Int) < (n : Int) := by omega
      have hkd : decide ((k : Int) < (n : Int)) = true := decide_eq_true hk1
      have HQ4 : Hid (goodN q = (decide (1 ≤ m) && decide (m ≤ 4) && q.all letter)) := Lib.hid (by rw [← hm]; rfl)
      have C := Lib.hid (letters_any q wr HQM.out)
      clear hx hbw
      by_cases h1 : m < 1
      · have hd1 : decide ((m : Int) < 1) = true := decide_eq_true (by omega)
        have hG : G = false := HNO.out k hlt (by rw [HQD.out, HQ4.out, decide_eq_false (by omega)]; rfl)
        go_wp2_with fail
        go_ret
        first | exact ⟨rfl, HB.out⟩ | (rw [hG]; exact ⟨rfl, HB.out⟩)
      have hd1 : decide ((m : Int) < 1) = false := decide_eq_false (by omega)
      by_cases h4 : 4 < m
      · have hd2 : decide ((4 : Int) < (m : Int)) = true := decide_eq_true (by omega)
        have hG : G = false := HNO.out k hlt (by rw [HQD.out, HQ4.out, decide_eq_false (show ¬ m ≤ 4 by omega), Bool.and_false]; rfl)
        go_wp2_with fail
        go_ret
        first | exact ⟨rfl, HB.out⟩ | (rw [hG]; exact ⟨rfl, HB.out⟩)
      have hd2 : decide ((4 : Int) < (m : Int)) = false := decide_eq_false (by omega)
      have HQ5 : Hid (goodN q = q.all letter) := Lib.hid (by rw [HQ4.out, decide_eq_true (by omega), decide_eq_true (by omega)]; rfl)
      go_wp2_with fail
      refine C.out.mono ?_
      rintro e w1 ⟨rfl, hb1⟩
      have HB1 := Lib.hid (HB.out.trans (hb1.mono HB.out.size))
      clear hb1 HB
      cases hal : q.all letter with
      | false =>
        have hG : G = false := HNO.out k hlt (by rw [HQD.out, HQ5.out, hal])
        clear hal
        go_wp2_with fail
        go_ret
        first | exact ⟨rfl, HB1.out⟩ | (rw [hG]; exact ⟨rfl, HB1.out⟩)
      | true =>
        have HAL := Lib.hid hal
        clear hal
        have hw : IntKind.i64.wrap ((k : Int) + 1) = ((k + 1 : Nat) : Int) := by rw [i64_id _ (by omega) (by omega)]; omega
        go_wp2_with fail
        refine ⟨⟨k + 1, by omega, by go_num, fun j hj => ?_, HB1.out⟩, by simp [intOf]; omega⟩
        rcases Nat.lt_succ_iff_lt_or_eq.1 hj with h | h
        · exact HOK.out j h
        · subst h; rw [HQD.out, HQ5.out]; exact HAL.out
    · have hkd : decide ((k : Int) < (n : Int)) = false := decide_eq_false (by omega)
      have hG : G = true := HY.out fun j hj => HOK.out j (by omega)
      go_wp2_with fail
      go_ret
      first | exact ⟨rfl, HB.out⟩ | (rw [hG]; exact ⟨rfl, HB.out⟩)
theorem size_b4 : (Tryd.prog.info? 107).map (·.size) = some 4 := by kernel_rfl
theorem pad_spl (q : List (BitVec 8)) : (spl (bs (zer 4)).toList 0 (bytesV (q.take 4))).toArray = bs (padN q) := by
  rw [spl_bs]
  congr 1
  unfold spl padN
  rw [List.take_zero, List.nil_append, Nat.zero_add, List.take_append]
  unfold zer
  rw [List.drop_replicate, List.take_replicate, List.length_take]
  congr 2
  omega
set_option maxHeartbeats 800000 in
theorem pad_any (q : List (BitVec 8)) (w : World) :
    Calls Tryd.prog 61 #[.string (strB q)] w fun e w' => e = .returned (.agg (bs (padN q))) ∧ Below w.heap.size w w' := by
  have HPE := Lib.hid (pad_spl q)
  have HS := St.nil w noF
  go_enter Tryd.func61, Tryd.ntmps61
  go_upto_region 2 with (first | ((with_reducible refine wpList_plain ?_ ?_); exact rfl; intro KK hKK; refine wp_st_alloc HS 107 (bs (zer 4)) rfl (.agg (bs (zer 4))) (by kernel_rfl) (rfl) (fun g2 W1 HSx => hKK _ _ ?_); clear hKK KK HS; have HS : St w noF [⟨g2, 107, bs (zer 4)⟩] W1 := HSx; clear HSx) | ((with_reducible refine wpList_plain ?_ ?_); exact rfl; intro KK hKK; refine wp_st_alloc HS 107 (bs (zer 4)) rfl (.agg (bs (zer 4))) (by kernel_rfl) (rfl) (fun g3 W2 HSx => hKK _ _ ?_); clear hKK KK HS; have HS : St w noF [⟨g2, 107, bs (zer 4)⟩, ⟨g3, 107, bs (zer 4)⟩] W2 := HSx; clear HSx))
  go_wp2_with (first | ((with_reducible refine wpList_plain ?_ ?_); exact rfl; intro KK hKK; refine wp_copy_str (.tmp 4) (.tmp 5) 9 rfl g3 0 4 4 rfl q rfl 107 _ (HS.row 1 rfl) (by rw [size_bs, length_zer]; omega) (fun W3 hr hg => hKK _ _ ?_); clear hKK KK; have HSx : St w noF [⟨g2, 107, bs (zer 4)⟩, ⟨g3, 107, bs (padN q)⟩] W3 := HS.upd 1 rfl (HPE.out ▸ hr) hg; clear hr hg HS; have HS := HSx; clear HSx) | ((with_reducible refine wpList_plain ?_ ?_); exact rfl; intro KK hKK; refine wp_st_load HS 1 0 107 (.tmp 3) rfl rfl rfl (bs (padN q)) (slab_whole _) _ Tryd.underlying107 rfl (by rw [size_bs, length_padN]; exact size_b4) (hKK _ _ ?_); clear hKK KK) | ((with_reducible refine wpList_plain ?_ ?_); exact rfl; intro KK hKK; refine wp_st_store HS 0 0 107 (.tmp 2) (.tmp 7) rfl rfl rfl (.agg (bs (padN q))) rfl (by rw [show Value.cells (.agg (bs (padN q))) = bs (padN q) from rfl, size_bs, length_padN]; exact size_b4) (by rw [show Value.cells (.agg (bs (padN q))) = bs (padN q) from rfl, size_bs, length_padN, size_bs, length_zer]; decide) (by exact one_bs _) (bs (padN q)) (spl_agg _ _ _ rfl (by rw [size_bs, size_bs, length_padN, length_zer])) (fun W4 HSx => hKK _ _ ?_); clear hKK KK HS; have HS : St w noF [⟨g2, 107, bs (padN q)⟩, ⟨g3, 107, bs (padN q)⟩] W4 := HSx; clear HSx))
  exact bodyPost_ret (v := .agg (bs (padN q))) (results_cell_row Tryd.results61 _ _ g2 107 (bs (padN q)) (0, 0) _ rfl (HS.row 0 rfl) Tryd.underlying107 rfl (by rw [size_bs, length_padN]; exact size_b4)) rfl ⟨rfl, HS.below⟩
def strLen : Value → Nat | .string s => s.size | _ => 0
set_option maxHeartbeats 800000 in
theorem trimb_any (q : List (BitVec 8)) (w : World) (hm : q.length ≤ maxLen) :
    Calls Tryd.prog 63 #[.string (strB q), .int .u8 0] w fun e w' => e = .returned (.string (strB (trimN q))) ∧ w = w' := by
  have HM := Lib.hid hm
  clear hm
  obtain ⟨t, ht⟩ : ∃ t, trimN q = t := ⟨_, rfl⟩
  have HT := Lib.hid ht
  rw [ht]
  clear ht
  go_enter Tryd.func63, Tryd.ntmps63
  go_wp2_with fail
  go_loopw [0] (fun s wr => ∃ p : List (BitVec 8), s = .string (strB p) ∧ trimN p = t ∧ p.length ≤ maxLen ∧ wr = w) (fun s _ => strLen s)
  case atStart => exact ⟨q, rfl, HT.out, HM.out, rfl⟩
  case round =>
    clear HM HT
    obtain ⟨p, rfl, ht, hl, rfl⟩ := hrel
    have HT := Lib.hid ht
    have HL := Lib.hid hl
    clear ht hl
    rcases List.eq_nil_or_concat p with rfl | ⟨r, x, rfl⟩
    · have ht : t = [] := HT.out.symm.trans trim_nil
      subst ht
      clear HT
      have h0 : (strB []).size = 0 := by rw [strB_size]; rfl
      have hd0 : decide ((0 : Int) < 0) = false := rfl
      go_wp2_with fail
      go_ret
      exact ⟨rfl, rfl⟩
    · rw [List.concat_eq_append] at HT HL ⊢
      obtain ⟨p, hp⟩ : ∃ p, r ++ [x] = p := ⟨_, rfl⟩
      obtain ⟨m, hm⟩ : ∃ m, r.length = m := ⟨_, rfl⟩
      have hpl : p.length = m + 1 := by rw [← hp, ← hm, List.length_append]; rfl
      obtain ⟨N, hN⟩ : ∃ N, m + 1 = N := ⟨_, rfl⟩
      rw [hN] at hpl
      have hix : ∀ w, (Instr.index 9 (.string (strB p)) (.int .i64 (m : Int))).run Tryd.prog w = .ok (.int .u8 (bd x)) w := fun w => by
        have := run_ix w 9 p .i64 m Tryd.underlying9 (by omega)
        rw [this, ← hp, List.getD_eq_getElem?_getD, List.getElem?_append_right (by omega), hm, Nat.sub_self]; rfl
      have hex : (strB p).extract 0 m = strB r := by
        rw [str_extract, List.drop_zero, Nat.sub_zero, ← hp, ← hm, List.take_left]
      have HMX : Hid (N ≤ 9223372036854775807) := Lib.hid (by have := HL.out; rw [hp, hpl] at this; unfold maxLen at this; omega)
      have hw : IntKind.i64.wrap ((N : Int) - 1) = (m : Int) := by have := HMX.out; rw [i64_id _ (by omega) (by omega)]; omega
      have hd0 : decide ((0 : Int) < (N : Int)) = true := decide_eq_true (by omega)
      have hN0 : 0 < N := by omega
      have h0m : (0 : Int) ≤ (m : Int) := by omega
      have hmN : (m : Int) ≤ (N : Int) := by omega
      have HNM : Hid (m + 1 = N) := Lib.hid hN
      have HRL : Hid (r.length = m) := Lib.hid hm
      have HTX : Hid (trimN (r ++ [x]) = t) := HT
      have HLX : Hid (r.length ≤ maxLen) := Lib.hid (by have := HL.out; rw [List.length_append] at this; omega)
      rw [hp]
      have HP := Lib.hid hp
      clear hN hm hp HL HT
      by_cases hx : x = 0#8
      · have hb1 : (bd x == 0) = true := by rw [hx]; rfl
        have hb2 : decide (bd x = 0) = true := by rw [hx]; rfl
        have HTR : Hid (trimN r = t) := Lib.hid (by rw [← HTX.out, hx, trim_zero])
        clear hx
        go_wp2_with fail
        refine ⟨⟨r, by first | rfl | simp [hex], HTR.out, HLX.out, trivial⟩, ?_⟩
        simp [strLen, strB_size, HRL.out, hpl]; have := HNM.out; omega
      · have hb1 : (bd x == 0) = false := by
          refine beq_eq_false_iff_ne.2 fun e => hx (bd_inj (by rw [e]; rfl))
        have hb2 : decide (bd x = 0) = false := decide_eq_false fun e => hx (bd_inj (by rw [e]; rfl))
        have ht : t = p := by rw [← HTX.out, trim_more r x hx]; exact HP.out
        clear hx
        go_wp2_with fail
        go_ret
        first | exact ⟨rfl, rfl⟩ | (rw [ht]; exact ⟨rfl, rfl⟩)
theorem lit_beq : ((⟨#[0]⟩ : ByteArray).toList == (⟨#[]⟩ : ByteArray).toList) = false := by rw [ByteArray.toList_eq, ByteArray.toList_eq]; rfl
set_option maxHeartbeats 800000 in
theorem trim_any (q : List (BitVec 8)) (w : World) (hm : q.length ≤ maxLen) :
    Calls Tryd.prog 62 #[.string (strB q), .string ⟨#[0]⟩] w fun e w' => e = .returned (.string (strB (trimN q))) ∧ w = w' := by
  have C := Lib.hid (trimb_any q w hm)
  clear hm
  have h0 := str_emp q
  have hn0 := str_nil q
  have hl := lit_beq
  have hix : ∀ w, (Instr.index 9 (.string ⟨#[0]⟩) (.int .i64 0)).run Tryd.prog w = .ok (.int .u8 0) w := fun w => by
    rw [run_index_string w 9 ⟨#[0]⟩ .i64 0 Tryd.underlying9]; rfl
  have h128 : decide ((0 : Int) < 128) = true := rfl
  have h11 : ((1 : Int) == 1) = true := rfl
  have hs1 : (⟨#[0]⟩ : ByteArray).size = 1 := rfl
  by_cases hq : q = []
  · have hn1 : (strB q).toList = [] := hn0.2 hq
    rw [decide_eq_true hq] at h0
    have ht : trimN q = q := by rw [hq]; rfl
    rw [ht]
    clear C hn0 hq ht
    go_enter Tryd.func62, Tryd.ntmps62
    go_wp2_with fail
    go_ret
    exact ⟨rfl, rfl⟩
  · have hn1 : ¬ (strB q).toList = [] := fun h => hq (hn0.1 h)
    rw [decide_eq_false hq] at h0
    clear hq hn0
    go_enter Tryd.func62, Tryd.ntmps62
    go_wp2_with fail
    refine C.out.mono ?_
    rintro e w1 ⟨rfl, rfl⟩
    go_wp2_with fail
    go_ret
    exact ⟨rfl, rfl⟩
set_option maxHeartbeats 800000 in
theorem cut_any (b : List (BitVec 8)) (w : World) (hl : b.length = 4) :
    Calls Tryd.prog 60 #[.agg (bs b)] w fun e w' => e = .returned (.tuple #[.string (strB (cutN b).1), .bool (cutN b).2]) ∧ Below w.heap.size w w' := by
  have HL := Lib.hid hl
  have H4 : Hid ((bs b).size = 4) := Lib.hid (by rw [size_bs, hl])
  obtain ⟨t, ht⟩ : ∃ t, trimN b = t := ⟨_, rfl⟩
  have HC : Hid (cutN b = if (decide (t = []) || goodN t) then (t, true) else ([], false)) := Lib.hid (by unfold cutN okTrim; rw [ht])
  have HTM : Hid (t.length ≤ maxLen) := Lib.hid (by
    have h : t.length ≤ b.length := by rw [← ht]; unfold trimN; rw [List.length_reverse]; exact Nat.le_trans (List.dropWhile_sublist _).length_le (by rw [List.length_reverse]; exact Nat.le_refl _)
    unfold maxLen; omega)
  have HT := Lib.hid ht
  clear hl ht
  have HS := St.nil w noF
  go_enter Tryd.func60, Tryd.ntmps60
  go_upto_region 1 with (first | ((with_reducible refine wpList_plain ?_ ?_); exact rfl; intro KK hKK; refine wp_st_box HS 107 (.tmp 0) rfl _ rfl (bs b) (rfl) (fun g1 W1 HSx => hKK _ _ ?_); clear hKK KK HS; have HS : St w noF [⟨g1, 107, bs b⟩] W1 := HSx; clear HSx))
  have hsl : Slice W1 (.slice (some ⟨g1, 0, none⟩) 4 4) b := by have := row_slice (c := 4) (HS.row 0 rfl) (by rw [HL.out]; exact Nat.le_refl _); rwa [HL.out] at this
  have hcv := conv_bytes hsl 9 Tryd.underlying9
  have C := Lib.hid (trim_any b W1 (by rw [HL.out]; unfold maxLen; omega))
  clear hsl
  go_wp2_with fail
  refine C.out.mono ?_
  rintro e w1 ⟨rfl, rfl⟩
  rw [HT.out]
  clear hcv C HT
  have h0 := str_emp t
  have hn0 := str_nil t
  have HB := Lib.hid HS.below
  clear HS
  by_cases hq : t = []
  · have hn1 : (strB t).toList = [] := hn0.2 hq
    rw [decide_eq_true hq] at h0
    have HC1 : Hid (cutN b = (t, true)) := Lib.hid (by rw [HC.out, decide_eq_true hq]; rfl)
    clear hq hn0
    go_wp2_with fail
    go_ret2
    exact ⟨by rw [HC1.out] <;> rfl, HB.out⟩
  · have hn1 : ¬ (strB t).toList = [] := fun h => hq (hn0.1 h)
    rw [decide_eq_false hq] at h0
    clear hn0
    have HQ := Lib.hid (decide_eq_false hq)
    clear hq
    have C := Lib.hid (good_any [t] _ _ (strs1 W1 t HTM.out 9) (by unfold maxLen; simp))
    have HG1 : Hid (goodNs [t] = goodN t) := Lib.hid (by unfold goodNs; simp)
    rw [HG1.out] at C
    have HB1 := Lib.hid (HB.out.alloc HB.out.size (.cells #[.string (strB t)] 9))
    go_wp2_with fail
    refine C.out.mono ?_
    rintro e w1 ⟨rfl, hb1⟩
    have HB2 := Lib.hid (HB1.out.trans (hb1.mono HB1.out.size))
    clear hb1 C HG1
    cases hg : goodN t with
    | true =>
      have HC1 : Hid (cutN b = (t, true)) := Lib.hid (by rw [HC.out, HQ.out, hg]; rfl)
      clear hg
      go_wp2_with fail
      go_ret2
      exact ⟨by rw [HC1.out] <;> rfl, HB2.out⟩
    | false =>
      have HC1 : Hid (cutN b = ([], false)) := Lib.hid (by rw [HC.out, HQ.out, hg]; rfl)
      clear hg
      go_wp2_with fail
      go_ret2
      exact ⟨by rw [HC1.out, ← str_lit0] <;> rfl, HB2.out⟩
end Go.Proofs.YtnmaplgodimohaaDoor

/- The document's names: Good, Pad, Cut. -/
set_option maxRecDepth 4000
namespace Go.Proofs.YtnmaplgodimohaaDoor
open Go Go.RowKit
attribute [local go_sem] strB_size
end Go.Proofs.YtnmaplgodimohaaDoor

/- The document's name of four bytes. -/
set_option maxRecDepth 4000
namespace Go.Proofs.YtnmaplgodimohaaDoor
open Go Go.RowKit
attribute [local go_sem] strB_size
end Go.Proofs.YtnmaplgodimohaaDoor
