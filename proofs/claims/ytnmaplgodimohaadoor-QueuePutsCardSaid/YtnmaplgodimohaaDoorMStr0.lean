/- Merged: Str NamesPrg NamesPrg2 NamesRef NamesCut. -/
import Derived.Laws.BytesArg
import Derived.Laws.IdiomStrings
import Derived.Laws.Concat
import Derived.Laws.Strings3
import Derived.Shelf.Bytes.SlSmallAll
import Derived.Deep.Cut
import Derived.Deep.DeepCutAuto
import Derived.Deep.CutBlock
import Derived.Test.YtnmaplgodimohaaDoorMGen0
/- Texts: a byte of one, a part of one, two joined, compared, turned into bytes, copied. No function of the program is named here. -/
set_option maxRecDepth 4000
namespace Go.Proofs.YtnmaplgodimohaaDoor
open Go Go.RowKit
def strB (q : List (BitVec 8)) : ByteArray := strOfNums (q.map bd)
theorem strB_size (q : List (BitVec 8)) : (strB q).size = q.length := by unfold strB; rw [strOfNums_size, List.length_map]
theorem ofNat_bd (x : BitVec 8) : UInt8.ofNat (bd x).toNat = UInt8.ofBitVec x := by
  apply UInt8.toBitVec_inj.1
  apply BitVec.eq_of_toNat_eq
  simp [bd]
theorem strB_data (q : List (BitVec 8)) : (strB q).data = (q.map UInt8.ofBitVec).toArray := by
  apply Array.ext'
  rw [strB, strOfNums_data, List.map_map]
  have e : ((fun n : Int => UInt8.ofNat n.toNat) ∘ bd) = UInt8.ofBitVec := funext ofNat_bd
  rw [e]
theorem strB_eq (q : List (BitVec 8)) : strB q = ⟨(q.map UInt8.ofBitVec).toArray⟩ := by
  apply ByteArray.ext; rw [strB_data]
theorem strB_inj {p q : List (BitVec 8)} (h : strB p = strB q) : p = q := by
  have h1 := congrArg (fun s : ByteArray => s.data.toList) h
  simp only [strB_data] at h1
  have h2 := congrArg (List.map UInt8.toBitVec) h1
  simpa [List.map_map, Function.comp_def] using h2
/- every text is some bytes' -/
theorem strB_all (s : ByteArray) : ∃ q, s = strB q := by
  refine ⟨s.data.toList.map UInt8.toBitVec, ?_⟩
  apply ByteArray.ext
  rw [strB_data, List.map_map]
  have e : UInt8.ofBitVec ∘ UInt8.toBitVec = id := by funext x; rfl
  rw [e, List.map_id]
theorem str_beq (p q : List (BitVec 8)) : ((strB p).toList == (strB q).toList) = decide (p = q) := by
  rw [ByteArray.toList_eq, ByteArray.toList_eq]
  by_cases h : p = q
  · subst h; rw [decide_eq_true rfl]; exact beq_self_eq_true _
  · rw [decide_eq_false h]
    refine beq_eq_false_iff_ne.2 fun e => h (strB_inj ?_)
    apply ByteArray.ext
    exact Array.toList_inj.1 e
theorem str_lit0 : (⟨#[]⟩ : ByteArray) = strB [] := by rw [strB_eq]; rfl
theorem str_emp (p : List (BitVec 8)) : (strB p).toList.isEmpty = decide (p = []) := by
  rw [ByteArray.toList_eq, strB_data]; cases p <;> simp
theorem str_nil (p : List (BitVec 8)) : ((strB p).toList = []) ↔ p = [] := by
  rw [← List.isEmpty_iff, str_emp, decide_eq_true_iff]
theorem str_get (q : List (BitVec 8)) (j : Nat) (h : j < (strB q).size) : (((strB q)[j]'h).toNat : Int) = bd (q.getD j 0#8) := by
  have hj : j < q.length := by rw [strB_size] at h; exact h
  have e : (strB q)[j]'h = UInt8.ofBitVec q[j] := by
    show (strB q).data[j] = _
    simp [strB_data]
  rw [e, List.getD_eq_getElem?_getD, List.getElem?_eq_getElem hj]
  rfl
theorem run_ix (w : World) (t : TypeId) (q : List (BitVec 8)) (k : IntKind) (j : Nat) (h : Tryd.prog.underlying t = some .string) (hj : j < q.length) :
    (Instr.index t (.string (strB q)) (.int k (j : Int))).run Tryd.prog w = .ok (.int .u8 (bd (q.getD j 0#8))) w := by
  rw [run_index_string w t (strB q) k j h, dif_pos ⟨by omega, by rw [strB_size]; omega⟩]
  congr 2
  exact str_get q j (by rw [strB_size]; exact hj)
theorem str_extract (q : List (BitVec 8)) (a b : Nat) : (strB q).extract a b = strB ((q.drop a).take (b - a)) := by
  rw [strB_eq, strB_eq, ByteArray.extract_mk, List.map_take, List.map_drop]
/- string(b) -/
theorem conv_bytes {w : World} {v : Value} {q : List (BitVec 8)} (h : Slice w v q) (dst : TypeId) (hd : Tryd.prog.underlying dst = some .string) : (convert 106 dst v).run Tryd.prog w = .ok (.string (strB q)) w := by
  obtain ⟨A, c, rfl, _, h3⟩ := h
  by_cases hq : q = []
  · subst hq
    have := run_convert_bytes_zero (P := Tryd.prog) w 106 5 Tryd.underlying106 Tryd.underlying5 A c dst hd
    exact this
  · obtain ⟨b, o, rfl, _, h6⟩ := h3 hq
    refine run_convert_bytes_arg (P := Tryd.prog) w 106 5 Tryd.underlying106 Tryd.underlying5 b o q.length c (q.map bd) (by simp) (fun i hi => ?_) dst hd
    rw [h6 i q[i] (List.getElem?_eq_getElem hi)]
    simp [List.getD_eq_getElem?_getD, hi]
/- []byte(s): a new block -/
theorem conv_str (w : World) (q : List (BitVec 8)) (src : TypeId) (hs : Tryd.prog.underlying src = some .string) :
    ∃ cap W, (convert src 106 (.string (strB q))).run Tryd.prog w = .ok (.slice (some ⟨w.heap.size, 0, none⟩) q.length cap) W ∧ Below w.heap.size w W ∧ w.heap.size < W.heap.size ∧ ∀ (j : Nat), j < q.length → W.cell? ⟨w.heap.size, j, none⟩ = some (.int .u8 (bd (q.getD j 0#8))) := by
  have h := run_bytes_of_string (P := Tryd.prog) w src 106 5 (strB q) hs Tryd.underlying106 Tryd.underlying5
  rw [strB_size] at h
  refine ⟨_, _, h, (Below.refl w.heap.size w).drew.alloc (Nat.le_refl _) _, by simp, fun j hj => ?_⟩
  have hs : j < (strB q).data.size := by rw [strB_data]; simpa using hj
  have e : w.drew.heap.size = w.heap.size := rfl
  rw [← e, World.cell?_alloc_mark, bytesRow_at _ _ _ hs]
  have := str_get q j (by rw [strB_size]; exact hj)
  rw [← this]
  rfl
theorem run_copy_str (w : World) (dT sT ty : TypeId) (g o dLen dCap : Nat) (q : List (BitVec 8)) (cur : Array Value) (t : TypeId)
    (hu : Tryd.prog.underlying dT = some (.slice 5)) (hg : w.heap[g]? = some (.cells cur t (0, 0))) (hfit : o + min q.length dLen ≤ cur.size) :
    (Builtin.copy_ #[dT, sT] ty #[.slice (some ⟨g, o, none⟩) dLen dCap, .string (strB q)]).run Tryd.prog w =
      .ok (goInt ((min q.length dLen : Nat) : Int)) (w.setRow g (spl cur.toList o (bytesV (q.take dLen))).toArray) := by
  have hl : (bytesV (q.take dLen)).length = min q.length dLen := by rw [len_bytesV, List.length_take, Nat.min_comm]
  have hst := run_storeCells_at Tryd.prog g o t (bytesV (q.take dLen)) 0 cur w hg (by rw [hl]; simpa using hfit) (one_bytesV _)
  have hm : (strB q).data.toList.map (fun b => Value.int .u8 (b.toNat : Int)) = bytesV q := by
    rw [strB_data]
    simp only [bytesV, List.map_map]
    rfl
  have ht : (bytesV q).take (q.length.min dLen) = bytesV (q.take dLen) := by
    show (bytesV q).take (min q.length dLen) = _
    unfold bytesV
    rw [← List.map_take]
    rcases Nat.le_total q.length dLen with h | h
    · rw [Nat.min_eq_left h, List.take_of_length_le (Nat.le_refl _), List.take_of_length_le h]
    · rw [Nat.min_eq_right h]
  obtain ⟨i, hq, hi⟩ : ∃ i, Tryd.prog.info? 5 = some i ∧ i.size = 1 := by
    have := size_u8
    cases h : Tryd.prog.info? 5 with
    | none => rw [h] at this; cases this
    | some i => exact ⟨i, rfl, by rw [h] at this; simpa using this⟩
  simp only [Nat.add_zero] at hst
  simp [Builtin.copy_, run_underlying hu, Builtin.lenOf, Builtin.firstCells, sizeOf, typeInfo, hq, strB_size, hm, ht, hst]
  unfold spl
  rw [List.append_assoc]
theorem wp_copy_str {w : World} {o : Oper} {a : Act} {K : Act → World → Prop} {Q : Exit → Act → World → Prop} (d s : Operand) (sT : TypeId)
    (ho : o.op = .call { callee := .builtin .copy, args := #[d, s], argTypes := #[106, sT] })
    (g off n m : Nat) (hd : a.eval d = .slice (some ⟨g, off, none⟩) n m) (q : List (BitVec 8)) (hs : a.eval s = .string (strB q)) (t : TypeId) (cur : Array Value) (hg : Row w g t cur) (hfit : off + min q.length n ≤ cur.size)
    (h : ∀ w', Row w' g t (spl cur.toList off (bytesV (q.take n))).toArray → w.grownBy w' (some g) → K (a.put o.dst (goInt ((min q.length n : Nat) : Int))) w') : o.wp Tryd.prog a w K Q := by
  have hrun := run_copy_str w 106 sT o.type g off n m q cur t Tryd.underlying106 hg hfit
  have := h _ (hg.setRow _) (grown_setRow w g (spl cur.toList off (bytesV (q.take n))).toArray)
  unfold Oper.wp
  simp [execOp, ho, resolve, invoke, builtin, hd, hs, hrun, Result.andThen]
  exact this
/- a slice of texts -/
def Strs (w : World) (v : Value) (l : List (List (BitVec 8))) : Prop :=
  ∃ A c, v = .slice A l.length c ∧ l.length ≤ c ∧ (A = none → c = 0) ∧ (∀ q ∈ l, q.length ≤ maxLen) ∧ (l ≠ [] → ∃ b o, A = some ⟨b, o, none⟩ ∧ b < w.heap.size ∧ ∀ k q, l[k]? = some q → w.cell? ⟨b, o + k, none⟩ = some (.string (strB q)))
theorem Strs.below {w w' : World} {B : Nat} {v : Value} {l : List (List (BitVec 8))} (h : Strs w v l) (hb : Below B w w') (hB : w.heap.size ≤ B) : Strs w' v l := by
  obtain ⟨A, c, h1, h2, hn, hm, h3⟩ := h
  refine ⟨A, c, h1, h2, hn, hm, fun hne => ?_⟩
  obtain ⟨b, o, h4, h5, h6⟩ := h3 hne
  exact ⟨b, o, h4, Nat.lt_of_lt_of_le h5 hb.size, fun k q hx => (hb.cell (p := ⟨b, o + k, none⟩) (Nat.lt_of_lt_of_le h5 hB)).trans (h6 k q hx)⟩
theorem strs_at {w : World} {A : Option Addr} {n c : Nat} {l : List (List (BitVec 8))} (h : Strs w (.slice A n c) l) {k : Nat} {q : List (BitVec 8)} (hx : l[k]? = some q) :
    ∃ b o, A = some ⟨b, o, none⟩ ∧ b < w.heap.size ∧ w.cell? ⟨b, o + k, none⟩ = some (.string (strB q)) := by
  obtain ⟨A', c', e1, _, _, _, h4⟩ := h
  injection e1 with e1 _ _
  subst e1
  obtain ⟨b, o, e2, h5, h6⟩ := h4 (by intro e; rw [e] at hx; simp at hx)
  exact ⟨b, o, e2, h5, h6 k _ hx⟩
theorem strs1 (w : World) (q : List (BitVec 8)) (hm : q.length ≤ maxLen) (t : TypeId) : Strs (w.alloc (.cells #[.string (strB q)] t)) (.slice (some ⟨w.heap.size, 0, none⟩) 1 1) [q] := by
  have r := Row.fresh w t #[.string (strB q)]
  refine ⟨_, 1, rfl, by simp, (fun h => by cases h), by simpa using hm, fun _ => ⟨w.heap.size, 0, rfl, r.lt, fun k p hp => ?_⟩⟩
  match k, hp with
  | 0, hp => obtain rfl : q = p := by simpa using hp
             exact r.get rfl
end Go.Proofs.YtnmaplgodimohaaDoor

/- The program's names: allLetters, Good, Pad. -/
set_option maxRecDepth 4000
namespace Go.Proofs.YtnmaplgodimohaaDoor
open Go Go.RowKit
theorem all_of {q : List (BitVec 8)} (h : ∀ j < q.length, letter (q.getD j 0#8) = true) : q.all letter = true := by
  rw [List.all_eq_true]
  intro x hx
  obtain ⟨j, hj, rfl⟩ := List.getElem_of_mem hx
  have := h j hj
  rwa [List.getD_eq_getElem?_getD, List.getElem?_eq_getElem hj] at this
theorem all_no {q : List (BitVec 8)} {j : Nat} (hj : j < q.length) (h : letter (q.getD j 0#8) = false) : q.all letter = false := by
  rw [List.all_eq_false]
  rw [List.getD_eq_getElem?_getD, List.getElem?_eq_getElem hj] at h
  exact ⟨q[j], List.getElem_mem hj, by rw [show letter q[j] = false from h]; decide⟩
set_option maxHeartbeats 800000 in
theorem letters_any (q : List (BitVec 8)) (w : World) (hm : q.length ≤ maxLen) :
    Calls Tryd.prog 54 #[.string (strB q)] w fun e w' => e = .returned (.bool (q.all letter)) ∧ Below w.heap.size w w' := by
  obtain ⟨cap, W, hcv, hb, hlt, hcell⟩ := conv_str w q 9 Tryd.underlying9
  obtain ⟨n, hn⟩ : ∃ n, q.length = n := ⟨_, rfl⟩
  have HN := Lib.hid hn
  rw [hn] at hcv hcell hm
  unfold maxLen at hm
  have HB := Lib.hid hb
  have HC := Lib.hid hcell
  obtain ⟨G, hG⟩ : ∃ G, q.all letter = G := ⟨_, rfl⟩
  have HY : Hid ((∀ j < n, letter (q.getD j 0#8) = true) → G = true) := Lib.hid fun h => by rw [← hG]; exact all_of (by rw [hn]; exact h)
  have HNO : Hid (∀ j < n, letter (q.getD j 0#8) = false → G = false) := Lib.hid fun j hj h => by rw [← hG]; exact all_no (by rw [hn]; exact hj) h
  rw [hG]
  clear hb hcell hn hG hlt
  go_enter Tryd.func54, Tryd.ntmps54
  go_wp2_with fail
  clear hcv
  go_loopw [8] (fun i wr => ∃ k : Nat, k ≤ n ∧ i = .int .i64 k ∧ (∀ j < k, letter (q.getD j 0#8) = true) ∧ wr = W) (fun i _ => n - (intOf i).toNat)
  case atStart => exact ⟨0, by omega, rfl, fun j hj => by omega, rfl⟩
  case round =>
    obtain ⟨k, hk, rfl, hok, rfl⟩ := hrel
    have HOK := Lib.hid hok
    clear hok
    by_cases hlt : k < n
    · have hc := HC.out k hlt
      have hk1 : decide ((k : Int) < (n : Int)) = true := decide_eq_true (by omega)
      have hk2 : (k : Int) < (n : Int) := by omega
      have hk3 : (0 : Int) ≤ (k : Int) := by omega
      obtain ⟨x, hx⟩ : ∃ x, q.getD k 0#8 = x := ⟨_, rfl⟩
      have HX := Lib.hid hx
      rw [hx] at hc
      clear hx
      by_cases h97 : bd x < 97
      · have hd1 : decide (bd x < 97) = true := decide_eq_true h97
        have hG : G = false := HNO.out k hlt (by rw [HX.out]; unfold letter; rw [decide_eq_false (by omega)]; rfl)
        go_wp2_with fail
        go_ret
        first | exact ⟨rfl, HB.out⟩ | (rw [hG]; exact ⟨rfl, HB.out⟩)
      have hd1 : decide (bd x < 97) = false := decide_eq_false h97
      by_cases h122 : 122 < bd x
      · have hd2 : decide (122 < bd x) = true := decide_eq_true h122
        have hG : G = false := HNO.out k hlt (by rw [HX.out]; unfold letter; rw [decide_eq_false (show ¬ bd x ≤ 122 by omega), Bool.and_false])
        go_wp2_with fail
        go_ret
        first | exact ⟨rfl, HB.out⟩ | (rw [hG]; exact ⟨rfl, HB.out⟩)
      have hd2 : decide (122 < bd x) = false := decide_eq_false h122
      have hw : IntKind.i64.wrap ((k : Int) + 1) = ((k + 1 : Nat) : Int) := by rw [i64_id _ (by omega) (by omega)]; omega
      go_wp2_with fail
      refine ⟨⟨k + 1, by omega, by go_num, fun j hj => ?_, trivial⟩, by simp [intOf]; omega⟩
      rcases Nat.lt_succ_iff_lt_or_eq.1 hj with h | h
      · exact HOK.out j h
      · subst h; rw [HX.out]; unfold letter; rw [decide_eq_true (by omega), decide_eq_true (by omega)]; rfl
    · have hk1 : decide ((k : Int) < (n : Int)) = false := decide_eq_false (by omega)
      have hG : G = true := HY.out fun j hj => HOK.out j (by omega)
      go_wp2_with fail
      go_ret
      first | exact ⟨rfl, HB.out⟩ | (rw [hG]; exact ⟨rfl, HB.out⟩)
end Go.Proofs.YtnmaplgodimohaaDoor

/- The program's names: Good, Pad, Cut; strings.TrimRight of one sign. -/
set_option maxRecDepth 4000
namespace Go.Proofs.YtnmaplgodimohaaDoor
open Go Go.RowKit
attribute [local go_sem] strB_size
theorem good_all {l : List (List (BitVec 8))} (h : ∀ j < l.length, goodN (l.getD j []) = true) : goodNs l = true := by
  unfold goodNs
  rw [List.all_eq_true]
  intro x hx
  obtain ⟨j, hj, rfl⟩ := List.getElem_of_mem hx
  have := h j hj
  rwa [List.getD_eq_getElem?_getD, List.getElem?_eq_getElem hj] at this
theorem good_no {l : List (List (BitVec 8))} {j : Nat} (hj : j < l.length) (h : goodN (l.getD j []) = false) : goodNs l = false := by
  unfold goodNs
  rw [List.all_eq_false]
  rw [List.getD_eq_getElem?_getD, List.getElem?_eq_getElem hj] at h
  exact ⟨l[j], List.getElem_mem hj, by rw [show goodN l[j] = false from h]; decide⟩
set_option maxHeartbeats 800000 in
theorem good_any (l : List (List (BitVec 8))) (v : Value) (w : World) (hv : Strs w v l) (hl : l.length ≤ maxLen) :
    Calls Tryd.prog 45 #[v] w fun e w' => e = .returned (.bool (goodNs l)) ∧ Below w.heap.size w w' := by
  obtain ⟨A, c, rfl⟩ : ∃ A c, v = .slice A l.length c := by obtain ⟨A, c, h, _⟩ := hv; exact ⟨A, c, h⟩
  obtain ⟨n, hn⟩ : ∃ n, l.length = n := ⟨_, rfl⟩
  have HN := Lib.hid hn
  have HM : Hid (∀ q ∈ l, q.length ≤ maxLen) := Lib.hid (by obtain ⟨_, _, _, _, _, hm, _⟩ := hv; exact hm)
  rw [hn] at hv hl ⊢
  have HV := Lib.hid hv
  unfold maxLen at hl
  obtain ⟨G, hG⟩ : ∃ G, goodNs l = G := ⟨_, rfl⟩
  have HY : Hid ((∀ j < n, goodN (l.getD j []) = true) → G = true) := Lib.hid fun h => by rw [← hG]; exact good_all (by rw [hn]; exact h)
  have HNO : Hid (∀ j < n, goodN (l.getD j []) = false → G = false) := Lib.hid fun j hj h => by rw [← hG]; exact good_no (by rw [hn]; exact hj) h
  rw [hG]
  clear hn hG hv
  have HB := Lib.hid (Below.refl w.heap.size w)
  go_enter Tryd.func45, Tryd.ntmps45
  go_wp2_with fail
  go_loopw [7] (fun i wr => ∃ k : Nat, k ≤ n ∧ i = .int .i64 k ∧ (∀ j < k, goodN (l.getD j []) = true) ∧ Below w.heap.size w wr) (fun i _ => n - (intOf i).toNat)
  case atStart => exact ⟨0, by omega, rfl, fun j hj => by omega, HB.out⟩
  case round =>
    clear HB
    obtain ⟨k, hk, rfl, hok, hb⟩ := hrel
    have HB := Lib.hid hb
    have HOK := Lib.hid hok
    clear hok hb
    by_cases hlt : k < n
    · obtain ⟨q, hx⟩ : ∃ x, l[k]? = some x := ⟨_, List.getElem?_eq_getElem (by rw [HN.out]; exact hlt)⟩
      have HQD : Hid (l.getD k [] = q) := Lib.hid (by rw [List.getD_eq_getElem?_getD, hx]; rfl)
      have HQM : Hid (q.length ≤ maxLen) := Lib.hid (HM.out q (List.mem_of_getElem? hx))
      obtain ⟨b, o, rfl, hbw, hcell⟩ := strs_at (HV.out.below HB.out (Nat.le_refl _)) hx
      obtain ⟨m, hm⟩ : ∃ m, q.length = m := ⟨_, rfl⟩
      have hk0 : (0 : Int) ≤ (k : Int) := by omega
      have hk1 : (k : Int) < (n : Int) := by omega
      have hkd : decide ((k : Int) < (n : Int)) = true := decide_eq_true hk1
      have HQ4 : Hid (goodN q = (decide (1 ≤ m) && decide (m ≤ 4) && q.all letter)) := Lib.hid (by rw [← hm]; rfl)
      have C := Lib.hid (letters_any q wr HQM.out)
      clear hx hbw
      by_cases h1 : m < 1
      · have hd1 : decide ((m : Int) < 1) = true := decide_eq_true (by omega)
        have hG : G = false := HNO.out k hlt (by rw [HQD.out, HQ4.out, decide_eq_false (by omega)]; rfl)
        go_wp2_with fail
        go_ret
        first | exact ⟨rfl, HB.out⟩ | (rw [hG]; exact ⟨rfl, HB.out⟩)
      have hd1 : decide ((m : Int) < 1) = false := decide_eq_false (by omega)
      by_cases h4 : 4 < m
      · have hd2 : decide ((4 : Int) < (m : Int)) = true := decide_eq_true (by omega)
        have hG : G = false := HNO.out k hlt (by rw [HQD.out, HQ4.out, decide_eq_false (show ¬ m ≤ 4 by omega), Bool.and_false]; rfl)
        go_wp2_with fail
        go_ret
        first | exact ⟨rfl, HB.out⟩ | (rw [hG]; exact ⟨rfl, HB.out⟩)
      have hd2 : decide ((4 : Int) < (m : Int)) = false := decide_eq_false (by omega)
      have HQ5 : Hid (goodN q = q.all letter) := Lib.hid (by rw [HQ4.out, decide_eq_true (by omega), decide_eq_true (by omega)]; rfl)
      go_wp2_with fail
      refine C.out.mono ?_
      rintro e w1 ⟨rfl, hb1⟩
      have HB1 := Lib.hid (HB.out.trans (hb1.mono HB.out.size))
      clear hb1 HB
      cases hal : q.all letter with
      | false =>
        have hG : G = false := HNO.out k hlt (by rw [HQD.out, HQ5.out, hal])
        clear hal
        go_wp2_with fail
        go_ret
        first | exact ⟨rfl, HB1.out⟩ | (rw [hG]; exact ⟨rfl, HB1.out⟩)
      | true =>
        have HAL := Lib.hid hal
        clear hal
        have hw : IntKind.i64.wrap ((k : Int) + 1) = ((k + 1 : Nat) : Int) := by rw [i64_id _ (by omega) (by omega)]; omega
        go_wp2_with fail
        refine ⟨⟨k + 1, by omega, by go_num, fun j hj => ?_, HB1.out⟩, by simp [intOf]; omega⟩
        rcases Nat.lt_succ_iff_lt_or_eq.1 hj with h | h
        · exact HOK.out j h
        · subst h; rw [HQD.out, HQ5.out]; exact HAL.out
    · have hkd : decide ((k : Int) < (n : Int)) = false := decide_eq_false (by omega)
      have hG : G = true := HY.out fun j hj => HOK.out j (by omega)
      go_wp2_with fail
      go_ret
      first | exact ⟨rfl, HB.out⟩ | (rw [hG]; exact ⟨rfl, HB.out⟩)
theorem size_b4 : (Tryd.prog.info? 107).map (·.size) = some 4 := by kernel_rfl
theorem pad_spl (q : List (BitVec 8)) : (spl (bs (zer 4)).toList 0 (bytesV (q.take 4))).toArray = bs (padN q) := by
  rw [spl_bs]
  congr 1
  unfold spl padN
  rw [List.take_zero, List.nil_append, Nat.zero_add, List.take_append]
  unfold zer
  rw [List.drop_replicate, List.take_replicate, List.length_take]
  congr 2
  omega
set_option maxHeartbeats 800000 in
theorem pad_any (q : List (BitVec 8)) (w : World) :
    Calls Tryd.prog 61 #[.string (strB q)] w fun e w' => e = .returned (.agg (bs (padN q))) ∧ Below w.heap.size w w' := by
  have HPE := Lib.hid (pad_spl q)
  have HS := St.nil w noF
  go_enter Tryd.func61, Tryd.ntmps61
  go_upto_region 2 with (first | ((with_reducible refine wpList_plain ?_ ?_); exact rfl; intro KK hKK; refine wp_st_alloc HS 107 (bs (zer 4)) rfl (.agg (bs (zer 4))) (by kernel_rfl) (rfl) (fun g2 W1 HSx => hKK _ _ ?_); clear hKK KK HS; have HS : St w noF [⟨g2, 107, bs (zer 4)⟩] W1 := HSx; clear HSx) | ((with_reducible refine wpList_plain ?_ ?_); exact rfl; intro KK hKK; refine wp_st_alloc HS 107 (bs (zer 4)) rfl (.agg (bs (zer 4))) (by kernel_rfl) (rfl) (fun g3 W2 HSx => hKK _ _ ?_); clear hKK KK HS; have HS : St w noF [⟨g2, 107, bs (zer 4)⟩, ⟨g3, 107, bs (zer 4)⟩] W2 := HSx; clear HSx))
  go_wp2_with (first | ((with_reducible refine wpList_plain ?_ ?_); exact rfl; intro KK hKK; refine wp_copy_str (.tmp 4) (.tmp 5) 9 rfl g3 0 4 4 rfl q rfl 107 _ (HS.row 1 rfl) (by rw [size_bs, length_zer]; omega) (fun W3 hr hg => hKK _ _ ?_); clear hKK KK; have HSx : St w noF [⟨g2, 107, bs (zer 4)⟩, ⟨g3, 107, bs (padN q)⟩] W3 := HS.upd 1 rfl (HPE.out ▸ hr) hg; clear hr hg HS; have HS := HSx; clear HSx) | ((with_reducible refine wpList_plain ?_ ?_); exact rfl; intro KK hKK; refine wp_st_load HS 1 0 107 (.tmp 3) rfl rfl rfl (bs (padN q)) (slab_whole _) _ Tryd.underlying107 rfl (by rw [size_bs, length_padN]; exact size_b4) (hKK _ _ ?_); clear hKK KK) | ((with_reducible refine wpList_plain ?_ ?_); exact rfl; intro KK hKK; refine wp_st_store HS 0 0 107 (.tmp 2) (.tmp 7) rfl rfl rfl (.agg (bs (padN q))) rfl (by rw [show Value.cells (.agg (bs (padN q))) = bs (padN q) from rfl, size_bs, length_padN]; exact size_b4) (by rw [show Value.cells (.agg (bs (padN q))) = bs (padN q) from rfl, size_bs, length_padN, size_bs, length_zer]; decide) (by exact one_bs _) (bs (padN q)) (spl_agg _ _ _ rfl (by rw [size_bs, size_bs, length_padN, length_zer])) (fun W4 HSx => hKK _ _ ?_); clear hKK KK HS; have HS : St w noF [⟨g2, 107, bs (padN q)⟩, ⟨g3, 107, bs (padN q)⟩] W4 := HSx; clear HSx))
  exact bodyPost_ret (v := .agg (bs (padN q))) (results_cell_row Tryd.results61 _ _ g2 107 (bs (padN q)) (0, 0) _ rfl (HS.row 0 rfl) Tryd.underlying107 rfl (by rw [size_bs, length_padN]; exact size_b4)) rfl ⟨rfl, HS.below⟩
def strLen : Value → Nat | .string s => s.size | _ => 0
set_option maxHeartbeats 800000 in
theorem trimb_any (q : List (BitVec 8)) (w : World) (hm : q.length ≤ maxLen) :
    Calls Tryd.prog 63 #[.string (strB q), .int .u8 0] w fun e w' => e = .returned (.string (strB (trimN q))) ∧ w = w' := by
  have HM := Lib.hid hm
  clear hm
  obtain ⟨t, ht⟩ : ∃ t, trimN q = t := ⟨_, rfl⟩
  have HT := Lib.hid ht
  rw [ht]
  clear ht
  go_enter Tryd.func63, Tryd.ntmps63
  go_wp2_with fail
  go_loopw [0] (fun s wr => ∃ p : List (BitVec 8), s = .string (strB p) ∧ trimN p = t ∧ p.length ≤ maxLen ∧ wr = w) (fun s _ => strLen s)
  case atStart => exact ⟨q, rfl, HT.out, HM.out, rfl⟩
  case round =>
    clear HM HT
    obtain ⟨p, rfl, ht, hl, rfl⟩ := hrel
    have HT := Lib.hid ht
    have HL := Lib.hid hl
    clear ht hl
    rcases List.eq_nil_or_concat p with rfl | ⟨r, x, rfl⟩
    · have ht : t = [] := HT.out.symm.trans trim_nil
      subst ht
      clear HT
      have h0 : (strB []).size = 0 := by rw [strB_size]; rfl
      have hd0 : decide ((0 : Int) < 0) = false := rfl
      go_wp2_with fail
      go_ret
      exact ⟨rfl, rfl⟩
    · rw [List.concat_eq_append] at HT HL ⊢
      obtain ⟨p, hp⟩ : ∃ p, r ++ [x] = p := ⟨_, rfl⟩
      obtain ⟨m, hm⟩ : ∃ m, r.length = m := ⟨_, rfl⟩
      have hpl : p.length = m + 1 := by rw [← hp, ← hm, List.length_append]; rfl
      obtain ⟨N, hN⟩ : ∃ N, m + 1 = N := ⟨_, rfl⟩
      rw [hN] at hpl
      have hix : ∀ w, (Instr.index 9 (.string (strB p)) (.int .i64 (m : Int))).run Tryd.prog w = .ok (.int .u8 (bd x)) w := fun w => by
        have := run_ix w 9 p .i64 m Tryd.underlying9 (by omega)
        rw [this, ← hp, List.getD_eq_getElem?_getD, List.getElem?_append_right (by omega), hm, Nat.sub_self]; rfl
      have hex : (strB p).extract 0 m = strB r := by
        rw [str_extract, List.drop_zero, Nat.sub_zero, ← hp, ← hm, List.take_left]
      have HMX : Hid (N ≤ 9223372036854775807) := Lib.hid (by have := HL.out; rw [hp, hpl] at this; unfold maxLen at this; omega)
      have hw : IntKind.i64.wrap ((N : Int) - 1) = (m : Int) := by have := HMX.out; rw [i64_id _ (by omega) (by omega)]; omega
      have hd0 : decide ((0 : Int) < (N : Int)) = true := decide_eq_true (by omega)
      have hN0 : 0 < N := by omega
      have h0m : (0 : Int) ≤ (m : Int) := by omega
      have hmN : (m : Int) ≤ (N : Int) := by omega
      have HNM : Hid (m + 1 = N) := Lib.hid hN
      have HRL : Hid (r.length = m) := Lib.hid hm
      have HTX : Hid (trimN (r ++ [x]) = t) := HT
      have HLX : Hid (r.length ≤ maxLen) := Lib.hid (by have := HL.out; rw [List.length_append] at this; omega)
      rw [hp]
      have HP := Lib.hid hp
      clear hN hm hp HL HT
      by_cases hx : x = 0#8
      · have hb1 : (bd x == 0) = true := by rw [hx]; rfl
        have hb2 : decide (bd x = 0) = true := by rw [hx]; rfl
        have HTR : Hid (trimN r = t) := Lib.hid (by rw [← HTX.out, hx, trim_zero])
        clear hx
        go_wp2_with fail
        refine ⟨⟨r, by first | rfl | simp [hex], HTR.out, HLX.out, trivial⟩, ?_⟩
        simp [strLen, strB_size, HRL.out, hpl]; have := HNM.out; omega
      · have hb1 : (bd x == 0) = false := by
          refine beq_eq_false_iff_ne.2 fun e => hx (bd_inj (by rw [e]; rfl))
        have hb2 : decide (bd x = 0) = false := decide_eq_false fun e => hx (bd_inj (by rw [e]; rfl))
        have ht : t = p := by rw [← HTX.out, trim_more r x hx]; exact HP.out
        clear hx
        go_wp2_with fail
        go_ret
        first | exact ⟨rfl, rfl⟩ | (rw [ht]; exact ⟨rfl, rfl⟩)
theorem lit_beq : ((⟨#[0]⟩ : ByteArray).toList == (⟨#[]⟩ : ByteArray).toList) = false := by rw [ByteArray.toList_eq, ByteArray.toList_eq]; rfl
set_option maxHeartbeats 800000 in
theorem trim_any (q : List (BitVec 8)) (w : World) (hm : q.length ≤ maxLen) :
    Calls Tryd.prog 62 #[.string (strB q), .string ⟨#[0]⟩] w fun e w' => e = .returned (.string (strB (trimN q))) ∧ w = w' := by
  have C := Lib.hid (trimb_any q w hm)
  clear hm
  have h0 := str_emp q
  have hn0 := str_nil q
  have hl := lit_beq
  have hix : ∀ w, (Instr.index 9 (.string ⟨#[0]⟩) (.int .i64 0)).run Tryd.prog w = .ok (.int .u8 0) w := fun w => by
    rw [run_index_string w 9 ⟨#[0]⟩ .i64 0 Tryd.underlying9]; rfl
  have h128 : decide ((0 : Int) < 128) = true := rfl
  have h11 : ((1 : Int) == 1) = true := rfl
  have hs1 : (⟨#[0]⟩ : ByteArray).size = 1 := rfl
  by_cases hq : q = []
  · have hn1 : (strB q).toList = [] := hn0.2 hq
    rw [decide_eq_true hq] at h0
    have ht : trimN q = q := by rw [hq]; rfl
    rw [ht]
    clear C hn0 hq ht
    go_enter Tryd.func62, Tryd.ntmps62
    go_wp2_with fail
    go_ret
    exact ⟨rfl, rfl⟩
  · have hn1 : ¬ (strB q).toList = [] := fun h => hq (hn0.1 h)
    rw [decide_eq_false hq] at h0
    clear hq hn0
    go_enter Tryd.func62, Tryd.ntmps62
    go_wp2_with fail
    refine C.out.mono ?_
    rintro e w1 ⟨rfl, rfl⟩
    go_wp2_with fail
    go_ret
    exact ⟨rfl, rfl⟩
set_option maxHeartbeats 800000 in
theorem cut_any (b : List (BitVec 8)) (w : World) (hl : b.length = 4) :
    Calls Tryd.prog 60 #[.agg (bs b)] w fun e w' => e = .returned (.tuple #[.string (strB (cutN b).1), .bool (cutN b).2]) ∧ Below w.heap.size w w' := by
  have HL := Lib.hid hl
  have H4 : Hid ((bs b).size = 4) := Lib.hid (by rw [size_bs, hl])
  obtain ⟨t, ht⟩ : ∃ t, trimN b = t := ⟨_, rfl⟩
  have HC : Hid (cutN b = if (decide (t = []) || goodN t) then (t, true) else ([], false)) := Lib.hid (by unfold cutN okTrim; rw [ht])
  have HTM : Hid (t.length ≤ maxLen) := Lib.hid (by
    have h : t.length ≤ b.length := by rw [← ht]; unfold trimN; rw [List.length_reverse]; exact Nat.le_trans (List.dropWhile_sublist _).length_le (by rw [List.length_reverse]; exact Nat.le_refl _)
    unfold maxLen; omega)
  have HT := Lib.hid ht
  clear hl ht
  have HS := St.nil w noF
  go_enter Tryd.func60, Tryd.ntmps60
  go_upto_region 1 with (first | ((with_reducible refine wpList_plain ?_ ?_); exact rfl; intro KK hKK; refine wp_st_box HS 107 (.tmp 0) rfl _ rfl (bs b) (rfl) (fun g1 W1 HSx => hKK _ _ ?_); clear hKK KK HS; have HS : St w noF [⟨g1, 107, bs b⟩] W1 := HSx; clear HSx))
  have hsl : Slice W1 (.slice (some ⟨g1, 0, none⟩) 4 4) b := by have := row_slice (c := 4) (HS.row 0 rfl) (by rw [HL.out]; exact Nat.le_refl _); rwa [HL.out] at this
  have hcv := conv_bytes hsl 9 Tryd.underlying9
  have C := Lib.hid (trim_any b W1 (by rw [HL.out]; unfold maxLen; omega))
  clear hsl
  go_wp2_with fail
  refine C.out.mono ?_
  rintro e w1 ⟨rfl, rfl⟩
  rw [HT.out]
  clear hcv C HT
  have h0 := str_emp t
  have hn0 := str_nil t
  have HB := Lib.hid HS.below
  clear HS
  by_cases hq : t = []
  · have hn1 : (strB t).toList = [] := hn0.2 hq
    rw [decide_eq_true hq] at h0
    have HC1 : Hid (cutN b = (t, true)) := Lib.hid (by rw [HC.out, decide_eq_true hq]; rfl)
    clear hq hn0
    go_wp2_with fail
    go_ret2
    exact ⟨by rw [HC1.out] <;> rfl, HB.out⟩
  · have hn1 : ¬ (strB t).toList = [] := fun h => hq (hn0.1 h)
    rw [decide_eq_false hq] at h0
    clear hn0
    have HQ := Lib.hid (decide_eq_false hq)
    clear hq
    have C := Lib.hid (good_any [t] _ _ (strs1 W1 t HTM.out 9) (by unfold maxLen; simp))
    have HG1 : Hid (goodNs [t] = goodN t) := Lib.hid (by unfold goodNs; simp)
    rw [HG1.out] at C
    have HB1 := Lib.hid (HB.out.alloc HB.out.size (.cells #[.string (strB t)] 9))
    go_wp2_with fail
    refine C.out.mono ?_
    rintro e w1 ⟨rfl, hb1⟩
    have HB2 := Lib.hid (HB1.out.trans (hb1.mono HB1.out.size))
    clear hb1 C HG1
    cases hg : goodN t with
    | true =>
      have HC1 : Hid (cutN b = (t, true)) := Lib.hid (by rw [HC.out, HQ.out, hg]; rfl)
      clear hg
      go_wp2_with fail
      go_ret2
      exact ⟨by rw [HC1.out] <;> rfl, HB2.out⟩
    | false =>
      have HC1 : Hid (cutN b = ([], false)) := Lib.hid (by rw [HC.out, HQ.out, hg]; rfl)
      clear hg
      go_wp2_with fail
      go_ret2
      exact ⟨by rw [HC1.out, ← str_lit0] <;> rfl, HB2.out⟩
end Go.Proofs.YtnmaplgodimohaaDoor

/- The document's names: Good, Pad, Cut. -/
set_option maxRecDepth 4000
namespace Go.Proofs.YtnmaplgodimohaaDoor
open Go Go.RowKit
attribute [local go_sem] strB_size
set_option maxHeartbeats 1600000 in
theorem refgoodn_any (l : List (List (BitVec 8))) (v : Value) (w : World) (hv : Strs w v l) (hl : l.length ≤ maxLen) :
    Calls Tryd.prog 40 #[v] w fun e w' => e = .returned (.bool (goodNs l)) ∧ w = w' := by
  obtain ⟨A, c, rfl⟩ : ∃ A c, v = .slice A l.length c := by obtain ⟨A, c, h, _⟩ := hv; exact ⟨A, c, h⟩
  obtain ⟨n, hn⟩ : ∃ n, l.length = n := ⟨_, rfl⟩
  have HN := Lib.hid hn
  have HM : Hid (∀ q ∈ l, q.length ≤ maxLen) := Lib.hid (by obtain ⟨_, _, _, _, _, hm, _⟩ := hv; exact hm)
  rw [hn] at hv hl ⊢
  have HV := Lib.hid hv
  unfold maxLen at hl
  obtain ⟨G, hG⟩ : ∃ G, goodNs l = G := ⟨_, rfl⟩
  have HY : Hid ((∀ j < n, goodN (l.getD j []) = true) → G = true) := Lib.hid fun h => by rw [← hG]; exact good_all (by rw [hn]; exact h)
  have HNO : Hid (∀ j < n, goodN (l.getD j []) = false → G = false) := Lib.hid fun j hj h => by rw [← hG]; exact good_no (by rw [hn]; exact hj) h
  rw [hG]
  clear hn hG hv
  go_enter Tryd.func40, Tryd.ntmps40
  go_wp2_with fail
  go_loopw [3] (fun i wr => ∃ k : Nat, k ≤ n ∧ i = .int .i64 k ∧ (∀ j < k, goodN (l.getD j []) = true) ∧ wr = w) (fun i _ => n - (intOf i).toNat)
  case atStart => exact ⟨0, by omega, rfl, fun j hj => by omega, rfl⟩
  case round =>
    obtain ⟨k, hk, rfl, hok, rfl⟩ := hrel
    have HOK := Lib.hid hok
    clear hok
    by_cases hlt : k < n
    · obtain ⟨q, hx⟩ : ∃ x, l[k]? = some x := ⟨_, List.getElem?_eq_getElem (by rw [HN.out]; exact hlt)⟩
      have HQD : Hid (l.getD k [] = q) := Lib.hid (by rw [List.getD_eq_getElem?_getD, hx]; rfl)
      have HQM : Hid (q.length ≤ maxLen) := Lib.hid (HM.out q (List.mem_of_getElem? hx))
      obtain ⟨b, o, rfl, hbw, hcell⟩ := strs_at HV.out hx
      obtain ⟨m, hm⟩ : ∃ m, q.length = m := ⟨_, rfl⟩
      have hk0 : (0 : Int) ≤ (k : Int) := by omega
      have hk1 : (k : Int) < (n : Int) := by omega
      have hkd : decide ((k : Int) < (n : Int)) = true := decide_eq_true hk1
      have HQ4 : Hid (goodN q = (decide (1 ≤ m) && decide (m ≤ 4) && q.all letter)) := Lib.hid (by rw [← hm]; rfl)
      clear hx hbw
      by_cases h1 : m < 1
      · have hd1 : decide ((m : Int) < 1) = true := decide_eq_true (by omega)
        have hG : G = false := HNO.out k hlt (by rw [HQD.out, HQ4.out, decide_eq_false (by omega)]; rfl)
        go_wp2_with fail
        go_ret
        first | exact ⟨rfl, rfl⟩ | (rw [hG]; exact ⟨rfl, rfl⟩)
      have hd1 : decide ((m : Int) < 1) = false := decide_eq_false (by omega)
      by_cases h4 : 4 < m
      · have hd2 : decide ((4 : Int) < (m : Int)) = true := decide_eq_true (by omega)
        have hG : G = false := HNO.out k hlt (by rw [HQD.out, HQ4.out, decide_eq_false (show ¬ m ≤ 4 by omega), Bool.and_false]; rfl)
        go_wp2_with fail
        go_ret
        first | exact ⟨rfl, rfl⟩ | (rw [hG]; exact ⟨rfl, rfl⟩)
      have hd2 : decide ((4 : Int) < (m : Int)) = false := decide_eq_false (by omega)
      have HQ5 : Hid (goodN q = q.all letter) := Lib.hid (by rw [HQ4.out, decide_eq_true (by omega), decide_eq_true (by omega)]; rfl)
      have HML : Hid (q.length = m) := Lib.hid hm
      have HG0 : Hid (goodN q = false → G = false) := Lib.hid fun h => HNO.out k hlt (by rw [HQD.out, h])
      have HIX : Hid (∀ w (j : Nat), j < m → (Instr.index 9 (.string (strB q)) (.int .i64 (j : Int))).run Tryd.prog w = .ok (.int .u8 (bd (q.getD j 0#8))) w) := Lib.hid fun w j hj => run_ix w 9 q .i64 j Tryd.underlying9 (by rw [hm]; exact hj)
      have hw : IntKind.i64.wrap ((k : Int) + 1) = ((k + 1 : Nat) : Int) := by rw [i64_id _ (by omega) (by omega)]; omega
      go_wp2_with fail
      clear hd1 hd2
      go_loopw [4] (fun i ws => ∃ j : Nat, j ≤ m ∧ i = .int .i64 j ∧ (∀ s < j, letter (q.getD s 0#8) = true) ∧ ws = wr) (fun i _ => m - (intOf i).toNat)
      case atStart => exact ⟨0, by omega, rfl, fun j hj => by omega, rfl⟩
      case round =>
        obtain ⟨j, hj, rfl, hok, rfl⟩ := hrel
        have HOJ := Lib.hid hok
        clear hok
        by_cases hjm : j < m
        · have hix := fun w => HIX.out w j hjm
          have hj0 : decide ((j : Int) < (m : Int)) = true := decide_eq_true (by omega)
          have hj1 : (j : Int) < (m : Int) := by omega
          have hj2 : (0 : Int) ≤ (j : Int) := by omega
          obtain ⟨x, hx⟩ : ∃ x, q.getD j 0#8 = x := ⟨_, rfl⟩
          have HX := Lib.hid hx
          rw [hx] at hix
          clear hx
          by_cases h97 : bd x < 97
          · have hd1 : decide (bd x < 97) = true := decide_eq_true h97
            have hG : G = false := HG0.out (by rw [HQ5.out]; exact all_no (by rw [HML.out]; exact hjm) (by rw [HX.out]; unfold letter; rw [decide_eq_false (by omega)]; rfl))
            go_wp2_with fail
            go_ret
            first | exact ⟨rfl, rfl⟩ | (rw [hG]; exact ⟨rfl, rfl⟩)
          have hd1 : decide (bd x < 97) = false := decide_eq_false h97
          by_cases h122 : 122 < bd x
          · have hd2 : decide (122 < bd x) = true := decide_eq_true h122
            have hG : G = false := HG0.out (by rw [HQ5.out]; exact all_no (by rw [HML.out]; exact hjm) (by rw [HX.out]; unfold letter; rw [decide_eq_false (show ¬ bd x ≤ 122 by omega), Bool.and_false]))
            go_wp2_with fail
            go_ret
            first | exact ⟨rfl, rfl⟩ | (rw [hG]; exact ⟨rfl, rfl⟩)
          have hd2 : decide (122 < bd x) = false := decide_eq_false h122
          have hwj : IntKind.i64.wrap ((j : Int) + 1) = ((j + 1 : Nat) : Int) := by rw [i64_id _ (by omega) (by omega)]; omega
          go_wp2_with fail
          refine ⟨⟨j + 1, by omega, by go_num, fun s hs => ?_, trivial⟩, by simp [intOf]; omega⟩
          rcases Nat.lt_succ_iff_lt_or_eq.1 hs with h | h
          · exact HOJ.out s h
          · subst h; rw [HX.out]; unfold letter; rw [decide_eq_true (by omega), decide_eq_true (by omega)]; rfl
        · have hj0 : decide ((j : Int) < (m : Int)) = false := decide_eq_false (by omega)
          have HAL : Hid (q.all letter = true) := Lib.hid (all_of fun s hs => HOJ.out s (by rw [HML.out] at hs; omega))
          go_wp2_with fail
          refine ⟨⟨k + 1, by omega, by go_num, fun j hj => ?_, trivial⟩, by simp [intOf]; omega⟩
          rcases Nat.lt_succ_iff_lt_or_eq.1 hj with h | h
          · exact HOK.out j h
          · subst h; rw [HQD.out, HQ5.out]; exact HAL.out
    · have hkd : decide ((k : Int) < (n : Int)) = false := decide_eq_false (by omega)
      have hG : G = true := HY.out fun j hj => HOK.out j (by omega)
      go_wp2_with fail
      go_ret
      first | exact ⟨rfl, rfl⟩ | (rw [hG]; exact ⟨rfl, rfl⟩)
/- the first k bytes of a name laid -/
def padK (q : List (BitVec 8)) (k : Nat) : List (BitVec 8) := padN (q.take k)
theorem padK_zero (q : List (BitVec 8)) : padK q 0 = zer 4 := by unfold padK padN; rw [List.take_zero, List.nil_append, zer, List.take_replicate]; rfl
theorem padK_end (q : List (BitVec 8)) (k : Nat) (h : k = 4 ∨ q.length ≤ k) : padK q k = padN q := by
  rcases h with rfl | h
  · unfold padK padN
    rw [List.take_append, List.take_append, List.take_take, Nat.min_self, List.length_take]
    unfold zer
    rw [List.take_replicate, List.take_replicate]
    congr 2
    omega
  · unfold padK; rw [List.take_of_length_le h]
theorem padK_set (q : List (BitVec 8)) (k : Nat) (h : k < q.length) : (padK q k).set k (q.getD k 0#8) = padK q (k + 1) := by
  apply List.ext_getElem (by rw [List.length_set]; unfold padK; rw [length_padN, length_padN])
  intro i h1 h2
  have hi : i < 4 := by rw [List.length_set] at h1; unfold padK at h1; rw [length_padN] at h1; exact h1
  have g : ∀ k (hh : i < (padK q k).length), (padK q k)[i] = if i < k ∧ i < q.length then q.getD i 0#8 else 0#8 := fun k hh => by
    have e : padK q k = (q.take k ++ zer 4).take 4 := rfl
    rw [List.getElem_of_eq e, List.getElem_take]
    by_cases hc : i < k ∧ i < q.length
    · rw [if_pos hc, List.getElem_append_left (by rw [List.length_take]; omega), List.getElem_take, List.getD_eq_getElem?_getD, List.getElem?_eq_getElem hc.2]; rfl
    · rw [if_neg hc, List.getElem_append_right (by rw [List.length_take]; omega)]
      exact List.getElem_replicate ..
  rw [List.getElem_set, g _ (by simpa using h1), g]
  by_cases e : k = i
  · subst e; rw [if_pos rfl, if_pos ⟨by omega, h⟩]
  · rw [if_neg e]
    by_cases hc : i < k ∧ i < q.length
    · rw [if_pos hc, if_pos ⟨by omega, hc.2⟩]
    · rw [if_neg hc, if_neg (by omega)]
set_option maxHeartbeats 800000 in
theorem refpad_any (q : List (BitVec 8)) (w : World) (hm : q.length ≤ maxLen) :
    Calls Tryd.prog 52 #[.string (strB q)] w fun e w' => e = .returned (.agg (bs (padN q))) ∧ Below w.heap.size w w' := by
  obtain ⟨n, hn⟩ : ∃ n, q.length = n := ⟨_, rfl⟩
  have HN := Lib.hid hn
  have HMM := Lib.hid hm
  have HIX : Hid (∀ w (j : Nat), j < n → (Instr.index 9 (.string (strB q)) (.int .i64 (j : Int))).run Tryd.prog w = .ok (.int .u8 (bd (q.getD j 0#8))) w) := Lib.hid fun w j hj => run_ix w 9 q .i64 j Tryd.underlying9 (by rw [hn]; exact hj)
  have HS := St.nil w noF
  clear hm
  go_enter Tryd.func52, Tryd.ntmps52
  go_upto_region 3 with (first | ((with_reducible refine wpList_plain ?_ ?_); exact rfl; intro KK hKK; refine wp_st_alloc HS 107 (bs (zer 4)) rfl (.agg (bs (zer 4))) (by kernel_rfl) (rfl) (fun g2 W1 HSx => hKK _ _ ?_); clear hKK KK HS; have HS : St w noF [⟨g2, 107, bs (zer 4)⟩] W1 := HSx; clear HSx) | ((with_reducible refine wpList_plain ?_ ?_); exact rfl; intro KK hKK; refine wp_st_alloc HS 107 (bs (zer 4)) rfl (.agg (bs (zer 4))) (by kernel_rfl) (rfl) (fun g3 W2 HSx => hKK _ _ ?_); clear hKK KK HS; have HS : St w noF [⟨g2, 107, bs (zer 4)⟩, ⟨g3, 107, bs (zer 4)⟩] W2 := HSx; clear HSx))
  go_loopw [4] (fun i wr => ∃ k : Nat, k ≤ 4 ∧ k ≤ n ∧ i = .int .i64 k ∧ St w noF [⟨g2, 107, bs (zer 4)⟩, ⟨g3, 107, bs (padK q k)⟩] wr) (fun i _ => 4 - (intOf i).toNat)
  case atStart => exact ⟨0, by omega, by omega, rfl, by rw [padK_zero]; exact HS⟩
  case round =>
    clear HS
    obtain ⟨k, hk4, hkn, rfl, HS⟩ := hrel
    by_cases h4 : k < 4
    · have hd4 : decide ((k : Int) < 4) = true := decide_eq_true (by omega)
      by_cases hlt : k < n
      · have hdn : decide ((k : Int) < (n : Int)) = true := decide_eq_true (by omega)
        have hix := fun w => HIX.out w k hlt
        have hk0 : (0 : Int) ≤ (k : Int) := by omega
        have hk1 : (k : Int) < 4 := by omega
        have hw : IntKind.i64.wrap ((k : Int) + 1) = ((k + 1 : Nat) : Int) := by rw [i64_id _ (by omega) (by omega)]; omega
        have HPS := Lib.hid (padK_set q k (by rw [HN.out]; exact hlt))
        obtain ⟨x, hx⟩ : ∃ x, q.getD k 0#8 = x := ⟨_, rfl⟩
        rw [hx] at hix HPS
        clear hx
        have HFIT : Hid (k < (bs (padK q k)).size) := Lib.hid (by rw [size_bs]; unfold padK; rw [length_padN]; exact h4)
        go_wp2_with (first | ((with_reducible refine wpList_plain ?_ ?_); exact rfl; intro KK hKK; refine wp_st_put HS 1 k 5 (.tmp 19) (.tmp 18) rfl rfl rfl (.int .u8 (bd x)) rfl (by kernel_rfl) rfl rfl (HFIT.out) (bs (padK q (k + 1))) ((set_bs _ _ _).trans (congrArg bs HPS.out)) (fun W3 HSx => hKK _ _ ?_); clear hKK KK HS; have HS : St w noF [⟨g2, 107, bs (zer 4)⟩, ⟨g3, 107, bs (padK q (k + 1))⟩] W3 := HSx; clear HSx))
        exact ⟨⟨k + 1, by omega, by omega, by go_num, HS⟩, by simp [intOf]; omega⟩
      · have hdn : decide ((k : Int) < (n : Int)) = false := decide_eq_false (by omega)
        have HE := Lib.hid (padK_end q k (.inr (by rw [HN.out]; omega)))
        rw [HE.out] at HS
        go_wp2_with (first | ((with_reducible refine wpList_plain ?_ ?_); exact rfl; intro KK hKK; refine wp_st_load HS 1 0 107 (.tmp 3) rfl rfl rfl (bs (padN q)) (slab_whole _) _ Tryd.underlying107 rfl (by rw [size_bs, length_padN]; exact size_b4) (hKK _ _ ?_); clear hKK KK) | ((with_reducible refine wpList_plain ?_ ?_); exact rfl; intro KK hKK; refine wp_st_store HS 0 0 107 (.tmp 2) (.tmp 20) rfl rfl rfl (.agg (bs (padN q))) rfl (by rw [show Value.cells (.agg (bs (padN q))) = bs (padN q) from rfl, size_bs, length_padN]; exact size_b4) (by rw [show Value.cells (.agg (bs (padN q))) = bs (padN q) from rfl, size_bs, length_padN, size_bs, length_zer]; decide) (by exact one_bs _) (bs (padN q)) (spl_agg _ _ _ rfl (by rw [size_bs, size_bs, length_padN, length_zer])) (fun W4 HSx => hKK _ _ ?_); clear hKK KK HS; have HS : St w noF [⟨g2, 107, bs (padN q)⟩, ⟨g3, 107, bs (padN q)⟩] W4 := HSx; clear HSx))
        exact bodyPost_ret (v := .agg (bs (padN q))) (results_cell_row Tryd.results52 _ _ g2 107 (bs (padN q)) (0, 0) _ rfl (HS.row 0 rfl) Tryd.underlying107 rfl (by rw [size_bs, length_padN]; exact size_b4)) rfl ⟨rfl, HS.below⟩
    · have hd4 : decide ((k : Int) < 4) = false := decide_eq_false (by omega)
      have HE := Lib.hid (padK_end q k (.inl (by omega)))
      rw [HE.out] at HS
      go_wp2_with (first | ((with_reducible refine wpList_plain ?_ ?_); exact rfl; intro KK hKK; refine wp_st_load HS 1 0 107 (.tmp 3) rfl rfl rfl (bs (padN q)) (slab_whole _) _ Tryd.underlying107 rfl (by rw [size_bs, length_padN]; exact size_b4) (hKK _ _ ?_); clear hKK KK) | ((with_reducible refine wpList_plain ?_ ?_); exact rfl; intro KK hKK; refine wp_st_store HS 0 0 107 (.tmp 2) (.tmp 20) rfl rfl rfl (.agg (bs (padN q))) rfl (by rw [show Value.cells (.agg (bs (padN q))) = bs (padN q) from rfl, size_bs, length_padN]; exact size_b4) (by rw [show Value.cells (.agg (bs (padN q))) = bs (padN q) from rfl, size_bs, length_padN, size_bs, length_zer]; decide) (by exact one_bs _) (bs (padN q)) (spl_agg _ _ _ rfl (by rw [size_bs, size_bs, length_padN, length_zer])) (fun W4 HSx => hKK _ _ ?_); clear hKK KK HS; have HS : St w noF [⟨g2, 107, bs (padN q)⟩, ⟨g3, 107, bs (padN q)⟩] W4 := HSx; clear HSx))
      exact bodyPost_ret (v := .agg (bs (padN q))) (results_cell_row Tryd.results52 _ _ g2 107 (bs (padN q)) (0, 0) _ rfl (HS.row 0 rfl) Tryd.underlying107 rfl (by rw [size_bs, length_padN]; exact size_b4)) rfl ⟨rfl, HS.below⟩
end Go.Proofs.YtnmaplgodimohaaDoor

/- The document's name of four bytes. -/
set_option maxRecDepth 4000
namespace Go.Proofs.YtnmaplgodimohaaDoor
open Go Go.RowKit
attribute [local go_sem] strB_size
def nmC (s : List (BitVec 8)) (b : Bool) : Array Value := #[.string (strB s), .bool b]
theorem nm_zero : (#[.string ⟨#[]⟩, .bool false] : Array Value) = nmC [] false := by unfold nmC; rw [str_lit0]
theorem one_nm (s : List (BitVec 8)) (b : Bool) : (Value.agg (nmC s b)).cells.all (·.oneCell') = true := by
  rw [Array.all_eq_true_iff_forall_mem]; intro v hv
  have : v ∈ #[Value.string (strB s), Value.bool b] := hv
  simp only [List.mem_toArray, List.mem_cons, List.mem_nil_iff, or_false] at this
  rcases this with rfl | rfl <;> rfl
theorem size_nm : (Tryd.prog.info? 116).map (·.size) = some 2 := by kernel_rfl
theorem neq_b4 (p q : List (BitVec 8)) (hp : p.length = 4) (hq : q.length = 4) (w : World) : (Op.equalIn 10000 107 (.agg (bs p)) (.agg (bs q))).run Tryd.prog w = .ok (decide (p = q)) w := equal_bytes _ 4 p q hp hq Tryd.underlying107 w
theorem first_take {b : List (BitVec 8)} {k : Nat} (hk : k ≤ b.length) (h : ∀ j < k, ¬ b.getD j 0#8 = 0#8) (h0 : k = b.length ∨ b.getD k 0#8 = 0#8) : firstZ b = b.take k := by
  have e : b = b.take k ++ b.drop k := (List.take_append_drop k b).symm
  unfold firstZ
  conv => lhs; rw [e]
  rw [List.takeWhile_append_of_pos]
  · have : (b.drop k).takeWhile (fun x => decide (x ≠ 0#8)) = [] := by
      rcases h0 with rfl | h0
      · rw [List.drop_length]; rfl
      · by_cases hl : k < b.length
        · rw [List.drop_eq_getElem_cons hl, List.takeWhile_cons_of_neg]
          rw [List.getD_eq_getElem?_getD, List.getElem?_eq_getElem hl] at h0
          simpa using h0
        · rw [List.drop_of_length_le (by omega)]; rfl
    rw [this, List.append_nil]
  · intro x hx
    obtain ⟨j, hj, rfl⟩ := List.getElem_of_mem hx
    rw [List.length_take] at hj
    have := h j (by omega)
    rw [List.getD_eq_getElem?_getD, List.getElem?_eq_getElem (by omega)] at this
    rw [List.getElem_take]
    simpa using this
set_option maxRecDepth 20000 in
set_option maxHeartbeats 3200000 in
theorem refcutn_any (b : List (BitVec 8)) (w : World) (hl : b.length = 4) :
    Calls Tryd.prog 58 #[.agg (bs b)] w fun e w' => e = .returned (.agg (nmC (cutN b).1 (cutN b).2)) ∧ Below w.heap.size w w' := by
  rw [← cut_eq hl]
  have HL := Lib.hid hl
  have hnz := nm_zero
  have HS := St.nil w noF
  go_enter Tryd.func58, Tryd.ntmps58
  go_upto_region 2 with (first | ((with_reducible refine wpList_plain ?_ ?_); exact rfl; intro KK hKK; refine wp_st_box HS 107 (.tmp 0) rfl _ rfl (bs b) (rfl) (fun g1 W1 HSx => hKK _ _ ?_); clear hKK KK HS; have HS : St w noF [⟨g1, 107, bs b⟩] W1 := HSx; clear HSx) | ((with_reducible refine wpList_plain ?_ ?_); exact rfl; intro KK hKK; refine wp_st_alloc HS 116 (nmC [] false) rfl (.agg (nmC [] false)) (by kernel_rfl) (nm_zero) (fun g2 W2 HSx => hKK _ _ ?_); clear hKK KK HS; have HS : St w noF [⟨g1, 107, bs b⟩, ⟨g2, 116, nmC [] false⟩] W2 := HSx; clear HSx))
  go_loopw [3] (fun i wr => ∃ k : Nat, k ≤ 4 ∧ i = .int .i64 k ∧ (∀ j < k, ¬ b.getD j 0#8 = 0#8) ∧ wr = W2) (fun i _ => 4 - (intOf i).toNat)
  case atStart => exact ⟨0, by omega, rfl, fun j hj => by omega, rfl⟩
  case round =>
    obtain ⟨k, hk4, rfl, hnz', rfl⟩ := hrel
    have HNZ := Lib.hid hnz'
    clear hnz'
    by_cases h4 : k < 4
    · have hd4 : decide ((k : Int) < 4) = true := decide_eq_true (by omega)
      have hk0 : (0 : Int) ≤ (k : Int) := by omega
      have hk1 : (k : Int) < 4 := by omega
      obtain ⟨x, hx⟩ : ∃ x, b.getD k 0#8 = x := ⟨_, rfl⟩
      have hc : wr.cell? ⟨g1, k, none⟩ = some (.int .u8 (bd x)) := (HS.row 0 rfl).get ((get_bs b k (by rw [HL.out]; exact h4)).trans (congrArg (fun y => some (Value.int .u8 (bd y))) hx))
      have HX := Lib.hid hx
      clear hx
      have hw : IntKind.i64.wrap ((k : Int) + 1) = ((k + 1 : Nat) : Int) := by rw [i64_id _ (by omega) (by omega)]; omega
      by_cases h0 : x = 0#8
      · have hb1 : (bd x == 0) = true := by rw [h0]; rfl
        have HF : Hid (firstZ b = b.take k) := Lib.hid (first_take (by rw [HL.out]; omega) HNZ.out (.inr (by rw [HX.out, h0])))
        clear h0
        obtain ⟨t, ht⟩ : ∃ t, b.take k = t := ⟨_, rfl⟩
        have HTL : Hid (t.length = k) := Lib.hid (by rw [← ht, List.length_take, HL.out]; omega)
        have hsl : Slice wr (.slice (some ⟨g1, 0, none⟩) k 4) t := by
          have := row_piece (HS.row 0 rfl) (off := 0) (n := k) (c := 4) (by rw [HL.out]; omega) hk4
          rwa [List.drop_zero, ht] at this
        have hcv := conv_bytes hsl 9 Tryd.underlying9
        have HR : Hid (cutR b = if (decide (padN t = b) && (decide (t = []) || goodN t)) then (t, true) else ([], false)) := Lib.hid (by unfold cutR okFirst; rw [HF.out, ht])
        have HM : Hid (t.length ≤ maxLen) := Lib.hid (by rw [HTL.out]; unfold maxLen; omega)
        have hk0 : (0 : Int) ≤ (k : Int) := by omega
        have hk4' : (k : Int) ≤ 4 := by omega
        clear ht hsl
        have HQ := Lib.hid (fun W => neq_b4 (padN t) b (length_padN t) HL.out W)
        go_upto_region 5 with fail
        clear HF
        clear hcv
        have hF0 : Wl [fun W => St w noF [⟨g1, 107, bs b⟩, ⟨g2, 116, nmC [] false⟩] W] 0 wr.drew := HS.drew
        by_cases hp : padN t = b
        case neg =>
          have HPD := Lib.hid (decide_eq_false hp)
          have HE : Hid (cutR b = ([], false)) := Lib.hid (by rw [HR.out, HPD.out]; rfl)
          clear hp HS
          refine wp_region_phs [is (.string (strB t)), is ((.agg (bs (padN t)))), is (.agg (bs b)), is (.bool true), is (.bool true), is undef, is undef, is undef, is undef, is undef, is undef, is undef, is undef, is (.bool true)] [true, true, true, true, true, true, true, true, true, true, true, true, true, true] [(fun W => St w noF [⟨g1, 107, bs b⟩, ⟨g2, 116, nmC [] false⟩] W)] [false, false, false, false, false, false, false, false, false, false, false, false, false, false] [some 0, some 0, some 0, some 0, some 0, some 0, some 0, some 0, some 0, some 0, some 0, some 0, some 0, some 0] [some 18, some 19, some 20, some 21, some 22, some 23, some 24, some 25, some 26, some 27, some 28, some 29, some 30, some 31] 14 0 (fun i => !([5, 6, 7, 8, 9, 10, 11, 12] : List Nat).contains i) rfl rfl (by kernel_rfl) (by kernel_rfl) (by kernel_rfl) (by kernel_rfl) ?_ ?_ ?_ ?_ ?_ ?_
          · repeat first | exact wok_nil | refine wok_cons (by first | exact fun _ _ h k => h.same k) ?_
          · repeat first | exact vok_nil | refine vok_rig (by first | exact fun _ _ _ h => h) ?_ | refine vok_soft (by first | exact fun _ _ _ h _ => h) ?_
          · exact hF0
          · repeat first | exact all_end (by decide) | refine all_cons (by first | exact rfl | exact ⟨rfl, fun _ _ h => Or.inl h⟩ | exact ⟨rfl, fun _ _ h => Or.inr ⟨h, rfl⟩⟩) ?_
          · refine allp_mild 0 rfl rfl rfl (fun a x W hout hin hP => ?_) ?_
            · have e4 : a.tmps[4]? = some (.string (strB t)) := (hout 4 (by kernel_rfl)).trans rfl
              exact does_move rfl e4 ⟨Same.refl _, rfl⟩
            refine allp_mild 0 rfl rfl rfl (fun a x W hout hin hP => ?_) ?_
            · have e18 := hin.is 0 18 (by kernel_rfl) (by decide) (by kernel_rfl) (by kernel_rfl) _ rfl
              have C := refpad_any t W HM.out
              clear hP
              clear hin hout
              intro K0 Q hK
              go_simp
              refine C.mono ?_
              rintro e W' ⟨rfl, hb⟩
              exact hK _ _ ⟨hb, rfl⟩
            refine allp_mild 0 rfl rfl rfl (fun a x W hout hin hP => ?_) ?_
            · have e1 : a.tmps[1]? = some (.pointer (some ⟨g1, 0, none⟩)) := (hout 1 (by kernel_rfl)).trans rfl
              clear hin hout
              intro K0 Q hK
              exact wp_st_load hP 0 0 107 (.tmp 1) rfl rfl (eval_of_get e1) (bs b) (slab_whole _) _ Tryd.underlying107 rfl (by rw [size_bs, HL.out]; exact size_b4) (hK _ _ ⟨Same.refl _, rfl⟩)
            refine allp_mild 0 rfl rfl rfl (fun a x W hout hin hP => ?_) ?_
            · have e19 := hin.is 1 19 (by kernel_rfl) (by decide) (by kernel_rfl) (by kernel_rfl) _ rfl
              have e20 := hin.is 2 20 (by kernel_rfl) (by decide) (by kernel_rfl) (by kernel_rfl) _ rfl
              have q := HQ.out W
              rw [HPD.out] at q
              clear hP
              clear hin hout
              intro K0 Q hK
              go_simp
              exact hK _ _ ⟨Same.refl _, rfl⟩
            refine allp_mild 0 rfl rfl rfl (fun a x W hout hin hP => ?_) ?_
            · have e21 := hin.is 3 21 (by kernel_rfl) (by decide) (by kernel_rfl) (by kernel_rfl) _ rfl
              exact does_move rfl e21 ⟨Same.refl _, rfl⟩
            refine allp_skip rfl rfl (fun _ => rfl) ?_
            refine allp_skip rfl rfl (fun _ => rfl) ?_
            refine allp_skip rfl rfl (fun _ => rfl) ?_
            refine allp_skip rfl rfl (fun _ => rfl) ?_
            refine allp_skip rfl rfl (fun _ => rfl) ?_
            refine allp_skip rfl rfl (fun _ => rfl) ?_
            refine allp_skip rfl rfl (fun _ => rfl) ?_
            refine allp_skip rfl rfl (fun _ => rfl) ?_
            refine allp_mild 0 rfl rfl rfl (fun a x W hout hin hP => ?_) ?_
            · have e22 := hin.is 4 22 (by kernel_rfl) (by decide) (by kernel_rfl) (by kernel_rfl) _ rfl
              have e30 := hin.is 12 30 (by kernel_rfl) (by decide) (by kernel_rfl) (by kernel_rfl) _ rfl
              exact does_pick rfl e22 ⟨Same.refl _, rfl⟩
            exact all_end (by decide)
          · intro x W hP hV
            have h31 : x 13 = .bool true := hV 13 (by decide) (.inl (by kernel_rfl))
            have HS : St w noF [⟨g1, 107, bs b⟩, ⟨g2, 116, nmC [] false⟩] W := hP
            clear hV hP
            simp only [putL, Act.put, List.setIfInBounds_toArray, List.set_cons_succ, List.set_cons_zero, h31]
            refine wpAnyH_done (by kernel_rfl) ?_ _
            clear h31
            go_wp2_with (first | ((with_reducible refine wpList_plain ?_ ?_); exact rfl; intro KK hKK; refine wp_st_store HS 1 0 116 (.tmp 2) (.tmp 32) rfl rfl rfl (.agg (nmC [] false)) rfl (size_nm) (Nat.le_of_eq rfl) (one_nm _ _) (nmC [] false) (spl_agg _ _ _ rfl rfl) (fun W11 HSx => hKK _ _ ?_); clear hKK KK HS; have HS : St w noF [⟨g1, 107, bs b⟩, ⟨g2, 116, nmC [] false⟩] W11 := HSx; clear HSx))
            exact bodyPost_ret (v := .agg (nmC [] false)) (results_cell_row Tryd.results58 _ _ g2 116 (nmC [] false) (0, 0) _ rfl (HS.row 1 rfl) Tryd.underlying116 rfl size_nm) rfl ⟨by rw [HE.out], HS.below⟩
        case pos =>
        have HPD := Lib.hid (decide_eq_true hp)
        clear hp
        by_cases h0 : k = 0
        · have hdk : decide ((0 : Int) < (k : Int)) = false := decide_eq_false (by omega)
          have ht0 : t = [] := List.length_eq_zero_iff.1 (by rw [HTL.out, h0])
          have HE : Hid (cutR b = (t, true)) := Lib.hid (by rw [HR.out, HPD.out, decide_eq_true ht0]; rfl)
          clear HS ht0
          refine wp_region_phs [is (.string (strB t)), is ((.agg (bs (padN t)))), is (.agg (bs b)), is (.bool false), is (.bool false), is (.int .i64 k), is (.bool false), is (.bool false), is undef, is undef, is undef, is undef, is (.bool false), is (.bool false)] [true, true, true, true, true, true, true, true, true, true, true, true, true, true] [(fun W => St w noF [⟨g1, 107, bs b⟩, ⟨g2, 116, nmC [] false⟩] W)] [false, false, false, false, false, false, false, false, false, false, false, false, false, false] [some 0, some 0, some 0, some 0, some 0, some 0, some 0, some 0, some 0, some 0, some 0, some 0, some 0, some 0] [some 18, some 19, some 20, some 21, some 22, some 23, some 24, some 25, some 26, some 27, some 28, some 29, some 30, some 31] 14 0 (fun i => !([8, 9, 10, 11] : List Nat).contains i) rfl rfl (by kernel_rfl) (by kernel_rfl) (by kernel_rfl) (by kernel_rfl) ?_ ?_ ?_ ?_ ?_ ?_
          · repeat first | exact wok_nil | refine wok_cons (by first | exact fun _ _ h k => h.same k) ?_
          · repeat first | exact vok_nil | refine vok_rig (by first | exact fun _ _ _ h => h) ?_ | refine vok_soft (by first | exact fun _ _ _ h _ => h) ?_
          · exact hF0
          · repeat first | exact all_end (by decide) | refine all_cons (by first | exact rfl | exact ⟨rfl, fun _ _ h => Or.inl h⟩ | exact ⟨rfl, fun _ _ h => Or.inr ⟨h, rfl⟩⟩) ?_
          · refine allp_mild 0 rfl rfl rfl (fun a x W hout hin hP => ?_) ?_
            · have e4 : a.tmps[4]? = some (.string (strB t)) := (hout 4 (by kernel_rfl)).trans rfl
              exact does_move rfl e4 ⟨Same.refl _, rfl⟩
            refine allp_mild 0 rfl rfl rfl (fun a x W hout hin hP => ?_) ?_
            · have e18 := hin.is 0 18 (by kernel_rfl) (by decide) (by kernel_rfl) (by kernel_rfl) _ rfl
              have C := refpad_any t W HM.out
              clear hP
              clear hin hout
              intro K0 Q hK
              go_simp
              refine C.mono ?_
              rintro e W' ⟨rfl, hb⟩
              exact hK _ _ ⟨hb, rfl⟩
            refine allp_mild 0 rfl rfl rfl (fun a x W hout hin hP => ?_) ?_
            · have e1 : a.tmps[1]? = some (.pointer (some ⟨g1, 0, none⟩)) := (hout 1 (by kernel_rfl)).trans rfl
              clear hin hout
              intro K0 Q hK
              exact wp_st_load hP 0 0 107 (.tmp 1) rfl rfl (eval_of_get e1) (bs b) (slab_whole _) _ Tryd.underlying107 rfl (by rw [size_bs, HL.out]; exact size_b4) (hK _ _ ⟨Same.refl _, rfl⟩)
            refine allp_mild 0 rfl rfl rfl (fun a x W hout hin hP => ?_) ?_
            · have e19 := hin.is 1 19 (by kernel_rfl) (by decide) (by kernel_rfl) (by kernel_rfl) _ rfl
              have e20 := hin.is 2 20 (by kernel_rfl) (by decide) (by kernel_rfl) (by kernel_rfl) _ rfl
              have q := HQ.out W
              rw [HPD.out] at q
              clear hP
              clear hin hout
              intro K0 Q hK
              go_simp
              exact hK _ _ ⟨Same.refl _, rfl⟩
            refine allp_mild 0 rfl rfl rfl (fun a x W hout hin hP => ?_) ?_
            · have e21 := hin.is 3 21 (by kernel_rfl) (by decide) (by kernel_rfl) (by kernel_rfl) _ rfl
              exact does_move rfl e21 ⟨Same.refl _, rfl⟩
            refine allp_mild 0 rfl rfl rfl (fun a x W hout hin hP => ?_) ?_
            · have e3 : a.tmps[3]? = some (.int .i64 k) := (hout 3 (by kernel_rfl)).trans rfl
              exact does_move rfl e3 ⟨Same.refl _, rfl⟩
            refine allp_mild 0 rfl rfl rfl (fun a x W hout hin hP => ?_) ?_
            · have e23 := hin.is 5 23 (by kernel_rfl) (by decide) (by kernel_rfl) (by kernel_rfl) _ rfl
              clear hin hout
              intro K Q hK
              go_simp
              exact hK _ _ ⟨Same.refl _, rfl⟩
            refine allp_mild 0 rfl rfl rfl (fun a x W hout hin hP => ?_) ?_
            · have e24 := hin.is 6 24 (by kernel_rfl) (by decide) (by kernel_rfl) (by kernel_rfl) _ rfl
              exact does_move rfl e24 ⟨Same.refl _, rfl⟩
            refine allp_skip rfl rfl (fun _ => rfl) ?_
            refine allp_skip rfl rfl (fun _ => rfl) ?_
            refine allp_skip rfl rfl (fun _ => rfl) ?_
            refine allp_skip rfl rfl (fun _ => rfl) ?_
            refine allp_mild 0 rfl rfl rfl (fun a x W hout hin hP => ?_) ?_
            · have e25 := hin.is 7 25 (by kernel_rfl) (by decide) (by kernel_rfl) (by kernel_rfl) _ rfl
              have e29 := hin.is 11 29 (by kernel_rfl) (by decide) (by kernel_rfl) (by kernel_rfl) _ rfl
              exact does_pick rfl e25 ⟨Same.refl _, rfl⟩
            refine allp_mild 0 rfl rfl rfl (fun a x W hout hin hP => ?_) ?_
            · have e22 := hin.is 4 22 (by kernel_rfl) (by decide) (by kernel_rfl) (by kernel_rfl) _ rfl
              have e30 := hin.is 12 30 (by kernel_rfl) (by decide) (by kernel_rfl) (by kernel_rfl) _ rfl
              exact does_pick rfl e22 ⟨Same.refl _, eval_of_get e30⟩
            exact all_end (by decide)
          · intro x W hP hV
            have h31 : x 13 = .bool false := hV 13 (by decide) (.inl (by kernel_rfl))
            have HS : St w noF [⟨g1, 107, bs b⟩, ⟨g2, 116, nmC [] false⟩] W := hP
            clear hV hP
            simp only [putL, Act.put, List.setIfInBounds_toArray, List.set_cons_succ, List.set_cons_zero, h31]
            refine wpAnyH_done (by kernel_rfl) ?_ _
            clear h31
            go_wp2_with (first | ((with_reducible refine wpList_plain ?_ ?_); exact rfl; intro KK hKK; refine wp_st_store HS 1 0 116 (.tmp 2) (.tmp 34) rfl rfl rfl (.agg (nmC t true)) rfl (size_nm) (Nat.le_of_eq rfl) (one_nm _ _) (nmC t true) (spl_agg _ _ _ rfl rfl) (fun W11 HSx => hKK _ _ ?_); clear hKK KK HS; have HS : St w noF [⟨g1, 107, bs b⟩, ⟨g2, 116, nmC t true⟩] W11 := HSx; clear HSx))
            exact bodyPost_ret (v := .agg (nmC t true)) (results_cell_row Tryd.results58 _ _ g2 116 (nmC t true) (0, 0) _ rfl (HS.row 1 rfl) Tryd.underlying116 rfl size_nm) rfl ⟨by rw [HE.out], HS.below⟩
        · have hdk : decide ((0 : Int) < (k : Int)) = true := decide_eq_true (by omega)
          have hkk : 0 < k := by omega
          have ht0 : ¬ t = [] := fun h => h0 (by rw [← HTL.out, h]; rfl)
          cases hg : goodN t with
          | true =>
            have HG := Lib.hid hg
            have HE : Hid (cutR b = (t, true)) := Lib.hid (by rw [HR.out, HPD.out, hg, Bool.or_true]; rfl)
            clear HS ht0 hg
            refine wp_region_phs [is (.string (strB t)), is ((.agg (bs (padN t)))), is (.agg (bs b)), is (.bool false), is (.bool false), is (.int .i64 k), is (.bool true), is (.bool true), is (.string (strB t)), (fun v W => Strs W v [t]), is (.bool true), is (.bool false), is (.bool false), is (.bool false)] [true, true, true, true, true, true, true, true, true, false, true, true, true, true] [(fun W => St w noF [⟨g1, 107, bs b⟩, ⟨g2, 116, nmC [] false⟩] W)] [false, false, false, false, false, false, false, false, false, false, false, false, false, false] [some 0, some 0, some 0, some 0, some 0, some 0, some 0, some 0, some 0, some 0, some 0, some 0, some 0, some 0] [some 18, some 19, some 20, some 21, some 22, some 23, some 24, some 25, some 26, some 27, some 28, some 29, some 30, some 31] 14 0 (fun _ => true) rfl rfl (by kernel_rfl) (by kernel_rfl) (by kernel_rfl) (by kernel_rfl) ?_ ?_ ?_ ?_ ?_ ?_
            · repeat first | exact wok_nil | refine wok_cons (by first | exact fun _ _ h k => h.same k) ?_
            · repeat first | exact vok_nil | refine vok_rig (by first | exact fun _ _ _ h => h) ?_ | refine vok_soft (by first | exact fun _ _ _ h _ => h | exact fun _ _ _ h k => Strs.below h k (Nat.le_refl _)) ?_
            · exact hF0
            · repeat first | exact all_end (by decide) | refine all_cons (by first | exact rfl | exact ⟨rfl, fun _ _ h => Or.inl h⟩ | exact ⟨rfl, fun _ _ h => Or.inr ⟨h, rfl⟩⟩) ?_
            · refine allp_mild 0 rfl rfl rfl (fun a x W hout hin hP => ?_) ?_
              · have e4 : a.tmps[4]? = some (.string (strB t)) := (hout 4 (by kernel_rfl)).trans rfl
                exact does_move rfl e4 ⟨Same.refl _, rfl⟩
              refine allp_mild 0 rfl rfl rfl (fun a x W hout hin hP => ?_) ?_
              · have e18 := hin.is 0 18 (by kernel_rfl) (by decide) (by kernel_rfl) (by kernel_rfl) _ rfl
                have C := refpad_any t W HM.out
                clear hP
                clear hin hout
                intro K0 Q hK
                go_simp
                refine C.mono ?_
                rintro e W' ⟨rfl, hb⟩
                exact hK _ _ ⟨hb, rfl⟩
              refine allp_mild 0 rfl rfl rfl (fun a x W hout hin hP => ?_) ?_
              · have e1 : a.tmps[1]? = some (.pointer (some ⟨g1, 0, none⟩)) := (hout 1 (by kernel_rfl)).trans rfl
                clear hin hout
                intro K0 Q hK
                exact wp_st_load hP 0 0 107 (.tmp 1) rfl rfl (eval_of_get e1) (bs b) (slab_whole _) _ Tryd.underlying107 rfl (by rw [size_bs, HL.out]; exact size_b4) (hK _ _ ⟨Same.refl _, rfl⟩)
              refine allp_mild 0 rfl rfl rfl (fun a x W hout hin hP => ?_) ?_
              · have e19 := hin.is 1 19 (by kernel_rfl) (by decide) (by kernel_rfl) (by kernel_rfl) _ rfl
                have e20 := hin.is 2 20 (by kernel_rfl) (by decide) (by kernel_rfl) (by kernel_rfl) _ rfl
                have q := HQ.out W
                rw [HPD.out] at q
                clear hP
                clear hin hout
                intro K0 Q hK
                go_simp
                exact hK _ _ ⟨Same.refl _, rfl⟩
              refine allp_mild 0 rfl rfl rfl (fun a x W hout hin hP => ?_) ?_
              · have e21 := hin.is 3 21 (by kernel_rfl) (by decide) (by kernel_rfl) (by kernel_rfl) _ rfl
                exact does_move rfl e21 ⟨Same.refl _, rfl⟩
              refine allp_mild 0 rfl rfl rfl (fun a x W hout hin hP => ?_) ?_
              · have e3 : a.tmps[3]? = some (.int .i64 k) := (hout 3 (by kernel_rfl)).trans rfl
                exact does_move rfl e3 ⟨Same.refl _, rfl⟩
              refine allp_mild 0 rfl rfl rfl (fun a x W hout hin hP => ?_) ?_
              · have e23 := hin.is 5 23 (by kernel_rfl) (by decide) (by kernel_rfl) (by kernel_rfl) _ rfl
                clear hin hout
                intro K Q hK
                go_simp
                exact hK _ _ ⟨Same.refl _, rfl⟩
              refine allp_mild 0 rfl rfl rfl (fun a x W hout hin hP => ?_) ?_
              · have e24 := hin.is 6 24 (by kernel_rfl) (by decide) (by kernel_rfl) (by kernel_rfl) _ rfl
                exact does_move rfl e24 ⟨Same.refl _, rfl⟩
              refine allp_mild 0 rfl rfl rfl (fun a x W hout hin hP => ?_) ?_
              · have e4 : a.tmps[4]? = some (.string (strB t)) := (hout 4 (by kernel_rfl)).trans rfl
                exact does_move rfl e4 ⟨Same.refl _, rfl⟩
              refine allp_mild 0 rfl rfl rfl (fun a x W hout hin hP => ?_) ?_
              · have e26 := hin.is 8 26 (by kernel_rfl) (by decide) (by kernel_rfl) (by kernel_rfl) _ rfl
                clear hP
                clear hin hout
                intro K0 Q hK
                go_simp
                exact hK _ _ ⟨Same.alloc _ _, strs1 W t HM.out 9⟩
              refine allp_mild 0 rfl rfl rfl (fun a x W hout hin hP => ?_) ?_
              · obtain ⟨v27, e27, hv27⟩ := hin.get 9 27 (by kernel_rfl) (by decide) (by kernel_rfl) (.inr ⟨rfl, by kernel_rfl⟩)
                have C := (show goodNs [t] = true by unfold goodNs; simp [HG.out]) ▸ refgoodn_any [t] _ W hv27 (by unfold maxLen; simp)
                clear hP
                clear hin hout
                intro K0 Q hK
                go_simp
                refine C.mono ?_
                rintro e W' ⟨rfl, rfl⟩
                exact hK _ _ ⟨Same.refl _, rfl⟩
              refine allp_mild 0 rfl rfl rfl (fun a x W hout hin hP => ?_) ?_
              · have e28 := hin.is 10 28 (by kernel_rfl) (by decide) (by kernel_rfl) (by kernel_rfl) _ rfl
                exact does_not rfl e28 ⟨Same.refl _, rfl⟩
              refine allp_mild 0 rfl rfl rfl (fun a x W hout hin hP => ?_) ?_
              · have e25 := hin.is 7 25 (by kernel_rfl) (by decide) (by kernel_rfl) (by kernel_rfl) _ rfl
                have e29 := hin.is 11 29 (by kernel_rfl) (by decide) (by kernel_rfl) (by kernel_rfl) _ rfl
                exact does_pick rfl e25 ⟨Same.refl _, eval_of_get e29⟩
              refine allp_mild 0 rfl rfl rfl (fun a x W hout hin hP => ?_) ?_
              · have e22 := hin.is 4 22 (by kernel_rfl) (by decide) (by kernel_rfl) (by kernel_rfl) _ rfl
                have e30 := hin.is 12 30 (by kernel_rfl) (by decide) (by kernel_rfl) (by kernel_rfl) _ rfl
                exact does_pick rfl e22 ⟨Same.refl _, eval_of_get e30⟩
              exact all_end (by decide)
            · intro x W hP hV
              have h31 : x 13 = .bool false := hV 13 (by decide) (.inl (by kernel_rfl))
              have HS : St w noF [⟨g1, 107, bs b⟩, ⟨g2, 116, nmC [] false⟩] W := hP
              clear hV hP
              simp only [putL, Act.put, List.setIfInBounds_toArray, List.set_cons_succ, List.set_cons_zero, h31]
              refine wpAnyH_done (by kernel_rfl) ?_ _
              clear h31
              go_wp2_with (first | ((with_reducible refine wpList_plain ?_ ?_); exact rfl; intro KK hKK; refine wp_st_store HS 1 0 116 (.tmp 2) (.tmp 34) rfl rfl rfl (.agg (nmC t true)) rfl (size_nm) (Nat.le_of_eq rfl) (one_nm _ _) (nmC t true) (spl_agg _ _ _ rfl rfl) (fun W11 HSx => hKK _ _ ?_); clear hKK KK HS; have HS : St w noF [⟨g1, 107, bs b⟩, ⟨g2, 116, nmC t true⟩] W11 := HSx; clear HSx))
              exact bodyPost_ret (v := .agg (nmC t true)) (results_cell_row Tryd.results58 _ _ g2 116 (nmC t true) (0, 0) _ rfl (HS.row 1 rfl) Tryd.underlying116 rfl size_nm) rfl ⟨by rw [HE.out], HS.below⟩
          | false =>
            have HG := Lib.hid hg
            have HE : Hid (cutR b = ([], false)) := Lib.hid (by rw [HR.out, HPD.out, hg, decide_eq_false ht0]; rfl)
            clear HS ht0 hg
            refine wp_region_phs [is (.string (strB t)), is ((.agg (bs (padN t)))), is (.agg (bs b)), is (.bool false), is (.bool false), is (.int .i64 k), is (.bool true), is (.bool true), is (.string (strB t)), (fun v W => Strs W v [t]), is (.bool false), is (.bool true), is (.bool true), is (.bool true)] [true, true, true, true, true, true, true, true, true, false, true, true, true, true] [(fun W => St w noF [⟨g1, 107, bs b⟩, ⟨g2, 116, nmC [] false⟩] W)] [false, false, false, false, false, false, false, false, false, false, false, false, false, false] [some 0, some 0, some 0, some 0, some 0, some 0, some 0, some 0, some 0, some 0, some 0, some 0, some 0, some 0] [some 18, some 19, some 20, some 21, some 22, some 23, some 24, some 25, some 26, some 27, some 28, some 29, some 30, some 31] 14 0 (fun _ => true) rfl rfl (by kernel_rfl) (by kernel_rfl) (by kernel_rfl) (by kernel_rfl) ?_ ?_ ?_ ?_ ?_ ?_
            · repeat first | exact wok_nil | refine wok_cons (by first | exact fun _ _ h k => h.same k) ?_
            · repeat first | exact vok_nil | refine vok_rig (by first | exact fun _ _ _ h => h) ?_ | refine vok_soft (by first | exact fun _ _ _ h _ => h | exact fun _ _ _ h k => Strs.below h k (Nat.le_refl _)) ?_
            · exact hF0
            · repeat first | exact all_end (by decide) | refine all_cons (by first | exact rfl | exact ⟨rfl, fun _ _ h => Or.inl h⟩ | exact ⟨rfl, fun _ _ h => Or.inr ⟨h, rfl⟩⟩) ?_
            · refine allp_mild 0 rfl rfl rfl (fun a x W hout hin hP => ?_) ?_
              · have e4 : a.tmps[4]? = some (.string (strB t)) := (hout 4 (by kernel_rfl)).trans rfl
                exact does_move rfl e4 ⟨Same.refl _, rfl⟩
              refine allp_mild 0 rfl rfl rfl (fun a x W hout hin hP => ?_) ?_
              · have e18 := hin.is 0 18 (by kernel_rfl) (by decide) (by kernel_rfl) (by kernel_rfl) _ rfl
                have C := refpad_any t W HM.out
                clear hP
                clear hin hout
                intro K0 Q hK
                go_simp
                refine C.mono ?_
                rintro e W' ⟨rfl, hb⟩
                exact hK _ _ ⟨hb, rfl⟩
              refine allp_mild 0 rfl rfl rfl (fun a x W hout hin hP => ?_) ?_
              · have e1 : a.tmps[1]? = some (.pointer (some ⟨g1, 0, none⟩)) := (hout 1 (by kernel_rfl)).trans rfl
                clear hin hout
                intro K0 Q hK
                exact wp_st_load hP 0 0 107 (.tmp 1) rfl rfl (eval_of_get e1) (bs b) (slab_whole _) _ Tryd.underlying107 rfl (by rw [size_bs, HL.out]; exact size_b4) (hK _ _ ⟨Same.refl _, rfl⟩)
              refine allp_mild 0 rfl rfl rfl (fun a x W hout hin hP => ?_) ?_
              · have e19 := hin.is 1 19 (by kernel_rfl) (by decide) (by kernel_rfl) (by kernel_rfl) _ rfl
                have e20 := hin.is 2 20 (by kernel_rfl) (by decide) (by kernel_rfl) (by kernel_rfl) _ rfl
                have q := HQ.out W
                rw [HPD.out] at q
                clear hP
                clear hin hout
                intro K0 Q hK
                go_simp
                exact hK _ _ ⟨Same.refl _, rfl⟩
              refine allp_mild 0 rfl rfl rfl (fun a x W hout hin hP => ?_) ?_
              · have e21 := hin.is 3 21 (by kernel_rfl) (by decide) (by kernel_rfl) (by kernel_rfl) _ rfl
                exact does_move rfl e21 ⟨Same.refl _, rfl⟩
              refine allp_mild 0 rfl rfl rfl (fun a x W hout hin hP => ?_) ?_
              · have e3 : a.tmps[3]? = some (.int .i64 k) := (hout 3 (by kernel_rfl)).trans rfl
                exact does_move rfl e3 ⟨Same.refl _, rfl⟩
              refine allp_mild 0 rfl rfl rfl (fun a x W hout hin hP => ?_) ?_
              · have e23 := hin.is 5 23 (by kernel_rfl) (by decide) (by kernel_rfl) (by kernel_rfl) _ rfl
                clear hin hout
                intro K Q hK
                go_simp
                exact hK _ _ ⟨Same.refl _, rfl⟩
              refine allp_mild 0 rfl rfl rfl (fun a x W hout hin hP => ?_) ?_
              · have e24 := hin.is 6 24 (by kernel_rfl) (by decide) (by kernel_rfl) (by kernel_rfl) _ rfl
                exact does_move rfl e24 ⟨Same.refl _, rfl⟩
              refine allp_mild 0 rfl rfl rfl (fun a x W hout hin hP => ?_) ?_
              · have e4 : a.tmps[4]? = some (.string (strB t)) := (hout 4 (by kernel_rfl)).trans rfl
                exact does_move rfl e4 ⟨Same.refl _, rfl⟩
              refine allp_mild 0 rfl rfl rfl (fun a x W hout hin hP => ?_) ?_
              · have e26 := hin.is 8 26 (by kernel_rfl) (by decide) (by kernel_rfl) (by kernel_rfl) _ rfl
                clear hP
                clear hin hout
                intro K0 Q hK
                go_simp
                exact hK _ _ ⟨Same.alloc _ _, strs1 W t HM.out 9⟩
              refine allp_mild 0 rfl rfl rfl (fun a x W hout hin hP => ?_) ?_
              · obtain ⟨v27, e27, hv27⟩ := hin.get 9 27 (by kernel_rfl) (by decide) (by kernel_rfl) (.inr ⟨rfl, by kernel_rfl⟩)
                have C := (show goodNs [t] = false by unfold goodNs; simp [HG.out]) ▸ refgoodn_any [t] _ W hv27 (by unfold maxLen; simp)
                clear hP
                clear hin hout
                intro K0 Q hK
                go_simp
                refine C.mono ?_
                rintro e W' ⟨rfl, rfl⟩
                exact hK _ _ ⟨Same.refl _, rfl⟩
              refine allp_mild 0 rfl rfl rfl (fun a x W hout hin hP => ?_) ?_
              · have e28 := hin.is 10 28 (by kernel_rfl) (by decide) (by kernel_rfl) (by kernel_rfl) _ rfl
                exact does_not rfl e28 ⟨Same.refl _, rfl⟩
              refine allp_mild 0 rfl rfl rfl (fun a x W hout hin hP => ?_) ?_
              · have e25 := hin.is 7 25 (by kernel_rfl) (by decide) (by kernel_rfl) (by kernel_rfl) _ rfl
                have e29 := hin.is 11 29 (by kernel_rfl) (by decide) (by kernel_rfl) (by kernel_rfl) _ rfl
                exact does_pick rfl e25 ⟨Same.refl _, eval_of_get e29⟩
              refine allp_mild 0 rfl rfl rfl (fun a x W hout hin hP => ?_) ?_
              · have e22 := hin.is 4 22 (by kernel_rfl) (by decide) (by kernel_rfl) (by kernel_rfl) _ rfl
                have e30 := hin.is 12 30 (by kernel_rfl) (by decide) (by kernel_rfl) (by kernel_rfl) _ rfl
                exact does_pick rfl e22 ⟨Same.refl _, eval_of_get e30⟩
              exact all_end (by decide)
            · intro x W hP hV
              have h31 : x 13 = .bool true := hV 13 (by decide) (.inl (by kernel_rfl))
              have HS : St w noF [⟨g1, 107, bs b⟩, ⟨g2, 116, nmC [] false⟩] W := hP
              clear hV hP
              simp only [putL, Act.put, List.setIfInBounds_toArray, List.set_cons_succ, List.set_cons_zero, h31]
              refine wpAnyH_done (by kernel_rfl) ?_ _
              clear h31
              go_wp2_with (first | ((with_reducible refine wpList_plain ?_ ?_); exact rfl; intro KK hKK; refine wp_st_store HS 1 0 116 (.tmp 2) (.tmp 32) rfl rfl rfl (.agg (nmC [] false)) rfl (size_nm) (Nat.le_of_eq rfl) (one_nm _ _) (nmC [] false) (spl_agg _ _ _ rfl rfl) (fun W11 HSx => hKK _ _ ?_); clear hKK KK HS; have HS : St w noF [⟨g1, 107, bs b⟩, ⟨g2, 116, nmC [] false⟩] W11 := HSx; clear HSx))
              exact bodyPost_ret (v := .agg (nmC [] false)) (results_cell_row Tryd.results58 _ _ g2 116 (nmC [] false) (0, 0) _ rfl (HS.row 1 rfl) Tryd.underlying116 rfl size_nm) rfl ⟨by rw [HE.out], HS.below⟩
      · have hb1 : (bd x == 0) = false := beq_eq_false_iff_ne.2 fun e => h0 (bd_inj (by rw [e]; rfl))
        have HX0 : Hid (¬ b.getD k 0#8 = 0#8) := Lib.hid (by rw [HX.out]; exact h0)
        clear h0
        go_wp2_with fail
        refine ⟨⟨k + 1, by omega, by go_num, fun j hj => ?_, trivial⟩, by simp [intOf]; omega⟩
        rcases Nat.lt_succ_iff_lt_or_eq.1 hj with h | h
        · exact HNZ.out j h
        · subst h; exact HX0.out
    · have hd4 : decide ((k : Int) < 4) = false := decide_eq_false (by omega)
      have HF : Hid (firstZ b = b.take k) := Lib.hid (first_take (by rw [HL.out]; omega) HNZ.out (.inl (by rw [HL.out]; omega)))
      obtain ⟨t, ht⟩ : ∃ t, b.take k = t := ⟨_, rfl⟩
      have HTL : Hid (t.length = k) := Lib.hid (by rw [← ht, List.length_take, HL.out]; omega)
      have hsl : Slice wr (.slice (some ⟨g1, 0, none⟩) k 4) t := by
        have := row_piece (HS.row 0 rfl) (off := 0) (n := k) (c := 4) (by rw [HL.out]; omega) hk4
        rwa [List.drop_zero, ht] at this
      have hcv := conv_bytes hsl 9 Tryd.underlying9
      have HR : Hid (cutR b = if (decide (padN t = b) && (decide (t = []) || goodN t)) then (t, true) else ([], false)) := Lib.hid (by unfold cutR okFirst; rw [HF.out, ht])
      have HM : Hid (t.length ≤ maxLen) := Lib.hid (by rw [HTL.out]; unfold maxLen; omega)
      have hk0 : (0 : Int) ≤ (k : Int) := by omega
      have hk4' : (k : Int) ≤ 4 := by omega
      clear ht hsl
      have HQ := Lib.hid (fun W => neq_b4 (padN t) b (length_padN t) HL.out W)
      go_upto_region 5 with fail
      clear HF
      clear hcv
      have hF0 : Wl [fun W => St w noF [⟨g1, 107, bs b⟩, ⟨g2, 116, nmC [] false⟩] W] 0 wr.drew := HS.drew
      by_cases hp : padN t = b
      case neg =>
        have HPD := Lib.hid (decide_eq_false hp)
        have HE : Hid (cutR b = ([], false)) := Lib.hid (by rw [HR.out, HPD.out]; rfl)
        clear hp HS
        refine wp_region_phs [is (.string (strB t)), is ((.agg (bs (padN t)))), is (.agg (bs b)), is (.bool true), is (.bool true), is undef, is undef, is undef, is undef, is undef, is undef, is undef, is undef, is (.bool true)] [true, true, true, true, true, true, true, true, true, true, true, true, true, true] [(fun W => St w noF [⟨g1, 107, bs b⟩, ⟨g2, 116, nmC [] false⟩] W)] [false, false, false, false, false, false, false, false, false, false, false, false, false, false] [some 0, some 0, some 0, some 0, some 0, some 0, some 0, some 0, some 0, some 0, some 0, some 0, some 0, some 0] [some 18, some 19, some 20, some 21, some 22, some 23, some 24, some 25, some 26, some 27, some 28, some 29, some 30, some 31] 14 0 (fun i => !([5, 6, 7, 8, 9, 10, 11, 12] : List Nat).contains i) rfl rfl (by kernel_rfl) (by kernel_rfl) (by kernel_rfl) (by kernel_rfl) ?_ ?_ ?_ ?_ ?_ ?_
        · repeat first | exact wok_nil | refine wok_cons (by first | exact fun _ _ h k => h.same k) ?_
        · repeat first | exact vok_nil | refine vok_rig (by first | exact fun _ _ _ h => h) ?_ | refine vok_soft (by first | exact fun _ _ _ h _ => h) ?_
        · exact hF0
        · repeat first | exact all_end (by decide) | refine all_cons (by first | exact rfl | exact ⟨rfl, fun _ _ h => Or.inl h⟩ | exact ⟨rfl, fun _ _ h => Or.inr ⟨h, rfl⟩⟩) ?_
        · refine allp_mild 0 rfl rfl rfl (fun a x W hout hin hP => ?_) ?_
          · have e4 : a.tmps[4]? = some (.string (strB t)) := (hout 4 (by kernel_rfl)).trans rfl
            exact does_move rfl e4 ⟨Same.refl _, rfl⟩
          refine allp_mild 0 rfl rfl rfl (fun a x W hout hin hP => ?_) ?_
          · have e18 := hin.is 0 18 (by kernel_rfl) (by decide) (by kernel_rfl) (by kernel_rfl) _ rfl
            have C := refpad_any t W HM.out
            clear hP
            clear hin hout
            intro K0 Q hK
            go_simp
            refine C.mono ?_
            rintro e W' ⟨rfl, hb⟩
            exact hK _ _ ⟨hb, rfl⟩
          refine allp_mild 0 rfl rfl rfl (fun a x W hout hin hP => ?_) ?_
          · have e1 : a.tmps[1]? = some (.pointer (some ⟨g1, 0, none⟩)) := (hout 1 (by kernel_rfl)).trans rfl
            clear hin hout
            intro K0 Q hK
            exact wp_st_load hP 0 0 107 (.tmp 1) rfl rfl (eval_of_get e1) (bs b) (slab_whole _) _ Tryd.underlying107 rfl (by rw [size_bs, HL.out]; exact size_b4) (hK _ _ ⟨Same.refl _, rfl⟩)
          refine allp_mild 0 rfl rfl rfl (fun a x W hout hin hP => ?_) ?_
          · have e19 := hin.is 1 19 (by kernel_rfl) (by decide) (by kernel_rfl) (by kernel_rfl) _ rfl
            have e20 := hin.is 2 20 (by kernel_rfl) (by decide) (by kernel_rfl) (by kernel_rfl) _ rfl
            have q := HQ.out W
            rw [HPD.out] at q
            clear hP
            clear hin hout
            intro K0 Q hK
            go_simp
            exact hK _ _ ⟨Same.refl _, rfl⟩
          refine allp_mild 0 rfl rfl rfl (fun a x W hout hin hP => ?_) ?_
          · have e21 := hin.is 3 21 (by kernel_rfl) (by decide) (by kernel_rfl) (by kernel_rfl) _ rfl
            exact does_move rfl e21 ⟨Same.refl _, rfl⟩
          refine allp_skip rfl rfl (fun _ => rfl) ?_
          refine allp_skip rfl rfl (fun _ => rfl) ?_
          refine allp_skip rfl rfl (fun _ => rfl) ?_
          refine allp_skip rfl rfl (fun _ => rfl) ?_
          refine allp_skip rfl rfl (fun _ => rfl) ?_
          refine allp_skip rfl rfl (fun _ => rfl) ?_
          refine allp_skip rfl rfl (fun _ => rfl) ?_
          refine allp_skip rfl rfl (fun _ => rfl) ?_
          refine allp_mild 0 rfl rfl rfl (fun a x W hout hin hP => ?_) ?_
          · have e22 := hin.is 4 22 (by kernel_rfl) (by decide) (by kernel_rfl) (by kernel_rfl) _ rfl
            have e30 := hin.is 12 30 (by kernel_rfl) (by decide) (by kernel_rfl) (by kernel_rfl) _ rfl
            exact does_pick rfl e22 ⟨Same.refl _, rfl⟩
          exact all_end (by decide)
        · intro x W hP hV
          have h31 : x 13 = .bool true := hV 13 (by decide) (.inl (by kernel_rfl))
          have HS : St w noF [⟨g1, 107, bs b⟩, ⟨g2, 116, nmC [] false⟩] W := hP
          clear hV hP
          simp only [putL, Act.put, List.setIfInBounds_toArray, List.set_cons_succ, List.set_cons_zero, h31]
          refine wpAnyH_done (by kernel_rfl) ?_ _
          clear h31
          go_wp2_with (first | ((with_reducible refine wpList_plain ?_ ?_); exact rfl; intro KK hKK; refine wp_st_store HS 1 0 116 (.tmp 2) (.tmp 32) rfl rfl rfl (.agg (nmC [] false)) rfl (size_nm) (Nat.le_of_eq rfl) (one_nm _ _) (nmC [] false) (spl_agg _ _ _ rfl rfl) (fun W11 HSx => hKK _ _ ?_); clear hKK KK HS; have HS : St w noF [⟨g1, 107, bs b⟩, ⟨g2, 116, nmC [] false⟩] W11 := HSx; clear HSx))
          exact bodyPost_ret (v := .agg (nmC [] false)) (results_cell_row Tryd.results58 _ _ g2 116 (nmC [] false) (0, 0) _ rfl (HS.row 1 rfl) Tryd.underlying116 rfl size_nm) rfl ⟨by rw [HE.out], HS.below⟩
      case pos =>
      have HPD := Lib.hid (decide_eq_true hp)
      clear hp
      by_cases h0 : k = 0
      · exact absurd h0 (by omega)
      · have hdk : decide ((0 : Int) < (k : Int)) = true := decide_eq_true (by omega)
        have hkk : 0 < k := by omega
        have ht0 : ¬ t = [] := fun h => h0 (by rw [← HTL.out, h]; rfl)
        cases hg : goodN t with
        | true =>
          have HG := Lib.hid hg
          have HE : Hid (cutR b = (t, true)) := Lib.hid (by rw [HR.out, HPD.out, hg, Bool.or_true]; rfl)
          clear HS ht0 hg
          refine wp_region_phs [is (.string (strB t)), is ((.agg (bs (padN t)))), is (.agg (bs b)), is (.bool false), is (.bool false), is (.int .i64 k), is (.bool true), is (.bool true), is (.string (strB t)), (fun v W => Strs W v [t]), is (.bool true), is (.bool false), is (.bool false), is (.bool false)] [true, true, true, true, true, true, true, true, true, false, true, true, true, true] [(fun W => St w noF [⟨g1, 107, bs b⟩, ⟨g2, 116, nmC [] false⟩] W)] [false, false, false, false, false, false, false, false, false, false, false, false, false, false] [some 0, some 0, some 0, some 0, some 0, some 0, some 0, some 0, some 0, some 0, some 0, some 0, some 0, some 0] [some 18, some 19, some 20, some 21, some 22, some 23, some 24, some 25, some 26, some 27, some 28, some 29, some 30, some 31] 14 0 (fun _ => true) rfl rfl (by kernel_rfl) (by kernel_rfl) (by kernel_rfl) (by kernel_rfl) ?_ ?_ ?_ ?_ ?_ ?_
          · repeat first | exact wok_nil | refine wok_cons (by first | exact fun _ _ h k => h.same k) ?_
          · repeat first | exact vok_nil | refine vok_rig (by first | exact fun _ _ _ h => h) ?_ | refine vok_soft (by first | exact fun _ _ _ h _ => h | exact fun _ _ _ h k => Strs.below h k (Nat.le_refl _)) ?_
          · exact hF0
          · repeat first | exact all_end (by decide) | refine all_cons (by first | exact rfl | exact ⟨rfl, fun _ _ h => Or.inl h⟩ | exact ⟨rfl, fun _ _ h => Or.inr ⟨h, rfl⟩⟩) ?_
          · refine allp_mild 0 rfl rfl rfl (fun a x W hout hin hP => ?_) ?_
            · have e4 : a.tmps[4]? = some (.string (strB t)) := (hout 4 (by kernel_rfl)).trans rfl
              exact does_move rfl e4 ⟨Same.refl _, rfl⟩
            refine allp_mild 0 rfl rfl rfl (fun a x W hout hin hP => ?_) ?_
            · have e18 := hin.is 0 18 (by kernel_rfl) (by decide) (by kernel_rfl) (by kernel_rfl) _ rfl
              have C := refpad_any t W HM.out
              clear hP
              clear hin hout
              intro K0 Q hK
              go_simp
              refine C.mono ?_
              rintro e W' ⟨rfl, hb⟩
              exact hK _ _ ⟨hb, rfl⟩
            refine allp_mild 0 rfl rfl rfl (fun a x W hout hin hP => ?_) ?_
            · have e1 : a.tmps[1]? = some (.pointer (some ⟨g1, 0, none⟩)) := (hout 1 (by kernel_rfl)).trans rfl
              clear hin hout
              intro K0 Q hK
              exact wp_st_load hP 0 0 107 (.tmp 1) rfl rfl (eval_of_get e1) (bs b) (slab_whole _) _ Tryd.underlying107 rfl (by rw [size_bs, HL.out]; exact size_b4) (hK _ _ ⟨Same.refl _, rfl⟩)
            refine allp_mild 0 rfl rfl rfl (fun a x W hout hin hP => ?_) ?_
            · have e19 := hin.is 1 19 (by kernel_rfl) (by decide) (by kernel_rfl) (by kernel_rfl) _ rfl
              have e20 := hin.is 2 20 (by kernel_rfl) (by decide) (by kernel_rfl) (by kernel_rfl) _ rfl
              have q := HQ.out W
              rw [HPD.out] at q
              clear hP
              clear hin hout
              intro K0 Q hK
              go_simp
              exact hK _ _ ⟨Same.refl _, rfl⟩
            refine allp_mild 0 rfl rfl rfl (fun a x W hout hin hP => ?_) ?_
            · have e21 := hin.is 3 21 (by kernel_rfl) (by decide) (by kernel_rfl) (by kernel_rfl) _ rfl
              exact does_move rfl e21 ⟨Same.refl _, rfl⟩
            refine allp_mild 0 rfl rfl rfl (fun a x W hout hin hP => ?_) ?_
            · have e3 : a.tmps[3]? = some (.int .i64 k) := (hout 3 (by kernel_rfl)).trans rfl
              exact does_move rfl e3 ⟨Same.refl _, rfl⟩
            refine allp_mild 0 rfl rfl rfl (fun a x W hout hin hP => ?_) ?_
            · have e23 := hin.is 5 23 (by kernel_rfl) (by decide) (by kernel_rfl) (by kernel_rfl) _ rfl
              clear hin hout
              intro K Q hK
              go_simp
              exact hK _ _ ⟨Same.refl _, rfl⟩
            refine allp_mild 0 rfl rfl rfl (fun a x W hout hin hP => ?_) ?_
            · have e24 := hin.is 6 24 (by kernel_rfl) (by decide) (by kernel_rfl) (by kernel_rfl) _ rfl
              exact does_move rfl e24 ⟨Same.refl _, rfl⟩
            refine allp_mild 0 rfl rfl rfl (fun a x W hout hin hP => ?_) ?_
            · have e4 : a.tmps[4]? = some (.string (strB t)) := (hout 4 (by kernel_rfl)).trans rfl
              exact does_move rfl e4 ⟨Same.refl _, rfl⟩
            refine allp_mild 0 rfl rfl rfl (fun a x W hout hin hP => ?_) ?_
            · have e26 := hin.is 8 26 (by kernel_rfl) (by decide) (by kernel_rfl) (by kernel_rfl) _ rfl
              clear hP
              clear hin hout
              intro K0 Q hK
              go_simp
              exact hK _ _ ⟨Same.alloc _ _, strs1 W t HM.out 9⟩
            refine allp_mild 0 rfl rfl rfl (fun a x W hout hin hP => ?_) ?_
            · obtain ⟨v27, e27, hv27⟩ := hin.get 9 27 (by kernel_rfl) (by decide) (by kernel_rfl) (.inr ⟨rfl, by kernel_rfl⟩)
              have C := (show goodNs [t] = true by unfold goodNs; simp [HG.out]) ▸ refgoodn_any [t] _ W hv27 (by unfold maxLen; simp)
              clear hP
              clear hin hout
              intro K0 Q hK
              go_simp
              refine C.mono ?_
              rintro e W' ⟨rfl, rfl⟩
              exact hK _ _ ⟨Same.refl _, rfl⟩
            refine allp_mild 0 rfl rfl rfl (fun a x W hout hin hP => ?_) ?_
            · have e28 := hin.is 10 28 (by kernel_rfl) (by decide) (by kernel_rfl) (by kernel_rfl) _ rfl
              exact does_not rfl e28 ⟨Same.refl _, rfl⟩
            refine allp_mild 0 rfl rfl rfl (fun a x W hout hin hP => ?_) ?_
            · have e25 := hin.is 7 25 (by kernel_rfl) (by decide) (by kernel_rfl) (by kernel_rfl) _ rfl
              have e29 := hin.is 11 29 (by kernel_rfl) (by decide) (by kernel_rfl) (by kernel_rfl) _ rfl
              exact does_pick rfl e25 ⟨Same.refl _, eval_of_get e29⟩
            refine allp_mild 0 rfl rfl rfl (fun a x W hout hin hP => ?_) ?_
            · have e22 := hin.is 4 22 (by kernel_rfl) (by decide) (by kernel_rfl) (by kernel_rfl) _ rfl
              have e30 := hin.is 12 30 (by kernel_rfl) (by decide) (by kernel_rfl) (by kernel_rfl) _ rfl
              exact does_pick rfl e22 ⟨Same.refl _, eval_of_get e30⟩
            exact all_end (by decide)
          · intro x W hP hV
            have h31 : x 13 = .bool false := hV 13 (by decide) (.inl (by kernel_rfl))
            have HS : St w noF [⟨g1, 107, bs b⟩, ⟨g2, 116, nmC [] false⟩] W := hP
            clear hV hP
            simp only [putL, Act.put, List.setIfInBounds_toArray, List.set_cons_succ, List.set_cons_zero, h31]
            refine wpAnyH_done (by kernel_rfl) ?_ _
            clear h31
            go_wp2_with (first | ((with_reducible refine wpList_plain ?_ ?_); exact rfl; intro KK hKK; refine wp_st_store HS 1 0 116 (.tmp 2) (.tmp 34) rfl rfl rfl (.agg (nmC t true)) rfl (size_nm) (Nat.le_of_eq rfl) (one_nm _ _) (nmC t true) (spl_agg _ _ _ rfl rfl) (fun W11 HSx => hKK _ _ ?_); clear hKK KK HS; have HS : St w noF [⟨g1, 107, bs b⟩, ⟨g2, 116, nmC t true⟩] W11 := HSx; clear HSx))
            exact bodyPost_ret (v := .agg (nmC t true)) (results_cell_row Tryd.results58 _ _ g2 116 (nmC t true) (0, 0) _ rfl (HS.row 1 rfl) Tryd.underlying116 rfl size_nm) rfl ⟨by rw [HE.out], HS.below⟩
        | false =>
          have HG := Lib.hid hg
          have HE : Hid (cutR b = ([], false)) := Lib.hid (by rw [HR.out, HPD.out, hg, decide_eq_false ht0]; rfl)
          clear HS ht0 hg
          refine wp_region_phs [is (.string (strB t)), is ((.agg (bs (padN t)))), is (.agg (bs b)), is (.bool false), is (.bool false), is (.int .i64 k), is (.bool true), is (.bool true), is (.string (strB t)), (fun v W => Strs W v [t]), is (.bool false), is (.bool true), is (.bool true), is (.bool true)] [true, true, true, true, true, true, true, true, true, false, true, true, true, true] [(fun W => St w noF [⟨g1, 107, bs b⟩, ⟨g2, 116, nmC [] false⟩] W)] [false, false, false, false, false, false, false, false, false, false, false, false, false, false] [some 0, some 0, some 0, some 0, some 0, some 0, some 0, some 0, some 0, some 0, some 0, some 0, some 0, some 0] [some 18, some 19, some 20, some 21, some 22, some 23, some 24, some 25, some 26, some 27, some 28, some 29, some 30, some 31] 14 0 (fun _ => true) rfl rfl (by kernel_rfl) (by kernel_rfl) (by kernel_rfl) (by kernel_rfl) ?_ ?_ ?_ ?_ ?_ ?_
          · repeat first | exact wok_nil | refine wok_cons (by first | exact fun _ _ h k => h.same k) ?_
          · repeat first | exact vok_nil | refine vok_rig (by first | exact fun _ _ _ h => h) ?_ | refine vok_soft (by first | exact fun _ _ _ h _ => h | exact fun _ _ _ h k => Strs.below h k (Nat.le_refl _)) ?_
          · exact hF0
          · repeat first | exact all_end (by decide) | refine all_cons (by first | exact rfl | exact ⟨rfl, fun _ _ h => Or.inl h⟩ | exact ⟨rfl, fun _ _ h => Or.inr ⟨h, rfl⟩⟩) ?_
          · refine allp_mild 0 rfl rfl rfl (fun a x W hout hin hP => ?_) ?_
            · have e4 : a.tmps[4]? = some (.string (strB t)) := (hout 4 (by kernel_rfl)).trans rfl
              exact does_move rfl e4 ⟨Same.refl _, rfl⟩
            refine allp_mild 0 rfl rfl rfl (fun a x W hout hin hP => ?_) ?_
            · have e18 := hin.is 0 18 (by kernel_rfl) (by decide) (by kernel_rfl) (by kernel_rfl) _ rfl
              have C := refpad_any t W HM.out
              clear hP
              clear hin hout
              intro K0 Q hK
              go_simp
              refine C.mono ?_
              rintro e W' ⟨rfl, hb⟩
              exact hK _ _ ⟨hb, rfl⟩
            refine allp_mild 0 rfl rfl rfl (fun a x W hout hin hP => ?_) ?_
            · have e1 : a.tmps[1]? = some (.pointer (some ⟨g1, 0, none⟩)) := (hout 1 (by kernel_rfl)).trans rfl
              clear hin hout
              intro K0 Q hK
              exact wp_st_load hP 0 0 107 (.tmp 1) rfl rfl (eval_of_get e1) (bs b) (slab_whole _) _ Tryd.underlying107 rfl (by rw [size_bs, HL.out]; exact size_b4) (hK _ _ ⟨Same.refl _, rfl⟩)
            refine allp_mild 0 rfl rfl rfl (fun a x W hout hin hP => ?_) ?_
            · have e19 := hin.is 1 19 (by kernel_rfl) (by decide) (by kernel_rfl) (by kernel_rfl) _ rfl
              have e20 := hin.is 2 20 (by kernel_rfl) (by decide) (by kernel_rfl) (by kernel_rfl) _ rfl
              have q := HQ.out W
              rw [HPD.out] at q
              clear hP
              clear hin hout
              intro K0 Q hK
              go_simp
              exact hK _ _ ⟨Same.refl _, rfl⟩
            refine allp_mild 0 rfl rfl rfl (fun a x W hout hin hP => ?_) ?_
            · have e21 := hin.is 3 21 (by kernel_rfl) (by decide) (by kernel_rfl) (by kernel_rfl) _ rfl
              exact does_move rfl e21 ⟨Same.refl _, rfl⟩
            refine allp_mild 0 rfl rfl rfl (fun a x W hout hin hP => ?_) ?_
            · have e3 : a.tmps[3]? = some (.int .i64 k) := (hout 3 (by kernel_rfl)).trans rfl
              exact does_move rfl e3 ⟨Same.refl _, rfl⟩
            refine allp_mild 0 rfl rfl rfl (fun a x W hout hin hP => ?_) ?_
            · have e23 := hin.is 5 23 (by kernel_rfl) (by decide) (by kernel_rfl) (by kernel_rfl) _ rfl
              clear hin hout
              intro K Q hK
              go_simp
              exact hK _ _ ⟨Same.refl _, rfl⟩
            refine allp_mild 0 rfl rfl rfl (fun a x W hout hin hP => ?_) ?_
            · have e24 := hin.is 6 24 (by kernel_rfl) (by decide) (by kernel_rfl) (by kernel_rfl) _ rfl
              exact does_move rfl e24 ⟨Same.refl _, rfl⟩
            refine allp_mild 0 rfl rfl rfl (fun a x W hout hin hP => ?_) ?_
            · have e4 : a.tmps[4]? = some (.string (strB t)) := (hout 4 (by kernel_rfl)).trans rfl
              exact does_move rfl e4 ⟨Same.refl _, rfl⟩
            refine allp_mild 0 rfl rfl rfl (fun a x W hout hin hP => ?_) ?_
            · have e26 := hin.is 8 26 (by kernel_rfl) (by decide) (by kernel_rfl) (by kernel_rfl) _ rfl
              clear hP
              clear hin hout
              intro K0 Q hK
              go_simp
              exact hK _ _ ⟨Same.alloc _ _, strs1 W t HM.out 9⟩
            refine allp_mild 0 rfl rfl rfl (fun a x W hout hin hP => ?_) ?_
            · obtain ⟨v27, e27, hv27⟩ := hin.get 9 27 (by kernel_rfl) (by decide) (by kernel_rfl) (.inr ⟨rfl, by kernel_rfl⟩)
              have C := (show goodNs [t] = false by unfold goodNs; simp [HG.out]) ▸ refgoodn_any [t] _ W hv27 (by unfold maxLen; simp)
              clear hP
              clear hin hout
              intro K0 Q hK
              go_simp
              refine C.mono ?_
              rintro e W' ⟨rfl, rfl⟩
              exact hK _ _ ⟨Same.refl _, rfl⟩
            refine allp_mild 0 rfl rfl rfl (fun a x W hout hin hP => ?_) ?_
            · have e28 := hin.is 10 28 (by kernel_rfl) (by decide) (by kernel_rfl) (by kernel_rfl) _ rfl
              exact does_not rfl e28 ⟨Same.refl _, rfl⟩
            refine allp_mild 0 rfl rfl rfl (fun a x W hout hin hP => ?_) ?_
            · have e25 := hin.is 7 25 (by kernel_rfl) (by decide) (by kernel_rfl) (by kernel_rfl) _ rfl
              have e29 := hin.is 11 29 (by kernel_rfl) (by decide) (by kernel_rfl) (by kernel_rfl) _ rfl
              exact does_pick rfl e25 ⟨Same.refl _, eval_of_get e29⟩
            refine allp_mild 0 rfl rfl rfl (fun a x W hout hin hP => ?_) ?_
            · have e22 := hin.is 4 22 (by kernel_rfl) (by decide) (by kernel_rfl) (by kernel_rfl) _ rfl
              have e30 := hin.is 12 30 (by kernel_rfl) (by decide) (by kernel_rfl) (by kernel_rfl) _ rfl
              exact does_pick rfl e22 ⟨Same.refl _, eval_of_get e30⟩
            exact all_end (by decide)
          · intro x W hP hV
            have h31 : x 13 = .bool true := hV 13 (by decide) (.inl (by kernel_rfl))
            have HS : St w noF [⟨g1, 107, bs b⟩, ⟨g2, 116, nmC [] false⟩] W := hP
            clear hV hP
            simp only [putL, Act.put, List.setIfInBounds_toArray, List.set_cons_succ, List.set_cons_zero, h31]
            refine wpAnyH_done (by kernel_rfl) ?_ _
            clear h31
            go_wp2_with (first | ((with_reducible refine wpList_plain ?_ ?_); exact rfl; intro KK hKK; refine wp_st_store HS 1 0 116 (.tmp 2) (.tmp 32) rfl rfl rfl (.agg (nmC [] false)) rfl (size_nm) (Nat.le_of_eq rfl) (one_nm _ _) (nmC [] false) (spl_agg _ _ _ rfl rfl) (fun W11 HSx => hKK _ _ ?_); clear hKK KK HS; have HS : St w noF [⟨g1, 107, bs b⟩, ⟨g2, 116, nmC [] false⟩] W11 := HSx; clear HSx))
            exact bodyPost_ret (v := .agg (nmC [] false)) (results_cell_row Tryd.results58 _ _ g2 116 (nmC [] false) (0, 0) _ rfl (HS.row 1 rfl) Tryd.underlying116 rfl size_nm) rfl ⟨by rw [HE.out], HS.below⟩
end Go.Proofs.YtnmaplgodimohaaDoor
