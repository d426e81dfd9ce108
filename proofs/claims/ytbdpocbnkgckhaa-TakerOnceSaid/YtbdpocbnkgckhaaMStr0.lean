/- Merged: Str EqualS. -/
import Derived.Laws.BytesArg
import Derived.Laws.IdiomStrings
import Derived.Laws.Concat
import Derived.Laws.Strings3
import Derived.Shelf.Bytes.SlSmallAll
import Derived.Test.YtbdpocbnkgckhaaMGen0
/- Texts: a byte of one, a part of one, two joined, compared, turned into bytes, copied. No function of the program is named here. -/
set_option maxRecDepth 4000
namespace Go.Proofs.Ytbdpocbnkgckhaa
open Go Go.RowKit
def strB (q : List (BitVec 8)) : ByteArray := strOfNums (q.map bd)
theorem ofNat_bd (x : BitVec 8) : UInt8.ofNat (bd x).toNat = UInt8.ofBitVec x := by
  apply UInt8.toBitVec_inj.1
  apply BitVec.eq_of_toNat_eq
  simp [bd]
theorem strB_data (q : List (BitVec 8)) : (strB q).data = (q.map UInt8.ofBitVec).toArray := by
  apply Array.ext'
  rw [strB, strOfNums_data, List.map_map]
  have e : ((fun n : Int => UInt8.ofNat n.toNat) ∘ bd) = UInt8.ofBitVec := funext ofNat_bd
  rw [e]
theorem strB_inj {p q : List (BitVec 8)} (h : strB p = strB q) : p = q := by
  have h1 := congrArg (fun s : ByteArray => s.data.toList) h
  simp only [strB_data] at h1
  have h2 := congrArg (List.map UInt8.toBitVec) h1
  simpa [List.map_map, Function.comp_def] using h2
/- string(b) -/
theorem conv_bytes {w : World} {v : Value} {q : List (BitVec 8)} (h : Slice w v q) (dst : TypeId) (hd : Try.prog.underlying dst = some .string) : (convert 23 dst v).run Try.prog w = .ok (.string (strB q)) w := by
  obtain ⟨A, c, rfl, _, h3⟩ := h
  by_cases hq : q = []
  · subst hq
    have := run_convert_bytes_zero (P := Try.prog) w 23 5 Try.underlying23 Try.underlying5 A c dst hd
    exact this
  · obtain ⟨b, o, rfl, _, h6⟩ := h3 hq
    refine run_convert_bytes_arg (P := Try.prog) w 23 5 Try.underlying23 Try.underlying5 b o q.length c (q.map bd) (by simp) (fun i hi => ?_) dst hd
    rw [h6 i q[i] (List.getElem?_eq_getElem hi)]
    simp [List.getD_eq_getElem?_getD, hi]
/- a slice of texts -/
def Strs (w : World) (v : Value) (l : List (List (BitVec 8))) : Prop :=
  ∃ A c, v = .slice A l.length c ∧ l.length ≤ c ∧ (A = none → c = 0) ∧ (∀ q ∈ l, q.length ≤ maxLen) ∧ (l ≠ [] → ∃ b o, A = some ⟨b, o, none⟩ ∧ b < w.heap.size ∧ ∀ k q, l[k]? = some q → w.cell? ⟨b, o + k, none⟩ = some (.string (strB q)))
theorem Strs.below {w w' : World} {B : Nat} {v : Value} {l : List (List (BitVec 8))} (h : Strs w v l) (hb : Below B w w') (hB : w.heap.size ≤ B) : Strs w' v l := by
  obtain ⟨A, c, h1, h2, hn, hm, h3⟩ := h
  refine ⟨A, c, h1, h2, hn, hm, fun hne => ?_⟩
  obtain ⟨b, o, h4, h5, h6⟩ := h3 hne
  exact ⟨b, o, h4, Nat.lt_of_lt_of_le h5 hb.size, fun k q hx => (hb.cell (p := ⟨b, o + k, none⟩) (Nat.lt_of_lt_of_le h5 hB)).trans (h6 k q hx)⟩
end Go.Proofs.Ytbdpocbnkgckhaa

/- bytes.Equal, over texts (XStr). -/
set_option maxRecDepth 4000
namespace Go.Proofs.Ytbdpocbnkgckhaa
open Go Go.RowKit
set_option maxHeartbeats 400000 in
theorem equal_any (p q : List (BitVec 8)) (v u : Value) (w : World) (hp : Slice w v p) (hq : Slice w u q) :
    Calls Try.prog 36 #[v, u] w fun e w' => e = .returned (.bool (decide (p = q))) ∧ w = w' := by
  have h1 := conv_bytes hp 9 Try.underlying9
  have h2 := conv_bytes hq 9 Try.underlying9
  have hd : ((strB p).toList == (strB q).toList) = decide (p = q) := by
    rw [ByteArray.toList_eq, ByteArray.toList_eq]
    by_cases h : p = q
    · subst h; rw [decide_eq_true rfl]; exact beq_self_eq_true _
    · rw [decide_eq_false h]
      refine beq_eq_false_iff_ne.2 fun e => h (strB_inj ?_)
      have e2 : (strB p).data = (strB q).data := Array.toList_inj.1 e
      generalize strB p = a at *
      generalize strB q = b at *
      cases a; cases b; simp only at e2; rw [e2]
  generalize strB p = a at *
  generalize strB q = b at *
  clear hp hq
  go_enter Try.func36, Try.ntmps36
  go_wp2_with fail
  go_ret
  exact ⟨rfl, rfl⟩
end Go.Proofs.Ytbdpocbnkgckhaa
