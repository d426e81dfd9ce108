/- Bytes as a text; two slices of bytes compared as texts. -/
import Derived.Test.YtamofhjnpahamaaSl
import Derived.Laws.BytesArg
import Derived.Shelf.Bytes.SlSmallAll
set_option maxRecDepth 4000
namespace Go.Proofs.Ytamofhjnpahamaa
open Go Go.RowKit
def strB (q : List (BitVec 8)) : ByteArray := strOfNums (q.map bd)
theorem strB_size (q : List (BitVec 8)) : (strB q).size = q.length := by unfold strB; rw [strOfNums_size, List.length_map]
theorem ofNat_bd (x : BitVec 8) : UInt8.ofNat (bd x).toNat = UInt8.ofBitVec x := by
  apply UInt8.toBitVec_inj.1
  apply BitVec.eq_of_toNat_eq
  simp [bd]
theorem strB_inj {p q : List (BitVec 8)} (h : strB p = strB q) : p = q := by
  have h1 := congrArg (fun s : ByteArray => s.data.toList) h
  simp only [strB, strOfNums_data, List.map_map] at h1
  have e : ((fun n : Int => UInt8.ofNat n.toNat) ∘ bd) = UInt8.ofBitVec := funext ofNat_bd
  rw [e] at h1
  have h2 := congrArg (List.map UInt8.toBitVec) h1
  simpa [List.map_map, Function.comp_def] using h2
theorem ba_loop (s : ByteArray) : ∀ (n i : Nat) (r : List UInt8), s.size - i = n → i ≤ s.size → ByteArray.toList.loop s i r = r.reverse ++ s.data.toList.drop i
  | 0, i, r, hn, hi => by
    rw [ByteArray.toList.loop]
    have hs : s.size = s.data.toList.length := rfl
    rw [if_neg (by omega), List.drop_of_length_le (by omega), List.append_nil]
  | n + 1, i, r, hn, hi => by
    rw [ByteArray.toList.loop]
    have hs : s.size = s.data.toList.length := rfl
    have hlt : i < s.size := by omega
    rw [if_pos hlt, ba_loop s n (i + 1) _ (by omega) (by omega), List.reverse_cons, List.append_assoc]
    congr 1
    have hl2 : i < s.data.toList.length := by rw [← hs]; exact hlt
    rw [List.drop_eq_getElem_cons hl2]
    show s.get! i :: _ = _
    congr 1
    show s.data[i]! = _
    rw [getElem!_pos s.data i (by simpa using hlt)]
    simp
theorem ba_toList (s : ByteArray) : s.toList = s.data.toList := by
  unfold ByteArray.toList
  rw [ba_loop s s.size 0 [] rfl (Nat.zero_le _)]
  rfl
theorem conv_bytes {w : World} {v : Value} {q : List (BitVec 8)} (h : Slice w v q) (dst : TypeId) (hd : Try.prog.underlying dst = some .string) : (convert 23 dst v).run Try.prog w = .ok (.string (strB q)) w := by
  obtain ⟨A, c, rfl, _, h3⟩ := h
  by_cases hq : q = []
  · subst hq
    have := run_convert_bytes_zero (P := Try.prog) w 23 5 Try.underlying23 Try.underlying5 A c dst hd
    exact this
  · obtain ⟨b, o, rfl, _, h6⟩ := h3 hq
    refine run_convert_bytes_arg (P := Try.prog) w 23 5 Try.underlying23 Try.underlying5 b o q.length c (q.map bd) (by simp) (fun i hi => ?_) dst hd
    rw [h6 i q[i] (List.getElem?_eq_getElem hi)]
    simp [List.getD_eq_getElem?_getD, hi]
set_option maxHeartbeats 400000 in
theorem keepbytes_any (p q : List (BitVec 8)) (v u : Value) (w : World) (hp : Slice w v p) (hq : Slice w u q) :
    Calls Try.prog 12 #[v, u] w fun e w' => e = .returned (.bool (decide (p = q))) ∧ w = w' := by
  have h1 := conv_bytes hp 9 Try.underlying9
  have h2 := conv_bytes hq 9 Try.underlying9
  have hd : ((strB p).toList == (strB q).toList) = decide (p = q) := by
    rw [ba_toList, ba_toList]
    by_cases h : p = q
    · subst h; rw [decide_eq_true rfl]; exact beq_self_eq_true _
    · rw [decide_eq_false h]
      refine beq_eq_false_iff_ne.2 fun e => h (strB_inj ?_)
      have e2 : (strB p).data = (strB q).data := Array.toList_inj.1 e
      generalize strB p = a at *
      generalize strB q = b at *
      cases a; cases b; simp only at e2; rw [e2]
  generalize strB p = a at *
  generalize strB q = b at *
  clear hp hq
  go_enter Try.func12, Try.ntmps12
  go_wp2_with fail
  go_ret
  exact ⟨rfl, rfl⟩
end Go.Proofs.Ytamofhjnpahamaa
