/- bytes.Clone of a slice that is not nil: a copy of its own; bytes.Equal. -/
import Derived.Test.YtamofhjnpahamaaStMore
import Derived.Test.YtamofhjnpahamaaStrB
import Derived.Lib.SliceRun
set_option maxRecDepth 4000
namespace Go.Proofs.Ytamofhjnpahamaa
open Go Go.RowKit
set_option maxHeartbeats 400000 in
theorem clone_any (A : Addr) (n c : Nat) (q : List (BitVec 8)) (hq : q.length = n) (w : World) (hs : Slice w (.slice (some A) n c) q) (hn : n ≤ 1000000000) :
    Calls Try.prog 26 #[.slice (some A) n c] w fun x w' => ∃ v, x = .returned v ∧ w'.ownsRow w.heap.size 5 1 v n (bytesV q) ∧ Below w.heap.size w w' := by
  have HS := Lib.hid (hs.below ((Below.refl w.heap.size w).alloc (Nat.le_refl _) (.cells #[] 5)) (Nat.le_refl _))
  have HE := Lib.hid (own_empty w)
  have HB := Lib.hid ((Below.refl w.heap.size w).alloc (Nat.le_refl _) (.cells #[] 5))
  have HN := Lib.hid hn
  have HQ := Lib.hid hq
  clear hs hn hq
  have hz : (binOp .eql 23 (.slice (some A) n c) (.slice none 0 0)).run Try.prog w = .ok (.bool false) w := Lib.run_eql_slice_nil w _ _ (some A) n c 0 0 Try.underlying23
  go_enter Try.func26, Try.ntmps26
  go_wp2_with (at_builtin; refine wpList_append_slice rfl (.tmp 5) (.tmp 6) rfl w.heap.size _ 0 [] rfl HE.out (some A) n c q rfl (by have h := HS.out; exact h) (fun h => by cases h) (by have := HN.out; have := HQ.out; omega) (by have := HB.out.size; exact this) ?_; intro kv w4 own1 hb4; simp only [Nat.zero_add, List.nil_append] at own1; have HO := Lib.hid own1; have HB4 := Lib.hid (HB.out.trans hb4); clear own1 hb4)
  go_ret
  exact ⟨_, rfl, HO.out, HB4.out⟩
set_option maxHeartbeats 400000 in
theorem equal_any (p q : List (BitVec 8)) (v u : Value) (w : World) (hp : Slice w v p) (hq : Slice w u q) :
    Calls Try.prog 27 #[v, u] w fun e w' => e = .returned (.bool (decide (p = q))) ∧ w = w' := by
  have h1 := conv_bytes hp 9 Try.underlying9
  have h2 := conv_bytes hq 9 Try.underlying9
  have hd : ((strB p).toList == (strB q).toList) = decide (p = q) := by
    rw [ba_toList, ba_toList]
    by_cases h : p = q
    · subst h; rw [decide_eq_true rfl]; exact beq_self_eq_true _
    · rw [decide_eq_false h]
      refine beq_eq_false_iff_ne.2 fun e => h (strB_inj ?_)
      have e2 : (strB p).data = (strB q).data := Array.toList_inj.1 e
      generalize strB p = a at *
      generalize strB q = b at *
      cases a; cases b; simp only at e2; rw [e2]
  generalize strB p = a at *
  generalize strB q = b at *
  clear hp hq
  go_enter Try.func27, Try.ntmps27
  go_wp2_with fail
  go_ret
  exact ⟨rfl, rfl⟩
end Go.Proofs.Ytamofhjnpahamaa
