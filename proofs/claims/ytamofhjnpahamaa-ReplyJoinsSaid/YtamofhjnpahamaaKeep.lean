import Derived.Test.YtamofhjnpahamaaSl
import Derived.Laws.BytesArg
set_option maxRecDepth 4000
namespace Go.Proofs.Ytamofhjnpahamaa
open Go Go.RowKit
def str (q : List (BitVec 8)) : ByteArray := strOfNums (q.map bd)
theorem keep_conv {w : World} {v : Value} {q : List (BitVec 8)} (h : Slice w v q) : (convert 23 9 v).run Try.prog w = .ok (.string (str q)) w := by
  obtain ⟨A, c, rfl, _, h3⟩ := h
  by_cases hq : q = []
  · subst hq
    cases A with
    | none => exact run_convert_bytes_nil w 23 5 Try.underlying23 Try.underlying5 0 c 9 Try.underlying9
    | some a =>
      have hl : (loadCells a 0).run Try.prog w = .ok ((([] : List Int).map (Value.int .u8)).toArray) w := run_loadCells_list (P := Try.prog) w a [] (fun j v hv => by simp at hv)
      exact (run_convert_bytes_string w 23 9 5 (some a) 0 c Try.underlying23 Try.underlying5 Try.underlying9).trans (run_bytesToString w a 0 c [] hl)
  · obtain ⟨b, o, rfl, _, hc⟩ := h3 hq
    refine run_convert_bytes_arg w 23 5 Try.underlying23 Try.underlying5 b o q.length c (q.map bd) (by simp) (fun i hi => ?_) 9 Try.underlying9
    rw [hc i q[i] (List.getElem?_eq_getElem hi)]
    simp [hi]
theorem keep_true (a b : Value) (q : List (BitVec 8)) (w : World) (ha : Slice w a q) (hb : Slice w b q) :
    Calls Try.prog 12 #[a, b] w fun e w' => e = .returned (.bool true) ∧ w = w' := by
  have e1 := keep_conv ha
  have e2 := keep_conv hb
  clear ha hb
  generalize str q = s at *
  go_enter Try.func12, Try.ntmps12
  go_wp2
  go_ret
  simp
end Go.Proofs.Ytamofhjnpahamaa
