import Derived.Test.YteidjbbhhfdcpaaDoorSl
import Derived.Laws.BytesArg
set_option maxRecDepth 4000
namespace Go.Proofs.YteidjbbhhfdcpaaDoor
open Go Go.RowKit
def str (q : List (BitVec 8)) : ByteArray := strOfNums (q.map bd)
theorem keep_conv {w : World} {v : Value} {q : List (BitVec 8)} (h : Slice w v q) : (convert 29 9 v).run Tryd.prog w = .ok (.string (str q)) w := by
  obtain ⟨A, c, rfl, _, h3⟩ := h
  by_cases hq : q = []
  · subst hq
    cases A with
    | none => exact run_convert_bytes_nil w 29 5 Tryd.underlying29 Tryd.underlying5 0 c 9 Tryd.underlying9
    | some a =>
      have hl : (loadCells a 0).run Tryd.prog w = .ok ((([] : List Int).map (Value.int .u8)).toArray) w := run_loadCells_list (P := Tryd.prog) w a [] (fun j v hv => by simp at hv)
      exact (run_convert_bytes_string w 29 9 5 (some a) 0 c Tryd.underlying29 Tryd.underlying5 Tryd.underlying9).trans (run_bytesToString w a 0 c [] hl)
  · obtain ⟨b, o, rfl, _, hc⟩ := h3 hq
    refine run_convert_bytes_arg w 29 5 Tryd.underlying29 Tryd.underlying5 b o q.length c (q.map bd) (by simp) (fun i hi => ?_) 9 Tryd.underlying9
    rw [hc i q[i] (List.getElem?_eq_getElem hi)]
    simp [hi]
theorem keep_true (a b : Value) (q : List (BitVec 8)) (w : World) (ha : Slice w a q) (hb : Slice w b q) :
    Calls Tryd.prog 14 #[a, b] w fun e w' => e = .returned (.bool true) ∧ w = w' := by
  have e1 := keep_conv ha
  have e2 := keep_conv hb
  clear ha hb
  generalize str q = s at *
  go_enter Tryd.func14, Tryd.ntmps14
  go_wp2
  go_ret
  simp
end Go.Proofs.YteidjbbhhfdcpaaDoor
