/- Literals of bytes in a region that is walked by what each operation yields; strings of bytes compared. -/
import Derived.Test.YtnfceejmkcohnaaDoorDoes
import Derived.Test.YtnfceejmkcohnaaDoorPartL
import Derived.Test.YtnfceejmkcohnaaDoorKeep
namespace Go.Proofs.YtnfceejmkcohnaaDoor
open Go Go.RowKit
theorem run_conv_lit (w : World) (g n c : Nat) (C : Array Value) (fr : Nat × Nat) (hg : w.heap[g]? = some (.cells C 5 fr)) :
    ∃ w', (convert 22 22 (.slice (some ⟨g, 0, none⟩) n c)).run Tryd.prog w = .ok (.slice (some ⟨g, 0, none⟩) n c) w' ∧ ∀ B, B ≤ g → Keeps B w w' := by
  have hsh : w.shape? g = some (5, C.size) := by unfold World.shape?; rw [hg]
  refine ⟨w.freeze ⟨g, C.size, none⟩ 1, by simp [convert, run_underlying Tryd.underlying22, run_underlying Tryd.underlying5, markStringish, hsh], fun B hB => ⟨⟨rfl, rfl, rfl, by simp [World.freeze], fun k hk => ?_⟩, fun k cs t fr' hk => ?_⟩⟩
  · simp only [World.freeze, if_neg (show ¬ (1 = 0) by decide), Array.getElem?_modify]
    rw [if_neg (by omega)]
  · simp only [World.freeze, if_neg (show ¬ (1 = 0) by decide), Array.getElem?_modify]
    by_cases hkg : g = k
    · subst hkg
      rw [if_pos rfl, hk]
      exact ⟨_, rfl⟩
    · rw [if_neg hkg]; exact ⟨fr', hk⟩
section
variable {o : Oper} {a : Act} {w : World} {R : Value → World → Prop}
theorem does_conv {B t : Nat} {v : Value} {q : List (BitVec 8)} (ho : o.op = .convert 22 22 (.tmp t)) (ht : a.tmps[t]? = some v) (hv : lit B q v w) (h : ∀ w', Keeps B w w' → lit B q v w' → R v w') : Does Tryd.prog o a w R := by
  obtain ⟨g, fr, rfl, hB, hg⟩ := hv
  obtain ⟨w', hr, hk⟩ := run_conv_lit w g q.length q.length _ fr hg
  obtain ⟨fr', h'⟩ := (hk B hB).rows _ _ _ _ hg
  refine does_run (w' := w') (v := .slice (some ⟨g, 0, none⟩) q.length q.length) ?_ (h w' (hk B hB) ⟨g, fr', rfl, hB, h'⟩)
  simp only [execOp, ho, eval_of_get ht, Sem.run_bind, hr, Result.andThen_ok, Sem.run_pure]
end
theorem lit_new {B : Nat} (w : World) (q : List (BitVec 8)) (hB : B ≤ w.heap.size) : lit B q (.slice (some ⟨w.heap.size, 0, none⟩) q.length q.length) (w.alloc (.cells (bs q) 5)) := ⟨_, _, rfl, hB, heap_alloc_new w _⟩
theorem str_inj {p q : List (BitVec 8)} (h1 : (str p).data.toList = (str q).data.toList) : p = q := by
  unfold str at h1
  rw [strOfNums_data, strOfNums_data, List.map_map, List.map_map] at h1
  refine (List.map_inj_right ?_).1 h1
  intro x y hxy
  simp only [Function.comp] at hxy
  have hx := bd_lo x; have hx' := bd_hi x; have hy := bd_lo y; have hy' := bd_hi y
  apply bd_inj
  have h2 := congrArg UInt8.toNat hxy
  simp only [UInt8.toNat_ofNat'] at h2
  omega
theorem keepb_any (a b : Value) (p q : List (BitVec 8)) (w : World) (ha : Slice w a p) (hb : Slice w b q) :
    Calls Tryd.prog 13 #[a, b] w fun e w' => e = .returned (.bool (decide (p = q))) ∧ w = w' := by
  have e1 := conv_str ha
  have e2 := conv_str hb
  have HE : Hid (((str p).toList == (str q).toList) = decide (p = q)) := Lib.hid (by
    rw [ByteArray.toList_eq, ByteArray.toList_eq]
    by_cases h : p = q
    · subst h; rw [decide_eq_true rfl]; exact beq_self_eq_true _
    · rw [decide_eq_false h]
      exact beq_eq_false_iff_ne.2 fun e => h (str_inj e))
  clear ha hb
  generalize str p = s at *
  generalize str q = t at *
  go_enter Tryd.func13, Tryd.ntmps13
  go_wp2
  go_ret
  exact ⟨congrArg (fun b => Ending.returned (.bool b)) HE.out, rfl⟩
end Go.Proofs.YtnfceejmkcohnaaDoor
