/- What the rows' list says of the table of round words, and a world for the rows' witness in which the table lies as its initialiser lays it. -/
import Derived.Test.YtnfceejmkcohnaaDoorCards
import Derived.Test.YtnfceejmkcohnaaDoorTie
import Derived.Test.YtnfceejmkcohnaaDoorTurn
import Derived.WalkKit
import Derived.ProofKit
import Derived.OpenShut
import Derived.Deep.DeepHandedRow
import Derived.Lib.LaidTab
namespace Go.Proofs.YtnfceejmkcohnaaDoor
open Go Go.ChangeShapes Go.WideShapes Go.ChangeAt Go.RowKit
theorem ownK : ownKnob Tryd.prog.godebug = none := by kernel_rfl
theorem gTab : Tryd.prog.globalNamed "tollhouse/sha.roundWords" = some 0 := by kernel_rfl
theorem gTabType : (Tryd.prog.globals[0]?).map (·.type) = some 58 := by kernel_rfl
theorem cellsW : Tryd.prog.cellsOf 58 = 64 := by kernel_rfl
theorem cellsU : Tryd.prog.cellsOf 45 = 1 := by kernel_rfl
def laidOne : List (String × DataW Unit) := [("tollhouse/sha.roundWords", Rows.laid_tollhouse_sha_roundWords)]
theorem tab_of_laid {W : World} (h : laidMetH Tryd.prog laidOne W) : Tab W := by
  have hT : Lib.TabIs Tryd.prog W "tollhouse/sha.roundWords" .u32 (kk.map wd) := Lib.tabIs_of_head (rest := []) gTab gTabType Tryd.underlying58 Tryd.underlying45 cellsU cellsW h
  intro i hi
  have hc := hT.cell gTab i (by rw [List.length_map, length_kk]; exact hi)
  rw [hc]
  have hk : i < kk.length := by rw [length_kk]; exact hi
  simp [hk]
noncomputable def laidWorld (os : Os) : World :=
  { World.holding Tryd.prog os ⟨#[], #[], []⟩ with heap := (World.holding Tryd.prog os ⟨#[], #[], []⟩).heap.modify 0 fun
      | .cells _ t frozen => .cells (ws kk) t frozen
      | o => o }
end Go.Proofs.YtnfceejmkcohnaaDoor
