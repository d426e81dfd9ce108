/- Merged: NLaid. -/
import Derived.Test.YtobklbfcnbmnmaaDoorCards
import Derived.Test.YtobklbfcnbmnmaaDoorTie
import Derived.WalkKit
import Derived.ProofKit
import Derived.OpenShut
import Derived.Deep.DeepHandedRow
import Derived.Lib.LaidTab
import Derived.Test.YtobklbfcnbmnmaaDoorMGen0
/- A world for the names' rows' witness, in which the two tables of runes lie as the program's text lays them; a slice of texts that comes in, opened. -/
set_option maxRecDepth 4000
namespace Go.Proofs.YtobklbfcnbmnmaaDoor
open Go Go.ChangeShapes Go.WideShapes Go.ChangeAt Go.RowKit
open Go.ChangeMaps (open_string)
def layFirst : Obj → Obj
  | .cells _ t frozen => .cells (Go.Pinned.utf8FirstZ.map fun (n : Nat) => Value.int .u8 (n : Int)).toArray t frozen
  | o => o
def layRanges : Obj → Obj
  | .cells _ t frozen => .cells (([128, 191, 160, 191, 128, 159, 144, 191, 128, 143, 0, 0, 0, 0, 0, 0, 0, 0, 0, 0, 0, 0, 0, 0, 0, 0, 0, 0, 0, 0, 0, 0] : List Nat).map fun (n : Nat) => Value.int .u8 (n : Int)).toArray t frozen
  | o => o
noncomputable def laidWorld (os : Os) : World :=
  { World.holding Tryd.prog os ⟨#[], #[], []⟩ with heap := ((World.holding Tryd.prog os ⟨#[], #[], []⟩).heap.modify 0 layFirst).modify 1 layRanges }
theorem opens_strs : Opens Tryd.prog 58 (rdSl 1 rdStr) := opens_sl Tryd.underlying58 (by kernel_rfl) (by decide) (opens_str Tryd.underlying9)
theorem open_names {H : Type} {enc : TypeId × Value → H} {W : World} {r : Reach} {base : Nat} {v : Value} {d : DataW H} {ps : List MemPlace} (hval : Value.okWide Tryd.prog W r base 58 v)
    (hT : DataW.Trod enc Tryd.prog W 0 (fun _ => true) true 58 v d ps) (hlt : ∀ y ∈ ps, y.block < W.heap.size) : ∃ L : List (List (BitVec 8)), Strs W v L ∧ L.length ≤ maxLen := by
  obtain ⟨A, c, l, rfl, A', c', h1, h2, h3, h4, h5⟩ := open_argSl Tryd.underlying58 opens_strs hval hT hlt
  injection h1 with h1 _
  injection h1 with h1 _ h1c
  subst h1 h1c
  have hl : ∀ s : ByteArray, strB (s.data.toList.map UInt8.toBitVec) = s := fun s => by
    apply ByteArray.ext
    rw [strB_data, List.map_map]
    have e : UInt8.ofBitVec ∘ UInt8.toBitVec = id := by funext x; rfl
    rw [e, List.map_id]
  have hlen : (l.map fun s => s.data.toList.map UInt8.toBitVec).length = l.length := by simp
  refine ⟨l.map fun s => s.data.toList.map UInt8.toBitVec, ⟨A, c, by rw [hlen], by rw [hlen]; exact h2, h3, fun q hq => ?_, fun hne => ?_⟩, by rw [hlen]; exact h4⟩
  · rw [List.mem_map] at hq
    obtain ⟨s, hs, rfl⟩ := hq
    obtain ⟨k, hk, rfl⟩ := List.getElem_of_mem hs
    obtain ⟨b, o, _, _, h6⟩ := h5 (by intro e; rw [e] at hk; simp at hk)
    obtain ⟨ds, _, _, _, hm⟩ := h6 k _ (List.getElem?_eq_getElem hk)
    rw [List.length_map]; exact hm
  · obtain ⟨b, o, h6, h7, h8⟩ := h5 (by intro e; exact hne (by rw [e]; rfl))
    refine ⟨b, o, h6, h7, fun k q hk => ?_⟩
    rw [List.getElem?_map, Option.map_eq_some_iff] at hk
    obtain ⟨s, hs, rfl⟩ := hk
    obtain ⟨ds, _, hr, e, _⟩ := h8 k s hs
    rw [e] at hr
    have := hr 0 _ rfl
    rw [hl]
    simpa using this
theorem open_name {H : Type} {enc : TypeId × Value → H} {W : World} {r : Reach} {base : Nat} {v : Value} {d : DataW H} {ps : List MemPlace} (hval : Value.okWide Tryd.prog W r base 9 v)
    (hT : DataW.Trod enc Tryd.prog W 0 (fun _ => true) true 9 v d ps) : ∃ q, v = .string (strB q) ∧ q.length ≤ maxLen := by
  obtain ⟨s, rfl, _, _, hs⟩ := open_string Tryd.underlying9 hval hT
  obtain ⟨q, rfl⟩ := strB_all s
  exact ⟨q, rfl, by rw [← strB_size]; exact hs⟩
end Go.Proofs.YtobklbfcnbmnmaaDoor
