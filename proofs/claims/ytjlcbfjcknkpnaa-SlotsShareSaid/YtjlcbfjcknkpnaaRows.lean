/-
  No cell of these rows narrows 'for every input' (looked for: loops, veiled, ifaces, maps, wideKeys, modest, calm, conditions, laid).
  DERIVED. THE GIVEN ROWS OF THIS SEAT. 4 by the template 'for every input the law returns true; each argument reads behind the call as it read before'; 0 by the template 'total and deterministic' (their statements: YtjlcbfjcknkpnaaTotals.lean).
  GIVEN WITH THE SEED: the statements are not yours to turn. If you find one false, say at which input.
  Laid BY PROGRAM, IN A SANDBOX (cutbox-rows.mjs): the forced cells as the released guide's own fill.sh prints them over the translation 4501c76919eea6b9… (all of the seat's roots in one cut). By AI agents, Wed Nov 11 2026. No macro, syntax, notation, axiom, sorry.
-/
import Derived.Test.YtjlcbfjcknkpnaaChecked
import GoSem.Claim
import GoSem.ClaimJoined
import GoSem.ClaimMapViews
import Derived.JoinedTies
import Derived.KernelRfl
namespace Go.Proofs.Ytjlcbfjcknkpnaa
/- THE CELL 'sum', in the pinned program and in every row, IS THE sha256 OF THE DUMP (.gsa) THAT YtjlcbfjcknkpnaaProg.lean LOADS. Nothing in Lean hashes anything: it is a label: what it is worth is what the hold of that sum in a sandbox is worth. -/
noncomputable def Try.pinned : Pinned := { name := "ytjlcbfjcknkpnaa", sum := "4501c76919eea6b97b1702ca65873242b5c4373721a1fe035c1dfdc3c5455a54", checked := Try.checked }
namespace Rows
def none {H : Type} : Left H := { results := [], args := [] }

/-- 'tollhouselaw19.SlotsTell': WHATEVER THE INPUT: true; the input reads as it did. -/
def slotsTellSpec : ChangeSpec := { name := "slotsTell", fn := fun _ => fun
  | [d1, d2, d3] => { results := [.lit (.bool true)], args := [d1, d2, d3] }
  | _ => none }
def slotsTellRow : OpenClaim := { program := "ytjlcbfjcknkpnaa", sum := "4501c76919eea6b97b1702ca65873242b5c4373721a1fe035c1dfdc3c5455a54", func := "tollhouse/tollhouselaw19.SlotsTell", spec := "slotsTell", apart := false }
def SlotsTellSaid : Prop := slotsTellRow.holds Try.pinned (OpenSpec.ofChange slotsTellSpec)

/-- ITS FALSE NEIGHBOUR: 'it returns false'. Refute it at one input. -/
def slotsTellWrong : ChangeSpec := { name := "slotsTell", fn := fun _ => fun
  | [d1, d2, d3] => { results := [.lit (.bool false)], args := [d1, d2, d3] }
  | _ => none }
def SlotsTellWrongFalsely : Prop := slotsTellRow.holds Try.pinned (OpenSpec.ofChange slotsTellWrong)

/-- 'tollhouselaw19.SlotsShare': WHATEVER THE INPUT: true; the input reads as it did. -/
def slotsShareSpec : ChangeSpec := { name := "slotsShare", fn := fun _ => fun
  | [d1, d2] => { results := [.lit (.bool true)], args := [d1, d2] }
  | _ => none }
def slotsShareRow : OpenClaim := { program := "ytjlcbfjcknkpnaa", sum := "4501c76919eea6b97b1702ca65873242b5c4373721a1fe035c1dfdc3c5455a54", func := "tollhouse/tollhouselaw19.SlotsShare", spec := "slotsShare", apart := false }
def SlotsShareSaid : Prop := slotsShareRow.holds Try.pinned (OpenSpec.ofChange slotsShareSpec)

/-- ITS FALSE NEIGHBOUR: 'it returns false'. Refute it at one input. -/
def slotsShareWrong : ChangeSpec := { name := "slotsShare", fn := fun _ => fun
  | [d1, d2] => { results := [.lit (.bool false)], args := [d1, d2] }
  | _ => none }
def SlotsShareWrongFalsely : Prop := slotsShareRow.holds Try.pinned (OpenSpec.ofChange slotsShareWrong)

/-- 'tollhouselaw19.SlotsNext': WHATEVER THE INPUT: true; the input reads as it did. -/
def slotsNextSpec : ChangeSpec := { name := "slotsNext", fn := fun _ => fun
  | [d1, d2, d3] => { results := [.lit (.bool true)], args := [d1, d2, d3] }
  | _ => none }
def slotsNextRow : OpenClaim := { program := "ytjlcbfjcknkpnaa", sum := "4501c76919eea6b97b1702ca65873242b5c4373721a1fe035c1dfdc3c5455a54", func := "tollhouse/tollhouselaw19.SlotsNext", spec := "slotsNext", apart := false }
def SlotsNextSaid : Prop := slotsNextRow.holds Try.pinned (OpenSpec.ofChange slotsNextSpec)

/-- ITS FALSE NEIGHBOUR: 'it returns false'. Refute it at one input. -/
def slotsNextWrong : ChangeSpec := { name := "slotsNext", fn := fun _ => fun
  | [d1, d2, d3] => { results := [.lit (.bool false)], args := [d1, d2, d3] }
  | _ => none }
def SlotsNextWrongFalsely : Prop := slotsNextRow.holds Try.pinned (OpenSpec.ofChange slotsNextWrong)

/-- 'tollhouselaw19.SlotsBounds': WHATEVER THE INPUT: true; the input reads as it did. -/
def slotsBoundsSpec : ChangeSpec := { name := "slotsBounds", fn := fun _ => fun
  | [d1, d2] => { results := [.lit (.bool true)], args := [d1, d2] }
  | _ => none }
def slotsBoundsRow : OpenClaim := { program := "ytjlcbfjcknkpnaa", sum := "4501c76919eea6b97b1702ca65873242b5c4373721a1fe035c1dfdc3c5455a54", func := "tollhouse/tollhouselaw19.SlotsBounds", spec := "slotsBounds", apart := false }
def SlotsBoundsSaid : Prop := slotsBoundsRow.holds Try.pinned (OpenSpec.ofChange slotsBoundsSpec)

/-- ITS FALSE NEIGHBOUR: 'it returns false'. Refute it at one input. -/
def slotsBoundsWrong : ChangeSpec := { name := "slotsBounds", fn := fun _ => fun
  | [d1, d2] => { results := [.lit (.bool false)], args := [d1, d2] }
  | _ => none }
def SlotsBoundsWrongFalsely : Prop := slotsBoundsRow.holds Try.pinned (OpenSpec.ofChange slotsBoundsWrong)

/- THE SECOND FORM. 'bulk': how many values and letters a reading holds, each counted each time it is reached (what is shared counts as often as it is met; a slice's spare places count too). A statement '..UptoSaid' is the law's where the arguments, and the package variables that the reading takes, are together of bulk at most 1048576: NARROWER than '..Said'. Prove '..Said' where nothing that the law and all that it calls make is longer than what came in: it says more and counts as full. Else prove '..UptoSaid'. A law counts once. -/
mutual
def uptoBulk {H : Type} : DataW H → Nat
  | .lit (.string bytes) => bytes.length + 1
  | .lit _ => 1
  | .nil => 1
  | .ptr d => uptoBulk d + 1
  | .slice elems spare => uptoBulkAll elems + uptoBulkAll spare + 1
  | .agg parts => uptoBulkAll parts + 1
  | .iface _ d => uptoBulk d + 1
  | .map entries => uptoBulkEntries entries + 1
  | .held _ => 1
def uptoBulkAll {H : Type} : List (DataW H) → Nat
  | [] => 0
  | d :: r => uptoBulk d + uptoBulkAll r
def uptoBulkEntries {H : Type} : List (Lit × DataW H) → Nat
  | [] => 0
  | x :: r => uptoBulkEntry x + uptoBulkEntries r
def uptoBulkEntry {H : Type} : Lit × DataW H → Nat
  | (.string bytes, d) => bytes.length + uptoBulk d + 1
  | (_, d) => uptoBulk d + 1
 end
def uptoSmall : (H : Type) → List (DataW H) → Bool := fun _ ds => decide (uptoBulkAll ds ≤ 1048576)
def OpenSpec.upto (s : _root_.Go.ChangeSpec) : _root_.Go.OpenSpec := { _root_.Go.OpenSpec.ofChange s with cond := some uptoSmall }

/-- 'tollhouselaw19.SlotsTell', WHERE WHAT IT READS IS OF BULK AT MOST 1048576: true; the input reads as it did. -/
def slotsTellUptoRow : OpenClaim := { program := "ytjlcbfjcknkpnaa", sum := "4501c76919eea6b97b1702ca65873242b5c4373721a1fe035c1dfdc3c5455a54", func := "tollhouse/tollhouselaw19.SlotsTell", spec := "slotsTell", apart := false, narrowed := true }
def SlotsTellUptoSaid : Prop := slotsTellUptoRow.holds Try.pinned (OpenSpec.upto slotsTellSpec)

/-- 'tollhouselaw19.SlotsShare', WHERE WHAT IT READS IS OF BULK AT MOST 1048576: true; the input reads as it did. -/
def slotsShareUptoRow : OpenClaim := { program := "ytjlcbfjcknkpnaa", sum := "4501c76919eea6b97b1702ca65873242b5c4373721a1fe035c1dfdc3c5455a54", func := "tollhouse/tollhouselaw19.SlotsShare", spec := "slotsShare", apart := false, narrowed := true }
def SlotsShareUptoSaid : Prop := slotsShareUptoRow.holds Try.pinned (OpenSpec.upto slotsShareSpec)

/-- 'tollhouselaw19.SlotsNext', WHERE WHAT IT READS IS OF BULK AT MOST 1048576: true; the input reads as it did. -/
def slotsNextUptoRow : OpenClaim := { program := "ytjlcbfjcknkpnaa", sum := "4501c76919eea6b97b1702ca65873242b5c4373721a1fe035c1dfdc3c5455a54", func := "tollhouse/tollhouselaw19.SlotsNext", spec := "slotsNext", apart := false, narrowed := true }
def SlotsNextUptoSaid : Prop := slotsNextUptoRow.holds Try.pinned (OpenSpec.upto slotsNextSpec)

/-- 'tollhouselaw19.SlotsBounds', WHERE WHAT IT READS IS OF BULK AT MOST 1048576: true; the input reads as it did. -/
def slotsBoundsUptoRow : OpenClaim := { program := "ytjlcbfjcknkpnaa", sum := "4501c76919eea6b97b1702ca65873242b5c4373721a1fe035c1dfdc3c5455a54", func := "tollhouse/tollhouselaw19.SlotsBounds", spec := "slotsBounds", apart := false, narrowed := true }
def SlotsBoundsUptoSaid : Prop := slotsBoundsUptoRow.holds Try.pinned (OpenSpec.upto slotsBoundsSpec)

end Rows
end Go.Proofs.Ytjlcbfjcknkpnaa
