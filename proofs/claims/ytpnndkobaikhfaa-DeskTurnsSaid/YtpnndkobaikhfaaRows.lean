/-
  No cell of these rows narrows 'for every input' (looked for: loops, veiled, ifaces, maps, wideKeys, modest, calm, conditions, laid).
  DERIVED. THE GIVEN ROWS OF THIS SEAT. 3 by the template 'for every input the law returns true; each argument reads behind the call as it read before'; 0 by the template 'total and deterministic' (their statements: YtpnndkobaikhfaaTotals.lean).
  GIVEN WITH THE SEED: the statements are not yours to turn. If you find one false, say at which input.
  Laid BY PROGRAM, IN A SANDBOX (cutbox-rows.mjs): the forced cells as the released guide's own fill.sh prints them over the translation 6cc04b725dece86e… (all of the seat's roots in one cut). By AI agents, Wed Nov 11 2026. No macro, syntax, notation, axiom, sorry.
-/
import Derived.Test.YtpnndkobaikhfaaChecked
import GoSem.Claim
import GoSem.ClaimJoined
import GoSem.ClaimMapViews
import Derived.JoinedTies
import Derived.KernelRfl
namespace Go.Proofs.Ytpnndkobaikhfaa
/- THE CELL 'sum', in the pinned program and in every row, IS THE sha256 OF THE DUMP (.gsa) THAT YtpnndkobaikhfaaProg.lean LOADS. Nothing in Lean hashes anything: it is a label: what it is worth is what the hold of that sum in a sandbox is worth. -/
noncomputable def Try.pinned : Pinned := { name := "ytpnndkobaikhfaa", sum := "6cc04b725dece86eefc6c54f745d60684158aefbfb71d6995b160d7ffbc94ef5", checked := Try.checked }
namespace Rows
def none {H : Type} : Left H := { results := [], args := [] }

/-- 'tollhouselaw23.DeskTells': WHATEVER THE INPUT: true; the input reads as it did. -/
def deskTellsSpec : ChangeSpec := { name := "deskTells", fn := fun _ => fun
  | [d1, d2] => { results := [.lit (.bool true)], args := [d1, d2] }
  | _ => none }
def deskTellsRow : OpenClaim := { program := "ytpnndkobaikhfaa", sum := "6cc04b725dece86eefc6c54f745d60684158aefbfb71d6995b160d7ffbc94ef5", func := "tollhouse/tollhouselaw23.DeskTells", spec := "deskTells", apart := false }
def DeskTellsSaid : Prop := deskTellsRow.holds Try.pinned (OpenSpec.ofChange deskTellsSpec)

/-- ITS FALSE NEIGHBOUR: 'it returns false'. Refute it at one input. -/
def deskTellsWrong : ChangeSpec := { name := "deskTells", fn := fun _ => fun
  | [d1, d2] => { results := [.lit (.bool false)], args := [d1, d2] }
  | _ => none }
def DeskTellsWrongFalsely : Prop := deskTellsRow.holds Try.pinned (OpenSpec.ofChange deskTellsWrong)

/-- 'tollhouselaw23.DeskTurns': WHATEVER THE INPUT: true; the input reads as it did. -/
def deskTurnsSpec : ChangeSpec := { name := "deskTurns", fn := fun _ => fun
  | [d] => { results := [.lit (.bool true)], args := [d] }
  | _ => none }
def deskTurnsRow : OpenClaim := { program := "ytpnndkobaikhfaa", sum := "6cc04b725dece86eefc6c54f745d60684158aefbfb71d6995b160d7ffbc94ef5", func := "tollhouse/tollhouselaw23.DeskTurns", spec := "deskTurns", apart := false }
def DeskTurnsSaid : Prop := deskTurnsRow.holds Try.pinned (OpenSpec.ofChange deskTurnsSpec)

/-- ITS FALSE NEIGHBOUR: 'it returns false'. Refute it at one input. -/
def deskTurnsWrong : ChangeSpec := { name := "deskTurns", fn := fun _ => fun
  | [d] => { results := [.lit (.bool false)], args := [d] }
  | _ => none }
def DeskTurnsWrongFalsely : Prop := deskTurnsRow.holds Try.pinned (OpenSpec.ofChange deskTurnsWrong)

/-- 'tollhouselaw23.DeskBack': WHATEVER THE INPUT: true; the input reads as it did. -/
def deskBackSpec : ChangeSpec := { name := "deskBack", fn := fun _ => fun
  | [d1, d2] => { results := [.lit (.bool true)], args := [d1, d2] }
  | _ => none }
def deskBackRow : OpenClaim := { program := "ytpnndkobaikhfaa", sum := "6cc04b725dece86eefc6c54f745d60684158aefbfb71d6995b160d7ffbc94ef5", func := "tollhouse/tollhouselaw23.DeskBack", spec := "deskBack", apart := false }
def DeskBackSaid : Prop := deskBackRow.holds Try.pinned (OpenSpec.ofChange deskBackSpec)

/-- ITS FALSE NEIGHBOUR: 'it returns false'. Refute it at one input. -/
def deskBackWrong : ChangeSpec := { name := "deskBack", fn := fun _ => fun
  | [d1, d2] => { results := [.lit (.bool false)], args := [d1, d2] }
  | _ => none }
def DeskBackWrongFalsely : Prop := deskBackRow.holds Try.pinned (OpenSpec.ofChange deskBackWrong)

/- THE SECOND FORM. 'bulk': how many values and letters a reading holds, each counted each time it is reached (what is shared counts as often as it is met; a slice's spare places count too). A statement '..UptoSaid' is the law's where the arguments, and the package variables that the reading takes, are together of bulk at most 1048576: NARROWER than '..Said'. Prove '..Said' where nothing that the law and all that it calls make is longer than what came in: it says more and counts as full. Else prove '..UptoSaid'. A law counts once. -/
mutual
def uptoBulk {H : Type} : DataW H → Nat
  | .lit (.string bytes) => bytes.length + 1
  | .lit _ => 1
  | .nil => 1
  | .ptr d => uptoBulk d + 1
  | .slice elems spare => uptoBulkAll elems + uptoBulkAll spare + 1
  | .agg parts => uptoBulkAll parts + 1
  | .iface _ d => uptoBulk d + 1
  | .map entries => uptoBulkEntries entries + 1
  | .held _ => 1
def uptoBulkAll {H : Type} : List (DataW H) → Nat
  | [] => 0
  | d :: r => uptoBulk d + uptoBulkAll r
def uptoBulkEntries {H : Type} : List (Lit × DataW H) → Nat
  | [] => 0
  | x :: r => uptoBulkEntry x + uptoBulkEntries r
def uptoBulkEntry {H : Type} : Lit × DataW H → Nat
  | (.string bytes, d) => bytes.length + uptoBulk d + 1
  | (_, d) => uptoBulk d + 1
 end
def uptoSmall : (H : Type) → List (DataW H) → Bool := fun _ ds => decide (uptoBulkAll ds ≤ 1048576)
def OpenSpec.upto (s : _root_.Go.ChangeSpec) : _root_.Go.OpenSpec := { _root_.Go.OpenSpec.ofChange s with cond := some uptoSmall }

/-- 'tollhouselaw23.DeskTells', WHERE WHAT IT READS IS OF BULK AT MOST 1048576: true; the input reads as it did. -/
def deskTellsUptoRow : OpenClaim := { program := "ytpnndkobaikhfaa", sum := "6cc04b725dece86eefc6c54f745d60684158aefbfb71d6995b160d7ffbc94ef5", func := "tollhouse/tollhouselaw23.DeskTells", spec := "deskTells", apart := false, narrowed := true }
def DeskTellsUptoSaid : Prop := deskTellsUptoRow.holds Try.pinned (OpenSpec.upto deskTellsSpec)

/-- 'tollhouselaw23.DeskTurns', WHERE WHAT IT READS IS OF BULK AT MOST 1048576: true; the input reads as it did. -/
def deskTurnsUptoRow : OpenClaim := { program := "ytpnndkobaikhfaa", sum := "6cc04b725dece86eefc6c54f745d60684158aefbfb71d6995b160d7ffbc94ef5", func := "tollhouse/tollhouselaw23.DeskTurns", spec := "deskTurns", apart := false, narrowed := true }
def DeskTurnsUptoSaid : Prop := deskTurnsUptoRow.holds Try.pinned (OpenSpec.upto deskTurnsSpec)

/-- 'tollhouselaw23.DeskBack', WHERE WHAT IT READS IS OF BULK AT MOST 1048576: true; the input reads as it did. -/
def deskBackUptoRow : OpenClaim := { program := "ytpnndkobaikhfaa", sum := "6cc04b725dece86eefc6c54f745d60684158aefbfb71d6995b160d7ffbc94ef5", func := "tollhouse/tollhouselaw23.DeskBack", spec := "deskBack", apart := false, narrowed := true }
def DeskBackUptoSaid : Prop := deskBackUptoRow.holds Try.pinned (OpenSpec.upto deskBackSpec)

end Rows
end Go.Proofs.Ytpnndkobaikhfaa
