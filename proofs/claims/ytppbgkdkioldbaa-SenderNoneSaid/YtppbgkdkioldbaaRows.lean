/-
  No cell of these rows narrows 'for every input' (looked for: loops, veiled, ifaces, maps, wideKeys, modest, calm, conditions, laid).
  DERIVED. THE GIVEN ROWS OF THIS SEAT. 5 by the template 'for every input the law returns true; each argument reads behind the call as it read before'; 0 by the template 'total and deterministic' (their statements: YtppbgkdkioldbaaTotals.lean).
  GIVEN WITH THE SEED: the statements are not yours to turn. If you find one false, say at which input.
  Laid BY PROGRAM, IN A SANDBOX (cutbox-rows.mjs): the forced cells as the released guide's own fill.sh prints them over the translation d96f3194597e693f… (all of the seat's roots in one cut). By AI agents, Wed Nov 11 2026. No macro, syntax, notation, axiom, sorry.
-/
import Derived.Test.YtppbgkdkioldbaaChecked
import GoSem.Claim
import GoSem.ClaimJoined
import GoSem.ClaimMapViews
import Derived.JoinedTies
import Derived.KernelRfl
namespace Go.Proofs.Ytppbgkdkioldbaa
/- THE CELL 'sum', in the pinned program and in every row, IS THE sha256 OF THE DUMP (.gsa) THAT YtppbgkdkioldbaaProg.lean LOADS. Nothing in Lean hashes anything: it is a label: what it is worth is what the hold of that sum in a sandbox is worth. -/
noncomputable def Try.pinned : Pinned := { name := "ytppbgkdkioldbaa", sum := "d96f3194597e693f500cd5921caa62ee71c6e68540934ff4a84ecf570e21a05f", checked := Try.checked }
namespace Rows
def none {H : Type} : Left H := { results := [], args := [] }

/-- 'tollhouselaw24.SenderPlays': WHATEVER THE INPUT: true; the input reads as it did. -/
def senderPlaysSpec : ChangeSpec := { name := "senderPlays", fn := fun _ => fun
  | [d1, d2] => { results := [.lit (.bool true)], args := [d1, d2] }
  | _ => none }
def senderPlaysRow : OpenClaim := { program := "ytppbgkdkioldbaa", sum := "d96f3194597e693f500cd5921caa62ee71c6e68540934ff4a84ecf570e21a05f", func := "tollhouse/tollhouselaw24.SenderPlays", spec := "senderPlays", apart := false }
def SenderPlaysSaid : Prop := senderPlaysRow.holds Try.pinned (OpenSpec.ofChange senderPlaysSpec)

/-- ITS FALSE NEIGHBOUR: 'it returns false'. Refute it at one input. -/
def senderPlaysWrong : ChangeSpec := { name := "senderPlays", fn := fun _ => fun
  | [d1, d2] => { results := [.lit (.bool false)], args := [d1, d2] }
  | _ => none }
def SenderPlaysWrongFalsely : Prop := senderPlaysRow.holds Try.pinned (OpenSpec.ofChange senderPlaysWrong)

/-- 'tollhouselaw24.SenderOne': WHATEVER THE INPUT: true; the input reads as it did. -/
def senderOneSpec : ChangeSpec := { name := "senderOne", fn := fun _ => fun
  | [d1, d2, d3] => { results := [.lit (.bool true)], args := [d1, d2, d3] }
  | _ => none }
def senderOneRow : OpenClaim := { program := "ytppbgkdkioldbaa", sum := "d96f3194597e693f500cd5921caa62ee71c6e68540934ff4a84ecf570e21a05f", func := "tollhouse/tollhouselaw24.SenderOne", spec := "senderOne", apart := false }
def SenderOneSaid : Prop := senderOneRow.holds Try.pinned (OpenSpec.ofChange senderOneSpec)

/-- ITS FALSE NEIGHBOUR: 'it returns false'. Refute it at one input. -/
def senderOneWrong : ChangeSpec := { name := "senderOne", fn := fun _ => fun
  | [d1, d2, d3] => { results := [.lit (.bool false)], args := [d1, d2, d3] }
  | _ => none }
def SenderOneWrongFalsely : Prop := senderOneRow.holds Try.pinned (OpenSpec.ofChange senderOneWrong)

/-- 'tollhouselaw24.SenderPicks': WHATEVER THE INPUT: true; the input reads as it did. -/
def senderPicksSpec : ChangeSpec := { name := "senderPicks", fn := fun _ => fun
  | [d] => { results := [.lit (.bool true)], args := [d] }
  | _ => none }
def senderPicksRow : OpenClaim := { program := "ytppbgkdkioldbaa", sum := "d96f3194597e693f500cd5921caa62ee71c6e68540934ff4a84ecf570e21a05f", func := "tollhouse/tollhouselaw24.SenderPicks", spec := "senderPicks", apart := false }
def SenderPicksSaid : Prop := senderPicksRow.holds Try.pinned (OpenSpec.ofChange senderPicksSpec)

/-- ITS FALSE NEIGHBOUR: 'it returns false'. Refute it at one input. -/
def senderPicksWrong : ChangeSpec := { name := "senderPicks", fn := fun _ => fun
  | [d] => { results := [.lit (.bool false)], args := [d] }
  | _ => none }
def SenderPicksWrongFalsely : Prop := senderPicksRow.holds Try.pinned (OpenSpec.ofChange senderPicksWrong)

/-- 'tollhouselaw24.SenderNone': WHATEVER THE INPUT: true; the input reads as it did. -/
def senderNoneSpec : ChangeSpec := { name := "senderNone", fn := fun _ => fun
  | [d] => { results := [.lit (.bool true)], args := [d] }
  | _ => none }
def senderNoneRow : OpenClaim := { program := "ytppbgkdkioldbaa", sum := "d96f3194597e693f500cd5921caa62ee71c6e68540934ff4a84ecf570e21a05f", func := "tollhouse/tollhouselaw24.SenderNone", spec := "senderNone", apart := false }
def SenderNoneSaid : Prop := senderNoneRow.holds Try.pinned (OpenSpec.ofChange senderNoneSpec)

/-- ITS FALSE NEIGHBOUR: 'it returns false'. Refute it at one input. -/
def senderNoneWrong : ChangeSpec := { name := "senderNone", fn := fun _ => fun
  | [d] => { results := [.lit (.bool false)], args := [d] }
  | _ => none }
def SenderNoneWrongFalsely : Prop := senderNoneRow.holds Try.pinned (OpenSpec.ofChange senderNoneWrong)

/-- 'tollhouselaw24.SenderWaits': WHATEVER THE INPUT: true; the input reads as it did. -/
def senderWaitsSpec : ChangeSpec := { name := "senderWaits", fn := fun _ => fun
  | [d] => { results := [.lit (.bool true)], args := [d] }
  | _ => none }
def senderWaitsRow : OpenClaim := { program := "ytppbgkdkioldbaa", sum := "d96f3194597e693f500cd5921caa62ee71c6e68540934ff4a84ecf570e21a05f", func := "tollhouse/tollhouselaw24.SenderWaits", spec := "senderWaits", apart := false }
def SenderWaitsSaid : Prop := senderWaitsRow.holds Try.pinned (OpenSpec.ofChange senderWaitsSpec)

/-- ITS FALSE NEIGHBOUR: 'it returns false'. Refute it at one input. -/
def senderWaitsWrong : ChangeSpec := { name := "senderWaits", fn := fun _ => fun
  | [d] => { results := [.lit (.bool false)], args := [d] }
  | _ => none }
def SenderWaitsWrongFalsely : Prop := senderWaitsRow.holds Try.pinned (OpenSpec.ofChange senderWaitsWrong)

/- THE SECOND FORM. 'bulk': how many values and letters a reading holds, each counted each time it is reached (what is shared counts as often as it is met; a slice's spare places count too). A statement '..UptoSaid' is the law's where the arguments, and the package variables that the reading takes, are together of bulk at most 1048576: NARROWER than '..Said'. Prove '..Said' where nothing that the law and all that it calls make is longer than what came in: it says more and counts as full. Else prove '..UptoSaid'. A law counts once. -/
mutual
def uptoBulk {H : Type} : DataW H → Nat
  | .lit (.string bytes) => bytes.length + 1
  | .lit _ => 1
  | .nil => 1
  | .ptr d => uptoBulk d + 1
  | .slice elems spare => uptoBulkAll elems + uptoBulkAll spare + 1
  | .agg parts => uptoBulkAll parts + 1
  | .iface _ d => uptoBulk d + 1
  | .map entries => uptoBulkEntries entries + 1
  | .held _ => 1
def uptoBulkAll {H : Type} : List (DataW H) → Nat
  | [] => 0
  | d :: r => uptoBulk d + uptoBulkAll r
def uptoBulkEntries {H : Type} : List (Lit × DataW H) → Nat
  | [] => 0
  | x :: r => uptoBulkEntry x + uptoBulkEntries r
def uptoBulkEntry {H : Type} : Lit × DataW H → Nat
  | (.string bytes, d) => bytes.length + uptoBulk d + 1
  | (_, d) => uptoBulk d + 1
 end
def uptoSmall : (H : Type) → List (DataW H) → Bool := fun _ ds => decide (uptoBulkAll ds ≤ 1048576)
def OpenSpec.upto (s : _root_.Go.ChangeSpec) : _root_.Go.OpenSpec := { _root_.Go.OpenSpec.ofChange s with cond := some uptoSmall }

/-- 'tollhouselaw24.SenderPlays', WHERE WHAT IT READS IS OF BULK AT MOST 1048576: true; the input reads as it did. -/
def senderPlaysUptoRow : OpenClaim := { program := "ytppbgkdkioldbaa", sum := "d96f3194597e693f500cd5921caa62ee71c6e68540934ff4a84ecf570e21a05f", func := "tollhouse/tollhouselaw24.SenderPlays", spec := "senderPlays", apart := false, narrowed := true }
def SenderPlaysUptoSaid : Prop := senderPlaysUptoRow.holds Try.pinned (OpenSpec.upto senderPlaysSpec)

/-- 'tollhouselaw24.SenderOne', WHERE WHAT IT READS IS OF BULK AT MOST 1048576: true; the input reads as it did. -/
def senderOneUptoRow : OpenClaim := { program := "ytppbgkdkioldbaa", sum := "d96f3194597e693f500cd5921caa62ee71c6e68540934ff4a84ecf570e21a05f", func := "tollhouse/tollhouselaw24.SenderOne", spec := "senderOne", apart := false, narrowed := true }
def SenderOneUptoSaid : Prop := senderOneUptoRow.holds Try.pinned (OpenSpec.upto senderOneSpec)

/-- 'tollhouselaw24.SenderPicks', WHERE WHAT IT READS IS OF BULK AT MOST 1048576: true; the input reads as it did. -/
def senderPicksUptoRow : OpenClaim := { program := "ytppbgkdkioldbaa", sum := "d96f3194597e693f500cd5921caa62ee71c6e68540934ff4a84ecf570e21a05f", func := "tollhouse/tollhouselaw24.SenderPicks", spec := "senderPicks", apart := false, narrowed := true }
def SenderPicksUptoSaid : Prop := senderPicksUptoRow.holds Try.pinned (OpenSpec.upto senderPicksSpec)

/-- 'tollhouselaw24.SenderNone', WHERE WHAT IT READS IS OF BULK AT MOST 1048576: true; the input reads as it did. -/
def senderNoneUptoRow : OpenClaim := { program := "ytppbgkdkioldbaa", sum := "d96f3194597e693f500cd5921caa62ee71c6e68540934ff4a84ecf570e21a05f", func := "tollhouse/tollhouselaw24.SenderNone", spec := "senderNone", apart := false, narrowed := true }
def SenderNoneUptoSaid : Prop := senderNoneUptoRow.holds Try.pinned (OpenSpec.upto senderNoneSpec)

/-- 'tollhouselaw24.SenderWaits', WHERE WHAT IT READS IS OF BULK AT MOST 1048576: true; the input reads as it did. -/
def senderWaitsUptoRow : OpenClaim := { program := "ytppbgkdkioldbaa", sum := "d96f3194597e693f500cd5921caa62ee71c6e68540934ff4a84ecf570e21a05f", func := "tollhouse/tollhouselaw24.SenderWaits", spec := "senderWaits", apart := false, narrowed := true }
def SenderWaitsUptoSaid : Prop := senderWaitsUptoRow.holds Try.pinned (OpenSpec.upto senderWaitsSpec)

end Rows
end Go.Proofs.Ytppbgkdkioldbaa
