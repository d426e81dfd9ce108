/-
  No cell of these rows narrows 'for every input' (looked for: loops, veiled, ifaces, maps, wideKeys, modest, calm, conditions, laid).
  DERIVED. THE GIVEN ROWS OF THIS SEAT. 4 by the template 'for every input the law returns true; each argument reads behind the call as it read before'; 0 by the template 'total and deterministic' (their statements: YtlncdokeecmnjaaTotals.lean).
  GIVEN WITH THE SEED: the statements are not yours to turn. If you find one false, say at which input.
  Laid BY PROGRAM, IN A SANDBOX (cutbox-rows.mjs): the forced cells as the released guide's own fill.sh prints them over the translation 80847de55d20334b… (all of the seat's roots in one cut). By AI agents, Wed Nov 11 2026. No macro, syntax, notation, axiom, sorry.
-/
import Derived.Test.YtlncdokeecmnjaaChecked
import GoSem.Claim
import GoSem.ClaimJoined
import GoSem.ClaimMapViews
import Derived.JoinedTies
import Derived.KernelRfl
namespace Go.Proofs.Ytlncdokeecmnjaa
/- THE CELL 'sum', in the pinned program and in every row, IS THE sha256 OF THE DUMP (.gsa) THAT YtlncdokeecmnjaaProg.lean LOADS. Nothing in Lean hashes anything: it is a label: what it is worth is what the hold of that sum in a sandbox is worth. -/
noncomputable def Try.pinned : Pinned := { name := "ytlncdokeecmnjaa", sum := "80847de55d20334be9a5e035795b38783c270c158dc2e1a4bc1223b566dd8f3d", checked := Try.checked }
namespace Rows
def none {H : Type} : Left H := { results := [], args := [] }

/-- 'tollhouselaw20.FatesPlay': WHATEVER THE INPUT: true; the input reads as it did. -/
def fatesPlaySpec : ChangeSpec := { name := "fatesPlay", fn := fun _ => fun
  | [d1, d2] => { results := [.lit (.bool true)], args := [d1, d2] }
  | _ => none }
def fatesPlayRow : OpenClaim := { program := "ytlncdokeecmnjaa", sum := "80847de55d20334be9a5e035795b38783c270c158dc2e1a4bc1223b566dd8f3d", func := "tollhouse/tollhouselaw20.FatesPlay", spec := "fatesPlay", unfollowed := true, recurses := true, apart := false }
def FatesPlaySaid : Prop := fatesPlayRow.holds Try.pinned (OpenSpec.ofChange fatesPlaySpec)

/-- ITS FALSE NEIGHBOUR: 'it returns false'. Refute it at one input. -/
def fatesPlayWrong : ChangeSpec := { name := "fatesPlay", fn := fun _ => fun
  | [d1, d2] => { results := [.lit (.bool false)], args := [d1, d2] }
  | _ => none }
def FatesPlayWrongFalsely : Prop := fatesPlayRow.holds Try.pinned (OpenSpec.ofChange fatesPlayWrong)

/-- 'tollhouselaw20.FatesOrder': WHATEVER THE INPUT: true; the input reads as it did. -/
def fatesOrderSpec : ChangeSpec := { name := "fatesOrder", fn := fun _ => fun
  | [d] => { results := [.lit (.bool true)], args := [d] }
  | _ => none }
def fatesOrderRow : OpenClaim := { program := "ytlncdokeecmnjaa", sum := "80847de55d20334be9a5e035795b38783c270c158dc2e1a4bc1223b566dd8f3d", func := "tollhouse/tollhouselaw20.FatesOrder", spec := "fatesOrder", unfollowed := true, recurses := true, apart := false }
def FatesOrderSaid : Prop := fatesOrderRow.holds Try.pinned (OpenSpec.ofChange fatesOrderSpec)

/-- ITS FALSE NEIGHBOUR: 'it returns false'. Refute it at one input. -/
def fatesOrderWrong : ChangeSpec := { name := "fatesOrder", fn := fun _ => fun
  | [d] => { results := [.lit (.bool false)], args := [d] }
  | _ => none }
def FatesOrderWrongFalsely : Prop := fatesOrderRow.holds Try.pinned (OpenSpec.ofChange fatesOrderWrong)

/-- 'tollhouselaw20.FatesNone': WHATEVER THE INPUT: true; the input reads as it did. -/
def fatesNoneSpec : ChangeSpec := { name := "fatesNone", fn := fun _ => fun
  | [d] => { results := [.lit (.bool true)], args := [d] }
  | _ => none }
def fatesNoneRow : OpenClaim := { program := "ytlncdokeecmnjaa", sum := "80847de55d20334be9a5e035795b38783c270c158dc2e1a4bc1223b566dd8f3d", func := "tollhouse/tollhouselaw20.FatesNone", spec := "fatesNone", unfollowed := true, recurses := true, apart := false }
def FatesNoneSaid : Prop := fatesNoneRow.holds Try.pinned (OpenSpec.ofChange fatesNoneSpec)

/-- ITS FALSE NEIGHBOUR: 'it returns false'. Refute it at one input. -/
def fatesNoneWrong : ChangeSpec := { name := "fatesNone", fn := fun _ => fun
  | [d] => { results := [.lit (.bool false)], args := [d] }
  | _ => none }
def FatesNoneWrongFalsely : Prop := fatesNoneRow.holds Try.pinned (OpenSpec.ofChange fatesNoneWrong)

/-- 'tollhouselaw20.FatesBits': WHATEVER THE INPUT: true; the input reads as it did. -/
def fatesBitsSpec : ChangeSpec := { name := "fatesBits", fn := fun _ => fun
  | [d1, d2] => { results := [.lit (.bool true)], args := [d1, d2] }
  | _ => none }
def fatesBitsRow : OpenClaim := { program := "ytlncdokeecmnjaa", sum := "80847de55d20334be9a5e035795b38783c270c158dc2e1a4bc1223b566dd8f3d", func := "tollhouse/tollhouselaw20.FatesBits", spec := "fatesBits", unfollowed := true, recurses := true, apart := false }
def FatesBitsSaid : Prop := fatesBitsRow.holds Try.pinned (OpenSpec.ofChange fatesBitsSpec)

/-- ITS FALSE NEIGHBOUR: 'it returns false'. Refute it at one input. -/
def fatesBitsWrong : ChangeSpec := { name := "fatesBits", fn := fun _ => fun
  | [d1, d2] => { results := [.lit (.bool false)], args := [d1, d2] }
  | _ => none }
def FatesBitsWrongFalsely : Prop := fatesBitsRow.holds Try.pinned (OpenSpec.ofChange fatesBitsWrong)

/- THE SECOND FORM. 'bulk': how many values and letters a reading holds, each counted each time it is reached (what is shared counts as often as it is met; a slice's spare places count too). A statement '..UptoSaid' is the law's where the arguments, and the package variables that the reading takes, are together of bulk at most 1048576: NARROWER than '..Said'. Prove '..Said' where nothing that the law and all that it calls make is longer than what came in: it says more and counts as full. Else prove '..UptoSaid'. A law counts once. -/
mutual
def uptoBulk {H : Type} : DataW H → Nat
  | .lit (.string bytes) => bytes.length + 1
  | .lit _ => 1
  | .nil => 1
  | .ptr d => uptoBulk d + 1
  | .slice elems spare => uptoBulkAll elems + uptoBulkAll spare + 1
  | .agg parts => uptoBulkAll parts + 1
  | .iface _ d => uptoBulk d + 1
  | .map entries => uptoBulkEntries entries + 1
  | .held _ => 1
def uptoBulkAll {H : Type} : List (DataW H) → Nat
  | [] => 0
  | d :: r => uptoBulk d + uptoBulkAll r
def uptoBulkEntries {H : Type} : List (Lit × DataW H) → Nat
  | [] => 0
  | x :: r => uptoBulkEntry x + uptoBulkEntries r
def uptoBulkEntry {H : Type} : Lit × DataW H → Nat
  | (.string bytes, d) => bytes.length + uptoBulk d + 1
  | (_, d) => uptoBulk d + 1
 end
def uptoSmall : (H : Type) → List (DataW H) → Bool := fun _ ds => decide (uptoBulkAll ds ≤ 1048576)
def OpenSpec.upto (s : _root_.Go.ChangeSpec) : _root_.Go.OpenSpec := { _root_.Go.OpenSpec.ofChange s with cond := some uptoSmall }

/-- 'tollhouselaw20.FatesPlay', WHERE WHAT IT READS IS OF BULK AT MOST 1048576: true; the input reads as it did. -/
def fatesPlayUptoRow : OpenClaim := { program := "ytlncdokeecmnjaa", sum := "80847de55d20334be9a5e035795b38783c270c158dc2e1a4bc1223b566dd8f3d", func := "tollhouse/tollhouselaw20.FatesPlay", spec := "fatesPlay", unfollowed := true, recurses := true, apart := false, narrowed := true }
def FatesPlayUptoSaid : Prop := fatesPlayUptoRow.holds Try.pinned (OpenSpec.upto fatesPlaySpec)

/-- 'tollhouselaw20.FatesOrder', WHERE WHAT IT READS IS OF BULK AT MOST 1048576: true; the input reads as it did. -/
def fatesOrderUptoRow : OpenClaim := { program := "ytlncdokeecmnjaa", sum := "80847de55d20334be9a5e035795b38783c270c158dc2e1a4bc1223b566dd8f3d", func := "tollhouse/tollhouselaw20.FatesOrder", spec := "fatesOrder", unfollowed := true, recurses := true, apart := false, narrowed := true }
def FatesOrderUptoSaid : Prop := fatesOrderUptoRow.holds Try.pinned (OpenSpec.upto fatesOrderSpec)

/-- 'tollhouselaw20.FatesNone', WHERE WHAT IT READS IS OF BULK AT MOST 1048576: true; the input reads as it did. -/
def fatesNoneUptoRow : OpenClaim := { program := "ytlncdokeecmnjaa", sum := "80847de55d20334be9a5e035795b38783c270c158dc2e1a4bc1223b566dd8f3d", func := "tollhouse/tollhouselaw20.FatesNone", spec := "fatesNone", unfollowed := true, recurses := true, apart := false, narrowed := true }
def FatesNoneUptoSaid : Prop := fatesNoneUptoRow.holds Try.pinned (OpenSpec.upto fatesNoneSpec)

/-- 'tollhouselaw20.FatesBits', WHERE WHAT IT READS IS OF BULK AT MOST 1048576: true; the input reads as it did. -/
def fatesBitsUptoRow : OpenClaim := { program := "ytlncdokeecmnjaa", sum := "80847de55d20334be9a5e035795b38783c270c158dc2e1a4bc1223b566dd8f3d", func := "tollhouse/tollhouselaw20.FatesBits", spec := "fatesBits", unfollowed := true, recurses := true, apart := false, narrowed := true }
def FatesBitsUptoSaid : Prop := fatesBitsUptoRow.holds Try.pinned (OpenSpec.upto fatesBitsSpec)

end Rows
end Go.Proofs.Ytlncdokeecmnjaa
