/-
  No cell of these rows narrows 'for every input' (looked for: loops, veiled, ifaces, maps, wideKeys, modest, calm, conditions, laid).
  DERIVED. THE GIVEN ROWS OF THIS SEAT. 5 by the template 'for every input the law returns true; each argument reads behind the call as it read before'; 0 by the template 'total and deterministic' (their statements: YtcdcongeogmfkaaTotals.lean).
  GIVEN WITH THE SEED: the statements are not yours to turn. If you find one false, say at which input.
  Laid BY PROGRAM, IN A SANDBOX (cutbox-rows.mjs): the forced cells as the released guide's own fill.sh prints them over the translation bb0bb2086377a6f4… (all of the seat's roots in one cut). By AI agents, Wed Nov 11 2026. No macro, syntax, notation, axiom, sorry.
-/
import Derived.Test.YtcdcongeogmfkaaChecked
import GoSem.Claim
import GoSem.ClaimJoined
import GoSem.ClaimMapViews
import Derived.JoinedTies
import Derived.KernelRfl
namespace Go.Proofs.Ytcdcongeogmfkaa
/- THE CELL 'sum', in the pinned program and in every row, IS THE sha256 OF THE DUMP (.gsa) THAT YtcdcongeogmfkaaProg.lean LOADS. Nothing in Lean hashes anything: it is a label: what it is worth is what the hold of that sum in a sandbox is worth. -/
noncomputable def Try.pinned : Pinned := { name := "ytcdcongeogmfkaa", sum := "bb0bb2086377a6f44fbd262075b417873b6ff31ceedf77d84da86d340b49379f", checked := Try.checked }
namespace Rows
def none {H : Type} : Left H := { results := [], args := [] }

/-- 'tollhouselaw08.WalPlays': WHATEVER THE INPUT: true; the input reads as it did. -/
def walPlaysSpec : ChangeSpec := { name := "walPlays", fn := fun _ => fun
  | [d1, d2] => { results := [.lit (.bool true)], args := [d1, d2] }
  | _ => none }
def walPlaysRow : OpenClaim := { program := "ytcdcongeogmfkaa", sum := "bb0bb2086377a6f44fbd262075b417873b6ff31ceedf77d84da86d340b49379f", func := "tollhouse/tollhouselaw08.WalPlays", spec := "walPlays", apart := false }
def WalPlaysSaid : Prop := walPlaysRow.holds Try.pinned (OpenSpec.ofChange walPlaysSpec)

/-- ITS FALSE NEIGHBOUR: 'it returns false'. Refute it at one input. -/
def walPlaysWrong : ChangeSpec := { name := "walPlays", fn := fun _ => fun
  | [d1, d2] => { results := [.lit (.bool false)], args := [d1, d2] }
  | _ => none }
def WalPlaysWrongFalsely : Prop := walPlaysRow.holds Try.pinned (OpenSpec.ofChange walPlaysWrong)

/-- 'tollhouselaw08.WalTorn': WHATEVER THE INPUT: true; the input reads as it did. -/
def walTornSpec : ChangeSpec := { name := "walTorn", fn := fun _ => fun
  | [d1, d2, d3] => { results := [.lit (.bool true)], args := [d1, d2, d3] }
  | _ => none }
def walTornRow : OpenClaim := { program := "ytcdcongeogmfkaa", sum := "bb0bb2086377a6f44fbd262075b417873b6ff31ceedf77d84da86d340b49379f", func := "tollhouse/tollhouselaw08.WalTorn", spec := "walTorn", apart := false }
def WalTornSaid : Prop := walTornRow.holds Try.pinned (OpenSpec.ofChange walTornSpec)

/-- ITS FALSE NEIGHBOUR: 'it returns false'. Refute it at one input. -/
def walTornWrong : ChangeSpec := { name := "walTorn", fn := fun _ => fun
  | [d1, d2, d3] => { results := [.lit (.bool false)], args := [d1, d2, d3] }
  | _ => none }
def WalTornWrongFalsely : Prop := walTornRow.holds Try.pinned (OpenSpec.ofChange walTornWrong)

/-- 'tollhouselaw08.WalNone': WHATEVER THE INPUT: true; the input reads as it did. -/
def walNoneSpec : ChangeSpec := { name := "walNone", fn := fun _ => fun
  | [d1, d2] => { results := [.lit (.bool true)], args := [d1, d2] }
  | _ => none }
def walNoneRow : OpenClaim := { program := "ytcdcongeogmfkaa", sum := "bb0bb2086377a6f44fbd262075b417873b6ff31ceedf77d84da86d340b49379f", func := "tollhouse/tollhouselaw08.WalNone", spec := "walNone", apart := false }
def WalNoneSaid : Prop := walNoneRow.holds Try.pinned (OpenSpec.ofChange walNoneSpec)

/-- ITS FALSE NEIGHBOUR: 'it returns false'. Refute it at one input. -/
def walNoneWrong : ChangeSpec := { name := "walNone", fn := fun _ => fun
  | [d1, d2] => { results := [.lit (.bool false)], args := [d1, d2] }
  | _ => none }
def WalNoneWrongFalsely : Prop := walNoneRow.holds Try.pinned (OpenSpec.ofChange walNoneWrong)

/-- 'tollhouselaw08.WalOver': WHATEVER THE INPUT: true; the input reads as it did. -/
def walOverSpec : ChangeSpec := { name := "walOver", fn := fun _ => fun
  | [d1, d2] => { results := [.lit (.bool true)], args := [d1, d2] }
  | _ => none }
def walOverRow : OpenClaim := { program := "ytcdcongeogmfkaa", sum := "bb0bb2086377a6f44fbd262075b417873b6ff31ceedf77d84da86d340b49379f", func := "tollhouse/tollhouselaw08.WalOver", spec := "walOver", apart := false }
def WalOverSaid : Prop := walOverRow.holds Try.pinned (OpenSpec.ofChange walOverSpec)

/-- ITS FALSE NEIGHBOUR: 'it returns false'. Refute it at one input. -/
def walOverWrong : ChangeSpec := { name := "walOver", fn := fun _ => fun
  | [d1, d2] => { results := [.lit (.bool false)], args := [d1, d2] }
  | _ => none }
def WalOverWrongFalsely : Prop := walOverRow.holds Try.pinned (OpenSpec.ofChange walOverWrong)

/-- 'tollhouselaw08.WalGood': WHATEVER THE INPUT: true; the input reads as it did. -/
def walGoodSpec : ChangeSpec := { name := "walGood", fn := fun _ => fun
  | [d] => { results := [.lit (.bool true)], args := [d] }
  | _ => none }
def walGoodRow : OpenClaim := { program := "ytcdcongeogmfkaa", sum := "bb0bb2086377a6f44fbd262075b417873b6ff31ceedf77d84da86d340b49379f", func := "tollhouse/tollhouselaw08.WalGood", spec := "walGood", apart := false }
def WalGoodSaid : Prop := walGoodRow.holds Try.pinned (OpenSpec.ofChange walGoodSpec)

/-- ITS FALSE NEIGHBOUR: 'it returns false'. Refute it at one input. -/
def walGoodWrong : ChangeSpec := { name := "walGood", fn := fun _ => fun
  | [d] => { results := [.lit (.bool false)], args := [d] }
  | _ => none }
def WalGoodWrongFalsely : Prop := walGoodRow.holds Try.pinned (OpenSpec.ofChange walGoodWrong)

/- THE SECOND FORM. 'bulk': how many values and letters a reading holds, each counted each time it is reached (what is shared counts as often as it is met; a slice's spare places count too). A statement '..UptoSaid' is the law's where the arguments, and the package variables that the reading takes, are together of bulk at most 1048576: NARROWER than '..Said'. Prove '..Said' where nothing that the law and all that it calls make is longer than what came in: it says more and counts as full. Else prove '..UptoSaid'. A law counts once. -/
mutual
def uptoBulk {H : Type} : DataW H → Nat
  | .lit (.string bytes) => bytes.length + 1
  | .lit _ => 1
  | .nil => 1
  | .ptr d => uptoBulk d + 1
  | .slice elems spare => uptoBulkAll elems + uptoBulkAll spare + 1
  | .agg parts => uptoBulkAll parts + 1
  | .iface _ d => uptoBulk d + 1
  | .map entries => uptoBulkEntries entries + 1
  | .held _ => 1
def uptoBulkAll {H : Type} : List (DataW H) → Nat
  | [] => 0
  | d :: r => uptoBulk d + uptoBulkAll r
def uptoBulkEntries {H : Type} : List (Lit × DataW H) → Nat
  | [] => 0
  | x :: r => uptoBulkEntry x + uptoBulkEntries r
def uptoBulkEntry {H : Type} : Lit × DataW H → Nat
  | (.string bytes, d) => bytes.length + uptoBulk d + 1
  | (_, d) => uptoBulk d + 1
 end
def uptoSmall : (H : Type) → List (DataW H) → Bool := fun _ ds => decide (uptoBulkAll ds ≤ 1048576)
def OpenSpec.upto (s : _root_.Go.ChangeSpec) : _root_.Go.OpenSpec := { _root_.Go.OpenSpec.ofChange s with cond := some uptoSmall }

/-- 'tollhouselaw08.WalPlays', WHERE WHAT IT READS IS OF BULK AT MOST 1048576: true; the input reads as it did. -/
def walPlaysUptoRow : OpenClaim := { program := "ytcdcongeogmfkaa", sum := "bb0bb2086377a6f44fbd262075b417873b6ff31ceedf77d84da86d340b49379f", func := "tollhouse/tollhouselaw08.WalPlays", spec := "walPlays", apart := false, narrowed := true }
def WalPlaysUptoSaid : Prop := walPlaysUptoRow.holds Try.pinned (OpenSpec.upto walPlaysSpec)

/-- 'tollhouselaw08.WalTorn', WHERE WHAT IT READS IS OF BULK AT MOST 1048576: true; the input reads as it did. -/
def walTornUptoRow : OpenClaim := { program := "ytcdcongeogmfkaa", sum := "bb0bb2086377a6f44fbd262075b417873b6ff31ceedf77d84da86d340b49379f", func := "tollhouse/tollhouselaw08.WalTorn", spec := "walTorn", apart := false, narrowed := true }
def WalTornUptoSaid : Prop := walTornUptoRow.holds Try.pinned (OpenSpec.upto walTornSpec)

/-- 'tollhouselaw08.WalNone', WHERE WHAT IT READS IS OF BULK AT MOST 1048576: true; the input reads as it did. -/
def walNoneUptoRow : OpenClaim := { program := "ytcdcongeogmfkaa", sum := "bb0bb2086377a6f44fbd262075b417873b6ff31ceedf77d84da86d340b49379f", func := "tollhouse/tollhouselaw08.WalNone", spec := "walNone", apart := false, narrowed := true }
def WalNoneUptoSaid : Prop := walNoneUptoRow.holds Try.pinned (OpenSpec.upto walNoneSpec)

/-- 'tollhouselaw08.WalOver', WHERE WHAT IT READS IS OF BULK AT MOST 1048576: true; the input reads as it did. -/
def walOverUptoRow : OpenClaim := { program := "ytcdcongeogmfkaa", sum := "bb0bb2086377a6f44fbd262075b417873b6ff31ceedf77d84da86d340b49379f", func := "tollhouse/tollhouselaw08.WalOver", spec := "walOver", apart := false, narrowed := true }
def WalOverUptoSaid : Prop := walOverUptoRow.holds Try.pinned (OpenSpec.upto walOverSpec)

/-- 'tollhouselaw08.WalGood', WHERE WHAT IT READS IS OF BULK AT MOST 1048576: true; the input reads as it did. -/
def walGoodUptoRow : OpenClaim := { program := "ytcdcongeogmfkaa", sum := "bb0bb2086377a6f44fbd262075b417873b6ff31ceedf77d84da86d340b49379f", func := "tollhouse/tollhouselaw08.WalGood", spec := "walGood", apart := false, narrowed := true }
def WalGoodUptoSaid : Prop := walGoodUptoRow.holds Try.pinned (OpenSpec.upto walGoodSpec)

end Rows
end Go.Proofs.Ytcdcongeogmfkaa
