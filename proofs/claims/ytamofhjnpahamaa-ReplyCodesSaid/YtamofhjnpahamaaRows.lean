/-
  No cell of these rows narrows 'for every input' (looked for: loops, veiled, ifaces, maps, wideKeys, modest, calm, conditions, laid).
  DERIVED. THE GIVEN ROWS OF THIS SEAT. 4 by the template 'for every input the law returns true; each argument reads behind the call as it read before'; 0 by the template 'total and deterministic' (their statements: YtamofhjnpahamaaTotals.lean).
  GIVEN WITH THE SEED: the statements are not yours to turn. If you find one false, say at which input.
  Laid BY PROGRAM, IN A SANDBOX (cutbox-rows.mjs): the forced cells as the released guide's own fill.sh prints them over the translation c9d2c0b398425598… (all of the seat's roots in one cut). By AI agents, Wed Nov 11 2026. No macro, syntax, notation, axiom, sorry.
-/
import Derived.Test.YtamofhjnpahamaaChecked
import GoSem.Claim
import GoSem.ClaimJoined
import GoSem.ClaimMapViews
import Derived.JoinedTies
import Derived.KernelRfl
namespace Go.Proofs.Ytamofhjnpahamaa
/- THE CELL 'sum', in the pinned program and in every row, IS THE sha256 OF THE DUMP (.gsa) THAT YtamofhjnpahamaaProg.lean LOADS. Nothing in Lean hashes anything: it is a label: what it is worth is what the hold of that sum in a sandbox is worth. -/
noncomputable def Try.pinned : Pinned := { name := "ytamofhjnpahamaa", sum := "c9d2c0b39842559898156508700178f590750f575b4e00a1fb1992671af80d5e", checked := Try.checked }
namespace Rows
def none {H : Type} : Left H := { results := [], args := [] }

/-- 'tollhouselaw17.ReplyCodes': WHATEVER THE INPUT: true; the input reads as it did. -/
def replyCodesSpec : ChangeSpec := { name := "replyCodes", fn := fun _ => fun
  | [d1, d2] => { results := [.lit (.bool true)], args := [d1, d2] }
  | _ => none }
def replyCodesRow : OpenClaim := { program := "ytamofhjnpahamaa", sum := "c9d2c0b39842559898156508700178f590750f575b4e00a1fb1992671af80d5e", func := "tollhouse/tollhouselaw17.ReplyCodes", spec := "replyCodes", apart := false }
def ReplyCodesSaid : Prop := replyCodesRow.holds Try.pinned (OpenSpec.ofChange replyCodesSpec)

/-- ITS FALSE NEIGHBOUR: 'it returns false'. Refute it at one input. -/
def replyCodesWrong : ChangeSpec := { name := "replyCodes", fn := fun _ => fun
  | [d1, d2] => { results := [.lit (.bool false)], args := [d1, d2] }
  | _ => none }
def ReplyCodesWrongFalsely : Prop := replyCodesRow.holds Try.pinned (OpenSpec.ofChange replyCodesWrong)

/-- 'tollhouselaw17.ReplyTurns': WHATEVER THE INPUT: true; the input reads as it did. -/
def replyTurnsSpec : ChangeSpec := { name := "replyTurns", fn := fun _ => fun
  | [d1, d2, d3] => { results := [.lit (.bool true)], args := [d1, d2, d3] }
  | _ => none }
def replyTurnsRow : OpenClaim := { program := "ytamofhjnpahamaa", sum := "c9d2c0b39842559898156508700178f590750f575b4e00a1fb1992671af80d5e", func := "tollhouse/tollhouselaw17.ReplyTurns", spec := "replyTurns", apart := false }
def ReplyTurnsSaid : Prop := replyTurnsRow.holds Try.pinned (OpenSpec.ofChange replyTurnsSpec)

/-- ITS FALSE NEIGHBOUR: 'it returns false'. Refute it at one input. -/
def replyTurnsWrong : ChangeSpec := { name := "replyTurns", fn := fun _ => fun
  | [d1, d2, d3] => { results := [.lit (.bool false)], args := [d1, d2, d3] }
  | _ => none }
def ReplyTurnsWrongFalsely : Prop := replyTurnsRow.holds Try.pinned (OpenSpec.ofChange replyTurnsWrong)

/-- 'tollhouselaw17.ReplyJoins': WHATEVER THE INPUT: true; the input reads as it did. -/
def replyJoinsSpec : ChangeSpec := { name := "replyJoins", fn := fun _ => fun
  | [d1, d2] => { results := [.lit (.bool true)], args := [d1, d2] }
  | _ => none }
def replyJoinsRow : OpenClaim := { program := "ytamofhjnpahamaa", sum := "c9d2c0b39842559898156508700178f590750f575b4e00a1fb1992671af80d5e", func := "tollhouse/tollhouselaw17.ReplyJoins", spec := "replyJoins", apart := false }
def ReplyJoinsSaid : Prop := replyJoinsRow.holds Try.pinned (OpenSpec.ofChange replyJoinsSpec)

/-- ITS FALSE NEIGHBOUR: 'it returns false'. Refute it at one input. -/
def replyJoinsWrong : ChangeSpec := { name := "replyJoins", fn := fun _ => fun
  | [d1, d2] => { results := [.lit (.bool false)], args := [d1, d2] }
  | _ => none }
def ReplyJoinsWrongFalsely : Prop := replyJoinsRow.holds Try.pinned (OpenSpec.ofChange replyJoinsWrong)

/-- 'tollhouselaw17.ReplyPlaces': WHATEVER THE INPUT: true; the input reads as it did. -/
def replyPlacesSpec : ChangeSpec := { name := "replyPlaces", fn := fun _ => fun
  | [d] => { results := [.lit (.bool true)], args := [d] }
  | _ => none }
def replyPlacesRow : OpenClaim := { program := "ytamofhjnpahamaa", sum := "c9d2c0b39842559898156508700178f590750f575b4e00a1fb1992671af80d5e", func := "tollhouse/tollhouselaw17.ReplyPlaces", spec := "replyPlaces", apart := false }
def ReplyPlacesSaid : Prop := replyPlacesRow.holds Try.pinned (OpenSpec.ofChange replyPlacesSpec)

/-- ITS FALSE NEIGHBOUR: 'it returns false'. Refute it at one input. -/
def replyPlacesWrong : ChangeSpec := { name := "replyPlaces", fn := fun _ => fun
  | [d] => { results := [.lit (.bool false)], args := [d] }
  | _ => none }
def ReplyPlacesWrongFalsely : Prop := replyPlacesRow.holds Try.pinned (OpenSpec.ofChange replyPlacesWrong)

/- THE SECOND FORM. 'bulk': how many values and letters a reading holds, each counted each time it is reached (what is shared counts as often as it is met; a slice's spare places count too). A statement '..UptoSaid' is the law's where the arguments, and the package variables that the reading takes, are together of bulk at most 1048576: NARROWER than '..Said'. Prove '..Said' where nothing that the law and all that it calls make is longer than what came in: it says more and counts as full. Else prove '..UptoSaid'. A law counts once. -/
mutual
def uptoBulk {H : Type} : DataW H → Nat
  | .lit (.string bytes) => bytes.length + 1
  | .lit _ => 1
  | .nil => 1
  | .ptr d => uptoBulk d + 1
  | .slice elems spare => uptoBulkAll elems + uptoBulkAll spare + 1
  | .agg parts => uptoBulkAll parts + 1
  | .iface _ d => uptoBulk d + 1
  | .map entries => uptoBulkEntries entries + 1
  | .held _ => 1
def uptoBulkAll {H : Type} : List (DataW H) → Nat
  | [] => 0
  | d :: r => uptoBulk d + uptoBulkAll r
def uptoBulkEntries {H : Type} : List (Lit × DataW H) → Nat
  | [] => 0
  | x :: r => uptoBulkEntry x + uptoBulkEntries r
def uptoBulkEntry {H : Type} : Lit × DataW H → Nat
  | (.string bytes, d) => bytes.length + uptoBulk d + 1
  | (_, d) => uptoBulk d + 1
 end
def uptoSmall : (H : Type) → List (DataW H) → Bool := fun _ ds => decide (uptoBulkAll ds ≤ 1048576)
def OpenSpec.upto (s : _root_.Go.ChangeSpec) : _root_.Go.OpenSpec := { _root_.Go.OpenSpec.ofChange s with cond := some uptoSmall }

/-- 'tollhouselaw17.ReplyCodes', WHERE WHAT IT READS IS OF BULK AT MOST 1048576: true; the input reads as it did. -/
def replyCodesUptoRow : OpenClaim := { program := "ytamofhjnpahamaa", sum := "c9d2c0b39842559898156508700178f590750f575b4e00a1fb1992671af80d5e", func := "tollhouse/tollhouselaw17.ReplyCodes", spec := "replyCodes", apart := false, narrowed := true }
def ReplyCodesUptoSaid : Prop := replyCodesUptoRow.holds Try.pinned (OpenSpec.upto replyCodesSpec)

/-- 'tollhouselaw17.ReplyTurns', WHERE WHAT IT READS IS OF BULK AT MOST 1048576: true; the input reads as it did. -/
def replyTurnsUptoRow : OpenClaim := { program := "ytamofhjnpahamaa", sum := "c9d2c0b39842559898156508700178f590750f575b4e00a1fb1992671af80d5e", func := "tollhouse/tollhouselaw17.ReplyTurns", spec := "replyTurns", apart := false, narrowed := true }
def ReplyTurnsUptoSaid : Prop := replyTurnsUptoRow.holds Try.pinned (OpenSpec.upto replyTurnsSpec)

/-- 'tollhouselaw17.ReplyJoins', WHERE WHAT IT READS IS OF BULK AT MOST 1048576: true; the input reads as it did. -/
def replyJoinsUptoRow : OpenClaim := { program := "ytamofhjnpahamaa", sum := "c9d2c0b39842559898156508700178f590750f575b4e00a1fb1992671af80d5e", func := "tollhouse/tollhouselaw17.ReplyJoins", spec := "replyJoins", apart := false, narrowed := true }
def ReplyJoinsUptoSaid : Prop := replyJoinsUptoRow.holds Try.pinned (OpenSpec.upto replyJoinsSpec)

/-- 'tollhouselaw17.ReplyPlaces', WHERE WHAT IT READS IS OF BULK AT MOST 1048576: true; the input reads as it did. -/
def replyPlacesUptoRow : OpenClaim := { program := "ytamofhjnpahamaa", sum := "c9d2c0b39842559898156508700178f590750f575b4e00a1fb1992671af80d5e", func := "tollhouse/tollhouselaw17.ReplyPlaces", spec := "replyPlaces", apart := false, narrowed := true }
def ReplyPlacesUptoSaid : Prop := replyPlacesUptoRow.holds Try.pinned (OpenSpec.upto replyPlacesSpec)

end Rows
end Go.Proofs.Ytamofhjnpahamaa
