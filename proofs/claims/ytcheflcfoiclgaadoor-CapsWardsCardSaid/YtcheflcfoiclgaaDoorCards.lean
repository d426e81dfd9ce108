/-
  DERIVED. GIVEN WITH THE SEED: THE CARDS: each row of YtcheflcfoiclgaaDoorRows.lean that lists a variable, with what it lists TIED to the program's text (the seventh form; the later family's looks); each row that meets fmt, with fmt's text TOLD by the authors' own Lean function (tested against real Go, not proved from fmt's source: count such statements apart). THE CARD IS WHAT COUNTS. Prove the row's statement (the work); the ties are given (YtcheflcfoiclgaaDoorTie.lean); close each card by the builder's one call (the guide's Derived/Test/ToyasCard.lean, 'card_holds'). Laid BY PROGRAM, IN A SANDBOX (cutbox-door.mjs). By AI agents, Wed Nov 11 2026. No macro, syntax, notation, axiom, sorry.
-/
import Derived.Test.YtcheflcfoiclgaaDoorRows
import GoSem.ClaimSeven
namespace Go.Proofs.YtcheflcfoiclgaaDoor
namespace Rows

/-- THE TIED CARD OF 'tollhouselaw15.CapsTell'. -/
def capsTellCard : Claim7 := { stood := { row := capsTellRow, standIns := [], harness := (true, "5e2d36e67eb715e0f25ff39a4fb33deb9d0375ccfec9676fca9dc5b5f69428e4"), looks := false }, kinds := [], alts := [], laidByText := true, laidKinds := [.data], laidTests := true, laidLooks := .later }
def CapsTellCardSaid : Prop := Claim7.holds Tryd.pinned (.plain (OpenSpec.ofChange capsTellSpec)) capsTellCard

/-- THE TIED CARD OF 'tollhouselaw15.CapsScope'. -/
def capsScopeCard : Claim7 := { stood := { row := capsScopeRow, standIns := [], harness := (true, "5e2d36e67eb715e0f25ff39a4fb33deb9d0375ccfec9676fca9dc5b5f69428e4"), looks := false }, kinds := [], alts := [], laidByText := true, laidKinds := [.data], laidTests := true, laidLooks := .later }
def CapsScopeCardSaid : Prop := Claim7.holds Tryd.pinned (.plain (OpenSpec.ofChange capsScopeSpec)) capsScopeCard

/-- THE TIED CARD OF 'tollhouselaw15.CapsWards'. -/
def capsWardsCard : Claim7 := { stood := { row := capsWardsRow, standIns := [], harness := (true, "5e2d36e67eb715e0f25ff39a4fb33deb9d0375ccfec9676fca9dc5b5f69428e4"), looks := false }, kinds := [], alts := [], laidByText := true, laidKinds := [.data], laidTests := true, laidLooks := .later }
def CapsWardsCardSaid : Prop := Claim7.holds Tryd.pinned (.plain (OpenSpec.ofChange capsWardsSpec)) capsWardsCard

/-- THE SECOND FORM's CARD OF 'tollhouselaw15.CapsTell'. -/
def capsTellUptoCard : Claim7 := { stood := { row := capsTellUptoRow, standIns := [], harness := (true, "5e2d36e67eb715e0f25ff39a4fb33deb9d0375ccfec9676fca9dc5b5f69428e4"), looks := false }, kinds := [], alts := [], laidByText := true, laidKinds := [.data], laidTests := true, laidLooks := .later }
def CapsTellUptoCardSaid : Prop := Claim7.holds Tryd.pinned (.plain (OpenSpec.upto capsTellSpec)) capsTellUptoCard

/-- THE SECOND FORM's CARD OF 'tollhouselaw15.CapsScope'. -/
def capsScopeUptoCard : Claim7 := { stood := { row := capsScopeUptoRow, standIns := [], harness := (true, "5e2d36e67eb715e0f25ff39a4fb33deb9d0375ccfec9676fca9dc5b5f69428e4"), looks := false }, kinds := [], alts := [], laidByText := true, laidKinds := [.data], laidTests := true, laidLooks := .later }
def CapsScopeUptoCardSaid : Prop := Claim7.holds Tryd.pinned (.plain (OpenSpec.upto capsScopeSpec)) capsScopeUptoCard

/-- THE SECOND FORM's CARD OF 'tollhouselaw15.CapsWards'. -/
def capsWardsUptoCard : Claim7 := { stood := { row := capsWardsUptoRow, standIns := [], harness := (true, "5e2d36e67eb715e0f25ff39a4fb33deb9d0375ccfec9676fca9dc5b5f69428e4"), looks := false }, kinds := [], alts := [], laidByText := true, laidKinds := [.data], laidTests := true, laidLooks := .later }
def CapsWardsUptoCardSaid : Prop := Claim7.holds Tryd.pinned (.plain (OpenSpec.upto capsWardsSpec)) capsWardsUptoCard
end Rows
end Go.Proofs.YtcheflcfoiclgaaDoor
