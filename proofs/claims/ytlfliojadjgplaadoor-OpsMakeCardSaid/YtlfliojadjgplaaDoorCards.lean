/-
  DERIVED. GIVEN WITH THE SEED: THE CARDS: each row of YtlfliojadjgplaaDoorRows.lean that lists a variable, with what it lists TIED to the program's text (the seventh form; the later family's looks); each row that meets fmt, with fmt's text TOLD by the authors' own Lean function (tested against real Go, not proved from fmt's source: count such statements apart). THE CARD IS WHAT COUNTS. Prove the row's statement (the work); the ties are given (YtlfliojadjgplaaDoorTie.lean); close each card by the builder's one call (the guide's Derived/Test/ToyasCard.lean, 'card_holds'). Laid BY PROGRAM, IN A SANDBOX (cutbox-door.mjs). By AI agents, Wed Nov 11 2026. No macro, syntax, notation, axiom, sorry.
-/
import Derived.Test.YtlfliojadjgplaaDoorRows
import GoSem.ClaimSeven
namespace Go.Proofs.YtlfliojadjgplaaDoor
namespace Rows

/-- THE TIED CARD OF 'tollhouselaw13.OpsTell'. -/
def opsTellCard : Claim7 := { stood := { row := opsTellRow, standIns := [], harness := (true, "8b4e9eb4268d875e627ef9b9386af1a0fe57d8ec8cd20f3a6317b8e09d40ff1c"), looks := false }, kinds := [], alts := [], laidByText := true, laidKinds := [.data, .pinned], laidTests := true, laidLooks := .later }
def OpsTellCardSaid : Prop := Claim7.holds Tryd.pinned (.plain (OpenSpec.ofChange opsTellSpec)) opsTellCard

/-- THE TIED CARD OF 'tollhouselaw13.OpsMake'. -/
def opsMakeCard : Claim7 := { stood := { row := opsMakeRow, standIns := [], harness := (true, "8b4e9eb4268d875e627ef9b9386af1a0fe57d8ec8cd20f3a6317b8e09d40ff1c"), looks := false }, kinds := [], alts := [], laidByText := true, laidKinds := [.data, .pinned], laidTests := true, laidLooks := .later }
def OpsMakeCardSaid : Prop := Claim7.holds Tryd.pinned (.plain (OpenSpec.ofChange opsMakeSpec)) opsMakeCard

/-- THE TIED CARD OF 'tollhouselaw13.OpsApart'. -/
def opsApartCard : Claim7 := { stood := { row := opsApartRow, standIns := [], harness := (true, "8b4e9eb4268d875e627ef9b9386af1a0fe57d8ec8cd20f3a6317b8e09d40ff1c"), looks := false }, kinds := [], alts := [], laidByText := true, laidKinds := [.data, .pinned], laidTests := true, laidLooks := .later }
def OpsApartCardSaid : Prop := Claim7.holds Tryd.pinned (.plain (OpenSpec.ofChange opsApartSpec)) opsApartCard

/-- THE TIED CARD OF 'tollhouselaw13.OpsFull'. -/
def opsFullCard : Claim7 := { stood := { row := opsFullRow, standIns := [], harness := (true, "8b4e9eb4268d875e627ef9b9386af1a0fe57d8ec8cd20f3a6317b8e09d40ff1c"), looks := false }, kinds := [], alts := [], laidByText := true, laidKinds := [.data, .pinned], laidTests := true, laidLooks := .later }
def OpsFullCardSaid : Prop := Claim7.holds Tryd.pinned (.plain (OpenSpec.ofChange opsFullSpec)) opsFullCard

/-- THE SECOND FORM's CARD OF 'tollhouselaw13.OpsTell'. -/
def opsTellUptoCard : Claim7 := { stood := { row := opsTellUptoRow, standIns := [], harness := (true, "8b4e9eb4268d875e627ef9b9386af1a0fe57d8ec8cd20f3a6317b8e09d40ff1c"), looks := false }, kinds := [], alts := [], laidByText := true, laidKinds := [.data, .pinned], laidTests := true, laidLooks := .later }
def OpsTellUptoCardSaid : Prop := Claim7.holds Tryd.pinned (.plain (OpenSpec.upto opsTellSpec)) opsTellUptoCard

/-- THE SECOND FORM's CARD OF 'tollhouselaw13.OpsMake'. -/
def opsMakeUptoCard : Claim7 := { stood := { row := opsMakeUptoRow, standIns := [], harness := (true, "8b4e9eb4268d875e627ef9b9386af1a0fe57d8ec8cd20f3a6317b8e09d40ff1c"), looks := false }, kinds := [], alts := [], laidByText := true, laidKinds := [.data, .pinned], laidTests := true, laidLooks := .later }
def OpsMakeUptoCardSaid : Prop := Claim7.holds Tryd.pinned (.plain (OpenSpec.upto opsMakeSpec)) opsMakeUptoCard

/-- THE SECOND FORM's CARD OF 'tollhouselaw13.OpsApart'. -/
def opsApartUptoCard : Claim7 := { stood := { row := opsApartUptoRow, standIns := [], harness := (true, "8b4e9eb4268d875e627ef9b9386af1a0fe57d8ec8cd20f3a6317b8e09d40ff1c"), looks := false }, kinds := [], alts := [], laidByText := true, laidKinds := [.data, .pinned], laidTests := true, laidLooks := .later }
def OpsApartUptoCardSaid : Prop := Claim7.holds Tryd.pinned (.plain (OpenSpec.upto opsApartSpec)) opsApartUptoCard

/-- THE SECOND FORM's CARD OF 'tollhouselaw13.OpsFull'. -/
def opsFullUptoCard : Claim7 := { stood := { row := opsFullUptoRow, standIns := [], harness := (true, "8b4e9eb4268d875e627ef9b9386af1a0fe57d8ec8cd20f3a6317b8e09d40ff1c"), looks := false }, kinds := [], alts := [], laidByText := true, laidKinds := [.data, .pinned], laidTests := true, laidLooks := .later }
def OpsFullUptoCardSaid : Prop := Claim7.holds Tryd.pinned (.plain (OpenSpec.upto opsFullSpec)) opsFullUptoCard
end Rows
end Go.Proofs.YtlfliojadjgplaaDoor
