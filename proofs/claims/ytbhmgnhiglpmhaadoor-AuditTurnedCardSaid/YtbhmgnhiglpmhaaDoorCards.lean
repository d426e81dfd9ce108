/-
  DERIVED. GIVEN WITH THE SEED: THE CARDS: each row of YtbhmgnhiglpmhaaDoorRows.lean that lists a variable, with what it lists TIED to the program's text (the seventh form; the later family's looks); each row that meets fmt, with fmt's text TOLD by the authors' own Lean function (tested against real Go, not proved from fmt's source: count such statements apart). THE CARD IS WHAT COUNTS. Prove the row's statement (the work); the ties are given (YtbhmgnhiglpmhaaDoorTie.lean); close each card by the builder's one call (the guide's Derived/Test/ToyasCard.lean, 'card_holds'). Laid BY PROGRAM, IN A SANDBOX (cutbox-door.mjs). By AI agents, Wed Nov 11 2026. No macro, syntax, notation, axiom, sorry.
-/
import Derived.Test.YtbhmgnhiglpmhaaDoorRows
import GoSem.ClaimSeven
namespace Go.Proofs.YtbhmgnhiglpmhaaDoor
namespace Rows

/-- THE TIED CARD OF 'tollhouselaw25.AuditAdds'. -/
def auditAddsCard : Claim7 := { stood := { row := auditAddsRow, standIns := [], harness := (true, "6c3eb5ed6847687b1d47a47a695f9b7cd0761df52dd2ae26aa7aade24e9eabbe"), looks := false }, kinds := [], alts := [], laidByText := true, laidKinds := [.data], laidTests := true, laidLooks := .later }
def AuditAddsCardSaid : Prop := Claim7.holds Tryd.pinned (.plain (OpenSpec.ofChange auditAddsSpec)) auditAddsCard

/-- THE TIED CARD OF 'tollhouselaw25.AuditVerifies'. -/
def auditVerifiesCard : Claim7 := { stood := { row := auditVerifiesRow, standIns := [], harness := (true, "6c3eb5ed6847687b1d47a47a695f9b7cd0761df52dd2ae26aa7aade24e9eabbe"), looks := false }, kinds := [], alts := [], laidByText := true, laidKinds := [.data], laidTests := true, laidLooks := .later }
def AuditVerifiesCardSaid : Prop := Claim7.holds Tryd.pinned (.plain (OpenSpec.ofChange auditVerifiesSpec)) auditVerifiesCard

/-- THE TIED CARD OF 'tollhouselaw25.AuditTurned'. -/
def auditTurnedCard : Claim7 := { stood := { row := auditTurnedRow, standIns := [], harness := (true, "6c3eb5ed6847687b1d47a47a695f9b7cd0761df52dd2ae26aa7aade24e9eabbe"), looks := false }, kinds := [], alts := [], laidByText := true, laidKinds := [.data], laidTests := true, laidLooks := .later }
def AuditTurnedCardSaid : Prop := Claim7.holds Tryd.pinned (.plain (OpenSpec.ofChange auditTurnedSpec)) auditTurnedCard

/-- THE TIED CARD OF 'tollhouselaw25.AuditNone'. -/
def auditNoneCard : Claim7 := { stood := { row := auditNoneRow, standIns := [], harness := (true, "6c3eb5ed6847687b1d47a47a695f9b7cd0761df52dd2ae26aa7aade24e9eabbe"), looks := false }, kinds := [], alts := [], laidByText := true, laidKinds := [.data], laidTests := true, laidLooks := .later }
def AuditNoneCardSaid : Prop := Claim7.holds Tryd.pinned (.plain (OpenSpec.ofChange auditNoneSpec)) auditNoneCard

/-- THE TIED CARD OF 'tollhouselaw25.AuditGoes'. -/
def auditGoesCard : Claim7 := { stood := { row := auditGoesRow, standIns := [], harness := (true, "6c3eb5ed6847687b1d47a47a695f9b7cd0761df52dd2ae26aa7aade24e9eabbe"), looks := false }, kinds := [], alts := [], laidByText := true, laidKinds := [.data], laidTests := true, laidLooks := .later }
def AuditGoesCardSaid : Prop := Claim7.holds Tryd.pinned (.plain (OpenSpec.ofChange auditGoesSpec)) auditGoesCard

/-- THE TIED CARD OF 'tollhouselaw25.AuditSwaps'. -/
def auditSwapsCard : Claim7 := { stood := { row := auditSwapsRow, standIns := [], harness := (true, "6c3eb5ed6847687b1d47a47a695f9b7cd0761df52dd2ae26aa7aade24e9eabbe"), looks := false }, kinds := [], alts := [], laidByText := true, laidKinds := [.data], laidTests := true, laidLooks := .later }
def AuditSwapsCardSaid : Prop := Claim7.holds Tryd.pinned (.plain (OpenSpec.ofChange auditSwapsSpec)) auditSwapsCard

/-- THE SECOND FORM's CARD OF 'tollhouselaw25.AuditAdds'. -/
def auditAddsUptoCard : Claim7 := { stood := { row := auditAddsUptoRow, standIns := [], harness := (true, "6c3eb5ed6847687b1d47a47a695f9b7cd0761df52dd2ae26aa7aade24e9eabbe"), looks := false }, kinds := [], alts := [], laidByText := true, laidKinds := [.data], laidTests := true, laidLooks := .later }
def AuditAddsUptoCardSaid : Prop := Claim7.holds Tryd.pinned (.plain (OpenSpec.upto auditAddsSpec)) auditAddsUptoCard

/-- THE SECOND FORM's CARD OF 'tollhouselaw25.AuditVerifies'. -/
def auditVerifiesUptoCard : Claim7 := { stood := { row := auditVerifiesUptoRow, standIns := [], harness := (true, "6c3eb5ed6847687b1d47a47a695f9b7cd0761df52dd2ae26aa7aade24e9eabbe"), looks := false }, kinds := [], alts := [], laidByText := true, laidKinds := [.data], laidTests := true, laidLooks := .later }
def AuditVerifiesUptoCardSaid : Prop := Claim7.holds Tryd.pinned (.plain (OpenSpec.upto auditVerifiesSpec)) auditVerifiesUptoCard

/-- THE SECOND FORM's CARD OF 'tollhouselaw25.AuditTurned'. -/
def auditTurnedUptoCard : Claim7 := { stood := { row := auditTurnedUptoRow, standIns := [], harness := (true, "6c3eb5ed6847687b1d47a47a695f9b7cd0761df52dd2ae26aa7aade24e9eabbe"), looks := false }, kinds := [], alts := [], laidByText := true, laidKinds := [.data], laidTests := true, laidLooks := .later }
def AuditTurnedUptoCardSaid : Prop := Claim7.holds Tryd.pinned (.plain (OpenSpec.upto auditTurnedSpec)) auditTurnedUptoCard

/-- THE SECOND FORM's CARD OF 'tollhouselaw25.AuditNone'. -/
def auditNoneUptoCard : Claim7 := { stood := { row := auditNoneUptoRow, standIns := [], harness := (true, "6c3eb5ed6847687b1d47a47a695f9b7cd0761df52dd2ae26aa7aade24e9eabbe"), looks := false }, kinds := [], alts := [], laidByText := true, laidKinds := [.data], laidTests := true, laidLooks := .later }
def AuditNoneUptoCardSaid : Prop := Claim7.holds Tryd.pinned (.plain (OpenSpec.upto auditNoneSpec)) auditNoneUptoCard

/-- THE SECOND FORM's CARD OF 'tollhouselaw25.AuditGoes'. -/
def auditGoesUptoCard : Claim7 := { stood := { row := auditGoesUptoRow, standIns := [], harness := (true, "6c3eb5ed6847687b1d47a47a695f9b7cd0761df52dd2ae26aa7aade24e9eabbe"), looks := false }, kinds := [], alts := [], laidByText := true, laidKinds := [.data], laidTests := true, laidLooks := .later }
def AuditGoesUptoCardSaid : Prop := Claim7.holds Tryd.pinned (.plain (OpenSpec.upto auditGoesSpec)) auditGoesUptoCard

/-- THE SECOND FORM's CARD OF 'tollhouselaw25.AuditSwaps'. -/
def auditSwapsUptoCard : Claim7 := { stood := { row := auditSwapsUptoRow, standIns := [], harness := (true, "6c3eb5ed6847687b1d47a47a695f9b7cd0761df52dd2ae26aa7aade24e9eabbe"), looks := false }, kinds := [], alts := [], laidByText := true, laidKinds := [.data], laidTests := true, laidLooks := .later }
def AuditSwapsUptoCardSaid : Prop := Claim7.holds Tryd.pinned (.plain (OpenSpec.upto auditSwapsSpec)) auditSwapsUptoCard
end Rows
end Go.Proofs.YtbhmgnhiglpmhaaDoor
