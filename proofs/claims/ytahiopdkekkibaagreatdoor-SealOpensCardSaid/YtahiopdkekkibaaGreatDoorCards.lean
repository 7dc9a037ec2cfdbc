/-
  DERIVED. GIVEN WITH THE SEED: THE CARDS: each row of YtahiopdkekkibaaGreatDoorRows.lean that lists a variable, with what it lists TIED to the program's text (the seventh form; the later family's looks); each row that meets fmt, with fmt's text TOLD by the authors' own Lean function (tested against real Go, not proved from fmt's source: count such statements apart). THE CARD IS WHAT COUNTS. Prove the row's statement (the work); the ties are given (YtahiopdkekkibaaGreatDoorTie.lean); close each card by the builder's one call (the guide's Derived/Test/ToyasCard.lean, 'card_holds'). Laid BY PROGRAM, IN A SANDBOX (cutbox-door.mjs). By AI agents, Wed Nov 11 2026. No macro, syntax, notation, axiom, sorry.
-/
import Derived.Test.YtahiopdkekkibaaGreatDoorRows
import GoSem.ClaimSeven
namespace Go.Proofs.YtahiopdkekkibaaGreatDoor
namespace Rows

/-- THE TIED CARD OF 'mailsacklaw08.SealBoxes'. -/
def sealBoxesCard : Claim7 := { stood := { row := sealBoxesRow, standIns := [], harness := (true, "f1d064184af1a44b0b98168d0b99b80a70cf59eca625afd9f0f2813a210782e6"), looks := false }, kinds := [], alts := [], laidByText := true, laidKinds := [.data, .data, .pinned], laidTests := true, laidLooks := .later }
def SealBoxesCardSaid : Prop := Claim7.holds Tryz.pinned (.plain (OpenSpec.ofChange sealBoxesSpec)) sealBoxesCard

/-- THE TIED CARD OF 'mailsacklaw08.SealOpens'. -/
def sealOpensCard : Claim7 := { stood := { row := sealOpensRow, standIns := [], harness := (true, "f1d064184af1a44b0b98168d0b99b80a70cf59eca625afd9f0f2813a210782e6"), looks := false }, kinds := [], alts := [], laidByText := true, laidKinds := [.data, .data, .pinned], laidTests := true, laidLooks := .later }
def SealOpensCardSaid : Prop := Claim7.holds Tryz.pinned (.plain (OpenSpec.ofChange sealOpensSpec)) sealOpensCard

/-- THE TIED CARD OF 'mailsacklaw13.RingMakes'. -/
def ringMakesCard : Claim7 := { stood := { row := ringMakesRow, standIns := [], harness := (true, "f1d064184af1a44b0b98168d0b99b80a70cf59eca625afd9f0f2813a210782e6"), looks := false }, kinds := [], alts := [], laidByText := true, laidKinds := [.data], laidTests := true, laidLooks := .later }
def RingMakesCardSaid : Prop := Claim7.holds Tryz.pinned (.plain (OpenSpec.ofChange ringMakesSpec)) ringMakesCard

/-- THE TIED CARD OF 'mailsacklaw13.RingUnlocks'. -/
def ringUnlocksCard : Claim7 := { stood := { row := ringUnlocksRow, standIns := [], harness := (true, "f1d064184af1a44b0b98168d0b99b80a70cf59eca625afd9f0f2813a210782e6"), looks := false }, kinds := [], alts := [], laidByText := true, laidKinds := [.data], laidTests := true, laidLooks := .later }
def RingUnlocksCardSaid : Prop := Claim7.holds Tryz.pinned (.plain (OpenSpec.ofChange ringUnlocksSpec)) ringUnlocksCard

/-- THE TIED CARD OF 'mailsacklaw13.RingTurns'. -/
def ringTurnsCard : Claim7 := { stood := { row := ringTurnsRow, standIns := [], harness := (true, "f1d064184af1a44b0b98168d0b99b80a70cf59eca625afd9f0f2813a210782e6"), looks := false }, kinds := [], alts := [], laidByText := true, laidKinds := [.data], laidTests := true, laidLooks := .later }
def RingTurnsCardSaid : Prop := Claim7.holds Tryz.pinned (.plain (OpenSpec.ofChange ringTurnsSpec)) ringTurnsCard

/-- THE SECOND FORM's CARD OF 'mailsacklaw08.SealBoxes'. -/
def sealBoxesUptoCard : Claim7 := { stood := { row := sealBoxesUptoRow, standIns := [], harness := (true, "f1d064184af1a44b0b98168d0b99b80a70cf59eca625afd9f0f2813a210782e6"), looks := false }, kinds := [], alts := [], laidByText := true, laidKinds := [.data, .data, .pinned], laidTests := true, laidLooks := .later }
def SealBoxesUptoCardSaid : Prop := Claim7.holds Tryz.pinned (.plain (OpenSpec.upto sealBoxesSpec)) sealBoxesUptoCard

/-- THE SECOND FORM's CARD OF 'mailsacklaw08.SealOpens'. -/
def sealOpensUptoCard : Claim7 := { stood := { row := sealOpensUptoRow, standIns := [], harness := (true, "f1d064184af1a44b0b98168d0b99b80a70cf59eca625afd9f0f2813a210782e6"), looks := false }, kinds := [], alts := [], laidByText := true, laidKinds := [.data, .data, .pinned], laidTests := true, laidLooks := .later }
def SealOpensUptoCardSaid : Prop := Claim7.holds Tryz.pinned (.plain (OpenSpec.upto sealOpensSpec)) sealOpensUptoCard

/-- THE SECOND FORM's CARD OF 'mailsacklaw13.RingMakes'. -/
def ringMakesUptoCard : Claim7 := { stood := { row := ringMakesUptoRow, standIns := [], harness := (true, "f1d064184af1a44b0b98168d0b99b80a70cf59eca625afd9f0f2813a210782e6"), looks := false }, kinds := [], alts := [], laidByText := true, laidKinds := [.data], laidTests := true, laidLooks := .later }
def RingMakesUptoCardSaid : Prop := Claim7.holds Tryz.pinned (.plain (OpenSpec.upto ringMakesSpec)) ringMakesUptoCard

/-- THE SECOND FORM's CARD OF 'mailsacklaw13.RingUnlocks'. -/
def ringUnlocksUptoCard : Claim7 := { stood := { row := ringUnlocksUptoRow, standIns := [], harness := (true, "f1d064184af1a44b0b98168d0b99b80a70cf59eca625afd9f0f2813a210782e6"), looks := false }, kinds := [], alts := [], laidByText := true, laidKinds := [.data], laidTests := true, laidLooks := .later }
def RingUnlocksUptoCardSaid : Prop := Claim7.holds Tryz.pinned (.plain (OpenSpec.upto ringUnlocksSpec)) ringUnlocksUptoCard

/-- THE SECOND FORM's CARD OF 'mailsacklaw13.RingTurns'. -/
def ringTurnsUptoCard : Claim7 := { stood := { row := ringTurnsUptoRow, standIns := [], harness := (true, "f1d064184af1a44b0b98168d0b99b80a70cf59eca625afd9f0f2813a210782e6"), looks := false }, kinds := [], alts := [], laidByText := true, laidKinds := [.data], laidTests := true, laidLooks := .later }
def RingTurnsUptoCardSaid : Prop := Claim7.holds Tryz.pinned (.plain (OpenSpec.upto ringTurnsSpec)) ringTurnsUptoCard
end Rows
end Go.Proofs.YtahiopdkekkibaaGreatDoor
