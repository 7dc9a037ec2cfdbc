/-
  DERIVED. GIVEN WITH THE SEED: THE CARDS: each row of YtemlbokoaohckaaDoorRows.lean that lists a variable, with what it lists TIED to the program's text (the seventh form; the later family's looks); each row that meets fmt, with fmt's text TOLD by the authors' own Lean function (tested against real Go, not proved from fmt's source: count such statements apart). THE CARD IS WHAT COUNTS. Prove the row's statement (the work); the ties are given (YtemlbokoaohckaaDoorTie.lean); close each card by the builder's one call (the guide's Derived/Test/ToyasCard.lean, 'card_holds'). Laid BY PROGRAM, IN A SANDBOX (cutbox-door.mjs). By AI agents, Wed Nov 11 2026. No macro, syntax, notation, axiom, sorry.
-/
import Derived.Test.YtemlbokoaohckaaDoorRows
import GoSem.ClaimSeven
namespace Go.Proofs.YtemlbokoaohckaaDoor
namespace Rows

/-- THE TIED CARD OF 'mailsacklaw08.SealPads'. -/
def sealPadsCard : Claim7 := { stood := { row := sealPadsRow, standIns := [], harness := (true, "b4c6e6e48e865e26334a706e210f7452861b13d7f40e980df43eb42f09367b62"), looks := false }, kinds := [], alts := [], laidByText := true, laidKinds := [.data, .data, .pinned], laidTests := true, laidLooks := .later }
def SealPadsCardSaid : Prop := Claim7.holds Tryd.pinned (.plain (OpenSpec.ofChange sealPadsSpec)) sealPadsCard

/-- THE TIED CARD OF 'mailsacklaw08.SealUnpads'. -/
def sealUnpadsCard : Claim7 := { stood := { row := sealUnpadsRow, standIns := [], harness := (true, "b4c6e6e48e865e26334a706e210f7452861b13d7f40e980df43eb42f09367b62"), looks := false }, kinds := [], alts := [], laidByText := true, laidKinds := [.data, .data, .pinned], laidTests := true, laidLooks := .later }
def SealUnpadsCardSaid : Prop := Claim7.holds Tryd.pinned (.plain (OpenSpec.ofChange sealUnpadsSpec)) sealUnpadsCard

/-- THE TIED CARD OF 'mailsacklaw08.SealClasses'. -/
def sealClassesCard : Claim7 := { stood := { row := sealClassesRow, standIns := [], harness := (true, "b4c6e6e48e865e26334a706e210f7452861b13d7f40e980df43eb42f09367b62"), looks := false }, kinds := [], alts := [], laidByText := true, laidKinds := [.data, .data, .pinned], laidTests := true, laidLooks := .later }
def SealClassesCardSaid : Prop := Claim7.holds Tryd.pinned (.plain (OpenSpec.ofChange sealClassesSpec)) sealClassesCard

/-- THE SECOND FORM's CARD OF 'mailsacklaw08.SealPads'. -/
def sealPadsUptoCard : Claim7 := { stood := { row := sealPadsUptoRow, standIns := [], harness := (true, "b4c6e6e48e865e26334a706e210f7452861b13d7f40e980df43eb42f09367b62"), looks := false }, kinds := [], alts := [], laidByText := true, laidKinds := [.data, .data, .pinned], laidTests := true, laidLooks := .later }
def SealPadsUptoCardSaid : Prop := Claim7.holds Tryd.pinned (.plain (OpenSpec.upto sealPadsSpec)) sealPadsUptoCard

/-- THE SECOND FORM's CARD OF 'mailsacklaw08.SealUnpads'. -/
def sealUnpadsUptoCard : Claim7 := { stood := { row := sealUnpadsUptoRow, standIns := [], harness := (true, "b4c6e6e48e865e26334a706e210f7452861b13d7f40e980df43eb42f09367b62"), looks := false }, kinds := [], alts := [], laidByText := true, laidKinds := [.data, .data, .pinned], laidTests := true, laidLooks := .later }
def SealUnpadsUptoCardSaid : Prop := Claim7.holds Tryd.pinned (.plain (OpenSpec.upto sealUnpadsSpec)) sealUnpadsUptoCard

/-- THE SECOND FORM's CARD OF 'mailsacklaw08.SealClasses'. -/
def sealClassesUptoCard : Claim7 := { stood := { row := sealClassesUptoRow, standIns := [], harness := (true, "b4c6e6e48e865e26334a706e210f7452861b13d7f40e980df43eb42f09367b62"), looks := false }, kinds := [], alts := [], laidByText := true, laidKinds := [.data, .data, .pinned], laidTests := true, laidLooks := .later }
def SealClassesUptoCardSaid : Prop := Claim7.holds Tryd.pinned (.plain (OpenSpec.upto sealClassesSpec)) sealClassesUptoCard
end Rows
end Go.Proofs.YtemlbokoaohckaaDoor
