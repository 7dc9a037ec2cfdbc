/-
  DERIVED. GIVEN WITH THE SEED: THE CARDS: each row of YtdkogjjebbdngaaDoorRows.lean that lists a variable, with what it lists TIED to the program's text (the seventh form; the later family's looks); each row that meets fmt, with fmt's text TOLD by the authors' own Lean function (tested against real Go, not proved from fmt's source: count such statements apart). THE CARD IS WHAT COUNTS. Prove the row's statement (the work); the ties are given (YtdkogjjebbdngaaDoorTie.lean); close each card by the builder's one call (the guide's Derived/Test/ToyasCard.lean, 'card_holds'). Laid BY PROGRAM, IN A SANDBOX (cutbox-door.mjs). By AI agents, Wed Nov 11 2026. No macro, syntax, notation, axiom, sorry.
-/
import Derived.Test.YtdkogjjebbdngaaDoorRows
import GoSem.ClaimSeven
namespace Go.Proofs.YtdkogjjebbdngaaDoor
namespace Rows

/-- THE TIED CARD OF 'mailsacklaw01.ShaSums'. -/
def shaSumsCard : Claim7 := { stood := { row := shaSumsRow, standIns := [], harness := (true, "25f744d59429cdb3f8eff026317ed0e312c1c75c3f6cfd11d1d959b4ee85a849"), looks := false }, kinds := [], alts := [], laidByText := true, laidKinds := [.data], laidTests := true, laidLooks := .later }
def ShaSumsCardSaid : Prop := Claim7.holds Tryd.pinned (.plain (OpenSpec.ofChange shaSumsSpec)) shaSumsCard

/-- THE TIED CARD OF 'mailsacklaw01.ShaBlocks'. -/
def shaBlocksCard : Claim7 := { stood := { row := shaBlocksRow, standIns := [], harness := (true, "25f744d59429cdb3f8eff026317ed0e312c1c75c3f6cfd11d1d959b4ee85a849"), looks := false }, kinds := [], alts := [], laidByText := true, laidKinds := [.data], laidTests := true, laidLooks := .later }
def ShaBlocksCardSaid : Prop := Claim7.holds Tryd.pinned (.plain (OpenSpec.ofChange shaBlocksSpec)) shaBlocksCard

/-- THE TIED CARD OF 'mailsacklaw02.MacSums'. -/
def macSumsCard : Claim7 := { stood := { row := macSumsRow, standIns := [], harness := (true, "25f744d59429cdb3f8eff026317ed0e312c1c75c3f6cfd11d1d959b4ee85a849"), looks := false }, kinds := [], alts := [], laidByText := true, laidKinds := [.data], laidTests := true, laidLooks := .later }
def MacSumsCardSaid : Prop := Claim7.holds Tryd.pinned (.plain (OpenSpec.ofChange macSumsSpec)) macSumsCard

/-- THE TIED CARD OF 'mailsacklaw02.MacPasswords'. -/
def macPasswordsCard : Claim7 := { stood := { row := macPasswordsRow, standIns := [], harness := (true, "25f744d59429cdb3f8eff026317ed0e312c1c75c3f6cfd11d1d959b4ee85a849"), looks := false }, kinds := [], alts := [], laidByText := true, laidKinds := [.data], laidTests := true, laidLooks := .later }
def MacPasswordsCardSaid : Prop := Claim7.holds Tryd.pinned (.plain (OpenSpec.ofChange macPasswordsSpec)) macPasswordsCard

/-- THE TIED CARD OF 'mailsacklaw02.MacDraws'. -/
def macDrawsCard : Claim7 := { stood := { row := macDrawsRow, standIns := [], harness := (true, "25f744d59429cdb3f8eff026317ed0e312c1c75c3f6cfd11d1d959b4ee85a849"), looks := false }, kinds := [], alts := [], laidByText := true, laidKinds := [.data], laidTests := true, laidLooks := .later }
def MacDrawsCardSaid : Prop := Claim7.holds Tryd.pinned (.plain (OpenSpec.ofChange macDrawsSpec)) macDrawsCard

/-- THE SECOND FORM's CARD OF 'mailsacklaw01.ShaSums'. -/
def shaSumsUptoCard : Claim7 := { stood := { row := shaSumsUptoRow, standIns := [], harness := (true, "25f744d59429cdb3f8eff026317ed0e312c1c75c3f6cfd11d1d959b4ee85a849"), looks := false }, kinds := [], alts := [], laidByText := true, laidKinds := [.data], laidTests := true, laidLooks := .later }
def ShaSumsUptoCardSaid : Prop := Claim7.holds Tryd.pinned (.plain (OpenSpec.upto shaSumsSpec)) shaSumsUptoCard

/-- THE SECOND FORM's CARD OF 'mailsacklaw01.ShaBlocks'. -/
def shaBlocksUptoCard : Claim7 := { stood := { row := shaBlocksUptoRow, standIns := [], harness := (true, "25f744d59429cdb3f8eff026317ed0e312c1c75c3f6cfd11d1d959b4ee85a849"), looks := false }, kinds := [], alts := [], laidByText := true, laidKinds := [.data], laidTests := true, laidLooks := .later }
def ShaBlocksUptoCardSaid : Prop := Claim7.holds Tryd.pinned (.plain (OpenSpec.upto shaBlocksSpec)) shaBlocksUptoCard

/-- THE SECOND FORM's CARD OF 'mailsacklaw02.MacSums'. -/
def macSumsUptoCard : Claim7 := { stood := { row := macSumsUptoRow, standIns := [], harness := (true, "25f744d59429cdb3f8eff026317ed0e312c1c75c3f6cfd11d1d959b4ee85a849"), looks := false }, kinds := [], alts := [], laidByText := true, laidKinds := [.data], laidTests := true, laidLooks := .later }
def MacSumsUptoCardSaid : Prop := Claim7.holds Tryd.pinned (.plain (OpenSpec.upto macSumsSpec)) macSumsUptoCard

/-- THE SECOND FORM's CARD OF 'mailsacklaw02.MacPasswords'. -/
def macPasswordsUptoCard : Claim7 := { stood := { row := macPasswordsUptoRow, standIns := [], harness := (true, "25f744d59429cdb3f8eff026317ed0e312c1c75c3f6cfd11d1d959b4ee85a849"), looks := false }, kinds := [], alts := [], laidByText := true, laidKinds := [.data], laidTests := true, laidLooks := .later }
def MacPasswordsUptoCardSaid : Prop := Claim7.holds Tryd.pinned (.plain (OpenSpec.upto macPasswordsSpec)) macPasswordsUptoCard

/-- THE SECOND FORM's CARD OF 'mailsacklaw02.MacDraws'. -/
def macDrawsUptoCard : Claim7 := { stood := { row := macDrawsUptoRow, standIns := [], harness := (true, "25f744d59429cdb3f8eff026317ed0e312c1c75c3f6cfd11d1d959b4ee85a849"), looks := false }, kinds := [], alts := [], laidByText := true, laidKinds := [.data], laidTests := true, laidLooks := .later }
def MacDrawsUptoCardSaid : Prop := Claim7.holds Tryd.pinned (.plain (OpenSpec.upto macDrawsSpec)) macDrawsUptoCard
end Rows
end Go.Proofs.YtdkogjjebbdngaaDoor
