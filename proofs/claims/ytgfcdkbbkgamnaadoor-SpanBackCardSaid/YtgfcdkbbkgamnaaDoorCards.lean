/-
  DERIVED. GIVEN WITH THE SEED: THE CARDS: each row of YtgfcdkbbkgamnaaDoorRows.lean that lists a variable, with what it lists TIED to the program's text (the seventh form; the later family's looks); each row that meets fmt, with fmt's text TOLD by the authors' own Lean function (tested against real Go, not proved from fmt's source: count such statements apart). THE CARD IS WHAT COUNTS. Prove the row's statement (the work); the ties are given (YtgfcdkbbkgamnaaDoorTie.lean); close each card by the builder's one call (the guide's Derived/Test/ToyasCard.lean, 'card_holds'). Laid BY PROGRAM, IN A SANDBOX (cutbox-door.mjs). By AI agents, Wed Nov 11 2026. No macro, syntax, notation, axiom, sorry.
-/
import Derived.Test.YtgfcdkbbkgamnaaDoorRows
import GoSem.ClaimSeven
namespace Go.Proofs.YtgfcdkbbkgamnaaDoor
namespace Rows

/-- THE TIED CARD OF 'mailsacklaw14.SpanParses'. -/
def spanParsesCard : Claim7 := { stood := { row := spanParsesRow, standIns := [], harness := (true, "50744f6a0ea2b210654286bf654005dbdd45de6804f22d6d838877231852c712"), looks := true }, kinds := [], alts := [], laidByText := true, laidKinds := [.data, .data, .data, .data, .sentinel, .sentinel, .pinned], laidTests := true, laidLooks := .later }
def SpanParsesCardSaid : Prop := Claim7.holds Tryd.pinned (.plain (OpenSpec.ofChange spanParsesSpec)) spanParsesCard

/-- THE TIED CARD OF 'mailsacklaw14.SpanHas'. -/
def spanHasCard : Claim7 := { stood := { row := spanHasRow, standIns := [], harness := (true, "50744f6a0ea2b210654286bf654005dbdd45de6804f22d6d838877231852c712"), looks := true }, kinds := [], alts := [], laidByText := true, laidKinds := [.data, .data, .data, .data, .sentinel, .sentinel, .pinned], laidTests := true, laidLooks := .later }
def SpanHasCardSaid : Prop := Claim7.holds Tryd.pinned (.plain (OpenSpec.ofChange spanHasSpec)) spanHasCard

/-- THE TIED CARD OF 'mailsacklaw14.SpanBack'. -/
def spanBackCard : Claim7 := { stood := { row := spanBackRow, standIns := [], harness := (true, "50744f6a0ea2b210654286bf654005dbdd45de6804f22d6d838877231852c712"), looks := true }, kinds := [], alts := [], laidByText := true, laidKinds := [.data, .data, .data, .data, .sentinel, .sentinel, .pinned], laidTests := true, laidLooks := .later }
def SpanBackCardSaid : Prop := Claim7.holds Tryd.pinned (.plain (OpenSpec.ofChange spanBackSpec)) spanBackCard

/-- THE TIED CARD OF 'mailsacklaw14.SpanTurns'. -/
def spanTurnsCard : Claim7 := { stood := { row := spanTurnsRow, standIns := [], harness := (true, "50744f6a0ea2b210654286bf654005dbdd45de6804f22d6d838877231852c712"), looks := true }, kinds := [], alts := [], laidByText := true, laidKinds := [.data, .data, .data, .data, .sentinel, .sentinel, .pinned], laidTests := true, laidLooks := .later }
def SpanTurnsCardSaid : Prop := Claim7.holds Tryd.pinned (.plain (OpenSpec.ofChange spanTurnsSpec)) spanTurnsCard

/-- THE TIED CARD OF 'mailsacklaw14.SpanPicks'. -/
def spanPicksCard : Claim7 := { stood := { row := spanPicksRow, standIns := [], harness := (true, "50744f6a0ea2b210654286bf654005dbdd45de6804f22d6d838877231852c712"), looks := true }, kinds := [], alts := [], laidByText := true, laidKinds := [.data, .data, .data, .data, .sentinel, .sentinel, .pinned], laidTests := true, laidLooks := .later }
def SpanPicksCardSaid : Prop := Claim7.holds Tryd.pinned (.plain (OpenSpec.ofChange spanPicksSpec)) spanPicksCard

/-- THE TIED CARD OF 'mailsacklaw17.LinesNext'. -/
def linesNextCard : Claim7 := { stood := { row := linesNextRow, standIns := [], harness := (true, "50744f6a0ea2b210654286bf654005dbdd45de6804f22d6d838877231852c712"), looks := true }, kinds := [], alts := [], laidByText := true, laidKinds := [.data, .data, .data, .sentinel, .sentinel], laidTests := true, laidLooks := .later }
def LinesNextCardSaid : Prop := Claim7.holds Tryd.pinned (.plain (OpenSpec.ofChange linesNextSpec)) linesNextCard

/-- THE TIED CARD OF 'mailsacklaw17.LinesTakes'. -/
def linesTakesCard : Claim7 := { stood := { row := linesTakesRow, standIns := [], harness := (true, "50744f6a0ea2b210654286bf654005dbdd45de6804f22d6d838877231852c712"), looks := true }, kinds := [], alts := [], laidByText := true, laidKinds := [.data, .data, .data, .sentinel, .sentinel], laidTests := true, laidLooks := .later }
def LinesTakesCardSaid : Prop := Claim7.holds Tryd.pinned (.plain (OpenSpec.ofChange linesTakesSpec)) linesTakesCard

/-- THE TIED CARD OF 'mailsacklaw17.LinesMore'. -/
def linesMoreCard : Claim7 := { stood := { row := linesMoreRow, standIns := [], harness := (true, "50744f6a0ea2b210654286bf654005dbdd45de6804f22d6d838877231852c712"), looks := true }, kinds := [], alts := [], laidByText := true, laidKinds := [.data, .data, .data, .sentinel, .sentinel], laidTests := true, laidLooks := .later }
def LinesMoreCardSaid : Prop := Claim7.holds Tryd.pinned (.plain (OpenSpec.ofChange linesMoreSpec)) linesMoreCard

/-- THE TIED CARD OF 'mailsacklaw17.LinesPlain'. -/
def linesPlainCard : Claim7 := { stood := { row := linesPlainRow, standIns := [], harness := (true, "50744f6a0ea2b210654286bf654005dbdd45de6804f22d6d838877231852c712"), looks := true }, kinds := [], alts := [], laidByText := true, laidKinds := [.data, .data, .data, .sentinel, .sentinel], laidTests := true, laidLooks := .later }
def LinesPlainCardSaid : Prop := Claim7.holds Tryd.pinned (.plain (OpenSpec.ofChange linesPlainSpec)) linesPlainCard

/-- THE TIED CARD OF 'mailsacklaw19.PartSplits'. -/
def partSplitsCard : Claim7 := { stood := { row := partSplitsRow, standIns := [], harness := (true, "50744f6a0ea2b210654286bf654005dbdd45de6804f22d6d838877231852c712"), looks := true }, kinds := [], alts := [], laidByText := true, laidKinds := [.data, .pinned], laidTests := true, laidLooks := .later }
def PartSplitsCardSaid : Prop := Claim7.holds Tryd.pinned (.plain (OpenSpec.ofChange partSplitsSpec)) partSplitsCard

/-- THE TIED CARD OF 'mailsacklaw19.PartHas'. -/
def partHasCard : Claim7 := { stood := { row := partHasRow, standIns := [], harness := (true, "50744f6a0ea2b210654286bf654005dbdd45de6804f22d6d838877231852c712"), looks := true }, kinds := [], alts := [], laidByText := true, laidKinds := [.data, .pinned], laidTests := true, laidLooks := .later }
def PartHasCardSaid : Prop := Claim7.holds Tryd.pinned (.plain (OpenSpec.ofChange partHasSpec)) partHasCard

/-- THE TIED CARD OF 'mailsacklaw19.PartWhole'. -/
def partWholeCard : Claim7 := { stood := { row := partWholeRow, standIns := [], harness := (true, "50744f6a0ea2b210654286bf654005dbdd45de6804f22d6d838877231852c712"), looks := true }, kinds := [], alts := [], laidByText := true, laidKinds := [.data, .pinned], laidTests := true, laidLooks := .later }
def PartWholeCardSaid : Prop := Claim7.holds Tryd.pinned (.plain (OpenSpec.ofChange partWholeSpec)) partWholeCard

/-- THE TIED CARD OF 'mailsacklaw19.PartOne'. -/
def partOneCard : Claim7 := { stood := { row := partOneRow, standIns := [], harness := (true, "50744f6a0ea2b210654286bf654005dbdd45de6804f22d6d838877231852c712"), looks := true }, kinds := [], alts := [], laidByText := true, laidKinds := [.data, .pinned], laidTests := true, laidLooks := .later }
def PartOneCardSaid : Prop := Claim7.holds Tryd.pinned (.plain (OpenSpec.ofChange partOneSpec)) partOneCard

/-- THE TIED CARD OF 'mailsacklaw19.PartLines'. -/
def partLinesCard : Claim7 := { stood := { row := partLinesRow, standIns := [], harness := (true, "50744f6a0ea2b210654286bf654005dbdd45de6804f22d6d838877231852c712"), looks := true }, kinds := [], alts := [], laidByText := true, laidKinds := [.data, .pinned], laidTests := true, laidLooks := .later }
def PartLinesCardSaid : Prop := Claim7.holds Tryd.pinned (.plain (OpenSpec.ofChange partLinesSpec)) partLinesCard

/-- THE TIED CARD OF 'mailsacklaw21.VerbQuotes'. -/
def verbQuotesCard : Claim7 := { stood := { row := verbQuotesRow, standIns := [], harness := (true, "50744f6a0ea2b210654286bf654005dbdd45de6804f22d6d838877231852c712"), looks := true }, kinds := [], alts := [], laidByText := true, laidKinds := [.data, .data, .data], laidTests := true, laidLooks := .later }
def VerbQuotesCardSaid : Prop := Claim7.holds Tryd.pinned (.plain (OpenSpec.ofChange verbQuotesSpec)) verbQuotesCard

/-- THE TIED CARD OF 'mailsacklaw21.VerbBack'. -/
def verbBackCard : Claim7 := { stood := { row := verbBackRow, standIns := [], harness := (true, "50744f6a0ea2b210654286bf654005dbdd45de6804f22d6d838877231852c712"), looks := true }, kinds := [], alts := [], laidByText := true, laidKinds := [.data, .data, .data, .sentinel, .sentinel], laidTests := true, laidLooks := .later }
def VerbBackCardSaid : Prop := Claim7.holds Tryd.pinned (.plain (OpenSpec.ofChange verbBackSpec)) verbBackCard

/-- THE TIED CARD OF 'mailsacklaw21.VerbUpper'. -/
def verbUpperCard : Claim7 := { stood := { row := verbUpperRow, standIns := [], harness := (true, "50744f6a0ea2b210654286bf654005dbdd45de6804f22d6d838877231852c712"), looks := true }, kinds := [], alts := [], laidByText := true, laidKinds := [.data, .data, .data], laidTests := true, laidLooks := .later }
def VerbUpperCardSaid : Prop := Claim7.holds Tryd.pinned (.plain (OpenSpec.ofChange verbUpperSpec)) verbUpperCard

/-- THE SECOND FORM's CARD OF 'mailsacklaw14.SpanParses'. -/
def spanParsesUptoCard : Claim7 := { stood := { row := spanParsesUptoRow, standIns := [], harness := (true, "50744f6a0ea2b210654286bf654005dbdd45de6804f22d6d838877231852c712"), looks := true }, kinds := [], alts := [], laidByText := true, laidKinds := [.data, .data, .data, .data, .sentinel, .sentinel, .pinned], laidTests := true, laidLooks := .later }
def SpanParsesUptoCardSaid : Prop := Claim7.holds Tryd.pinned (.plain (OpenSpec.upto spanParsesSpec)) spanParsesUptoCard

/-- THE SECOND FORM's CARD OF 'mailsacklaw14.SpanHas'. -/
def spanHasUptoCard : Claim7 := { stood := { row := spanHasUptoRow, standIns := [], harness := (true, "50744f6a0ea2b210654286bf654005dbdd45de6804f22d6d838877231852c712"), looks := true }, kinds := [], alts := [], laidByText := true, laidKinds := [.data, .data, .data, .data, .sentinel, .sentinel, .pinned], laidTests := true, laidLooks := .later }
def SpanHasUptoCardSaid : Prop := Claim7.holds Tryd.pinned (.plain (OpenSpec.upto spanHasSpec)) spanHasUptoCard

/-- THE SECOND FORM's CARD OF 'mailsacklaw14.SpanBack'. -/
def spanBackUptoCard : Claim7 := { stood := { row := spanBackUptoRow, standIns := [], harness := (true, "50744f6a0ea2b210654286bf654005dbdd45de6804f22d6d838877231852c712"), looks := true }, kinds := [], alts := [], laidByText := true, laidKinds := [.data, .data, .data, .data, .sentinel, .sentinel, .pinned], laidTests := true, laidLooks := .later }
def SpanBackUptoCardSaid : Prop := Claim7.holds Tryd.pinned (.plain (OpenSpec.upto spanBackSpec)) spanBackUptoCard

/-- THE SECOND FORM's CARD OF 'mailsacklaw14.SpanTurns'. -/
def spanTurnsUptoCard : Claim7 := { stood := { row := spanTurnsUptoRow, standIns := [], harness := (true, "50744f6a0ea2b210654286bf654005dbdd45de6804f22d6d838877231852c712"), looks := true }, kinds := [], alts := [], laidByText := true, laidKinds := [.data, .data, .data, .data, .sentinel, .sentinel, .pinned], laidTests := true, laidLooks := .later }
def SpanTurnsUptoCardSaid : Prop := Claim7.holds Tryd.pinned (.plain (OpenSpec.upto spanTurnsSpec)) spanTurnsUptoCard

/-- THE SECOND FORM's CARD OF 'mailsacklaw14.SpanPicks'. -/
def spanPicksUptoCard : Claim7 := { stood := { row := spanPicksUptoRow, standIns := [], harness := (true, "50744f6a0ea2b210654286bf654005dbdd45de6804f22d6d838877231852c712"), looks := true }, kinds := [], alts := [], laidByText := true, laidKinds := [.data, .data, .data, .data, .sentinel, .sentinel, .pinned], laidTests := true, laidLooks := .later }
def SpanPicksUptoCardSaid : Prop := Claim7.holds Tryd.pinned (.plain (OpenSpec.upto spanPicksSpec)) spanPicksUptoCard

/-- THE SECOND FORM's CARD OF 'mailsacklaw17.LinesNext'. -/
def linesNextUptoCard : Claim7 := { stood := { row := linesNextUptoRow, standIns := [], harness := (true, "50744f6a0ea2b210654286bf654005dbdd45de6804f22d6d838877231852c712"), looks := true }, kinds := [], alts := [], laidByText := true, laidKinds := [.data, .data, .data, .sentinel, .sentinel], laidTests := true, laidLooks := .later }
def LinesNextUptoCardSaid : Prop := Claim7.holds Tryd.pinned (.plain (OpenSpec.upto linesNextSpec)) linesNextUptoCard

/-- THE SECOND FORM's CARD OF 'mailsacklaw17.LinesTakes'. -/
def linesTakesUptoCard : Claim7 := { stood := { row := linesTakesUptoRow, standIns := [], harness := (true, "50744f6a0ea2b210654286bf654005dbdd45de6804f22d6d838877231852c712"), looks := true }, kinds := [], alts := [], laidByText := true, laidKinds := [.data, .data, .data, .sentinel, .sentinel], laidTests := true, laidLooks := .later }
def LinesTakesUptoCardSaid : Prop := Claim7.holds Tryd.pinned (.plain (OpenSpec.upto linesTakesSpec)) linesTakesUptoCard

/-- THE SECOND FORM's CARD OF 'mailsacklaw17.LinesMore'. -/
def linesMoreUptoCard : Claim7 := { stood := { row := linesMoreUptoRow, standIns := [], harness := (true, "50744f6a0ea2b210654286bf654005dbdd45de6804f22d6d838877231852c712"), looks := true }, kinds := [], alts := [], laidByText := true, laidKinds := [.data, .data, .data, .sentinel, .sentinel], laidTests := true, laidLooks := .later }
def LinesMoreUptoCardSaid : Prop := Claim7.holds Tryd.pinned (.plain (OpenSpec.upto linesMoreSpec)) linesMoreUptoCard

/-- THE SECOND FORM's CARD OF 'mailsacklaw17.LinesPlain'. -/
def linesPlainUptoCard : Claim7 := { stood := { row := linesPlainUptoRow, standIns := [], harness := (true, "50744f6a0ea2b210654286bf654005dbdd45de6804f22d6d838877231852c712"), looks := true }, kinds := [], alts := [], laidByText := true, laidKinds := [.data, .data, .data, .sentinel, .sentinel], laidTests := true, laidLooks := .later }
def LinesPlainUptoCardSaid : Prop := Claim7.holds Tryd.pinned (.plain (OpenSpec.upto linesPlainSpec)) linesPlainUptoCard

/-- THE SECOND FORM's CARD OF 'mailsacklaw19.PartSplits'. -/
def partSplitsUptoCard : Claim7 := { stood := { row := partSplitsUptoRow, standIns := [], harness := (true, "50744f6a0ea2b210654286bf654005dbdd45de6804f22d6d838877231852c712"), looks := true }, kinds := [], alts := [], laidByText := true, laidKinds := [.data, .pinned], laidTests := true, laidLooks := .later }
def PartSplitsUptoCardSaid : Prop := Claim7.holds Tryd.pinned (.plain (OpenSpec.upto partSplitsSpec)) partSplitsUptoCard

/-- THE SECOND FORM's CARD OF 'mailsacklaw19.PartHas'. -/
def partHasUptoCard : Claim7 := { stood := { row := partHasUptoRow, standIns := [], harness := (true, "50744f6a0ea2b210654286bf654005dbdd45de6804f22d6d838877231852c712"), looks := true }, kinds := [], alts := [], laidByText := true, laidKinds := [.data, .pinned], laidTests := true, laidLooks := .later }
def PartHasUptoCardSaid : Prop := Claim7.holds Tryd.pinned (.plain (OpenSpec.upto partHasSpec)) partHasUptoCard

/-- THE SECOND FORM's CARD OF 'mailsacklaw19.PartWhole'. -/
def partWholeUptoCard : Claim7 := { stood := { row := partWholeUptoRow, standIns := [], harness := (true, "50744f6a0ea2b210654286bf654005dbdd45de6804f22d6d838877231852c712"), looks := true }, kinds := [], alts := [], laidByText := true, laidKinds := [.data, .pinned], laidTests := true, laidLooks := .later }
def PartWholeUptoCardSaid : Prop := Claim7.holds Tryd.pinned (.plain (OpenSpec.upto partWholeSpec)) partWholeUptoCard

/-- THE SECOND FORM's CARD OF 'mailsacklaw19.PartOne'. -/
def partOneUptoCard : Claim7 := { stood := { row := partOneUptoRow, standIns := [], harness := (true, "50744f6a0ea2b210654286bf654005dbdd45de6804f22d6d838877231852c712"), looks := true }, kinds := [], alts := [], laidByText := true, laidKinds := [.data, .pinned], laidTests := true, laidLooks := .later }
def PartOneUptoCardSaid : Prop := Claim7.holds Tryd.pinned (.plain (OpenSpec.upto partOneSpec)) partOneUptoCard

/-- THE SECOND FORM's CARD OF 'mailsacklaw19.PartLines'. -/
def partLinesUptoCard : Claim7 := { stood := { row := partLinesUptoRow, standIns := [], harness := (true, "50744f6a0ea2b210654286bf654005dbdd45de6804f22d6d838877231852c712"), looks := true }, kinds := [], alts := [], laidByText := true, laidKinds := [.data, .pinned], laidTests := true, laidLooks := .later }
def PartLinesUptoCardSaid : Prop := Claim7.holds Tryd.pinned (.plain (OpenSpec.upto partLinesSpec)) partLinesUptoCard

/-- THE SECOND FORM's CARD OF 'mailsacklaw21.VerbQuotes'. -/
def verbQuotesUptoCard : Claim7 := { stood := { row := verbQuotesUptoRow, standIns := [], harness := (true, "50744f6a0ea2b210654286bf654005dbdd45de6804f22d6d838877231852c712"), looks := true }, kinds := [], alts := [], laidByText := true, laidKinds := [.data, .data, .data], laidTests := true, laidLooks := .later }
def VerbQuotesUptoCardSaid : Prop := Claim7.holds Tryd.pinned (.plain (OpenSpec.upto verbQuotesSpec)) verbQuotesUptoCard

/-- THE SECOND FORM's CARD OF 'mailsacklaw21.VerbBack'. -/
def verbBackUptoCard : Claim7 := { stood := { row := verbBackUptoRow, standIns := [], harness := (true, "50744f6a0ea2b210654286bf654005dbdd45de6804f22d6d838877231852c712"), looks := true }, kinds := [], alts := [], laidByText := true, laidKinds := [.data, .data, .data, .sentinel, .sentinel], laidTests := true, laidLooks := .later }
def VerbBackUptoCardSaid : Prop := Claim7.holds Tryd.pinned (.plain (OpenSpec.upto verbBackSpec)) verbBackUptoCard

/-- THE SECOND FORM's CARD OF 'mailsacklaw21.VerbUpper'. -/
def verbUpperUptoCard : Claim7 := { stood := { row := verbUpperUptoRow, standIns := [], harness := (true, "50744f6a0ea2b210654286bf654005dbdd45de6804f22d6d838877231852c712"), looks := true }, kinds := [], alts := [], laidByText := true, laidKinds := [.data, .data, .data], laidTests := true, laidLooks := .later }
def VerbUpperUptoCardSaid : Prop := Claim7.holds Tryd.pinned (.plain (OpenSpec.upto verbUpperSpec)) verbUpperUptoCard
end Rows
end Go.Proofs.YtgfcdkbbkgamnaaDoor
