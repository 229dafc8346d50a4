/-
  DERIVED. GIVEN WITH THE SEED: THE CARDS: each row of YtfhjbhnfapdmmaaDoorRows.lean that lists a variable, with what it lists TIED to the program's text (the seventh form; the later family's looks); each row that meets fmt, with fmt's text TOLD by the authors' own Lean function (tested against real Go, not proved from fmt's source: count such statements apart). THE CARD IS WHAT COUNTS. Prove the row's statement (the work); the ties are given (YtfhjbhnfapdmmaaDoorTie.lean); close each card by the builder's one call (the guide's Derived/Test/ToyasCard.lean, 'card_holds'). Laid BY PROGRAM, IN A SANDBOX (cutbox-door.mjs). By AI agents, Wed Nov 11 2026. No macro, syntax, notation, axiom, sorry.
-/
import Derived.Test.YtfhjbhnfapdmmaaDoorRows
import GoSem.ClaimSeven
namespace Go.Proofs.YtfhjbhnfapdmmaaDoor
namespace Rows

/-- THE TIED CARD OF 'laws.FnExactEventOK'. -/
def fnExactEventOKCard : Claim7 := { stood := { row := fnExactEventOKRow, standIns := [], harness := (true, "47c2f60aac82e654a8277135d49c807cc51d44e11d1050f6e32c3bb18846fa8f"), looks := true }, kinds := [], alts := [], laidByText := true, laidKinds := [.handle], laidTests := true, laidLooks := .later }
def FnExactEventOKCardSaid : Prop := Claim7.holds Tryd.pinned (.plain (OpenSpec.ofChange fnExactEventOKSpec)) fnExactEventOKCard

/-- THE TIED CARD OF 'laws.FnExactDecodeEvent'. -/
def fnExactDecodeEventCard : Claim7 := { stood := { row := fnExactDecodeEventRow, standIns := [], harness := (true, "47c2f60aac82e654a8277135d49c807cc51d44e11d1050f6e32c3bb18846fa8f"), looks := true }, kinds := [], alts := [], laidByText := true, laidKinds := [.handle], laidTests := true, laidLooks := .later }
def FnExactDecodeEventCardSaid : Prop := Claim7.holds Tryd.pinned (.plain (OpenSpec.ofChange fnExactDecodeEventSpec)) fnExactDecodeEventCard

/-- THE SECOND FORM's CARD OF 'laws.FnExactEventOK'. -/
def fnExactEventOKUptoCard : Claim7 := { stood := { row := fnExactEventOKUptoRow, standIns := [], harness := (true, "47c2f60aac82e654a8277135d49c807cc51d44e11d1050f6e32c3bb18846fa8f"), looks := true }, kinds := [], alts := [], laidByText := true, laidKinds := [.handle], laidTests := true, laidLooks := .later }
def FnExactEventOKUptoCardSaid : Prop := Claim7.holds Tryd.pinned (.plain (OpenSpec.upto fnExactEventOKSpec)) fnExactEventOKUptoCard

/-- THE SECOND FORM's CARD OF 'laws.FnExactDecodeEvent'. -/
def fnExactDecodeEventUptoCard : Claim7 := { stood := { row := fnExactDecodeEventUptoRow, standIns := [], harness := (true, "47c2f60aac82e654a8277135d49c807cc51d44e11d1050f6e32c3bb18846fa8f"), looks := true }, kinds := [], alts := [], laidByText := true, laidKinds := [.handle], laidTests := true, laidLooks := .later }
def FnExactDecodeEventUptoCardSaid : Prop := Claim7.holds Tryd.pinned (.plain (OpenSpec.upto fnExactDecodeEventSpec)) fnExactDecodeEventUptoCard
end Rows
end Go.Proofs.YtfhjbhnfapdmmaaDoor
