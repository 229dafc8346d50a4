/-
  DERIVED. GIVEN WITH THE SEED: THE CARDS: each row of YtkofhemdefffpaaGreatDoorRows.lean that lists a variable, with what it lists TIED to the program's text (the seventh form; the later family's looks); each row that meets fmt, with fmt's text TOLD by the authors' own Lean function (tested against real Go, not proved from fmt's source: count such statements apart). THE CARD IS WHAT COUNTS. Prove the row's statement (the work); the ties are given (YtkofhemdefffpaaGreatDoorTie.lean); close each card by the builder's one call (the guide's Derived/Test/ToyasCard.lean, 'card_holds'). Laid BY PROGRAM, IN A SANDBOX (cutbox-door.mjs). By AI agents, Wed Nov 11 2026. No macro, syntax, notation, axiom, sorry.
-/
import Derived.Test.YtkofhemdefffpaaGreatDoorRows
import GoSem.ClaimSeven
namespace Go.Proofs.YtkofhemdefffpaaGreatDoor
namespace Rows

/-- THE TIED CARD OF 'laws.FnPeak'. -/
def fnPeakCard : Claim7 := { stood := { row := fnPeakRow, standIns := [], harness := (true, "b8cf5a68179a14b05429134da766b5143328fa9ea49288e7ce2c4bf278610eaa"), looks := true }, kinds := [], alts := [], laidByText := true, laidKinds := [.handle], laidTests := true, laidLooks := .later }
def FnPeakCardSaid : Prop := Claim7.holds Tryz.pinned (.plain (OpenSpec.ofChange fnPeakSpec)) fnPeakCard

/-- THE SECOND FORM's CARD OF 'laws.FnPeak'. -/
def fnPeakUptoCard : Claim7 := { stood := { row := fnPeakUptoRow, standIns := [], harness := (true, "b8cf5a68179a14b05429134da766b5143328fa9ea49288e7ce2c4bf278610eaa"), looks := true }, kinds := [], alts := [], laidByText := true, laidKinds := [.handle], laidTests := true, laidLooks := .later }
def FnPeakUptoCardSaid : Prop := Claim7.holds Tryz.pinned (.plain (OpenSpec.upto fnPeakSpec)) fnPeakUptoCard
end Rows
end Go.Proofs.YtkofhemdefffpaaGreatDoor
