/-
  DERIVED. GIVEN WITH THE SEED: THE CARDS: each row of YtbghmldggahjiaaGreatDoorRows.lean that lists a variable, with what it lists TIED to the program's text (the seventh form; the later family's looks); each row that meets fmt, with fmt's text TOLD by the authors' own Lean function (tested against real Go, not proved from fmt's source: count such statements apart). THE CARD IS WHAT COUNTS. Prove the row's statement (the work); the ties are given (YtbghmldggahjiaaGreatDoorTie.lean); close each card by the builder's one call (the guide's Derived/Test/ToyasCard.lean, 'card_holds'). Laid BY PROGRAM, IN A SANDBOX (cutbox-door.mjs). By AI agents, Wed Nov 11 2026. No macro, syntax, notation, axiom, sorry.
-/
import Derived.Test.YtbghmldggahjiaaGreatDoorRows
import GoSem.ClaimSeven
namespace Go.Proofs.YtbghmldggahjiaaGreatDoor
namespace Rows

/-- THE TIED CARD OF 'laws.FnAnyBytes'. -/
def fnAnyBytesCard : Claim7 := { stood := { row := fnAnyBytesRow, standIns := [], harness := (true, "702354fb3bf9307631d2c8f7a4be47e61e211aa82ae6d90be100ddaa35dbc82a"), looks := true }, kinds := [], alts := [], laidByText := true, laidKinds := [.handle], laidTests := true, laidLooks := .later }
def FnAnyBytesCardSaid : Prop := Claim7.holds Tryz.pinned (.plain (OpenSpec.ofChange fnAnyBytesSpec)) fnAnyBytesCard

/-- THE TIED CARD OF 'laws.FnExactJudge'. -/
def fnExactJudgeCard : Claim7 := { stood := { row := fnExactJudgeRow, standIns := [], harness := (true, "702354fb3bf9307631d2c8f7a4be47e61e211aa82ae6d90be100ddaa35dbc82a"), looks := true }, kinds := [], alts := [], laidByText := true, laidKinds := [.handle], laidTests := true, laidLooks := .later }
def FnExactJudgeCardSaid : Prop := Claim7.holds Tryz.pinned (.plain (OpenSpec.ofChange fnExactJudgeSpec)) fnExactJudgeCard

/-- THE TIED CARD OF 'laws.FnExactExtract'. -/
def fnExactExtractCard : Claim7 := { stood := { row := fnExactExtractRow, standIns := [], harness := (true, "702354fb3bf9307631d2c8f7a4be47e61e211aa82ae6d90be100ddaa35dbc82a"), looks := true }, kinds := [], alts := [], laidByText := true, laidKinds := [.handle], laidTests := true, laidLooks := .later }
def FnExactExtractCardSaid : Prop := Claim7.holds Tryz.pinned (.plain (OpenSpec.ofChange fnExactExtractSpec)) fnExactExtractCard

/-- THE TIED CARD OF 'laws.FnExactPeak'. -/
def fnExactPeakCard : Claim7 := { stood := { row := fnExactPeakRow, standIns := [], harness := (true, "702354fb3bf9307631d2c8f7a4be47e61e211aa82ae6d90be100ddaa35dbc82a"), looks := true }, kinds := [], alts := [], laidByText := true, laidKinds := [.handle], laidTests := true, laidLooks := .later }
def FnExactPeakCardSaid : Prop := Claim7.holds Tryz.pinned (.plain (OpenSpec.ofChange fnExactPeakSpec)) fnExactPeakCard

/-- THE SECOND FORM's CARD OF 'laws.FnAnyBytes'. -/
def fnAnyBytesUptoCard : Claim7 := { stood := { row := fnAnyBytesUptoRow, standIns := [], harness := (true, "702354fb3bf9307631d2c8f7a4be47e61e211aa82ae6d90be100ddaa35dbc82a"), looks := true }, kinds := [], alts := [], laidByText := true, laidKinds := [.handle], laidTests := true, laidLooks := .later }
def FnAnyBytesUptoCardSaid : Prop := Claim7.holds Tryz.pinned (.plain (OpenSpec.upto fnAnyBytesSpec)) fnAnyBytesUptoCard

/-- THE SECOND FORM's CARD OF 'laws.FnExactJudge'. -/
def fnExactJudgeUptoCard : Claim7 := { stood := { row := fnExactJudgeUptoRow, standIns := [], harness := (true, "702354fb3bf9307631d2c8f7a4be47e61e211aa82ae6d90be100ddaa35dbc82a"), looks := true }, kinds := [], alts := [], laidByText := true, laidKinds := [.handle], laidTests := true, laidLooks := .later }
def FnExactJudgeUptoCardSaid : Prop := Claim7.holds Tryz.pinned (.plain (OpenSpec.upto fnExactJudgeSpec)) fnExactJudgeUptoCard

/-- THE SECOND FORM's CARD OF 'laws.FnExactExtract'. -/
def fnExactExtractUptoCard : Claim7 := { stood := { row := fnExactExtractUptoRow, standIns := [], harness := (true, "702354fb3bf9307631d2c8f7a4be47e61e211aa82ae6d90be100ddaa35dbc82a"), looks := true }, kinds := [], alts := [], laidByText := true, laidKinds := [.handle], laidTests := true, laidLooks := .later }
def FnExactExtractUptoCardSaid : Prop := Claim7.holds Tryz.pinned (.plain (OpenSpec.upto fnExactExtractSpec)) fnExactExtractUptoCard

/-- THE SECOND FORM's CARD OF 'laws.FnExactPeak'. -/
def fnExactPeakUptoCard : Claim7 := { stood := { row := fnExactPeakUptoRow, standIns := [], harness := (true, "702354fb3bf9307631d2c8f7a4be47e61e211aa82ae6d90be100ddaa35dbc82a"), looks := true }, kinds := [], alts := [], laidByText := true, laidKinds := [.handle], laidTests := true, laidLooks := .later }
def FnExactPeakUptoCardSaid : Prop := Claim7.holds Tryz.pinned (.plain (OpenSpec.upto fnExactPeakSpec)) fnExactPeakUptoCard
end Rows
end Go.Proofs.YtbghmldggahjiaaGreatDoor
