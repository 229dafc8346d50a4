/-
  DERIVED. GIVEN WITH THE SEED: THE CARDS: each row of YtoaoiiafmojaaaaDoorRows.lean that lists a variable, with what it lists TIED to the program's text (the seventh form; the later family's looks); each row that meets fmt, with fmt's text TOLD by the authors' own Lean function (tested against real Go, not proved from fmt's source: count such statements apart). THE CARD IS WHAT COUNTS. Prove the row's statement (the work); the ties are given (YtoaoiiafmojaaaaDoorTie.lean); close each card by the builder's one call (the guide's Derived/Test/ToyasCard.lean, 'card_holds'). Laid BY PROGRAM, IN A SANDBOX (cutbox-door.mjs). By AI agents, Wed Nov 11 2026. No macro, syntax, notation, axiom, sorry.
-/
import Derived.Test.YtoaoiiafmojaaaaDoorRows
import GoSem.ClaimSeven
namespace Go.Proofs.YtoaoiiafmojaaaaDoor
namespace Rows

/-- THE TIED CARD OF 'laws.FnExactGetNumber'. -/
def fnExactGetNumberCard : Claim7 := { stood := { row := fnExactGetNumberRow, standIns := [], harness := (true, "a6fc832d50d994894cdd8151b13e2c446162e44a867fca12fe9cfbbb507e46ea"), looks := true }, kinds := [], alts := [], laidByText := true, laidKinds := [.handle], laidTests := true, laidLooks := .later }
def FnExactGetNumberCardSaid : Prop := Claim7.holds Tryd.pinned (.plain (OpenSpec.ofChange fnExactGetNumberSpec)) fnExactGetNumberCard

/-- THE TIED CARD OF 'laws.FnExactGetFloat'. -/
def fnExactGetFloatCard : Claim7 := { stood := { row := fnExactGetFloatRow, standIns := [], harness := (true, "a6fc832d50d994894cdd8151b13e2c446162e44a867fca12fe9cfbbb507e46ea"), looks := true }, kinds := [], alts := [], laidByText := true, laidKinds := [.handle], laidTests := true, laidLooks := .later }
def FnExactGetFloatCardSaid : Prop := Claim7.holds Tryd.pinned (.plain (OpenSpec.ofChange fnExactGetFloatSpec)) fnExactGetFloatCard

/-- THE TIED CARD OF 'laws.FnExactGetText'. -/
def fnExactGetTextCard : Claim7 := { stood := { row := fnExactGetTextRow, standIns := [], harness := (true, "a6fc832d50d994894cdd8151b13e2c446162e44a867fca12fe9cfbbb507e46ea"), looks := true }, kinds := [], alts := [], laidByText := true, laidKinds := [.handle], laidTests := true, laidLooks := .later }
def FnExactGetTextCardSaid : Prop := Claim7.holds Tryd.pinned (.plain (OpenSpec.ofChange fnExactGetTextSpec)) fnExactGetTextCard

/-- THE SECOND FORM's CARD OF 'laws.FnExactGetNumber'. -/
def fnExactGetNumberUptoCard : Claim7 := { stood := { row := fnExactGetNumberUptoRow, standIns := [], harness := (true, "a6fc832d50d994894cdd8151b13e2c446162e44a867fca12fe9cfbbb507e46ea"), looks := true }, kinds := [], alts := [], laidByText := true, laidKinds := [.handle], laidTests := true, laidLooks := .later }
def FnExactGetNumberUptoCardSaid : Prop := Claim7.holds Tryd.pinned (.plain (OpenSpec.upto fnExactGetNumberSpec)) fnExactGetNumberUptoCard

/-- THE SECOND FORM's CARD OF 'laws.FnExactGetFloat'. -/
def fnExactGetFloatUptoCard : Claim7 := { stood := { row := fnExactGetFloatUptoRow, standIns := [], harness := (true, "a6fc832d50d994894cdd8151b13e2c446162e44a867fca12fe9cfbbb507e46ea"), looks := true }, kinds := [], alts := [], laidByText := true, laidKinds := [.handle], laidTests := true, laidLooks := .later }
def FnExactGetFloatUptoCardSaid : Prop := Claim7.holds Tryd.pinned (.plain (OpenSpec.upto fnExactGetFloatSpec)) fnExactGetFloatUptoCard

/-- THE SECOND FORM's CARD OF 'laws.FnExactGetText'. -/
def fnExactGetTextUptoCard : Claim7 := { stood := { row := fnExactGetTextUptoRow, standIns := [], harness := (true, "a6fc832d50d994894cdd8151b13e2c446162e44a867fca12fe9cfbbb507e46ea"), looks := true }, kinds := [], alts := [], laidByText := true, laidKinds := [.handle], laidTests := true, laidLooks := .later }
def FnExactGetTextUptoCardSaid : Prop := Claim7.holds Tryd.pinned (.plain (OpenSpec.upto fnExactGetTextSpec)) fnExactGetTextUptoCard
end Rows
end Go.Proofs.YtoaoiiafmojaaaaDoor
