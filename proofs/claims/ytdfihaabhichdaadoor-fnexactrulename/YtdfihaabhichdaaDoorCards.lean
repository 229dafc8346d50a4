/-
  DERIVED. GIVEN WITH THE SEED: THE CARDS: each row of YtdfihaabhichdaaDoorRows.lean that lists a variable, with what it lists TIED to the program's text (the seventh form; the later family's looks); each row that meets fmt, with fmt's text TOLD by the authors' own Lean function (tested against real Go, not proved from fmt's source: count such statements apart). THE CARD IS WHAT COUNTS. Prove the row's statement (the work); the ties are given (YtdfihaabhichdaaDoorTie.lean); close each card by the builder's one call (the guide's Derived/Test/ToyasCard.lean, 'card_holds'). Laid BY PROGRAM, IN A SANDBOX (cutbox-door.mjs). By AI agents, Wed Nov 11 2026. No macro, syntax, notation, axiom, sorry.
-/
import Derived.Test.YtdfihaabhichdaaDoorRows
import GoSem.ClaimSeven
namespace Go.Proofs.YtdfihaabhichdaaDoor
namespace Rows

/-- THE TIED CARD OF 'laws.FnExactRuleName'. -/
def fnExactRuleNameCard : Claim7 := { stood := { row := fnExactRuleNameRow, standIns := [], harness := (true, "372017c1972a539e59a3df31553a9df5fcebbdbea0accba1a2fffc608d3cabce"), looks := false }, kinds := [], alts := [], laidByText := true, laidKinds := [.data], laidTests := true, laidLooks := .later }
def FnExactRuleNameCardSaid : Prop := Claim7.holds Tryd.pinned (.plain (OpenSpec.ofChange fnExactRuleNameSpec)) fnExactRuleNameCard

/-- THE SECOND FORM's CARD OF 'laws.FnExactRuleName'. -/
def fnExactRuleNameUptoCard : Claim7 := { stood := { row := fnExactRuleNameUptoRow, standIns := [], harness := (true, "372017c1972a539e59a3df31553a9df5fcebbdbea0accba1a2fffc608d3cabce"), looks := false }, kinds := [], alts := [], laidByText := true, laidKinds := [.data], laidTests := true, laidLooks := .later }
def FnExactRuleNameUptoCardSaid : Prop := Claim7.holds Tryd.pinned (.plain (OpenSpec.upto fnExactRuleNameSpec)) fnExactRuleNameUptoCard
end Rows
end Go.Proofs.YtdfihaabhichdaaDoor
