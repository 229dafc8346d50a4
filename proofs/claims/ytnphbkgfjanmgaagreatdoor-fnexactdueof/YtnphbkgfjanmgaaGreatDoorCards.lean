/-
  DERIVED. GIVEN WITH THE SEED: THE CARDS: each row of YtnphbkgfjanmgaaGreatDoorRows.lean that lists a variable, with what it lists TIED to the program's text (the seventh form; the later family's looks); each row that meets fmt, with fmt's text TOLD by the authors' own Lean function (tested against real Go, not proved from fmt's source: count such statements apart). THE CARD IS WHAT COUNTS. Prove the row's statement (the work); the ties are given (YtnphbkgfjanmgaaGreatDoorTie.lean); close each card by the builder's one call (the guide's Derived/Test/ToyasCard.lean, 'card_holds'). Laid BY PROGRAM, IN A SANDBOX (cutbox-door.mjs). By AI agents, Wed Nov 11 2026. No macro, syntax, notation, axiom, sorry.
-/
import Derived.Test.YtnphbkgfjanmgaaGreatDoorRows
import GoSem.ClaimSeven
namespace Go.Proofs.YtnphbkgfjanmgaaGreatDoor
namespace Rows

/-- THE TIED CARD OF 'laws.FnExactDueOf'. -/
def fnExactDueOfCard : Claim7 := { stood := { row := fnExactDueOfRow, standIns := [], harness := (true, "ff5322c9840596f5176f31bde6da353404e1c8022eccc83b4757cd1dfc7230e5"), looks := true }, kinds := [], alts := [], laidByText := true, laidKinds := [.handle], laidTests := true, laidLooks := .later }
def FnExactDueOfCardSaid : Prop := Claim7.holds Tryz.pinned (.plain (OpenSpec.ofChange fnExactDueOfSpec)) fnExactDueOfCard

/-- THE TIED CARD OF 'laws.FnExactBroken'. -/
def fnExactBrokenCard : Claim7 := { stood := { row := fnExactBrokenRow, standIns := [], harness := (true, "ff5322c9840596f5176f31bde6da353404e1c8022eccc83b4757cd1dfc7230e5"), looks := true }, kinds := [], alts := [], laidByText := true, laidKinds := [.handle], laidTests := true, laidLooks := .later }
def FnExactBrokenCardSaid : Prop := Claim7.holds Tryz.pinned (.plain (OpenSpec.ofChange fnExactBrokenSpec)) fnExactBrokenCard

/-- THE TIED CARD OF 'laws.FnExactApply'. -/
def fnExactApplyCard : Claim7 := { stood := { row := fnExactApplyRow, standIns := [], harness := (true, "ff5322c9840596f5176f31bde6da353404e1c8022eccc83b4757cd1dfc7230e5"), looks := true }, kinds := [], alts := [], laidByText := true, laidKinds := [.handle], laidTests := true, laidLooks := .later }
def FnExactApplyCardSaid : Prop := Claim7.holds Tryz.pinned (.plain (OpenSpec.ofChange fnExactApplySpec)) fnExactApplyCard

/-- THE SECOND FORM's CARD OF 'laws.FnExactDueOf'. -/
def fnExactDueOfUptoCard : Claim7 := { stood := { row := fnExactDueOfUptoRow, standIns := [], harness := (true, "ff5322c9840596f5176f31bde6da353404e1c8022eccc83b4757cd1dfc7230e5"), looks := true }, kinds := [], alts := [], laidByText := true, laidKinds := [.handle], laidTests := true, laidLooks := .later }
def FnExactDueOfUptoCardSaid : Prop := Claim7.holds Tryz.pinned (.plain (OpenSpec.upto fnExactDueOfSpec)) fnExactDueOfUptoCard

/-- THE SECOND FORM's CARD OF 'laws.FnExactBroken'. -/
def fnExactBrokenUptoCard : Claim7 := { stood := { row := fnExactBrokenUptoRow, standIns := [], harness := (true, "ff5322c9840596f5176f31bde6da353404e1c8022eccc83b4757cd1dfc7230e5"), looks := true }, kinds := [], alts := [], laidByText := true, laidKinds := [.handle], laidTests := true, laidLooks := .later }
def FnExactBrokenUptoCardSaid : Prop := Claim7.holds Tryz.pinned (.plain (OpenSpec.upto fnExactBrokenSpec)) fnExactBrokenUptoCard

/-- THE SECOND FORM's CARD OF 'laws.FnExactApply'. -/
def fnExactApplyUptoCard : Claim7 := { stood := { row := fnExactApplyUptoRow, standIns := [], harness := (true, "ff5322c9840596f5176f31bde6da353404e1c8022eccc83b4757cd1dfc7230e5"), looks := true }, kinds := [], alts := [], laidByText := true, laidKinds := [.handle], laidTests := true, laidLooks := .later }
def FnExactApplyUptoCardSaid : Prop := Claim7.holds Tryz.pinned (.plain (OpenSpec.upto fnExactApplySpec)) fnExactApplyUptoCard
end Rows
end Go.Proofs.YtnphbkgfjanmgaaGreatDoor
