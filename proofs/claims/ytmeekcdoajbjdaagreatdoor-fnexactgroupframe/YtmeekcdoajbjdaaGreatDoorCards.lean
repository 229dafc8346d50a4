/-
  DERIVED. GIVEN WITH THE SEED: THE CARDS: each row of YtmeekcdoajbjdaaGreatDoorRows.lean that lists a variable, with what it lists TIED to the program's text (the seventh form; the later family's looks); each row that meets fmt, with fmt's text TOLD by the authors' own Lean function (tested against real Go, not proved from fmt's source: count such statements apart). THE CARD IS WHAT COUNTS. Prove the row's statement (the work); the ties are given (YtmeekcdoajbjdaaGreatDoorTie.lean); close each card by the builder's one call (the guide's Derived/Test/ToyasCard.lean, 'card_holds'). Laid BY PROGRAM, IN A SANDBOX (cutbox-door.mjs). By AI agents, Wed Nov 11 2026. No macro, syntax, notation, axiom, sorry.
-/
import Derived.Test.YtmeekcdoajbjdaaGreatDoorRows
import GoSem.ClaimSeven
namespace Go.Proofs.YtmeekcdoajbjdaaGreatDoor
namespace Rows

/-- THE TIED CARD OF 'laws.FnExactGroupFrame'. -/
def fnExactGroupFrameCard : Claim7 := { stood := { row := fnExactGroupFrameRow, standIns := [], harness := (true, "57b924b137e7e35a9919741fa6311e9ed6df94aa8e80ce5c4630319a72a1cb65"), looks := true }, kinds := [], alts := [], laidByText := true, laidKinds := [.handle], laidTests := true, laidLooks := .later }
def FnExactGroupFrameCardSaid : Prop := Claim7.holds Tryz.pinned (.plain (OpenSpec.ofChange fnExactGroupFrameSpec)) fnExactGroupFrameCard

/-- THE SECOND FORM's CARD OF 'laws.FnExactGroupFrame'. -/
def fnExactGroupFrameUptoCard : Claim7 := { stood := { row := fnExactGroupFrameUptoRow, standIns := [], harness := (true, "57b924b137e7e35a9919741fa6311e9ed6df94aa8e80ce5c4630319a72a1cb65"), looks := true }, kinds := [], alts := [], laidByText := true, laidKinds := [.handle], laidTests := true, laidLooks := .later }
def FnExactGroupFrameUptoCardSaid : Prop := Claim7.holds Tryz.pinned (.plain (OpenSpec.upto fnExactGroupFrameSpec)) fnExactGroupFrameUptoCard
end Rows
end Go.Proofs.YtmeekcdoajbjdaaGreatDoor
