/-
  DERIVED. GIVEN WITH THE SEED: THE CARDS: each row of YtonpiieogbmobaaDoorRows.lean that lists a variable, with what it lists TIED to the program's text (the seventh form; the later family's looks); each row that meets fmt, with fmt's text TOLD by the authors' own Lean function (tested against real Go, not proved from fmt's source: count such statements apart). THE CARD IS WHAT COUNTS. Prove the row's statement (the work); the ties are given (YtonpiieogbmobaaDoorTie.lean); close each card by the builder's one call (the guide's Derived/Test/ToyasCard.lean, 'card_holds'). Laid BY PROGRAM, IN A SANDBOX (cutbox-door.mjs). By AI agents, Wed Nov 11 2026. No macro, syntax, notation, axiom, sorry.
-/
import Derived.Test.YtonpiieogbmobaaDoorRows
import GoSem.ClaimSeven
namespace Go.Proofs.YtonpiieogbmobaaDoor
namespace Rows

/-- THE TIED CARD OF 'laws.FnExactReasonName'. -/
def fnExactReasonNameCard : Claim7 := { stood := { row := fnExactReasonNameRow, standIns := [], harness := (true, "a0a1c272708766f970d63aab430d48b247d7340467112a26822df04e3ba62aaa"), looks := false }, kinds := [], alts := [], laidByText := true, laidKinds := [.data], laidTests := true, laidLooks := .later }
def FnExactReasonNameCardSaid : Prop := Claim7.holds Tryd.pinned (.plain (OpenSpec.ofChange fnExactReasonNameSpec)) fnExactReasonNameCard

/-- THE SECOND FORM's CARD OF 'laws.FnExactReasonName'. -/
def fnExactReasonNameUptoCard : Claim7 := { stood := { row := fnExactReasonNameUptoRow, standIns := [], harness := (true, "a0a1c272708766f970d63aab430d48b247d7340467112a26822df04e3ba62aaa"), looks := false }, kinds := [], alts := [], laidByText := true, laidKinds := [.data], laidTests := true, laidLooks := .later }
def FnExactReasonNameUptoCardSaid : Prop := Claim7.holds Tryd.pinned (.plain (OpenSpec.upto fnExactReasonNameSpec)) fnExactReasonNameUptoCard
end Rows
end Go.Proofs.YtonpiieogbmobaaDoor
