/-
  DERIVED. GIVEN WITH THE SEED: THE CARDS: each row of YtdcpeoailembcaaDoorRows.lean that lists a variable, with what it lists TIED to the program's text (the seventh form; the later family's looks); each row that meets fmt, with fmt's text TOLD by the authors' own Lean function (tested against real Go, not proved from fmt's source: count such statements apart). THE CARD IS WHAT COUNTS. Prove the row's statement (the work); the ties are given (YtdcpeoailembcaaDoorTie.lean); close each card by the builder's one call (the guide's Derived/Test/ToyasCard.lean, 'card_holds'). Laid BY PROGRAM, IN A SANDBOX (cutbox-door.mjs). By AI agents, Wed Nov 11 2026. No macro, syntax, notation, axiom, sorry.
-/
import Derived.Test.YtdcpeoailembcaaDoorRows
import GoSem.ClaimSeven
namespace Go.Proofs.YtdcpeoailembcaaDoor
namespace Rows

/-- THE TIED CARD OF 'laws.FnNumbers'. -/
def fnNumbersCard : Claim7 := { stood := { row := fnNumbersRow, standIns := [], harness := (true, "397aa163411d8d9350c89bdcc73f8af585a655a89c3cc50e8ba7b38a823944ab"), looks := true }, kinds := [], alts := [], laidByText := true, laidKinds := [.handle], laidTests := true, laidLooks := .later }
def FnNumbersCardSaid : Prop := Claim7.holds Tryd.pinned (.plain (OpenSpec.ofChange fnNumbersSpec)) fnNumbersCard

/-- THE TIED CARD OF 'laws.FnFloats'. -/
def fnFloatsCard : Claim7 := { stood := { row := fnFloatsRow, standIns := [], harness := (true, "397aa163411d8d9350c89bdcc73f8af585a655a89c3cc50e8ba7b38a823944ab"), looks := true }, kinds := [], alts := [], laidByText := true, laidKinds := [.handle], laidTests := true, laidLooks := .later }
def FnFloatsCardSaid : Prop := Claim7.holds Tryd.pinned (.plain (OpenSpec.ofChange fnFloatsSpec)) fnFloatsCard

/-- THE TIED CARD OF 'laws.FnExactGetNumber'. -/
def fnExactGetNumberCard : Claim7 := { stood := { row := fnExactGetNumberRow, standIns := [], harness := (true, "397aa163411d8d9350c89bdcc73f8af585a655a89c3cc50e8ba7b38a823944ab"), looks := true }, kinds := [], alts := [], laidByText := true, laidKinds := [.handle], laidTests := true, laidLooks := .later }
def FnExactGetNumberCardSaid : Prop := Claim7.holds Tryd.pinned (.plain (OpenSpec.ofChange fnExactGetNumberSpec)) fnExactGetNumberCard

/-- THE SECOND FORM's CARD OF 'laws.FnNumbers'. -/
def fnNumbersUptoCard : Claim7 := { stood := { row := fnNumbersUptoRow, standIns := [], harness := (true, "397aa163411d8d9350c89bdcc73f8af585a655a89c3cc50e8ba7b38a823944ab"), looks := true }, kinds := [], alts := [], laidByText := true, laidKinds := [.handle], laidTests := true, laidLooks := .later }
def FnNumbersUptoCardSaid : Prop := Claim7.holds Tryd.pinned (.plain (OpenSpec.upto fnNumbersSpec)) fnNumbersUptoCard

/-- THE SECOND FORM's CARD OF 'laws.FnFloats'. -/
def fnFloatsUptoCard : Claim7 := { stood := { row := fnFloatsUptoRow, standIns := [], harness := (true, "397aa163411d8d9350c89bdcc73f8af585a655a89c3cc50e8ba7b38a823944ab"), looks := true }, kinds := [], alts := [], laidByText := true, laidKinds := [.handle], laidTests := true, laidLooks := .later }
def FnFloatsUptoCardSaid : Prop := Claim7.holds Tryd.pinned (.plain (OpenSpec.upto fnFloatsSpec)) fnFloatsUptoCard

/-- THE SECOND FORM's CARD OF 'laws.FnExactGetNumber'. -/
def fnExactGetNumberUptoCard : Claim7 := { stood := { row := fnExactGetNumberUptoRow, standIns := [], harness := (true, "397aa163411d8d9350c89bdcc73f8af585a655a89c3cc50e8ba7b38a823944ab"), looks := true }, kinds := [], alts := [], laidByText := true, laidKinds := [.handle], laidTests := true, laidLooks := .later }
def FnExactGetNumberUptoCardSaid : Prop := Claim7.holds Tryd.pinned (.plain (OpenSpec.upto fnExactGetNumberSpec)) fnExactGetNumberUptoCard
end Rows
end Go.Proofs.YtdcpeoailembcaaDoor
