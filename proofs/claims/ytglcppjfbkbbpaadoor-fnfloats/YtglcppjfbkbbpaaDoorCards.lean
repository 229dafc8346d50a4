/-
  DERIVED. GIVEN WITH THE SEED: THE CARDS: each row of YtglcppjfbkbbpaaDoorRows.lean that lists a variable, with what it lists TIED to the program's text (the seventh form; the later family's looks); each row that meets fmt, with fmt's text TOLD by the authors' own Lean function (tested against real Go, not proved from fmt's source: count such statements apart). THE CARD IS WHAT COUNTS. Prove the row's statement (the work); the ties are given (YtglcppjfbkbbpaaDoorTie.lean); close each card by the builder's one call (the guide's Derived/Test/ToyasCard.lean, 'card_holds'). Laid BY PROGRAM, IN A SANDBOX (cutbox-door.mjs). By AI agents, Wed Nov 11 2026. No macro, syntax, notation, axiom, sorry.
-/
import Derived.Test.YtglcppjfbkbbpaaDoorRows
import GoSem.ClaimSeven
namespace Go.Proofs.YtglcppjfbkbbpaaDoor
namespace Rows

/-- THE TIED CARD OF 'laws.FnNumbers'. -/
def fnNumbersCard : Claim7 := { stood := { row := fnNumbersRow, standIns := [], harness := (true, "ba699c81a269fc6f5d694c73f39cc3458748385051fb9425c70c3773efe26781"), looks := true }, kinds := [], alts := [], laidByText := true, laidKinds := [.handle], laidTests := true, laidLooks := .later }
def FnNumbersCardSaid : Prop := Claim7.holds Tryd.pinned (.plain (OpenSpec.ofChange fnNumbersSpec)) fnNumbersCard

/-- THE TIED CARD OF 'laws.FnFloats'. -/
def fnFloatsCard : Claim7 := { stood := { row := fnFloatsRow, standIns := [], harness := (true, "ba699c81a269fc6f5d694c73f39cc3458748385051fb9425c70c3773efe26781"), looks := true }, kinds := [], alts := [], laidByText := true, laidKinds := [.handle], laidTests := true, laidLooks := .later }
def FnFloatsCardSaid : Prop := Claim7.holds Tryd.pinned (.plain (OpenSpec.ofChange fnFloatsSpec)) fnFloatsCard

/-- THE SECOND FORM's CARD OF 'laws.FnNumbers'. -/
def fnNumbersUptoCard : Claim7 := { stood := { row := fnNumbersUptoRow, standIns := [], harness := (true, "ba699c81a269fc6f5d694c73f39cc3458748385051fb9425c70c3773efe26781"), looks := true }, kinds := [], alts := [], laidByText := true, laidKinds := [.handle], laidTests := true, laidLooks := .later }
def FnNumbersUptoCardSaid : Prop := Claim7.holds Tryd.pinned (.plain (OpenSpec.upto fnNumbersSpec)) fnNumbersUptoCard

/-- THE SECOND FORM's CARD OF 'laws.FnFloats'. -/
def fnFloatsUptoCard : Claim7 := { stood := { row := fnFloatsUptoRow, standIns := [], harness := (true, "ba699c81a269fc6f5d694c73f39cc3458748385051fb9425c70c3773efe26781"), looks := true }, kinds := [], alts := [], laidByText := true, laidKinds := [.handle], laidTests := true, laidLooks := .later }
def FnFloatsUptoCardSaid : Prop := Claim7.holds Tryd.pinned (.plain (OpenSpec.upto fnFloatsSpec)) fnFloatsUptoCard
end Rows
end Go.Proofs.YtglcppjfbkbbpaaDoor
