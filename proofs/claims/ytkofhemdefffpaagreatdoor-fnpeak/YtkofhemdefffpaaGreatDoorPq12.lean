/-.-/
import Derived.Test.YtkofhemdefffpaaGreatDoorPq08
import Derived.Test.YtkofhemdefffpaaGreatDoorPq09
set_option linter.unusedVariables false
set_option maxHeartbeats 6400000
set_option maxRecDepth 100000
namespace Go.Proofs.YtkofhemdefffpaaGreatDoor
open Go.RowKit
section
variable {mb B:Nat} {W0 V V':World} {vo:Value} {ts:List Ev} {e:Ev} {p q:Prop}
end
end Go.Proofs.YtkofhemdefffpaaGreatDoor
