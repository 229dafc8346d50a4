/-.-/
import Derived.Test.YthhkapcbocgcoaaGreatDoorKj45
set_option linter.unusedVariables false
set_option maxHeartbeats 6400000
set_option maxRecDepth 100000
namespace Go.Proofs.YthhkapcbocgcoaaGreatDoor
open Go.RowKit


end Go.Proofs.YthhkapcbocgcoaaGreatDoor
