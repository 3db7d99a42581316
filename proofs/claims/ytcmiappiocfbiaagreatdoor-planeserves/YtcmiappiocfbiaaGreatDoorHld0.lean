/- Regions that draw their order, walked operation by operation, with operations that are not wanted. -/
import Derived.Test.YtcmiappiocfbiaaGreatDoorBas0
import Derived.Deep.RegionHeld3
import Derived.Test.YtcmiappiocfbiaaGreatDoorHld
namespace Go.Proofs.YtcmiappiocfbiaaGreatDoor
open Go.RowKit

end Go.Proofs.YtcmiappiocfbiaaGreatDoor
