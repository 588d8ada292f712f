/- Joined texts: PrnPen, PrnDown. -/
import Derived.Test.YtceaoadlhdgnmaaGreatDoorM105
import Derived.Deep.RegionLaw
import Derived.Deep.RegionHeld3
import Derived.BigRegion
import Derived.BigQuiet
namespace Go.Proofs.YtceaoadlhdgnmaaGreatDoor
set_option maxRecDepth 100000
section
open Go.RowKit
namespace Scr
open Go.Proofs.YtceaoadlhdgnmaaGreatDoor.Row
end Scr
end
section
open Go.RowKit
namespace Scr
open Go.Proofs.YtceaoadlhdgnmaaGreatDoor.Row
end Scr
end
end Go.Proofs.YtceaoadlhdgnmaaGreatDoor
