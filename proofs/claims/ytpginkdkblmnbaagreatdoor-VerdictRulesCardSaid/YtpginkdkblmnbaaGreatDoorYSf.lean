/- The shape law's anchor; what the laws need of Parse. -/
import Derived.Test.YtpginkdkblmnbaaGreatDoorYMSd
import Derived.Test.YtpginkdkblmnbaaGreatDoorYPY
import Derived.Test.YtpginkdkblmnbaaGreatDoorYMModel
namespace Go.Proofs.YtpginkdkblmnbaaGreatDoor
open Go.RowKit
open Go.Proofs.YtpginkdkblmnbaaGreatDoor.Cl (Rg)
variable {w w' : World}

end Go.Proofs.YtpginkdkblmnbaaGreatDoor
