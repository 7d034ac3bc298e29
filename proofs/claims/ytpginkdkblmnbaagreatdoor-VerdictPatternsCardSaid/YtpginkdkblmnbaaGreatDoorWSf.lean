import Derived.Test.YtpginkdkblmnbaaGreatDoorWMSd
import Derived.Test.YtpginkdkblmnbaaGreatDoorWPY
namespace Go.Proofs.YtpginkdkblmnbaaGreatDoor
section
open Go.RowKit
open Go.Proofs.YtpginkdkblmnbaaGreatDoor.Cl (Rg)
variable {w w' : World}
end
end Go.Proofs.YtpginkdkblmnbaaGreatDoor
