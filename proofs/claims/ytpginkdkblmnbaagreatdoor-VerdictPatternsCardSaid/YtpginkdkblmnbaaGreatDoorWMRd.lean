import Derived.Test.YtpginkdkblmnbaaGreatDoorWMRc
import Derived.Shelf.SlSortCmp.QuietGrown
namespace Go.Proofs.YtpginkdkblmnbaaGreatDoor
section
open Go.RowKit
variable {w w' : World}
end
section
open Go.RowKit
variable {w w' : World}
section
variable {P : Program} {ops : Array Oper} {C : World → Prop} {Q K : Act → Prop} {o : Oper} {rest : List Oper} {a : Act}
end
end
end Go.Proofs.YtpginkdkblmnbaaGreatDoor
