/- What the document's answer (tideref) says of crons: Has, Match, sets. What the document's answer (tideref) says of crons: sets. What the document's answer (tideref) says of a cron: Cron. -/
import Derived.Test.YtddabkmppobcdaaGreatDoorPsAr
import Derived.Test.YtddabkmppobcdaaGreatDoorPsCronMatch
import Derived.Test.YtddabkmppobcdaaGreatDoorPsCronPlain
import Derived.BigQuiet
import Derived.BigRegion
import Derived.Deep.RegionHeld
set_option maxRecDepth 8000
namespace Go.Proofs.YtddabkmppobcdaaGreatDoor
namespace RCrn
open Go.RowKit Lai Civ Cal Crn RCiv

end RCrn
namespace RCrn
open Go.RowKit Lai Civ Cal Crn RCiv

end RCrn
namespace RCrn
open Go.RowKit Lai Civ Cal Crn RCiv

end RCrn
end Go.Proofs.YtddabkmppobcdaaGreatDoor
