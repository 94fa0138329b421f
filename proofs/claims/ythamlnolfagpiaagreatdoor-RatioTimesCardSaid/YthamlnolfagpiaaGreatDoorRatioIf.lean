/-
  DERIVED. What the laws of layer 4 want of ratio's functions, but Times.
-/
import Derived.Test.YthamlnolfagpiaaGreatDoorRatTops
import Derived.Test.YthamlnolfagpiaaGreatDoorRatTop4
import Derived.Test.YthamlnolfagpiaaGreatDoorRatTop5
namespace Go.Proofs.YthamlnolfagpiaaGreatDoor.D

end Go.Proofs.YthamlnolfagpiaaGreatDoor.D

