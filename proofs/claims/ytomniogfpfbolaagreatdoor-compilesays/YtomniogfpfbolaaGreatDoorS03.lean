import Derived.Test.YtomniogfpfbolaaGreatDoorS01
namespace Go.Proofs.YtomniogfpfbolaaGreatDoor.V
set_option maxRecDepth 100000
set_option maxHeartbeats 8000000
set_option linter.all false
structure Pt where
 k:Int
 t:ByteArray
 n:Int
 sl:Int
 kids:List Pt
end Go.Proofs.YtomniogfpfbolaaGreatDoor.V
