import Derived.Test.YtiiepngikigmbaaGreatDoorP15
namespace Go.Proofs.YtiiepngikigmbaaGreatDoor
open Go.RowKit
section
variable{D:Nat->Prop}{w:World}{bm:Nat}{A:List (Th×List Ic)}{m:Nat->Int}{I:List (Th×List Ic)->(Nat->Int)->Prop}
theorem z99(c:Int)(h0:-9223372036854775808<=c)(h1:c<0):0<=wrap64 (-wrap64 (c+1)):=ymc
end
end Go.Proofs.YtiiepngikigmbaaGreatDoor
