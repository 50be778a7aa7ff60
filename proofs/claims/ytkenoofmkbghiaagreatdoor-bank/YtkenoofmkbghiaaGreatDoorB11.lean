import Derived.Test.YtkenoofmkbghiaaGreatDoorB10
namespace Go.Proofs.YtkenoofmkbghiaaGreatDoor
open Go.RowKit
def z9i(A:List (Th×List Ic))(m:Nat->Int)(i:Nat):Nat->List (Th×List Ic)×(Nat->Int)
 |0=>(A,m)
 |k+1=>z7b (z9i A m i k).1 (z9i A m i k).2 i
section
variable{D:Nat->Prop}{w:World}{bm:Nat}{A:List (Th×List Ic)}{m:Nat->Int}{I:List (Th×List Ic)->(Nat->Int)->Prop}
end
end Go.Proofs.YtkenoofmkbghiaaGreatDoor
