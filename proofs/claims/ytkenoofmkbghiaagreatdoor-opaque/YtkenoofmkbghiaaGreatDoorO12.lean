import Derived.Test.YtkenoofmkbghiaaGreatDoorO11
set_option maxRecDepth 100000
set_option maxHeartbeats 1000000
namespace Go.Proofs.YtkenoofmkbghiaaGreatDoor
open Go.RowKit
section
variable{D:Nat->Prop}{w:World}{bm:Nat}{A:List (Th×List Ic)}{m:Nat->Int}{I:List (Th×List Ic)->(Nat->Int)->Prop}
theorem z99(c:Int)(h0:-9223372036854775808<=c)(h1:c<0):0<=wrap64 (-wrap64 (c+1)):=yut
theorem ym0(c n:Int)(w:World)(hc:Hid (-9223372036854775808<=c))(hn:0<n):
  Cl 11 #[.int .i64 c, .int .i64 n] w λe w'=>∃r,e= .returned (.int .i64 r)/\0<=r/\r<n/\w'=w:=by
 have hn0: ¬n=0:=yum
 have HN:=hid hn
 clear hn
 by_cases hlt:c<0
 ·go_enter Tryz.func11,Tryz.ntmps11
  go_wp2
  go_ret
  have h0:=z99 c hc.out hlt
  refine ⟨(wrap64 (-wrap64 (c+1))).tmod n,rfl,?_,?_,rfl⟩
  ·exact Int.tmod_nonneg n h0
  ·rw [Int.tmod_eq_emod_of_nonneg h0];exact Int.emod_lt_of_pos _ HN.out
 ·go_enter Tryz.func11,Tryz.ntmps11
  go_wp2
  go_ret
  exact ⟨c%n,rfl,Int.emod_nonneg _ hn0,Int.emod_lt_of_pos _ HN.out,rfl⟩
end
end Go.Proofs.YtkenoofmkbghiaaGreatDoor
