import Derived.Test.YtphcopbffecceaaGreatDoorP15
set_option maxRecDepth 100000
set_option maxHeartbeats 4000000
namespace Go.Proofs.YtphcopbffecceaaGreatDoor
open Go.RowKit
section
variable(w:World)(t s:ByteArray)
theorem zxe(h0:1<s.size)(hm:(s[0].toNat:Int)=45)(h1:s.size<20)(hx:0<(s.extract 1 s.size).size)(hz: ¬((s.extract 1 s.size)[0].toNat:Int)=48)(k0:Nat)(hk0:k0<(s.extract 1 s.size).size)(hd:Hid (∀j (h:j<(s.extract 1 s.size).size),j<k0->48<=(s.extract 1 s.size)[j].toNat/\(s.extract 1 s.size)[j].toNat<=57))(hbad:(s.extract 1 s.size)[k0].toNat<48\/57<(s.extract 1 s.size)[k0].toNat):
  Cl 41 #[.string s] w λe w'=>e= .returned (.tuple #[.int .i64 0, .bool false])/\w'=w:=by
 have h0':(0:Int)<(s.size:Int):=yai
 have h1': ¬(19:Int)<((s.size- 1:Nat):Int):=yai
 have h2': ¬((s.size- 1:Nat):Int)=19:=yai
 have hsz:(s.extract 1 s.size).size=s.size- 1:=ya1
 have hne:=Zh (show 0<(s.extract 1 s.size).size by omega)
 have hne': ¬(s.extract 1 s.size).toList=[]:=λh=>by simp [h] at hne
 have hk1:k0<(s.size- 1):=by rw [ByteArray.size_extract] at hk0;omega
 go_enter Tryz.func41,Tryz.ntmps41
 go_wp2
 go_loopw [7,8] (λv7 v8 wr=>∃(k:Nat) (v:Int),k<=k0/\v8= .int .i64 k/\v7= .int .i64 v/\wr=w) (λ_ v8 _=>(s.size- 1)- (intOf v8).toNat)
 case atStart=>exact ⟨0,0,by omega,rfl,rfl,rfl⟩
 case round=>exact z7l
theorem zxf(h0:1<s.size)(hm:(s[0].toNat:Int)=45)(h1:s.size=20)(hb:Op.bytesLess (s.extract 1 s.size).toList Sc=true)(hx:0<(s.extract 1 s.size).size)(hz: ¬((s.extract 1 s.size)[0].toNat:Int)=48)(k0:Nat)(hk0:k0<(s.extract 1 s.size).size)(hd:Hid (∀j (h:j<(s.extract 1 s.size).size),j<k0->48<=(s.extract 1 s.size)[j].toNat/\(s.extract 1 s.size)[j].toNat<=57))(hbad:(s.extract 1 s.size)[k0].toNat<48\/57<(s.extract 1 s.size)[k0].toNat):
  Cl 41 #[.string s] w λe w'=>e= .returned (.tuple #[.int .i64 0, .bool false])/\w'=w:=by
 have h0':(0:Int)<(s.size:Int):=yai
 have h1': ¬(19:Int)<((s.size- 1:Nat):Int):=yai
 have h2':((s.size- 1:Nat):Int)=19:=yai
 clear h1
 have hsz:(s.extract 1 s.size).size=s.size- 1:=ya1
 have hne:=Zh (show 0<(s.extract 1 s.size).size by omega)
 have hne': ¬(s.extract 1 s.size).toList=[]:=λh=>by simp [h] at hne
 have hk1:k0<(s.size- 1):=by rw [ByteArray.size_extract] at hk0;omega
 go_enter Tryz.func41,Tryz.ntmps41
 go_wp2
 go_loopw [7,8] (λv7 v8 wr=>∃(k:Nat) (v:Int),k<=k0/\v8= .int .i64 k/\v7= .int .i64 v/\wr=w) (λ_ v8 _=>(s.size- 1)- (intOf v8).toNat)
 case atStart=>exact ⟨0,0,by omega,rfl,rfl,rfl⟩
 case round=>exact z7l
end
end Go.Proofs.YtphcopbffecceaaGreatDoor
