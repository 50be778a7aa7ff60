import Derived.Test.YtphcopbffecceaaGreatDoorP15
set_option maxRecDepth 100000
set_option maxHeartbeats 4000000
namespace Go.Proofs.YtphcopbffecceaaGreatDoor
open Go.RowKit
section
variable(w:World)(t s:ByteArray)
theorem z07(h1:t.size=19)(hq0:t.toList=Sb)(hm: ¬(t[0].toNat:Int)=45)(hz: ¬(t[0].toNat:Int)=48)(hd:Hid (∀j (h:j<t.size),48<=t[j].toNat/\t[j].toNat<=57)):
  Cl 41 #[.string t] w λe w'=>e= .returned (.tuple #[.int .i64 (wrap64 (zgx t t.size)), .bool true])/\w'=w:=by
 have h0':(0:Int)<(t.size:Int):=yai
 have h1': ¬(19:Int)<(t.size:Int):=yai
 have h2':(t.size:Int)=19:=yai
 have hb:Op.bytesLess t.toList Sb=false:=ycc
 have hb2:(t.toList==Sb)=true:=ycc
 have hne:=Zh (show 0<t.size by omega)
 have hne': ¬t.toList=[]:=λh=>by simp [h] at hne
 go_enter Tryz.func41,Tryz.ntmps41
 go_wp2
 go_loopw [7,8] (λv7 v8 wr=>∃k:Nat,k<=t.size/\v8= .int .i64 k/\v7= .int .i64 (wrap64 (zgx t k))/\wr=w) (λ_ v8 _=>t.size- (intOf v8).toNat)
 case atStart=>exact ⟨0,by omega,rfl,by rw [za9];simp [wrap64],rfl⟩
 case round=>
  obtain ⟨k,hk,rfl,rfl,rfl⟩:=hrel
  by_cases hlt:k<t.size
  ·have hlt':(k:Int)<(t.size:Nat):=by omega
   have hlt2:k<t.size:=by exact hlt
   have hq:=hd.out k hlt2
   have q1: ¬(t[k].toNat:Int)<48:=yai
   have q2: ¬(57:Int)<(t[k].toNat:Int):=yai
   have hs:=zba t k hlt2
   have hwd:=zgy (zgx t k) ((t[k].toNat:Int)- 48)
   rw [<-hs] at hwd
   have HS:=hid hs
   clear hs
   go_wp2
   go_roundw
   case rel=>exact ⟨k+1,by omega,by go_num,by rw [hwd],trivial⟩
   case measure=>simp [intOf];omega
  ·have hlt': ¬(k:Int)<(t.size:Nat):=by omega
   obtain rfl:k=t.size:=yai
   go_wp2
   go_ret2
   exact ⟨rfl,rfl⟩
theorem zk3(h0:1<s.size)(hm:(s[0].toNat:Int)=45)(h1:s.size<20)(hx:0<(s.extract 1 s.size).size)(hz: ¬((s.extract 1 s.size)[0].toNat:Int)=48)(hd:Hid (∀j (h:j<(s.extract 1 s.size).size),48<=(s.extract 1 s.size)[j].toNat/\(s.extract 1 s.size)[j].toNat<=57)):
  Cl 41 #[.string s] w λe w'=>e= .returned (.tuple #[.int .i64 (wrap64 (-(zgx (s.extract 1 s.size) (s.size- 1)))), .bool true])/\w'=w:=by
 have h0':(0:Int)<(s.size:Int):=yai
 have h1': ¬(19:Int)<((s.size- 1:Nat):Int):=yai
 have h2': ¬((s.size- 1:Nat):Int)=19:=yai
 have hsz:(s.extract 1 s.size).size=s.size- 1:=ya1
 have hne:=Zh (show 0<(s.extract 1 s.size).size by omega)
 have hne': ¬(s.extract 1 s.size).toList=[]:=λh=>by simp [h] at hne
 go_enter Tryz.func41,Tryz.ntmps41
 go_wp2
 go_loopw [7,8] (λv7 v8 wr=>∃k:Nat,k<=(s.size- 1)/\v8= .int .i64 k/\v7= .int .i64 (wrap64 (-(zgx (s.extract 1 s.size) k)))/\wr=w) (λ_ v8 _=>(s.size- 1)- (intOf v8).toNat)
 case atStart=>exact ⟨0,by omega,rfl,by rw [za9];simp [wrap64],rfl⟩
 case round=>exact z7h
theorem zk4(h0:1<s.size)(hm:(s[0].toNat:Int)=45)(h1:s.size=20)(hb:Op.bytesLess (s.extract 1 s.size).toList Sc=true)(hx:0<(s.extract 1 s.size).size)(hz: ¬((s.extract 1 s.size)[0].toNat:Int)=48)(hd:Hid (∀j (h:j<(s.extract 1 s.size).size),48<=(s.extract 1 s.size)[j].toNat/\(s.extract 1 s.size)[j].toNat<=57)):
  Cl 41 #[.string s] w λe w'=>e= .returned (.tuple #[.int .i64 (wrap64 (-(zgx (s.extract 1 s.size) (s.size- 1)))), .bool true])/\w'=w:=by
 have h0':(0:Int)<(s.size:Int):=yai
 have h1': ¬(19:Int)<((s.size- 1:Nat):Int):=yai
 have h2':((s.size- 1:Nat):Int)=19:=yai
 clear h1
 have hsz:(s.extract 1 s.size).size=s.size- 1:=ya1
 have hne:=Zh (show 0<(s.extract 1 s.size).size by omega)
 have hne': ¬(s.extract 1 s.size).toList=[]:=λh=>by simp [h] at hne
 go_enter Tryz.func41,Tryz.ntmps41
 go_wp2
 go_loopw [7,8] (λv7 v8 wr=>∃k:Nat,k<=(s.size- 1)/\v8= .int .i64 k/\v7= .int .i64 (wrap64 (-(zgx (s.extract 1 s.size) k)))/\wr=w) (λ_ v8 _=>(s.size- 1)- (intOf v8).toNat)
 case atStart=>exact ⟨0,by omega,rfl,by rw [za9];simp [wrap64],rfl⟩
 case round=>exact z7h
theorem z08(h0:1<s.size)(hm:(s[0].toNat:Int)=45)(h1:s.size=20)(hq0:(s.extract 1 s.size).toList=Sc)(hx:0<(s.extract 1 s.size).size)(hz: ¬((s.extract 1 s.size)[0].toNat:Int)=48)(hd:Hid (∀j (h:j<(s.extract 1 s.size).size),48<=(s.extract 1 s.size)[j].toNat/\(s.extract 1 s.size)[j].toNat<=57)):
  Cl 41 #[.string s] w λe w'=>e= .returned (.tuple #[.int .i64 (wrap64 (-(zgx (s.extract 1 s.size) (s.size- 1)))), .bool true])/\w'=w:=by
 have h0':(0:Int)<(s.size:Int):=yai
 have h1': ¬(19:Int)<((s.size- 1:Nat):Int):=yai
 have h2':((s.size- 1:Nat):Int)=19:=yai
 clear h1
 have hb:Op.bytesLess (s.extract 1 s.size).toList Sc=false:=ycc
 have hb2:((s.extract 1 s.size).toList==Sc)=true:=ycc
 have hsz:(s.extract 1 s.size).size=s.size- 1:=ya1
 have hne:=Zh (show 0<(s.extract 1 s.size).size by omega)
 have hne': ¬(s.extract 1 s.size).toList=[]:=λh=>by simp [h] at hne
 go_enter Tryz.func41,Tryz.ntmps41
 go_wp2
 go_loopw [7,8] (λv7 v8 wr=>∃k:Nat,k<=(s.size- 1)/\v8= .int .i64 k/\v7= .int .i64 (wrap64 (-(zgx (s.extract 1 s.size) k)))/\wr=w) (λ_ v8 _=>(s.size- 1)- (intOf v8).toNat)
 case atStart=>exact ⟨0,by omega,rfl,by rw [za9];simp [wrap64],rfl⟩
 case round=>exact z7h
end
end Go.Proofs.YtphcopbffecceaaGreatDoor
