import Derived.Test.YtphcopbffecceaaGreatDoorP21
set_option maxRecDepth 100000
set_option maxHeartbeats 4000000
namespace Go.Proofs.YtphcopbffecceaaGreatDoor
open Go.RowKit
variable{l:List UInt8}{s:ByteArray}{v:Int}{b:Bool}
abbrev Sb:List UInt8:=[57,50,50,51,51,55,50,48,51,54,56,53,52,55,55,53,56,48,55]
section
variable(w:World)(t:ByteArray)
theorem zxa:Cl 41 #[.string ⟨#[]⟩] w λe w'=>e= .returned (.tuple #[.int .i64 0, .bool false])/\w'=w:=by
 go_enter Tryz.func41,Tryz.ntmps41
 go_wp2
 go_ret2
 exact ⟨rfl,rfl⟩
theorem z04(h1:19<t.size)(hm: ¬(t[0].toNat:Int)=45):Cl 41 #[.string t] w λe w'=>e= .returned (.tuple #[.int .i64 0, .bool false])/\w'=w:=by
 have h0':(0:Int)<(t.size:Int):=yai
 have h1':(19:Int)<(t.size:Int):=yai
 have hne:=Zh (show 0<t.size by omega)
 have hne': ¬t.toList=[]:=λh=>by simp [h] at hne
 go_enter Tryz.func41,Tryz.ntmps41
 go_wp2
 go_ret2
 exact ⟨rfl,rfl⟩
theorem z3u(h1:t.size=19)(hm: ¬(t[0].toNat:Int)=45)(hb:Op.bytesLess t.toList Sb=false)(hb2:(t.toList==Sb)=false):Cl 41 #[.string t] w λe w'=>e= .returned (.tuple #[.int .i64 0, .bool false])/\w'=w:=by
 have h0':(0:Int)<(t.size:Int):=yai
 have h1': ¬(19:Int)<(t.size:Int):=yai
 have h2':(t.size:Int)=19:=yai
 have hb3: ¬t.toList=Sb:=by simpa using hb2
 have hne:=Zh (show 0<t.size by omega)
 have hne': ¬t.toList=[]:=λh=>by simp [h] at hne
 go_enter Tryz.func41,Tryz.ntmps41
 go_wp2
 go_ret2
 exact ⟨rfl,rfl⟩
theorem zky(h1:t.size=19)(hb:Op.bytesLess t.toList Sb=true)(hm: ¬(t[0].toNat:Int)=45)(hz: ¬(t[0].toNat:Int)=48)(hd:Hid (∀j (h:j<t.size),48<=t[j].toNat/\t[j].toNat<=57)):
  Cl 41 #[.string t] w λe w'=>e= .returned (.tuple #[.int .i64 (wrap64 (Xi t.data.toList)), .bool true])/\w'=w:=by
 have h0':(0:Int)<(t.size:Int):=yai
 have h1': ¬(19:Int)<(t.size:Int):=yai
 have h2':(t.size:Int)=19:=yai
 have hne:=Zh (show 0<t.size by omega)
 have hne': ¬t.toList=[]:=λh=>by simp [h] at hne
 go_enter Tryz.func41,Tryz.ntmps41
 go_wp2
 go_loopw [7,8] (λv7 v8 wr=>∃k:Nat,k<=t.size/\v8= .int .i64 k/\v7= .int .i64 (wrap64 (Xi (t.data.toList.take k)))/\wr=w) (λ_ v8 _=>t.size- (intOf v8).toNat)
 case atStart=>exact ⟨0,by omega,rfl,by simp [Xi,wrap64],rfl⟩
 case round=>exact z7o
theorem zkz(h0:1<t.size)(h1:t.size<19)(hz:(t[0].toNat:Int)=48):Cl 41 #[.string t] w λe w'=>e= .returned (.tuple #[.int .i64 0, .bool false])/\w'=w:=by
 have h0':(0:Int)<(t.size:Int):=yai
 have h01:(1:Int)<(t.size:Int):=yai
 have h1': ¬(19:Int)<(t.size:Int):=yai
 have h2': ¬(t.size:Int)=19:=yai
 have hm: ¬(t[0].toNat:Int)=45:=yai
 have hne:=Zh (show 0<t.size by omega)
 have hne': ¬t.toList=[]:=λh=>by simp [h] at hne
 go_enter Tryz.func41,Tryz.ntmps41
 go_wp2
 go_ret2
 exact ⟨rfl,rfl⟩
theorem zxb(h0:0<t.size)(h1:t.size<19)(hm: ¬(t[0].toNat:Int)=45)(hz: ¬(t[0].toNat:Int)=48)(k0:Nat)(hk0:k0<t.size)(hd:Hid (∀j (h:j<t.size),j<k0->48<=t[j].toNat/\t[j].toNat<=57))(hbad:t[k0].toNat<48\/57<t[k0].toNat):
  Cl 41 #[.string t] w λe w'=>e= .returned (.tuple #[.int .i64 0, .bool false])/\w'=w:=by
 have h0':(0:Int)<(t.size:Int):=yai
 have h1': ¬(19:Int)<(t.size:Int):=yai
 have h2': ¬(t.size:Int)=19:=yai
 have hne:=Zh h0
 have hne': ¬t.toList=[]:=λh=>by simp [h] at hne
 go_enter Tryz.func41,Tryz.ntmps41
 go_wp2
 go_loopw [7,8] (λv7 v8 wr=>∃(k:Nat) (v:Int),k<=k0/\v8= .int .i64 k/\v7= .int .i64 v/\wr=w) (λ_ v8 _=>t.size- (intOf v8).toNat)
 case atStart=>exact ⟨0,0,by omega,rfl,rfl,rfl⟩
 case round=>exact z7p
theorem zk0(h1:t.size=19)(hb:Op.bytesLess t.toList Sb=true)(hz:(t[0].toNat:Int)=48):Cl 41 #[.string t] w λe w'=>e= .returned (.tuple #[.int .i64 0, .bool false])/\w'=w:=by
 have h0':(0:Int)<(t.size:Int):=yai
 have h01:(1:Int)<(t.size:Int):=yai
 have h1': ¬(19:Int)<(t.size:Int):=yai
 have h2':(t.size:Int)=19:=yai
 have hm: ¬(t[0].toNat:Int)=45:=yai
 have hne:=Zh (show 0<t.size by omega)
 have hne': ¬t.toList=[]:=λh=>by simp [h] at hne
 go_enter Tryz.func41,Tryz.ntmps41
 go_wp2
 go_ret2
 exact ⟨rfl,rfl⟩
theorem zxc(h0:0<t.size)(h1:t.size=19)(hb:Op.bytesLess t.toList Sb=true)(hm: ¬(t[0].toNat:Int)=45)(hz: ¬(t[0].toNat:Int)=48)(k0:Nat)(hk0:k0<t.size)(hd:Hid (∀j (h:j<t.size),j<k0->48<=t[j].toNat/\t[j].toNat<=57))(hbad:t[k0].toNat<48\/57<t[k0].toNat):
  Cl 41 #[.string t] w λe w'=>e= .returned (.tuple #[.int .i64 0, .bool false])/\w'=w:=by
 have h0':(0:Int)<(t.size:Int):=yai
 have h1': ¬(19:Int)<(t.size:Int):=yai
 have h2':(t.size:Int)=19:=yai
 have hne:=Zh h0
 have hne': ¬t.toList=[]:=λh=>by simp [h] at hne
 go_enter Tryz.func41,Tryz.ntmps41
 go_wp2
 go_loopw [7,8] (λv7 v8 wr=>∃(k:Nat) (v:Int),k<=k0/\v8= .int .i64 k/\v7= .int .i64 v/\wr=w) (λ_ v8 _=>t.size- (intOf v8).toNat)
 case atStart=>exact ⟨0,0,by omega,rfl,rfl,rfl⟩
 case round=>exact z7p
end
abbrev Sc:List UInt8:=[57,50,50,51,51,55,50,48,51,54,56,53,52,55,55,53,56,48,56]
section
variable(w:World)(t s:ByteArray)
theorem z05:Cl 41 #[.string ⟨#[48]⟩] w λe w'=>e= .returned (.tuple #[.int .i64 0, .bool true])/\w'=w:=by
 go_enter Tryz.func41,Tryz.ntmps41
 go_wp2
 go_loopw [7,8] (λv7 v8 wr=>((v8= .int .i64 0/\v7= .int .i64 0)\/(v8= .int .i64 1/\v7= .int .i64 0))/\wr=w) (λ_ v8 _=>1- (intOf v8).toNat)
 case atStart=>exact ⟨.inl ⟨rfl,rfl⟩,rfl⟩
 case round=>
  obtain ⟨⟨rfl,rfl⟩|⟨rfl,rfl⟩,rfl⟩:=hrel
  ·go_wp2
   go_roundw
   case rel=>exact ⟨.inr ⟨rfl,rfl⟩,trivial⟩
   case measure=>decide
  ·go_wp2
   go_ret2
   exact ⟨rfl,rfl⟩
theorem zxd:Cl 41 #[.string ⟨#[45]⟩] w λe w'=>e= .returned (.tuple #[.int .i64 0, .bool false])/\w'=w:=by
 go_enter Tryz.func41,Tryz.ntmps41
 go_wp2
 go_ret2
 exact ⟨rfl,rfl⟩
theorem z06(h0:1<s.size)(hm:(s[0].toNat:Int)=45)(h1:20<s.size):Cl 41 #[.string s] w λe w'=>e= .returned (.tuple #[.int .i64 0, .bool false])/\w'=w:=by
 have h0':(0:Int)<(s.size:Int):=yai
 have h1':(19:Int)<((s.size- 1:Nat):Int):=yai
 have hsz:(s.extract 1 s.size).size=s.size- 1:=ya1
 have hne:=Zh (show 0<(s.extract 1 s.size).size by omega)
 have hne': ¬(s.extract 1 s.size).toList=[]:=λh=>by simp [h] at hne
 go_enter Tryz.func41,Tryz.ntmps41
 go_wp2
 all_goals
  go_ret2
  exact ⟨rfl,rfl⟩
theorem z3v(h0:1<s.size)(hm:(s[0].toNat:Int)=45)(h1:s.size=20)(hb:Op.bytesLess (s.extract 1 s.size).toList Sc=false)(hb3: ¬(s.extract 1 s.size).toList=Sc):Cl 41 #[.string s] w λe w'=>e= .returned (.tuple #[.int .i64 0, .bool false])/\w'=w:=by
 have h0':(0:Int)<(s.size:Int):=yai
 have h1': ¬(19:Int)<((s.size- 1:Nat):Int):=yai
 have h2':((s.size- 1:Nat):Int)=19:=yai
 clear h1
 have hb2:((s.extract 1 s.size).toList==Sc)=false:=by simpa using hb3
 have hsz:(s.extract 1 s.size).size=s.size- 1:=ya1
 have hne:=Zh (show 0<(s.extract 1 s.size).size by omega)
 have hne': ¬(s.extract 1 s.size).toList=[]:=λh=>by simp [h] at hne
 go_enter Tryz.func41,Tryz.ntmps41
 go_wp2
 all_goals
  go_ret2
  exact ⟨rfl,rfl⟩
theorem zk1(h0:1<s.size)(hm:(s[0].toNat:Int)=45)(h1:s.size<20)(hx:0<(s.extract 1 s.size).size)(hz:((s.extract 1 s.size)[0].toNat:Int)=48):Cl 41 #[.string s] w λe w'=>e= .returned (.tuple #[.int .i64 0, .bool false])/\w'=w:=by
 have h0':(0:Int)<(s.size:Int):=yai
 have h1': ¬(19:Int)<((s.size- 1:Nat):Int):=yai
 have h2': ¬((s.size- 1:Nat):Int)=19:=yai
 have hsz:(s.extract 1 s.size).size=s.size- 1:=ya1
 have hne:=Zh (show 0<(s.extract 1 s.size).size by omega)
 have hne': ¬(s.extract 1 s.size).toList=[]:=λh=>by simp [h] at hne
 go_enter Tryz.func41,Tryz.ntmps41
 go_wp2
 all_goals
  go_ret2
  exact ⟨rfl,rfl⟩
theorem zk2(h0:1<s.size)(hm:(s[0].toNat:Int)=45)(h1:s.size=20)(hb:Op.bytesLess (s.extract 1 s.size).toList Sc=true)(hx:0<(s.extract 1 s.size).size)(hz:((s.extract 1 s.size)[0].toNat:Int)=48):Cl 41 #[.string s] w λe w'=>e= .returned (.tuple #[.int .i64 0, .bool false])/\w'=w:=by
 have h0':(0:Int)<(s.size:Int):=yai
 have h1': ¬(19:Int)<((s.size- 1:Nat):Int):=yai
 have h2':((s.size- 1:Nat):Int)=19:=yai
 clear h1
 have hsz:(s.extract 1 s.size).size=s.size- 1:=ya1
 have hne:=Zh (show 0<(s.extract 1 s.size).size by omega)
 have hne': ¬(s.extract 1 s.size).toList=[]:=λh=>by simp [h] at hne
 go_enter Tryz.func41,Tryz.ntmps41
 go_wp2
 all_goals
  go_ret2
  exact ⟨rfl,rfl⟩
end
section
variable(w:World)(t s:ByteArray)
theorem z07(h1:t.size=19)(hq0:t.toList=Sb)(hm: ¬(t[0].toNat:Int)=45)(hz: ¬(t[0].toNat:Int)=48)(hd:Hid (∀j (h:j<t.size),48<=t[j].toNat/\t[j].toNat<=57)):
  Cl 41 #[.string t] w λe w'=>e= .returned (.tuple #[.int .i64 (wrap64 (zgx t t.size)), .bool true])/\w'=w:=by
 have h0':(0:Int)<(t.size:Int):=yai
 have h1': ¬(19:Int)<(t.size:Int):=yai
 have h2':(t.size:Int)=19:=yai
 have hb:Op.bytesLess t.toList Sb=false:=ycc
 have hb2:(t.toList==Sb)=true:=ycc
 have hne:=Zh (show 0<t.size by omega)
 have hne': ¬t.toList=[]:=λh=>by simp [h] at hne
 go_enter Tryz.func41,Tryz.ntmps41
 go_wp2
 go_loopw [7,8] (λv7 v8 wr=>∃k:Nat,k<=t.size/\v8= .int .i64 k/\v7= .int .i64 (wrap64 (zgx t k))/\wr=w) (λ_ v8 _=>t.size- (intOf v8).toNat)
 case atStart=>exact ⟨0,by omega,rfl,by rw [za9];simp [wrap64],rfl⟩
 case round=>
  obtain ⟨k,hk,rfl,rfl,rfl⟩:=hrel
  by_cases hlt:k<t.size
  ·have hlt':(k:Int)<(t.size:Nat):=by omega
   have hlt2:k<t.size:=by exact hlt
   have hq:=hd.out k hlt2
   have q1: ¬(t[k].toNat:Int)<48:=yai
   have q2: ¬(57:Int)<(t[k].toNat:Int):=yai
   have hs:=zba t k hlt2
   have hwd:=zgy (zgx t k) ((t[k].toNat:Int)- 48)
   rw [<-hs] at hwd
   have HS:=hid hs
   clear hs
   go_wp2
   go_roundw
   case rel=>exact ⟨k+1,by omega,by go_num,by rw [hwd],trivial⟩
   case measure=>simp [intOf];omega
  ·have hlt': ¬(k:Int)<(t.size:Nat):=by omega
   obtain rfl:k=t.size:=yai
   go_wp2
   go_ret2
   exact ⟨rfl,rfl⟩
theorem zk3(h0:1<s.size)(hm:(s[0].toNat:Int)=45)(h1:s.size<20)(hx:0<(s.extract 1 s.size).size)(hz: ¬((s.extract 1 s.size)[0].toNat:Int)=48)(hd:Hid (∀j (h:j<(s.extract 1 s.size).size),48<=(s.extract 1 s.size)[j].toNat/\(s.extract 1 s.size)[j].toNat<=57)):
  Cl 41 #[.string s] w λe w'=>e= .returned (.tuple #[.int .i64 (wrap64 (-(zgx (s.extract 1 s.size) (s.size- 1)))), .bool true])/\w'=w:=by
 have h0':(0:Int)<(s.size:Int):=yai
 have h1': ¬(19:Int)<((s.size- 1:Nat):Int):=yai
 have h2': ¬((s.size- 1:Nat):Int)=19:=yai
 have hsz:(s.extract 1 s.size).size=s.size- 1:=ya1
 have hne:=Zh (show 0<(s.extract 1 s.size).size by omega)
 have hne': ¬(s.extract 1 s.size).toList=[]:=λh=>by simp [h] at hne
 go_enter Tryz.func41,Tryz.ntmps41
 go_wp2
 go_loopw [7,8] (λv7 v8 wr=>∃k:Nat,k<=(s.size- 1)/\v8= .int .i64 k/\v7= .int .i64 (wrap64 (-(zgx (s.extract 1 s.size) k)))/\wr=w) (λ_ v8 _=>(s.size- 1)- (intOf v8).toNat)
 case atStart=>exact ⟨0,by omega,rfl,by rw [za9];simp [wrap64],rfl⟩
 case round=>exact z7h
theorem zk4(h0:1<s.size)(hm:(s[0].toNat:Int)=45)(h1:s.size=20)(hb:Op.bytesLess (s.extract 1 s.size).toList Sc=true)(hx:0<(s.extract 1 s.size).size)(hz: ¬((s.extract 1 s.size)[0].toNat:Int)=48)(hd:Hid (∀j (h:j<(s.extract 1 s.size).size),48<=(s.extract 1 s.size)[j].toNat/\(s.extract 1 s.size)[j].toNat<=57)):
  Cl 41 #[.string s] w λe w'=>e= .returned (.tuple #[.int .i64 (wrap64 (-(zgx (s.extract 1 s.size) (s.size- 1)))), .bool true])/\w'=w:=by
 have h0':(0:Int)<(s.size:Int):=yai
 have h1': ¬(19:Int)<((s.size- 1:Nat):Int):=yai
 have h2':((s.size- 1:Nat):Int)=19:=yai
 clear h1
 have hsz:(s.extract 1 s.size).size=s.size- 1:=ya1
 have hne:=Zh (show 0<(s.extract 1 s.size).size by omega)
 have hne': ¬(s.extract 1 s.size).toList=[]:=λh=>by simp [h] at hne
 go_enter Tryz.func41,Tryz.ntmps41
 go_wp2
 go_loopw [7,8] (λv7 v8 wr=>∃k:Nat,k<=(s.size- 1)/\v8= .int .i64 k/\v7= .int .i64 (wrap64 (-(zgx (s.extract 1 s.size) k)))/\wr=w) (λ_ v8 _=>(s.size- 1)- (intOf v8).toNat)
 case atStart=>exact ⟨0,by omega,rfl,by rw [za9];simp [wrap64],rfl⟩
 case round=>exact z7h
theorem z08(h0:1<s.size)(hm:(s[0].toNat:Int)=45)(h1:s.size=20)(hq0:(s.extract 1 s.size).toList=Sc)(hx:0<(s.extract 1 s.size).size)(hz: ¬((s.extract 1 s.size)[0].toNat:Int)=48)(hd:Hid (∀j (h:j<(s.extract 1 s.size).size),48<=(s.extract 1 s.size)[j].toNat/\(s.extract 1 s.size)[j].toNat<=57)):
  Cl 41 #[.string s] w λe w'=>e= .returned (.tuple #[.int .i64 (wrap64 (-(zgx (s.extract 1 s.size) (s.size- 1)))), .bool true])/\w'=w:=by
 have h0':(0:Int)<(s.size:Int):=yai
 have h1': ¬(19:Int)<((s.size- 1:Nat):Int):=yai
 have h2':((s.size- 1:Nat):Int)=19:=yai
 clear h1
 have hb:Op.bytesLess (s.extract 1 s.size).toList Sc=false:=ycc
 have hb2:((s.extract 1 s.size).toList==Sc)=true:=ycc
 have hsz:(s.extract 1 s.size).size=s.size- 1:=ya1
 have hne:=Zh (show 0<(s.extract 1 s.size).size by omega)
 have hne': ¬(s.extract 1 s.size).toList=[]:=λh=>by simp [h] at hne
 go_enter Tryz.func41,Tryz.ntmps41
 go_wp2
 go_loopw [7,8] (λv7 v8 wr=>∃k:Nat,k<=(s.size- 1)/\v8= .int .i64 k/\v7= .int .i64 (wrap64 (-(zgx (s.extract 1 s.size) k)))/\wr=w) (λ_ v8 _=>(s.size- 1)- (intOf v8).toNat)
 case atStart=>exact ⟨0,by omega,rfl,by rw [za9];simp [wrap64],rfl⟩
 case round=>exact z7h
end
section
variable(w:World)(t s:ByteArray)
theorem zxe(h0:1<s.size)(hm:(s[0].toNat:Int)=45)(h1:s.size<20)(hx:0<(s.extract 1 s.size).size)(hz: ¬((s.extract 1 s.size)[0].toNat:Int)=48)(k0:Nat)(hk0:k0<(s.extract 1 s.size).size)(hd:Hid (∀j (h:j<(s.extract 1 s.size).size),j<k0->48<=(s.extract 1 s.size)[j].toNat/\(s.extract 1 s.size)[j].toNat<=57))(hbad:(s.extract 1 s.size)[k0].toNat<48\/57<(s.extract 1 s.size)[k0].toNat):
  Cl 41 #[.string s] w λe w'=>e= .returned (.tuple #[.int .i64 0, .bool false])/\w'=w:=by
 have h0':(0:Int)<(s.size:Int):=yai
 have h1': ¬(19:Int)<((s.size- 1:Nat):Int):=yai
 have h2': ¬((s.size- 1:Nat):Int)=19:=yai
 have hsz:(s.extract 1 s.size).size=s.size- 1:=ya1
 have hne:=Zh (show 0<(s.extract 1 s.size).size by omega)
 have hne': ¬(s.extract 1 s.size).toList=[]:=λh=>by simp [h] at hne
 have hk1:k0<(s.size- 1):=by rw [ByteArray.size_extract] at hk0;omega
 go_enter Tryz.func41,Tryz.ntmps41
 go_wp2
 go_loopw [7,8] (λv7 v8 wr=>∃(k:Nat) (v:Int),k<=k0/\v8= .int .i64 k/\v7= .int .i64 v/\wr=w) (λ_ v8 _=>(s.size- 1)- (intOf v8).toNat)
 case atStart=>exact ⟨0,0,by omega,rfl,rfl,rfl⟩
 case round=>exact z7l
theorem zxf(h0:1<s.size)(hm:(s[0].toNat:Int)=45)(h1:s.size=20)(hb:Op.bytesLess (s.extract 1 s.size).toList Sc=true)(hx:0<(s.extract 1 s.size).size)(hz: ¬((s.extract 1 s.size)[0].toNat:Int)=48)(k0:Nat)(hk0:k0<(s.extract 1 s.size).size)(hd:Hid (∀j (h:j<(s.extract 1 s.size).size),j<k0->48<=(s.extract 1 s.size)[j].toNat/\(s.extract 1 s.size)[j].toNat<=57))(hbad:(s.extract 1 s.size)[k0].toNat<48\/57<(s.extract 1 s.size)[k0].toNat):
  Cl 41 #[.string s] w λe w'=>e= .returned (.tuple #[.int .i64 0, .bool false])/\w'=w:=by
 have h0':(0:Int)<(s.size:Int):=yai
 have h1': ¬(19:Int)<((s.size- 1:Nat):Int):=yai
 have h2':((s.size- 1:Nat):Int)=19:=yai
 clear h1
 have hsz:(s.extract 1 s.size).size=s.size- 1:=ya1
 have hne:=Zh (show 0<(s.extract 1 s.size).size by omega)
 have hne': ¬(s.extract 1 s.size).toList=[]:=λh=>by simp [h] at hne
 have hk1:k0<(s.size- 1):=by rw [ByteArray.size_extract] at hk0;omega
 go_enter Tryz.func41,Tryz.ntmps41
 go_wp2
 go_loopw [7,8] (λv7 v8 wr=>∃(k:Nat) (v:Int),k<=k0/\v8= .int .i64 k/\v7= .int .i64 v/\wr=w) (λ_ v8 _=>(s.size- 1)- (intOf v8).toNat)
 case atStart=>exact ⟨0,0,by omega,rfl,rfl,rfl⟩
 case round=>exact z7l
end
theorem Iz: ∀(l:List UInt8) (acc:Nat),Dig l->acc<=18446744073709551615 ->
  (((acc:Int)*10^l.length+Xi l<=18446744073709551615/\ ∃u:Nat,Lib.parseUintM 18446744073709551615 acc l= .ok u/\(u:Int)=(acc:Int)*10^l.length+Xi l)\/
   (18446744073709551615<(acc:Int)*10^l.length+Xi l/\Lib.parseUintM 18446744073709551615 acc l= .range))
 |[],acc,_,h=> .inl ⟨by simp [Xi];omega,acc,rfl,by simp [Xi]⟩
 |c::r,acc,hd,hb=>by
  have hc:=hd c (List.mem_cons_self)
  have hd':Dig r:=λb hb=>hd b (List.mem_cons_of_mem _ hb)
  have hi:=Fc hd'
  have hp:(0:Int)<10^r.length:=Int.pow_pos yal
  obtain ⟨d,hdd⟩: ∃d:Nat,d=c.toNat- 48:=⟨_,rfl⟩
  have hval:(acc:Int)*10^(c::r).length+Xi (c::r)=((acc*10+d:Nat):Int)*10^r.length+Xi r:=by
   rw [Iy,List.length_cons,Int.pow_succ]
   have hcast:((acc*10+d:Nat):Int)=(acc:Int)*10+((c.toNat:Int)- 48):=yai
   rw [hcast]
   generalize (10:Int)^r.length=e
   rw [Int.add_mul,Int.mul_assoc,Int.mul_comm 10 e]
   omega
  rw [hval]
  unfold Lib.parseUintM
  rw [if_pos hc,<-hdd]
  have hlow:((acc*10+d:Nat):Int)<=((acc*10+d:Nat):Int)*10^r.length:=by
   have:=Int.mul_le_mul_of_nonneg_left (show (1:Int)<=10^r.length by omega) (show (0:Int)<=((acc*10+d:Nat):Int) by omega)
   omega
  by_cases h1:1844674407370955162<=acc
  ·rw [if_pos h1]
   exact .inr ⟨by omega,rfl⟩
  rw [if_neg h1]
  by_cases h2:18446744073709551615<acc*10+d
  ·rw [if_pos h2]
   exact .inr ⟨by omega,rfl⟩
  rw [if_neg h2]
  exact Iz r (acc*10+d) hd' yai
theorem zg0:l.all zjl=true↔Dig l:=by
 simp only [List.all_eq_true,zjl,Bool.and_eq_true,decide_eq_true_eq]
 exact Iff.rfl
theorem Ov(h:l.head?≠some 45):(Jg ⟨l.toArray⟩).data.toList=l:=by
 unfold Jg Lib.trimPrefix
 cases l with
 |nil=>rfl
 |cons a l=>
  have ha:((45:UInt8)==a)=false:=by simpa using λe:(45:UInt8)=a=>h (by simp [e])
  simp [Lib.hasPrefix,List.isPrefixOf,ha]
theorem Ow:(Jg ⟨(45::l).toArray⟩).data.toList=l:=by
 unfold Jg Lib.trimPrefix
 simp [Lib.hasPrefix,List.isPrefixOf]
theorem Zp(h0:l≠[])(hd:Dig l)(hn:l.head?=some 48->l=[48])(hv:Xi l<9223372036854775808):Qk ⟨l.toArray⟩=some (Xi l):=by
 have h45:l.head?≠some 45:=by
  cases l with
  |nil=>simp
  |cons a l=>
   have:=hd a List.mem_cons_self
   intro e
   simp at e
   subst e
   simp at this
 have hN:Jd ⟨l.toArray⟩=true:=by
  unfold Jd
  rw [Ov h45,if_neg h0,if_neg (by rintro ⟨e1,e2⟩;exact e2 (by rw [hn e1])),zg0]
  exact hd
 unfold Qk
 rw [if_pos hN]
 show (match Lib.parseIntB 64 l with| .ok v=>some v|_=>none)=_
 have hr:=Fc hd
 cases l with
 |nil=>exact absurd rfl h0
 |cons a r=>
  have ha:=hd a List.mem_cons_self
  have hne: ¬(a.toNat=43\/a.toNat=45):=yai
  rcases Iz (a::r) 0 hd yai with ⟨h1,u,h2,h3⟩|⟨h1,_⟩
  ·unfold Lib.parseIntB
   simp only [if_neg hne]
   have e:Lib.parseUintB 64 (a::r)= .ok u:=ydo
   rw [e]
   have hu:(u:Int)=Xi (a::r):=by rw [h3];simp
   have hnn: ¬a.toNat=45:=yai
   simp only [hnn,not_false_eq_true,true_and,false_and,if_false]
   rw [if_neg yai,hu]
  ·simp at h1;omega
theorem Xa(h0:l≠[])(hd:Dig l)(hn:l.head?≠some 48)(hv:Xi l<=9223372036854775808):Qk ⟨(45::l).toArray⟩=some (-(Xi l)):=by
 have hN:Jd ⟨(45::l).toArray⟩=true:=by
  unfold Jd
  rw [Ow,if_neg h0,if_neg (λe=>hn e.1),zg0]
  exact hd
 unfold Qk
 rw [if_pos hN]
 show (match Lib.parseIntB 64 (45::l) with| .ok v=>some v|_=>none)=_
 have hr:=Fc hd
 rcases Iz l 0 hd yai with ⟨h1,u,h2,h3⟩|⟨h1,_⟩
 ·unfold Lib.parseIntB
  have e45:(45:UInt8).toNat=45:=rfl
  simp only [e45,or_true,if_true]
  have e:Lib.parseUintB 64 l= .ok u:=ydo
  rw [e]
  have hu:(u:Int)=Xi l:=by rw [h3];simp
  simp only [not_true_eq_false,false_and,if_false,true_and]
  rw [if_neg yai,hu]
 ·simp at h1;omega
theorem Jp(h:Jd s=false):Qk s=none:=by unfold Qk;simp [h]
theorem Vc(h45:l.head?≠some 45)(h:Dig l->l≠[]->(l.head?=some 48->l=[48])->9223372036854775808<=Xi l):Qk ⟨l.toArray⟩=none:=by
 by_cases h0:l=[]
 ·exact Jp (by unfold Jd;rw [Ov h45,if_pos h0])
 by_cases hn:l.head?=some 48/\(⟨l.toArray⟩:ByteArray)≠⟨#[48]⟩
 ·exact Jp (by unfold Jd;rw [Ov h45,if_neg h0,if_pos hn])
 by_cases hd:Dig l
 ·have hv:=h hd h0 (λe=>by
   have:(⟨l.toArray⟩:ByteArray)=⟨#[48]⟩:=Classical.byContradiction λe2=>hn ⟨e,e2⟩
   have e3:l.toArray= #[48]:=congrArg ByteArray.data this
   have:=congrArg Array.toList e3
   simpa using this)
  unfold Qk
  split
  ·show (match Lib.parseIntB 64 l with| .ok v=>some v|_=>none)=_
   cases l with
   |nil=>exact absurd rfl h0
   |cons a r=>
    have ha:=hd a List.mem_cons_self
    have hne: ¬(a.toNat=43\/a.toNat=45):=yai
    unfold Lib.parseIntB
    simp only [if_neg hne]
    have hU:Lib.parseUintB 64 (a::r)=Lib.parseUintM 18446744073709551615 0 (a::r):=by unfold Lib.parseUintB;rw [if_neg h0]
    rw [hU]
    rcases Iz (a::r) 0 hd yai with ⟨h1,u,h2,h3⟩|⟨h1,h2⟩
    ·rw [h2]
     have hu:(u:Int)=Xi (a::r):=by rw [h3];simp
     have hnn: ¬a.toNat=45:=yai
     simp only [hnn,not_false_eq_true,true_and]
     rw [if_pos yai]
    ·rw [h2]
  ·rfl
 ·refine Jp ?_
  unfold Jd
  rw [Ov h45,if_neg h0,if_neg hn]
  exact Bool.eq_false_iff.2 (λe=>hd (zg0.1 e))
theorem Vr(h:Dig l->l≠[]->l.head?≠some 48->9223372036854775808<Xi l):Qk ⟨(45::l).toArray⟩=none:=by
 by_cases h0:l=[]
 ·exact Jp (by unfold Jd;rw [Ow,if_pos h0])
 by_cases hn:l.head?=some 48
 ·refine Jp ?_
  have hne:(⟨(45::l).toArray⟩:ByteArray)≠⟨#[48]⟩:=λe=>by
   have e3:(45::l).toArray= #[48]:=congrArg ByteArray.data e
   have:=congrArg Array.toList e3
   simp at this
  unfold Jd
  rw [Ow,if_neg h0,if_pos ⟨hn,hne⟩]
 by_cases hd:Dig l
 ·have hv:=h hd h0 hn
  unfold Qk
  split
  ·show (match Lib.parseIntB 64 (45::l) with| .ok v=>some v|_=>none)=_
   unfold Lib.parseIntB
   have e45:(45:UInt8).toNat=45:=rfl
   simp only [e45,or_true,if_true]
   have hU:Lib.parseUintB 64 l=Lib.parseUintM 18446744073709551615 0 l:=by unfold Lib.parseUintB;rw [if_neg h0]
   rw [hU]
   rcases Iz l 0 hd yai with ⟨h1,u,h2,h3⟩|⟨h1,h2⟩
   ·rw [h2]
    have hu:(u:Int)=Xi l:=by rw [h3];simp
    simp only [not_true_eq_false,false_and,if_false,true_and]
    rw [if_pos yai]
   ·rw [h2]
  ·rfl
 ·refine Jp ?_
  unfold Jd
  rw [Ow,if_neg h0,if_neg (λe=>hn e.1)]
  exact Bool.eq_false_iff.2 (λe=>hd (zg0.1 e))
theorem zm6{a:UInt8}(hd:Dig (a::l))(h:a≠48):10^l.length<=Xi (a::l):=by
 have ha:=hd a List.mem_cons_self
 have hi:=Fc (l:=l) (λb hb=>hd b (List.mem_cons_of_mem _ hb))
 have h49:49<=a.toNat:=by
  have:a.toNat≠48:=λe=>h (UInt8.toNat_inj.1 e)
  omega
 rw [Iy]
 have hp:(0:Int)<10^l.length:=Int.pow_pos yal
 have:=Int.mul_le_mul_of_nonneg_right (show (1:Int)<=(a.toNat:Int)- 48 by omega) (Int.le_of_lt hp)
 omega
theorem zih(t:ByteArray):(∀j (h:j<t.size),48<=t[j].toNat/\t[j].toNat<=57)\/ ∃k0,∃h:k0<t.size,(∀j (h:j<t.size),j<k0->48<=t[j].toNat/\t[j].toNat<=57)/\(t[k0].toNat<48\/57<t[k0].toNat):=by
 have: ∀n,(∀j (h:j<t.size),j<n->48<=t[j].toNat/\t[j].toNat<=57)\/ ∃k0,∃h:k0<t.size,(∀j (h:j<t.size),j<k0->48<=t[j].toNat/\t[j].toNat<=57)/\(t[k0].toNat<48\/57<t[k0].toNat):=by
  intro n
  induction n with
  |zero=>exact .inl (λj h hj=>absurd hj (Nat.not_lt_zero _))
  |succ n ih=>
   rcases ih with ih|ih
   ·by_cases hn:n<t.size
    ·by_cases hg:48<=t[n].toNat/\t[n].toNat<=57
     ·left
      intro j h hj
      by_cases e:j=n
      ·subst e;exact hg
      ·exact ih j h yai
     ·exact .inr ⟨n,hn,ih,by omega⟩
    ·exact .inl (λj h hj=>ih j h yai)
   ·exact .inr ih
 rcases this t.size with h|h
 ·exact .inl (λj hj=>h j hj hj)
 ·exact .inr h
theorem zs4:(∀j (h:j<(⟨l.toArray⟩:ByteArray).size),48<=(⟨l.toArray⟩:ByteArray)[j].toNat/\(⟨l.toArray⟩:ByteArray)[j].toNat<=57)↔Dig l:=by
 constructor
 ·intro h b hb
  obtain ⟨j,hj,rfl⟩:=List.mem_iff_getElem.1 hb
  have:=h j (by show j<l.toArray.size;simpa using hj)
  simpa [ByteArray.getElem_eq_getElem_data] using this
 ·intro h j hj
  have hj':j<l.length:=by have:j<l.toArray.size:=hj;simpa using this
  have:=h l[j] (List.getElem_mem hj')
  simpa [ByteArray.getElem_eq_getElem_data] using this
theorem Gb: ∀(x y:List UInt8),x.length=y.length->Op.bytesLess x y=false->x≠y->Op.bytesLess y x=true
 |[],[],_,_,h=>absurd rfl h
 |[],_::_,h,_,_=>by simp at h
 |_::_,[],h,_,_=>by simp at h
 |a::x,b::y,h,h1,h2=>by
  have hl:x.length=y.length:=yb2
  simp only [Op.bytesLess,Bool.or_eq_false_iff,decide_eq_false_iff_not,Bool.and_eq_false_iff,beq_eq_false_iff_ne] at h1
  simp only [Op.bytesLess,Bool.or_eq_true,decide_eq_true_eq,Bool.and_eq_true,beq_iff_eq]
  obtain ⟨h3,h4⟩:=h1
  by_cases e:a=b
  ·subst e
   right
   refine ⟨rfl,Gb x y hl ?_ (λe=>h2 (by rw [e]))⟩
   rcases h4 with h4|h4
   ·exact absurd rfl h4
   ·exact h4
  ·left
   rw [UInt8.lt_iff_toNat_lt] at*
   have:a.toNat≠b.toNat:=λe'=>e (UInt8.toNat_inj.1 e')
   omega
theorem zb5(h1:-9223372036854775808<=v)(h2:v<9223372036854775808):wrap64 v=v:=yao
theorem zb6(l:List UInt8):(⟨l.toArray⟩:ByteArray).size=l.length:=ybv
theorem zs5(l:List UInt8):(⟨l.toArray⟩:ByteArray).toList=l:=by rw [ByteArray.toList_eq]
theorem zg1(a:UInt8)(l:List UInt8)(h:0<(⟨(a::l).toArray⟩:ByteArray).size):(⟨(a::l).toArray⟩:ByteArray)[0]=a:=ycs
theorem zef:Dig Sb:=ydp
theorem zeg:Dig Sc:=ydp
theorem Oa:Xi Sb=9223372036854775807:=yal
theorem Ob:Xi Sc=9223372036854775808:=yal
abbrev Oc(s:ByteArray):Ending:= .returned (.tuple #[.int .i64 ((Qk s).getD 0), .bool (Qk s).isSome])
theorem Yj(h:Qk s=some v):Oc s= .returned (.tuple #[.int .i64 v, .bool true]):=by simp [Oc,h]
theorem Vy(h:Qk s=none):Oc s= .returned (.tuple #[.int .i64 0, .bool false]):=by simp [Oc,h]
theorem zdb{m n:Nat}(h:m<=n):(10:Int)^m<=10^n:=by
 obtain ⟨k,rfl⟩:=Nat.exists_eq_add_of_le h
 rw [Int.pow_add]
 have h1:(0:Int)<10^m:=Int.pow_pos yal
 have h2:(0:Int)<10^k:=Int.pow_pos yal
 have:=Int.mul_le_mul_of_nonneg_left (show (1:Int)<=10^k by omega) (Int.le_of_lt h1)
 omega
theorem zk5(w:World)(a:UInt8)(r:List UInt8)(ha:a≠45):
  Cl 41 #[.string ⟨(a::r).toArray⟩] w λe w'=>e=Oc ⟨(a::r).toArray⟩/\w'=w:=by
 have hsz:(⟨(a::r).toArray⟩:ByteArray).size=r.length+1:=by rw [zb6];rfl
 have h0:0<(⟨(a::r).toArray⟩:ByteArray).size:=yai
 have hd0:=zg1 a r h0
 have hm: ¬((⟨(a::r).toArray⟩:ByteArray)[0].toNat:Int)=45:=by rw [hd0];intro e;exact ha (UInt8.toNat_inj.1 ycd)
 have h45:(a::r).head?≠some 45:=by simpa using ha
 have hT:=zs5 (a::r)
 have hD:=zs4 (l:=a::r)
 have hF:=zih ⟨(a::r).toArray⟩
 by_cases hlong:19<r.length+1
 ·rw [Vy (Vc h45 λhd _ hn=>?_)]
  ·exact z04 w _ yai hm
  ·have h48:a≠48:=λe=>by
    have:=hn (by simp [e])
    simp at this
    rw [this.2] at hlong
    simp at hlong
   have:=zm6 hd h48
   have:=zdb (show 19<=r.length by omega)
   have e19:(10:Int)^19=10000000000000000000:=yal
   omega
 by_cases hz:a=48
 ·subst hz
  by_cases hr:r=[]
  ·subst hr
   rw [Yj (Zp yaj (by intro b hb;simp at hb;subst hb;decide) (λ_=>rfl) yal)]
   exact z05 w
  ·have hl:0<r.length:=List.length_pos_iff.2 hr
   rw [Vy (Vc h45 λ_ _ hn=>by have:=hn rfl;simp at this;exact absurd this hr)]
   have hz':((⟨(48::r).toArray⟩:ByteArray)[0].toNat:Int)=48:=by rw [hd0];rfl
   by_cases h19:r.length+1=19
   ·exact zk0 w _ yai (by rw [hT];simp [Op.bytesLess]) hz'
   ·exact zkz w _ yai yai hz'
 have hz': ¬((⟨(a::r).toArray⟩:ByteArray)[0].toNat:Int)=48:=by rw [hd0];intro e;exact hz (UInt8.toNat_inj.1 ycd)
 have hn48:(a::r).head?=some 48->a::r=[48]:=λe=>by simp at e;exact absurd e hz
 by_cases h19:r.length+1=19
 ·by_cases hb:Op.bytesLess (a::r) Sb=true
  ·rcases hF with hF|⟨k0,hk0,hF,hbad⟩
   ·have hd:=hD.1 hF
    have hlt:=(zbb (a::r) Sb hd zef yce).1 hb
    rw [Oa] at hlt
    have hin:=Fc hd
    rw [Yj (Zp yaj hd hn48 yai)]
    have k:=zky w ⟨(a::r).toArray⟩ yai ycf hm hz' hF
    rw [show (⟨(a::r).toArray⟩:ByteArray).data.toList=a::r from rfl,zb5 yai yai] at k
    exact k
   ·have hnd: ¬Dig (a::r):=λhd=>by have:=hD.2 hd k0 hk0;omega
    rw [Vy (Vc h45 λhd _ _=>absurd hd hnd)]
    exact zxc w _ h0 yai ycf hm hz' k0 hk0 hF hbad
  ·have hb':Op.bytesLess (a::r) Sb=false:=by simpa using hb
   by_cases he:a::r=Sb
   ·have hd:Dig (a::r):=by rw [he];exact zef
    rw [Yj (Zp yaj hd hn48 (by rw [he,Oa];decide))]
    have k:=z07 w ⟨(a::r).toArray⟩ yai (by rw [hT];exact he) hm hz' (hD.2 hd)
    rw [zm5 _ _ rfl,show (⟨(a::r).toArray⟩:ByteArray).data.toList=a::r from rfl,zb5 (by rw [he,Oa];decide) (by rw [he,Oa];decide)] at k
    exact k
   ·rw [Vy (Vc h45 λhd _ _=>?_)]
    ·exact z3u w _ yai hm (by rw [hT];exact hb') (by rw [hT];simpa using he)
    ·have:=(zbb Sb (a::r) zef hd (by simpa using h19.symm)).1 (Gb _ _ yce hb' he)
     rw [Oa] at this
     omega
 ·rcases hF with hF|⟨k0,hk0,hF,hbad⟩
  ·have hd:=hD.1 hF
   have hin:=Fc hd
   have hp:=zdb (show (a::r).length<=18 by simp;omega)
   have e18:(10:Int)^18=1000000000000000000:=yal
   rw [Yj (Zp yaj hd hn48 yai)]
   have k:=zgz w ⟨(a::r).toArray⟩ h0 yai hm hz' hF
   rw [show (⟨(a::r).toArray⟩:ByteArray).data.toList=a::r from rfl,zb5 yai yai] at k
   exact k
  ·have hnd: ¬Dig (a::r):=λhd=>by have:=hD.2 hd k0 hk0;omega
   rw [Vy (Vc h45 λhd _ _=>absurd hd hnd)]
   exact zxb w _ h0 yai hm hz' k0 hk0 hF hbad
theorem zxg(r:List UInt8):(⟨(45::r).toArray⟩:ByteArray).extract 1 (⟨(45::r).toArray⟩:ByteArray).size=⟨r.toArray⟩:=by
 apply ByteArray.ext
 apply Array.ext'
 rw [zb6,ByteArray.data_extract]
 simp
theorem zii(w:World)(s:ByteArray)(a:UInt8)(r':List UInt8)(hs:(⟨(45::a::r').toArray⟩:ByteArray)=s)(hlong: ¬19<(a::r').length):
  Cl 41 #[.string s] w λe w'=>e=Oc s/\w'=w:=by
 have hsz:s.size=(a::r').length+1:=by rw [<-hs,zb6];rfl
 have hl:0<(a::r').length:=yaj
 have h0:1<s.size:=yai
 have hm:(s[0].toNat:Int)=45:=by subst hs;rw [zg1];rfl
 have hX:s.extract 1 s.size=⟨(a::r').toArray⟩:=by rw [<-hs];exact zxg _
 have hT:(s.extract 1 s.size).toList=a::r':=by rw [hX];exact zs5 _
 have hxs:(s.extract 1 s.size).size=(a::r').length:=by rw [hX];exact zb6 _
 have hD:(∀j (h:j<(s.extract 1 s.size).size),48<=(s.extract 1 s.size)[j].toNat/\(s.extract 1 s.size)[j].toNat<=57)↔Dig (a::r'):=by rw [hX];exact zs4
 have hF:=zih (s.extract 1 s.size)
 have hx:0<(s.extract 1 s.size).size:=yai
 have hx0:(s.extract 1 s.size)[0]=a:=by simp only [hX];exact zg1 a r' (by rw [zb6];simp)
 by_cases hz:a=48
 ·subst hz
  have hnone:Qk s=none:=by rw [<-hs];exact Vr λ_ _ hn=>absurd rfl hn
  rw [Vy hnone]
  have hz':((s.extract 1 s.size)[0].toNat:Int)=48:=by rw [hx0];rfl
  by_cases h19:(48::r').length=19
  ·exact zk2 w s h0 hm yai (by rw [hT];simp [Op.bytesLess]) hx hz'
  ·exact zk1 w s h0 hm yai hx hz'
 have hz': ¬((s.extract 1 s.size)[0].toNat:Int)=48:=by rw [hx0];intro e;exact hz (UInt8.toNat_inj.1 ycd)
 have hn48:(a::r').head?≠some 48:=by simpa using hz
 have hall:zgx (s.extract 1 s.size) (s.size- 1)=Xi (a::r'):=by
  rw [zm5 _ _ yai,hX]
 by_cases h19:(a::r').length=19
 ·by_cases hb:Op.bytesLess (a::r') Sc=true
  ·rcases hF with hF|⟨k0,hk0,hF,hbad⟩
   ·have hd:=hD.1 hF
    have hlt:=(zbb (a::r') Sc hd zeg yce).1 hb
    rw [Ob] at hlt
    have hin:=Fc hd
    have hv:Qk s=some (-(Xi (a::r'))):=ydq
    rw [Yj hv]
    have k:=zk4 w s h0 hm yai ycf hx hz' (hD.2 hd)
    rw [hall,zb5 yai yai] at k
    exact k
   ·have hnd: ¬Dig (a::r'):=λhd=>by have:=hD.2 hd k0 hk0;omega
    have hv:Qk s=none:=by rw [<-hs];exact Vr λhd _ _=>absurd hd hnd
    rw [Vy hv]
    exact zxf w s h0 hm yai ycf hx hz' k0 hk0 hF hbad
  ·have hb':Op.bytesLess (a::r') Sc=false:=by simpa using hb
   by_cases he:a::r'=Sc
   ·have hd:Dig (a::r'):=by rw [he];exact zeg
    have hv:Qk s=some (-(Xi (a::r'))):=by rw [<-hs];exact Xa yaj hd hn48 (by rw [he,Ob];decide)
    rw [Yj hv]
    have k:=z08 w s h0 hm yai (by rw [hT];exact he) hx hz' (hD.2 hd)
    rw [hall,zb5 (by rw [he,Ob];decide) (by rw [he,Ob];decide)] at k
    exact k
   ·have hv:Qk s=none:=by
     rw [<-hs]
     refine Vr λhd _ _=>?_
     have:=(zbb Sc (a::r') zeg hd (by simpa using h19.symm)).1 (Gb _ _ yce hb' he)
     rw [Ob] at this
     exact this
    rw [Vy hv]
    exact z3v w s h0 hm yai (by rw [hT];exact hb') (by rw [hT];exact he)
 ·rcases hF with hF|⟨k0,hk0,hF,hbad⟩
  ·have hd:=hD.1 hF
   have hin:=Fc hd
   have hp:=zdb (show (a::r').length<=18 by omega)
   have e18:(10:Int)^18=1000000000000000000:=yal
   have hv:Qk s=some (-(Xi (a::r'))):=ydq
   rw [Yj hv]
   have k:=zk3 w s h0 hm yai hx hz' (hD.2 hd)
   rw [hall,zb5 yai yai] at k
   exact k
  ·have hnd: ¬Dig (a::r'):=λhd=>by have:=hD.2 hd k0 hk0;omega
   have hv:Qk s=none:=by rw [<-hs];exact Vr λhd _ _=>absurd hd hnd
   rw [Vy hv]
   exact zxe w s h0 hm yai hx hz' k0 hk0 hF hbad
theorem zk6(w:World)(r:List UInt8):
  Cl 41 #[.string ⟨(45::r).toArray⟩] w λe w'=>e=Oc ⟨(45::r).toArray⟩/\w'=w:=by
 by_cases hr:r=[]
 ·subst hr
  rw [Vy (Vr λ_ h _=>absurd rfl h)]
  exact zxd w
 have hl:0<r.length:=List.length_pos_iff.2 hr
 have hsz:(⟨(45::r).toArray⟩:ByteArray).size=r.length+1:=by rw [zb6];rfl
 have h0:1<(⟨(45::r).toArray⟩:ByteArray).size:=yai
 have hm:((⟨(45::r).toArray⟩:ByteArray)[0].toNat:Int)=45:=by rw [zg1];rfl
 by_cases hlong:19<r.length
 ·rw [Vy (Vr λhd _ hn=>?_)]
  ·exact z06 w _ h0 hm yai
  ·cases r with
   |nil=>exact absurd rfl hr
   |cons a r=>
    have:=zm6 hd (by simpa using hn)
    have:=zdb (show 19<=r.length by simp at hlong;omega)
    have e19:(10:Int)^19=10000000000000000000:=yal
    omega
 obtain ⟨a,r',rfl⟩: ∃a r',r=a::r':=by
  cases r with
  |nil=>exact absurd rfl hr
  |cons a r'=>exact ⟨a,r',rfl⟩
 exact zii w _ a r' rfl hlong
theorem Ym(w:World)(s:ByteArray):Cl 41 #[.string s] w λe w'=>e=Oc s/\w'=w:=by
 obtain ⟨⟨l⟩⟩:=s
 cases l with
 |nil=>
  rw [Vy (Vc (l:=[]) yaj λ_ h _=>absurd rfl h)]
  exact zxa w
 |cons a r=>
  by_cases ha:a=45
  ·subst ha;exact zk6 w r
  ·exact zk5 w a r ha
theorem Qo{u:ByteArray}(h:u≠⟨l.toArray⟩):(u.toList==l)=false:=by
 have:=Oz h
 rwa [ByteArray.toList_eq ⟨l.toArray⟩] at this
section
variable(w:World)(u:ByteArray)
theorem zo6(hm:u.size<1000000)(hd:Hid (∀j (h:j<u.size),97<=u[j].toNat/\u[j].toNat<=122))(hb:(decide (0<u.size)&&decide (u.size<=6))=b):
  Cl 18 #[.string u] w λe w'=>e= .returned (.bool b)/\w'=w:=by
 have HB:=hid hb
 clear hb
 go_enter Tryz.func18,Tryz.ntmps18
 go_wp2
 go_loopw [3] (λv wr=>∃k:Nat,k<=u.size/\v= .int .i64 k/\wr=w) (λv _=>u.size- (intOf v).toNat)
 case atStart=>exact ⟨0,by omega,rfl,rfl⟩
 case round=>
  obtain ⟨k,hk,rfl,rfl⟩:=hrel
  by_cases hlt:k<u.size
  ·exact z79
  ·have hlt': ¬(k:Int)<(u.size:Int):=by omega
   by_cases h0:0<u.size
   ·have h0':(0:Int)<(u.size:Int):=by omega
    by_cases h6:u.size<=6
    ·have h6':(u.size:Int)<=6:=by omega
     have HB2:Hid (b=true):=hid (by rw [<-HB.out];simp [h0,h6])
     go_wp2
     go_ret
     exact ⟨by simp [HB2.out],rfl⟩
    ·have h6': ¬(u.size:Int)<=6:=by omega
     have HB2:Hid (b=false):=hid (by rw [<-HB.out];simp [h6])
     go_wp2
     go_ret
     exact ⟨by simp [HB2.out],rfl⟩
   ·have h0': ¬(0:Int)<(u.size:Int):=by omega
    have HB2:Hid (b=false):=hid (by rw [<-HB.out];simp [h0])
    go_wp2
    go_ret
    exact ⟨by simp [HB2.out],rfl⟩
theorem zs6(hm:u.size<1000000)(k0:Nat)(hk0:k0<u.size)(hb:u[k0].toNat<97\/122<u[k0].toNat)(hd:Hid (∀j (h:j<u.size),j<k0->97<=u[j].toNat/\u[j].toNat<=122)):
  Cl 18 #[.string u] w λe w'=>e= .returned (.bool false)/\w'=w:=by
 go_enter Tryz.func18,Tryz.ntmps18
 go_wp2
 go_loopw [3] (λv wr=>∃k:Nat,k<=k0/\v= .int .i64 k/\wr=w) (λv _=>u.size- (intOf v).toNat)
 case atStart=>exact ⟨0,by omega,rfl,rfl⟩
 case round=>exact z7s
theorem Vs(hm:u.size<1000000):Cl 18 #[.string u] w λe w'=>e= .returned (.bool (Vo u))/\w'=w:=by
 cases ha:u.data.toList.all small with
 |true=>
  refine zo6 w u hm (hid (zl0 ha)) ?_
  unfold Vo
  rw [ha]
  simp
 |false=>
  obtain ⟨k,hk,hb,hd⟩:=zl1 ha
  have e:Vo u=false:=by unfold Vo;rw [ha];simp
  rw [e]
  exact zs6 w u hm k hk hb (hid hd)
def isAt(u:ByteArray):Bool:=Vo u||(Qk u).isSome
theorem zs7(x y b:Bool)(n:Int)(hb:(x||y)=b)(K1:Hid (Cl 18 #[.string u] w λe w'=>e= .returned (.bool x)/\w'=w))(K2:Hid (Cl 41 #[.string u] w λe w'=>e= .returned (.tuple #[.int .i64 n, .bool y])/\w'=w)):
  Cl 19 #[.string u] w λe w'=>e= .returned (.bool b)/\w'=w:=by
 subst hb
 cases x
 ·exact z8v
 ·exact z8v
theorem Xb(hm:u.size<1000000):Cl 19 #[.string u] w λe w'=>e= .returned (.bool (isAt u))/\w'=w:=by
 have K2:=Ym w u
 cases hn:Qk u with
 |none=>
  rw [Vy hn] at K2
  exact zs7 w u (Vo u) false _ 0 (by simp [isAt,hn]) (hid (Vs w u hm)) (hid K2)
 |some n=>
  rw [Yj hn] at K2
  exact zs7 w u (Vo u) true _ n (by simp [isAt,hn]) (hid (Vs w u hm)) (hid K2)
def Sx(m:Int)(u:ByteArray):Bool:=match Qk u with
 |some n=>decide (1<=n)&&decide (n<=m)
 |none=>false
theorem zo7(m:Int)(K2:Hid (Cl 41 #[.string u] w λe w'=>e= .returned (.tuple #[.int .i64 0, .bool false])/\w'=w)):
  Cl 20 #[.string u, .int .i64 m] w λe w'=>e= .returned (.bool false)/\w'=w:=by
 go_enter Tryz.func20,Tryz.ntmps20
 go_wp2_with fail
 refine K2.out.mono ?_
 rintro e w1 ⟨rfl,rfl⟩
 go_wp2
 go_ret
 exact ⟨rfl,rfl⟩
theorem zk7(m n:Int)(h1: ¬1<=n)(K2:Hid (Cl 41 #[.string u] w λe w'=>e= .returned (.tuple #[.int .i64 n, .bool true])/\w'=w)):
  Cl 20 #[.string u, .int .i64 m] w λe w'=>e= .returned (.bool false)/\w'=w:=by
 go_enter Tryz.func20,Tryz.ntmps20
 go_wp2_with fail
 refine K2.out.mono ?_
 rintro e w1 ⟨rfl,rfl⟩
 go_wp2
 go_ret
 exact ⟨by simp,rfl⟩
theorem zo8(m n:Int)(h1:1<=n)(h2:decide (n<=m)=b)(K2:Hid (Cl 41 #[.string u] w λe w'=>e= .returned (.tuple #[.int .i64 n, .bool true])/\w'=w)):
  Cl 20 #[.string u, .int .i64 m] w λe w'=>e= .returned (.bool b)/\w'=w:=by
 have H2:=hid h2
 clear h2
 go_enter Tryz.func20,Tryz.ntmps20
 go_wp2_with fail
 refine K2.out.mono ?_
 rintro e w1 ⟨rfl,rfl⟩
 go_wp2
 go_ret
 exact ⟨by rw [<-H2.out];rfl,rfl⟩
theorem Zq(m:Int):Cl 20 #[.string u, .int .i64 m] w λe w'=>e= .returned (.bool (Sx m u))/\w'=w:=by
 have K2:=Ym w u
 unfold Sx
 cases hn:Qk u with
 |none=>
  rw [Vy hn] at K2
  exact zo7 w u m (hid K2)
 |some n=>
  rw [Yj hn] at K2
  dsimp only
  by_cases h1:1<=n
  ·exact zo8 w u m n h1 (by simp [h1]) (hid K2)
  ·rw [show (decide (1<=n)&&decide (n<=m))=false by simp [h1]]
   exact zk7 w u m n h1 (hid K2)
def zbc:List ByteArray:=[⟨#[43]⟩,⟨#[45]⟩,⟨#[42]⟩,⟨#[47]⟩,⟨#[37]⟩,⟨#[38]⟩,⟨#[124]⟩,⟨#[94]⟩,⟨#[60,60]⟩,⟨#[62,62]⟩,⟨#[60]⟩,⟨#[61,61]⟩]
theorem zij:Cl 21 #[] w λe w'=>e= .returned (.slice (some ⟨w.heap.size,0,none⟩) 12 12)/\StrsAt w' w.heap.size zbc/\Below w.heap.size w w':=by
 go_enter Tryz.func21,Tryz.ntmps21
 go_wp2
 go_ret
 refine ⟨rfl,λj hj=>?_,(Below.refl _ w).alloc (Nat.le_refl _) _⟩
 rw [World.cell?_alloc_new]
 have:j<12:=hj
 match j,this with
 |0,_=>rfl
 |1,_=>rfl
 |2,_=>rfl
 |3,_=>rfl
 |4,_=>rfl
 |5,_=>rfl
 |6,_=>rfl
 |7,_=>rfl
 |8,_=>rfl
 |9,_=>rfl
 |10,_=>rfl
 |11,_=>rfl
end
end Go.Proofs.YtphcopbffecceaaGreatDoor
