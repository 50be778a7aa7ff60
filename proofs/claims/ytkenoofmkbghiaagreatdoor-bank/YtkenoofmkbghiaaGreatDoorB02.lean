import Derived.Test.YtkenoofmkbghiaaGreatDoorB01
import Derived.Test.YtkenoofmkbghiaaGreatDoorShelf
set_option maxRecDepth 100000
set_option maxHeartbeats 1000000
namespace Go.Proofs.YtkenoofmkbghiaaGreatDoor
open Go.RowKit
theorem z9j(w:World)(n:Nat)(hn:n<8):
  Cl 144 #[.string ⟨#[114,UInt8.ofNat (48+n)]⟩] w λe w'=>e= .returned (.tuple #[.int .i64 n, .bool true])/\w'=w:=by
 have hc:n=0\/n=1\/n=2\/n=3\/n=4\/n=5\/n=6\/n=7:=yue
 rcases hc with rfl|rfl|rfl|rfl|rfl|rfl|rfl|rfl
 all_goals
  go_enter Tryz.func144,Tryz.ntmps144
  go_wp2
  go_ret2
  exact ⟨rfl,rfl⟩
theorem z8y(w:World)(s:ByteArray)(hs:s.size≠2):
  Cl 144 #[.string s] w λe w'=>e= .returned (.tuple #[.int .i64 0, .bool false])/\w'=w:=by
 have hs': ¬(s.size:Int)=2:=yue
 go_enter Tryz.func144,Tryz.ntmps144
 go_wp2
 go_ret2
 exact ⟨rfl,rfl⟩
theorem z8w(w:World)(a b:UInt8)(ha:a≠114):
  Cl 144 #[.string ⟨#[a,b]⟩] w λe w'=>e= .returned (.tuple #[.int .i64 0, .bool false])/\w'=w:=by
 have ha': ¬(a.toNat:Int)=114:=λh=>ha (UInt8.toNat_inj.1 (by simpa using Int.ofNat.inj h))
 go_enter Tryz.func144,Tryz.ntmps144
 go_wp2
 go_ret2
 exact ⟨rfl,rfl⟩
theorem Oz{u s:ByteArray}(h:u≠s):(u.toList==s.toList)=false:=by
 rw [ByteArray.toList_eq,ByteArray.toList_eq]
 cases hb:(u.data.toList==s.data.toList) with
 |false=>rfl
 |true=>exact absurd (Go.WideShapes.bytes_inj (by simpa using hb)) h
def zjj(w:World)(wd:Nat->ByteArray):Prop:=∀j,j<12->w.cell? ⟨2,j,none⟩=some (.string (wd j))
theorem z7h(w:World)(s:ByteArray)(wd:Nat->ByteArray)(hw:Hid (zjj w wd))(hs:Hid (∀j,j<12->wd j≠s)):
  Cl 113 #[.string s] w λe w'=>e= .returned (.tuple #[.int .i64 0, .bool false])/\w'=w:=by
 go_enter Tryz.func113,Tryz.ntmps113
 go_wp2
 go_loopw [5] (λv wr=>∃k:Nat,k<=12/\v= .int .i64 k/\wr=w) (λv _=>12- (intOf v).toNat)
 case atStart=>exact ⟨0,by omega,rfl,rfl⟩
 case round=>
  obtain ⟨k,hk,rfl,rfl⟩:=hrel
  by_cases hlt:k<12
  ·have hlt':(k:Int)<12:=by omega
   have hc:=hw.out k hlt
   have hne:=Oz (hs.out k hlt)
   generalize wd k=u at hc hne
   go_wp2
   go_roundw
   case rel=>exact ⟨k+1,by omega,by go_num,trivial⟩
   case measure=>simp [intOf];omega
  ·have hlt': ¬(k:Int)<12:=by omega
   go_wp2
   go_ret2
   exact ⟨rfl,rfl⟩
theorem z9m(w:World)(s:ByteArray)(wd:Nat->ByteArray)(hw:Hid (zjj w wd))(n:Nat)(hn:n<12)(hs:Hid (∀j,j<n->wd j≠s))(he:Hid (wd n=s)):
  Cl 113 #[.string s] w λe w'=>e= .returned (.tuple #[.int .i64 n, .bool true])/\w'=w:=by
 go_enter Tryz.func113,Tryz.ntmps113
 go_wp2
 go_loopw [5] (λv wr=>∃k:Nat,k<=n/\v= .int .i64 k/\wr=w) (λv _=>12- (intOf v).toNat)
 case atStart=>exact ⟨0,by omega,rfl,rfl⟩
 case round=>
  obtain ⟨k,hk,rfl,rfl⟩:=hrel
  have hlt:k<12:=yue
  have hlt':(k:Int)<12:=yue
  have hc:=hw.out k hlt
  by_cases hkn:k<n
  ·have hne:=Oz (hs.out k hkn)
   generalize wd k=u at hc hne
   go_wp2
   go_roundw
   case rel=>exact ⟨k+1,by omega,by go_num,trivial⟩
   case measure=>simp [intOf];omega
  ·obtain rfl:k=n:=by omega
   have hu:=he.out
   rw [hu] at hc
   go_wp2
   go_ret2
   exact ⟨rfl,rfl⟩
theorem Ey{t:ByteArray}(h0:0<t.size):t.toList.isEmpty=false:=by
 rw [ByteArray.toList_eq]
 cases h:t.data.toList with
 |nil=>
   have e:t.data.size=0:=by rw [<-Array.length_toList,h];rfl
   exact absurd (show t.data.size=t.size from rfl) yue
 |cons a l=>rfl
def zab(s t:ByteArray):Prop:=t=⟨(Lib.trimPrefix s.data.toList [45]).toArray⟩
theorem znv(w:World)(s t:ByteArray)(ht:Hid (zab s t))(hm:t.size<4294967281)(h0:0<t.size)(hz:t[0].toNat≠48\/s=⟨#[48]⟩)(hd:Hid (∀j (h:j<t.size),48<=t[j].toNat/\t[j].toNat<=57)):
  Cl 146 #[.string s] w λe w'=>e= .returned (.bool true)/\w'=w:=by
 have hne:=Ey h0
 have hne': ¬t.toList=[]:=λh=>by simp [h] at hne
 have h0':(0:Int)<(t.size:Int):=yue
 have HT:=ht.out
 unfold zab at HT
 go_enter Tryz.func146,Tryz.ntmps146
 go_wp2_with fail
 refine (Tryz.strings_TrimPrefix s ⟨#[45]⟩ w).mono ?_
 rintro e w' ⟨rfl,rfl⟩
 change Hid _ at ht
 rw [show (⟨(Lib.trimPrefix s.data.toList (ByteArray.mk #[45]).data.toList).toArray⟩:ByteArray)=t from HT.symm]
 clear HT ht
 rcases hz with hz|rfl
 all_goals go_wp2
 all_goals
  go_loopw [20] (λv wr=>∃k:Nat,k<=t.size/\v= .int .i64 k/\wr=w') (λv _=>t.size- (intOf v).toNat)
  case atStart=>exact ⟨0,by omega,rfl,rfl⟩
  case round=>
   obtain ⟨k,hk,rfl,rfl⟩:=hrel
   by_cases hlt:k<t.size
   ·have hlt':(k:Int)<(t.size:Int):=by omega
    have hq:=hd.out k hlt
    have q1: ¬(t[k].toNat:Int)<48:=yue
    have q2: ¬(57:Int)<(t[k].toNat:Int):=yue
    go_wp2
    go_roundw
    case rel=>exact ⟨k+1,by omega,by go_num,trivial⟩
    case measure=>simp [intOf];omega
   ·have hlt': ¬(k:Int)<(t.size:Int):=by omega
    go_wp2
    go_ret
    exact ⟨rfl,rfl⟩
theorem zf8(w:World)(s t:ByteArray)(ht:zab s t)(h0:t.toList.isEmpty=true):
  Cl 146 #[.string s] w λe w'=>e= .returned (.bool false)/\w'=w:=by
 have h0':t.toList=[]:=by simpa using h0
 unfold zab at ht
 go_enter Tryz.func146,Tryz.ntmps146
 go_wp2_with fail
 refine (Tryz.strings_TrimPrefix s ⟨#[45]⟩ w).mono ?_
 rintro e w' ⟨rfl,rfl⟩
 rw [show (⟨(Lib.trimPrefix s.data.toList (ByteArray.mk #[45]).data.toList).toArray⟩:ByteArray)=t from ht.symm]
 clear ht
 go_wp2
 go_ret
 exact ⟨rfl,rfl⟩
theorem ze6(w:World)(s t:ByteArray)(ht:zab s t)(h0:0<t.size)(hz:t[0].toNat=48)(hs:s≠⟨#[48]⟩):
  Cl 146 #[.string s] w λe w'=>e= .returned (.bool false)/\w'=w:=by
 have hne:=Ey h0
 have hne': ¬t.toList=[]:=λh=>by simp [h] at hne
 have h0':(0:Int)<(t.size:Int):=yue
 have hz':(t[0].toNat:Int)=48:=yue
 have hs':(s.toList==[48])=false:=by
  have e:=Oz hs
  rwa [show (ByteArray.mk #[48]).toList=[48] from by rw [ByteArray.toList_eq]] at e
 unfold zab at ht
 go_enter Tryz.func146,Tryz.ntmps146
 go_wp2_with fail
 refine (Tryz.strings_TrimPrefix s ⟨#[45]⟩ w).mono ?_
 rintro e w' ⟨rfl,rfl⟩
 rw [show (⟨(Lib.trimPrefix s.data.toList (ByteArray.mk #[45]).data.toList).toArray⟩:ByteArray)=t from ht.symm]
 clear ht
 go_wp2
 go_ret
 exact ⟨rfl,rfl⟩
def Jc(j:Nat):ByteArray:=[⟨#[97,100,100]⟩,⟨#[115,117,98]⟩,⟨#[109,117,108]⟩,⟨#[100,105,118]⟩,⟨#[109,111,100]⟩,⟨#[97,110,100]⟩,⟨#[111,114]⟩,⟨#[120,111,114]⟩,⟨#[115,104,108]⟩,⟨#[115,104,114]⟩,⟨#[108,116]⟩,⟨#[101,113]⟩].getD j ⟨#[]⟩
end Go.Proofs.YtkenoofmkbghiaaGreatDoor
