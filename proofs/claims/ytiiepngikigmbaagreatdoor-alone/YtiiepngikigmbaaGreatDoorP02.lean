import Derived.Test.YtiiepngikigmbaaGreatDoorP01
set_option maxRecDepth 100000
namespace Go.Proofs.YtiiepngikigmbaaGreatDoor
open Go.RowKit
abbrev ptr(b:Nat):Value:= .pointer (some ⟨b,0,none⟩)
abbrev ifc(b:Nat):Value:= .iface 62 (ptr b)
theorem yay(b:Nat)(r v:Int)(w:World)(h0:0<=r)(h1:r<8)(hc:w.cell? ⟨b,2+r.toNat,none⟩=some (.int .i64 v)):
  Cl 262 #[ptr b, .int .i64 r] w λe w'=>e= .returned (.int .i64 v)/\w'=w:=by
 obtain ⟨n,rfl⟩:=Int.eq_ofNat_of_zero_le h0
 simp only [Int.toNat_natCast] at hc
 go_enter Tryz.func262,Tryz.ntmps262
 go_wp2
 go_ret
 exact ⟨rfl,rfl⟩
theorem z9u(b:Nat)(r v:Int)(u:Value)(w:World)(h0:0<=r)(h1:r<8)(hc:w.cell? ⟨b,2+r.toNat,none⟩=some u)(hz:w.frozen? ⟨b,2+r.toNat,none⟩=false):
  Cl 263 #[ptr b, .int .i64 r, .int .i64 v] w λe w'=>e= .returned (.tuple #[])/\w'=w.setCell ⟨b,2+r.toNat,none⟩ (.int .i64 v):=by
 obtain ⟨n,rfl⟩:=Int.eq_ofNat_of_zero_le h0
 simp only [Int.toNat_natCast] at hc hz⊢
 go_enter Tryz.func263,Tryz.ntmps263
 go_wp2
 go_end0
 exact ⟨rfl,rfl⟩
theorem ycc(b:Nat)(p:Int)(u:Value)(w:World)(hc:w.cell? ⟨b,10,none⟩=some u)(hz:w.frozen? ⟨b,10,none⟩=false):
  Cl 260 #[ptr b, .int .i64 p] w λe w'=>e= .returned (.tuple #[])/\w'=w.setCell ⟨b,10,none⟩ (.int .i64 p):=by
 go_enter Tryz.func260,Tryz.ntmps260
 go_wp2
 go_end0
 exact ⟨rfl,rfl⟩
theorem z9c(b:Nat)(s:Int)(u:Value)(w:World)(hc:w.cell? ⟨b,22,none⟩=some u)(hz:w.frozen? ⟨b,22,none⟩=false):
  Cl 258 #[ptr b, .int .i64 s] w λe w'=>e= .returned (.tuple #[])/\w'=w.setCell ⟨b,22,none⟩ (.int .i64 s):=by
 go_enter Tryz.func258,Tryz.ntmps258
 go_wp2
 go_end0
 exact ⟨rfl,rfl⟩
theorem yd1(b:Nat)(s:Int)(w:World)(hc:w.cell? ⟨b,22,none⟩=some (.int .i64 s)):
  Cl 39 #[ptr b] w λe w'=>e= .returned (.int .i64 s)/\w'=w:=by
 go_enter Tryz.func39,Tryz.ntmps39
 go_wp2
 go_ret
 exact ⟨rfl,rfl⟩
theorem ybk(b bm:Nat)(a v:Int)(u:Value)(w:World)(h0:0<=a)(h1:a<256)(hp:w.cell? ⟨b,0,none⟩=some (ptr bm))(hc:w.cell? ⟨bm,a.toNat,none⟩=some u)(hz:w.frozen? ⟨bm,a.toNat,none⟩=false):
  Cl 69 #[ptr b, .int .i64 a, .int .i64 v] w λe w'=>e= .returned (.tuple #[])/\w'=w.setCell ⟨bm,a.toNat,none⟩ (.int .i64 v):=by
 obtain ⟨n,rfl⟩:=Int.eq_ofNat_of_zero_le h0
 simp only [Int.toNat_natCast] at hc hz⊢
 have hp':w.cell? ⟨b,0,none⟩=some (.pointer (some ⟨bm,0,none⟩)):=hp
 go_enter Tryz.func69,Tryz.ntmps69
 go_wp2
 go_end0
 exact ⟨rfl,by simp⟩
theorem z8f(b:Nat)(r v:Int)(w:World)(h0:0<=r)(h1:r<8)(hc:w.cell? ⟨b,2+r.toNat,none⟩=some (.int .i64 v)):
  Cl 233 #[.int .i64 r,ifc b] w λe w'=>e= .returned (.int .i64 v)/\w'=w:=by
 go_enter Tryz.func233,Tryz.ntmps233
 go_wp2_with fail
 refine (yay b r v _ h0 h1 hc).mono ?_
 rintro e w' ⟨rfl,rfl⟩
 go_wp2
 go_ret
 exact ⟨rfl,rfl⟩
theorem z8g(x:Value)(v:Int)(w:World):
  Cl 252 #[.int .i64 v,x] w λe w'=>e= .returned (.int .i64 v)/\w'=w:=by
 go_enter Tryz.func252,Tryz.ntmps252
 go_wp2
 go_ret
 exact ⟨rfl,rfl⟩
theorem z79(b:Nat)(r v:Int)(u:Value)(w:World)(h0:0<=r)(h1:r<8)(hc:w.cell? ⟨b,2+r.toNat,none⟩=some u)(hz:w.frozen? ⟨b,2+r.toNat,none⟩=false):
  Cl 236 #[.int .i64 r,ifc b, .int .i64 v] w λe w'=>e= .returned (.tuple #[])/\w'=w.setCell ⟨b,2+r.toNat,none⟩ (.int .i64 v):=by
 go_enter Tryz.func236,Tryz.ntmps236
 go_wp2_with fail
 refine (z9u b r v u _ h0 h1 hc hz).mono ?_
 rintro e w' ⟨rfl,rfl⟩
 go_wp2
 go_end0
 exact ⟨rfl,rfl⟩
end Go.Proofs.YtiiepngikigmbaaGreatDoor
