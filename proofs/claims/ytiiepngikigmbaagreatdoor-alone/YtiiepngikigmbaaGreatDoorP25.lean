import Derived.Test.YtiiepngikigmbaaGreatDoorP24
import Derived.Deep.RegionHeld3
set_option maxRecDepth 100000
set_option maxHeartbeats 2000000
namespace Go.Proofs.YtiiepngikigmbaaGreatDoor
open Go.RowKit
variable{n:Int}{bx:Nat}{k:Bk}
section
variable{W w w':World}{x:Cx}{K:List (Nat×Nat×Value)}{m:Cm}{c:Nat}{s:Ck}
theorem Cw.blk(h:Cw W x K w c s)(hk:s.blk=some k): ∃b,w.cell? ⟨c,5,none⟩=some (ptr b)/\w.cell? ⟨b,17,none⟩=some (.int .i64 k.again):=by
 obtain ⟨m,h⟩:=h
 refine ⟨m.b,?_,(h.bk k hk).ag⟩
 rw [h.c5]
 simp only [zjz,hk]
theorem zvl(h:Cw W x K w c s)(hbx:(bx,0,ptr c)∈K)(h0:0<=n)(h1:n<=6)(hG:s.g+100<10000000):
  Cl 146 #[.int .i64 n,ptr bx] w λe w'=>e= .returned (.tuple #[])/\Cw W x K w' c (s.add [Qh,y0,x.own (32+n),Zy (n)]):=by
 have hth:=h.th
 have cb:=h.kept hbx
 have H0:=hid h
 clear h
 have q32:IntKind.i64.wrap (32+n)=32+n:=ymd
 go_enter Tryz.func146,Tryz.ntmps146
 go_wp2_with fail
 go_region_held3 (λw'=>w'.cell? ⟨bx,0,none⟩=some (ptr c)) (go_keep)
  (first
   |(go_at_call 125;refine (Fz H0.out.drew (32+n) yl5 yl5).mono ?_;rintro e wj0 ⟨rfl,q⟩;have HJ0:=hid q;clear q;have cbj0:=HJ0.out.kept hbx)
   |(go_at_call 121;refine (zbt HJ0.out n yl5 yl5).mono ?_;rintro e wj1 ⟨rfl,q⟩;have HJ1:=hid q;clear q;have cbj1:=HJ1.out.kept hbx)
   |(go_at_call 60;refine (Qp HJ1.out [Qh,y0,x.own (32+n),Zy (n)] yl6 ⟨by decide,by decide,Ea hth _ yl5 yl5,zz1 _ yl5 yl5,trivial⟩ ymg).mono ?_;rintro e w1 ⟨rfl,q⟩;have H1:=hid q;clear q;have cbh1:=H1.out.kept hbx))
 go_wp2
 go_end0
 exact ⟨rfl,H1.out⟩
theorem zvm(h:Cw W x K w c s)(hbx:(bx,0,ptr c)∈K)(h0:0<=n)(h1:n<=6)(hG:s.g+100<10000000):
  Cl 147 #[.int .i64 n,ptr bx] w λe w'=>e= .returned (.tuple #[])/\Cw W x K w' c (s.add [Qw,Zy (n),y0,x.own (32+n)]):=by
 have hth:=h.th
 have cb:=h.kept hbx
 have H0:=hid h
 clear h
 have q32:IntKind.i64.wrap (32+n)=32+n:=ymd
 go_enter Tryz.func147,Tryz.ntmps147
 go_wp2_with fail
 go_region_held3 (λw'=>w'.cell? ⟨bx,0,none⟩=some (ptr c)) (go_keep)
  (first
   |(go_at_call 121;refine (zbt H0.out.drew n yl5 yl5).mono ?_;rintro e wj0 ⟨rfl,q⟩;have HJ0:=hid q;clear q;have cbj0:=HJ0.out.kept hbx)
   |(go_at_call 125;refine (Fz HJ0.out (32+n) yl5 yl5).mono ?_;rintro e wj1 ⟨rfl,q⟩;have HJ1:=hid q;clear q;have cbj1:=HJ1.out.kept hbx)
   |(go_at_call 60;refine (Qp HJ1.out [Qw,Zy (n),y0,x.own (32+n)] yl6 ⟨by decide,zz1 _ yl5 yl5,by decide,Ea hth _ yl5 yl5,trivial⟩ ymg).mono ?_;rintro e w1 ⟨rfl,q⟩;have H1:=hid q;clear q;have cbh1:=H1.out.kept hbx))
 go_wp2
 go_end0
 exact ⟨rfl,H1.out⟩
theorem zvn(h:Cw W x K w c s)(hbx:(bx,0,ptr c)∈K)(h0:0<=n)(h1:n<=6)(hG:s.g+100<10000000):
  Cl 150 #[.int .i64 n,ptr bx] w λe w'=>e= .returned (.tuple #[])/\Cw W x K w' c (s.add [Qh,y0,x.own (6+n),y0]):=by
 have hth:=h.th
 have cb:=h.kept hbx
 have H0:=hid h
 clear h
 have q6:IntKind.i64.wrap (6+n)=6+n:=ymd
 go_enter Tryz.func150,Tryz.ntmps150
 go_wp2_with fail
 go_region_held3 (λw'=>w'.cell? ⟨bx,0,none⟩=some (ptr c)) (go_keep)
  (first
   |(go_at_call 125;refine (Fz H0.out.drew (6+n) yl5 yl5).mono ?_;rintro e wj0 ⟨rfl,q⟩;have HJ0:=hid q;clear q;have cbj0:=HJ0.out.kept hbx)
   |(go_at_call 60;refine (Qp HJ0.out [Qh,y0,x.own (6+n),y0] yl6 ⟨by decide,by decide,Ea hth _ yl5 yl5,by decide,trivial⟩ ymg).mono ?_;rintro e w1 ⟨rfl,q⟩;have H1:=hid q;clear q;have cbh1:=H1.out.kept hbx))
 go_wp2
 go_end0
 exact ⟨rfl,H1.out⟩
theorem zvo(h:Cw W x K w c s)(hbx:(bx,0,ptr c)∈K)(h0:0<=n)(h1:n<=6)(hG:s.g+100<10000000):
  Cl 151 #[.int .i64 n,ptr bx] w λe w'=>e= .returned (.tuple #[])/\Cw W x K w' c (s.add [Qh,y0,x.own (12+n),y0]):=by
 have hth:=h.th
 have cb:=h.kept hbx
 have H0:=hid h
 clear h
 have q12:IntKind.i64.wrap (12+n)=12+n:=ymd
 go_enter Tryz.func151,Tryz.ntmps151
 go_wp2_with fail
 go_region_held3 (λw'=>w'.cell? ⟨bx,0,none⟩=some (ptr c)) (go_keep)
  (first
   |(go_at_call 125;refine (Fz H0.out.drew (12+n) yl5 yl5).mono ?_;rintro e wj0 ⟨rfl,q⟩;have HJ0:=hid q;clear q;have cbj0:=HJ0.out.kept hbx)
   |(go_at_call 60;refine (Qp HJ0.out [Qh,y0,x.own (12+n),y0] yl6 ⟨by decide,by decide,Ea hth _ yl5 yl5,by decide,trivial⟩ ymg).mono ?_;rintro e w1 ⟨rfl,q⟩;have H1:=hid q;clear q;have cbh1:=H1.out.kept hbx))
 go_wp2
 go_end0
 exact ⟨rfl,H1.out⟩
theorem zyt(h:Cw W x K w c s)(hk:s.blk=some k){to u:ByteArray}(hto:to.size<=30)(hu:u.size<=30)(h0:0<=n)(h1:n<=6)(hA:k.again<100000000)(hG:s.g+100<10000000):
  Cl 124 #[ptr c, .string to, .string u, .int .i64 n] w λe w'=>e= .returned (.tuple #[])/\Cw W x K w' c (x.readC to u n s):=by
 have hth:=h.th
 obtain ⟨b,c5,c17⟩:=h.blk hk
 have hR:x.readC to u n s=(((Zu u n (((Zu u n s).add [yJz,yR4,dec k.again]).add [Qw,yR5,u,dec n])).add [yJz,yR4,dec k.again]).add [Qh,u,x.own (12+n),y1]).add [zdp,to,yR5]:=by simp only [Cx.readC,Sq hk]
 rw [hR]
 have hdk:=Sp (k.again:Int) yl5 yl5
 have H0:=hid h
 clear h hR
 have q12:IntKind.i64.wrap (12+n)=12+n:=ymd
 go_enter Tryz.func124,Tryz.ntmps124
 go_wp2_with fail
 refine (zag H0.out k.again yl5 yl5).mono ?_
 rintro e w1 ⟨rfl,q⟩
 have H1:=hid q
 clear q
 clear c5 c17
 go_wp2_with fail
 refine (zdu H1.out hu h0 yl5 (by show s.g+0+2<_;omega)).mono ?_
 rintro e w2 ⟨rfl,q⟩
 have H2:=hid q
 clear q
 go_wp2_with fail
 refine (Qp H2.out [yJz,yR4,dec k.again] yl6 ⟨by decide,by decide,hdk,trivial⟩ ymo).mono ?_
 rintro e w3 ⟨rfl,q⟩
 have H3:=hid q
 clear q
 go_wp2_with fail
 go_region_law (first
  |(go_simp;go_at_call 143;refine (zl3 H3.out.drew n yl5 yl5).mono ?_;rintro e wj0 ⟨rfl,q⟩;have HJ0:=hid q;clear q)
  |(go_simp;go_at_call 60;refine (Qp HJ0.out [Qw,yR5,u,dec (n)] yl6 ⟨by decide,by decide,hu,Sp _ yl5 yl5,trivial⟩ ymp).mono ?_;rintro e w4 ⟨rfl,q⟩;have H4:=hid q;clear q))
 go_wp2_with fail
 refine (zdu H4.out hu h0 yl5 (by show s.g+4+2<_;omega)).mono ?_
 rintro e w5 ⟨rfl,q⟩
 have H5:=hid q
 clear q
 go_wp2_with fail
 refine (Qp H5.out [yJz,yR4,dec k.again] yl6 ⟨by decide,by decide,hdk,trivial⟩ (by show s.g+6<_;omega)).mono ?_
 rintro e w6 ⟨rfl,q⟩
 have H6:=hid q
 clear q
 go_wp2_with fail
 go_region_law (first
  |(go_simp;go_at_call 125;refine (Fz H6.out.drew (12+n) yl5 yl5).mono ?_;rintro e wj1 ⟨rfl,q⟩;have HJ1:=hid q;clear q)
  |(go_simp;go_at_call 60;refine (Qp HJ1.out [Qh,u,x.own (12+n),y1] yl6 ⟨by decide,hu,Ea hth _ yl5 yl5,by decide,trivial⟩ (by show s.g+7<_;omega)).mono ?_;rintro e w7 ⟨rfl,q⟩;have H7:=hid q;clear q))
 go_wp2_with fail
 refine (Qp H7.out [zdp,to,yR5] yl6 ⟨by decide,hto,by decide,trivial⟩ (by show s.g+8<_;omega)).mono ?_
 rintro e w8 ⟨rfl,q⟩
 have H8:=hid q
 clear q
 go_wp2
 go_end0
 exact ⟨rfl,H8.out⟩
end
end Go.Proofs.YtiiepngikigmbaaGreatDoor
