import Derived.Test.YtiiepngikigmbaaGreatDoorP23
set_option maxRecDepth 100000
set_option maxHeartbeats 2000000
namespace Go.Proofs.YtiiepngikigmbaaGreatDoor
open Go.RowKit
variable{n:Int}{k:Bk}
section
variable{W w w':World}{x:Cx}{K:List (Nat×Nat×Value)}{m:Cm}{c:Nat}{s:Ck}
theorem Qx(s:Ck)(ws:List ByteArray):(s.add ws).L.length=s.L.length+1:=ymj
theorem Vv(s:Ck)(n:Nat):(s.land n).L.length=s.L.length:=by simp [Ck.land]
theorem Ur(s:Ck):s.undoIf.L.length=s.L.length+1:=by simp [Ck.undoIf,Ck.add]
theorem zak(s:Ck)(n:Nat):(s.back n).L.length=s.L.length+1:=by simp [Ck.back,Ck.add]
theorem Sr(u:ByteArray)(n:Int)(s:Ck):(Zu u n s).L.length=s.L.length+2:=by simp [Zu,Ck.add]
theorem z2n(h:Cw W x K w c s)(hk:s.blk=some k)(h0:0<=n)(h1:n<=6)(hG:s.g+100<10000000):
  Cl 152 #[ptr c, .int .i64 n] w λe w'=>e= .returned (.tuple #[])/\Cw W x K w' c (x.lockC n s):=by
 have hth:=h.th
 have H0:=hid h
 clear h
 have q6:IntKind.i64.wrap (6+n)=6+n:=ymd
 have q18:IntKind.i64.wrap (18+n)=18+n:=ymd
 go_enter Tryz.func152,Tryz.ntmps152
 go_wp2_with fail
 go_region_law (first
  |(go_simp;go_at_call 125;refine (Fz H0.out.drew (6+n) yl5 yl5).mono ?_;rintro e wj0 ⟨rfl,q⟩;have HJ0:=hid q;clear q)
  |(go_simp;go_at_call 60;refine (Qp HJ0.out [Qw,yR4,y0,x.own (6+n)] yl6 ⟨by decide,by decide,by decide,Ea hth _ yl5 yl5,trivial⟩ ymg).mono ?_;rintro e w1 ⟨rfl,q⟩;have H1:=hid q;clear q))
 go_wp2_with fail
 refine (Xo H1.out [yJz,yR4] yl6 ⟨by decide,by decide,trivial⟩ ymm).mono ?_
 rintro e w2 ⟨bl1,ba1,rfl,q⟩
 have H2:=hid q
 clear q
 go_wp2_with fail
 go_region_law (first
  |(go_simp;go_at_call 165;refine (Fk H2.out.drew n yl5 yl5).mono ?_;rintro e wj1 ⟨rfl,q⟩;have HJ1:=hid q;clear q)
  |(go_simp;go_at_call 60;refine (Qp HJ1.out [Qw,yR5,y0,ze5 (n)] yl6 ⟨by decide,by decide,by decide,zn8 _ yl5 yl5,trivial⟩ ymo).mono ?_;rintro e w3 ⟨rfl,q⟩;have H3:=hid q;clear q))
 go_wp2_with fail
 refine (Qp H3.out [yLt,yR4,yR5,yR6] yl6 ⟨by decide,by decide,by decide,by decide,trivial⟩ ymp).mono ?_
 rintro e w4 ⟨rfl,q⟩
 have H4:=hid q
 clear q
 go_wp2_with fail
 refine (zgi H4.out (k:=k) hk ym4).mono ?_
 rintro e w5 ⟨rfl,q⟩
 have H5:=hid q
 clear q
 go_wp2_with fail
 go_region_law (first
  |(go_simp;go_at_call 125;refine (Fz H5.out.drew (18+n) yl5 yl5).mono ?_;rintro e wj2 ⟨rfl,q⟩;have HJ2:=hid q;clear q)
  |(go_simp;go_at_call 60;refine (Qp HJ2.out [Qh,y0,x.own (18+n),yR5] yl6 ⟨by decide,by decide,Ea hth _ yl5 yl5,by decide,trivial⟩ ym5).mono ?_;rintro e w6 ⟨rfl,q⟩;have H6:=hid q;clear q))
 go_wp2_with fail
 go_region_law (first
  |(go_simp;go_at_call 165;refine (Fk H6.out.drew n yl5 yl5).mono ?_;rintro e wj3 ⟨rfl,q⟩;have HJ3:=hid q;clear q)
  |(go_simp;go_at_call 167;refine (zl4 HJ3.out).mono ?_;rintro e wj4 ⟨rfl,q⟩;have HJ4:=hid q;clear q)
  |(go_simp;go_at_call 60;refine (Qp HJ4.out [zvf,yR4,y0,ze5 (n),yR5,x.lock] yl6 ⟨by decide,by decide,by decide,zn8 _ yl5 yl5,by decide,zyq hth,trivial⟩ (by show s.g+6<_;omega)).mono ?_;rintro e w7 ⟨rfl,q⟩;have H7:=hid q;clear q))
 go_wp2_with fail
 refine (zgi H7.out rfl (by show s.g+7<_;omega)).mono ?_
 rintro e w8 ⟨rfl,q⟩
 have H8:=hid q
 clear q
 go_wp2_with fail
 refine (Se H8.out (bl:=bl1) (ba:=ba1) (n:=(s.add [Qw,yR4,y0,x.own (6+n)]).L.length) yl6 yl6 (by simp only [Qx,Ur];omega) (by show s.g+8<_;omega)).mono ?_
 rintro e w9 ⟨rfl,q⟩
 have H9:=hid q
 clear q
 go_wp2
 go_end0
 exact ⟨rfl,H9.out.less (K':=K) (λp hp=>List.mem_cons_of_mem _ (List.mem_cons_of_mem _ hp))⟩
theorem z2o(h:Cw W x K w c s)(hk:s.blk=some k)(h0:0<=n)(h1:n<=6)(hG:s.g+100<10000000):
  Cl 153 #[ptr c, .int .i64 n] w λe w'=>e= .returned (.tuple #[])/\Cw W x K w' c (x.lookC n s):=by
 have hth:=h.th
 have H0:=hid h
 clear h
 have q12:IntKind.i64.wrap (12+n)=12+n:=ymd
 go_enter Tryz.func153,Tryz.ntmps153
 go_wp2_with fail
 go_region_law (first
  |(go_simp;go_at_call 125;refine (Fz H0.out.drew (12+n) yl5 yl5).mono ?_;rintro e wj0 ⟨rfl,q⟩;have HJ0:=hid q;clear q)
  |(go_simp;go_at_call 60;refine (Qp HJ0.out [Qw,yR4,y0,x.own (12+n)] yl6 ⟨by decide,by decide,by decide,Ea hth _ yl5 yl5,trivial⟩ ymg).mono ?_;rintro e w1 ⟨rfl,q⟩;have H1:=hid q;clear q))
 go_wp2_with fail
 refine (Xo H1.out [yJz,yR4] yl6 ⟨by decide,by decide,trivial⟩ ymm).mono ?_
 rintro e w2 ⟨bl1,ba1,rfl,q⟩
 have H2:=hid q
 clear q
 go_wp2_with fail
 refine (zdu H2.out (u:=y0) yl8 h0 yl5 (by show s.g+2+2<_;omega)).mono ?_
 rintro e w3 ⟨rfl,q⟩
 have H3:=hid q
 clear q
 go_wp2_with fail
 refine (zgi H3.out (k:=k) hk ym4).mono ?_
 rintro e w4 ⟨rfl,q⟩
 have H4:=hid q
 clear q
 go_wp2_with fail
 refine (Se H4.out (bl:=bl1) (ba:=ba1) (n:=(s.add [Qw,yR4,y0,x.own (12+n)]).L.length) yl6 yl6 (by simp only [Qx,Sr,Ur];omega) ym5).mono ?_
 rintro e w5 ⟨rfl,q⟩
 have H5:=hid q
 clear q
 go_wp2
 go_end0
 exact ⟨rfl,H5.out.less (K':=K) (λp hp=>List.mem_cons_of_mem _ (List.mem_cons_of_mem _ hp))⟩
theorem zz2(h:Cw W x K w c s)(h0:0<=n)(h1:n<=6)(hG:s.g+100<10000000):
  Cl 154 #[ptr c, .int .i64 n] w λe w'=>e= .returned (.tuple #[])/\Cw W x K w' c (x.storeC n s):=by
 have hth:=h.th
 have H0:=hid h
 clear h
 have q0:IntKind.i64.wrap n=n:=ymd
 have q6:IntKind.i64.wrap (6+n)=6+n:=ymd
 go_enter Tryz.func154,Tryz.ntmps154
 go_wp2_with fail
 go_region_law (first
  |(go_simp;go_at_call 125;refine (Fz H0.out.drew (6+n) yl5 yl5).mono ?_;rintro e wj0 ⟨rfl,q⟩;have HJ0:=hid q;clear q)
  |(go_simp;go_at_call 60;refine (Qp HJ0.out [Qw,yR4,y0,x.own (6+n)] yl6 ⟨by decide,by decide,by decide,Ea hth _ yl5 yl5,trivial⟩ ymg).mono ?_;rintro e w1 ⟨rfl,q⟩;have H1:=hid q;clear q))
 go_wp2_with fail
 refine (Xo H1.out [yJz,yR4] yl6 ⟨by decide,by decide,trivial⟩ ymm).mono ?_
 rintro e w2 ⟨bl1,ba1,rfl,q⟩
 have H2:=hid q
 clear q
 go_wp2_with fail
 go_region_law (first
  |(go_simp;go_at_call 125;refine (Fz H2.out.drew n yl5 yl5).mono ?_;rintro e wj1 ⟨rfl,q⟩;have HJ1:=hid q;clear q)
  |(go_simp;go_at_call 60;refine (Qp HJ1.out [Qw,yR4,y0,x.own (n)] yl6 ⟨by decide,by decide,by decide,Ea hth _ yl5 yl5,trivial⟩ ymo).mono ?_;rintro e w3 ⟨rfl,q⟩;have H3:=hid q;clear q))
 go_wp2_with fail
 go_region_law (first
  |(go_simp;go_at_call 143;refine (zl3 H3.out.drew n yl5 yl5).mono ?_;rintro e wj2 ⟨rfl,q⟩;have HJ2:=hid q;clear q)
  |(go_simp;go_at_call 60;refine (Qp HJ2.out [Qh,y0,dec (n),yR4] yl6 ⟨by decide,by decide,Sp _ yl5 yl5,by decide,trivial⟩ ymp).mono ?_;rintro e w4 ⟨rfl,q⟩;have H4:=hid q;clear q))
 go_wp2_with fail
 go_region_law (first
  |(go_simp;go_at_call 165;refine (Fk H4.out.drew n yl5 yl5).mono ?_;rintro e wj3 ⟨rfl,q⟩;have HJ3:=hid q;clear q)
  |(go_simp;go_at_call 60;refine (Qp HJ3.out [Qh,y0,ze5 (n),yR5] yl6 ⟨by decide,by decide,zn8 _ yl5 yl5,by decide,trivial⟩ ym4).mono ?_;rintro e w5 ⟨rfl,q⟩;have H5:=hid q;clear q))
 go_wp2_with fail
 refine (Se H5.out (bl:=bl1) (ba:=ba1) (n:=(s.add [Qw,yR4,y0,x.own (6+n)]).L.length) yl6 yl6 yna ym5).mono ?_
 rintro e w6 ⟨rfl,q⟩
 have H6:=hid q
 clear q
 go_wp2
 go_end0
 exact ⟨rfl,H6.out.less (K':=K) (λp hp=>List.mem_cons_of_mem _ (List.mem_cons_of_mem _ hp))⟩
theorem zvk(h:Cw W x K w c s)(h0:0<=n)(h1:n<=6)(hG:s.g+100<10000000):
  Cl 168 #[ptr c, .int .i64 n] w λe w'=>e= .returned (.tuple #[])/\Cw W x K w' c (x.unlockC n s):=by
 have hth:=h.th
 have H0:=hid h
 clear h
 have q18:IntKind.i64.wrap (18+n)=18+n:=ymd
 go_enter Tryz.func168,Tryz.ntmps168
 go_wp2_with fail
 go_region_law (first
  |(go_simp;go_at_call 165;refine (Fk H0.out.drew n yl5 yl5).mono ?_;rintro e wj0 ⟨rfl,q⟩;have HJ0:=hid q;clear q)
  |(go_simp;go_at_call 60;refine (Qp HJ0.out [Qw,yR4,y0,ze5 (n)] yl6 ⟨by decide,by decide,by decide,zn8 _ yl5 yl5,trivial⟩ ymg).mono ?_;rintro e w1 ⟨rfl,q⟩;have H1:=hid q;clear q))
 go_wp2_with fail
 go_region_law (first
  |(go_simp;go_at_call 167;refine (zl4 H1.out.drew).mono ?_;rintro e wj1 ⟨rfl,q⟩;have HJ1:=hid q;clear q)
  |(go_simp;go_at_call 60;refine (Qp HJ1.out [yEq,yR4,yR4,x.lock] yl6 ⟨by decide,by decide,by decide,zyq hth,trivial⟩ ymm).mono ?_;rintro e w2 ⟨rfl,q⟩;have H2:=hid q;clear q))
 go_wp2_with fail
 refine (Xo H2.out [yJz,yR4] yl6 ⟨by decide,by decide,trivial⟩ ymo).mono ?_
 rintro e w3 ⟨bl2,ba2,rfl,q⟩
 have H3:=hid q
 clear q
 go_wp2_with fail
 go_region_law (first
  |(go_simp;go_at_call 125;refine (Fz H3.out.drew (18+n) yl5 yl5).mono ?_;rintro e wj2 ⟨rfl,q⟩;have HJ2:=hid q;clear q)
  |(go_simp;go_at_call 60;refine (Qp HJ2.out [Qw,yR4,y0,x.own (18+n)] yl6 ⟨by decide,by decide,by decide,Ea hth _ yl5 yl5,trivial⟩ ymp).mono ?_;rintro e w4 ⟨rfl,q⟩;have H4:=hid q;clear q))
 go_wp2_with fail
 go_region_law (first
  |(go_simp;go_at_call 165;refine (Fk H4.out.drew n yl5 yl5).mono ?_;rintro e wj3 ⟨rfl,q⟩;have HJ3:=hid q;clear q)
  |(go_simp;go_at_call 60;refine (Qp HJ3.out [Qh,y0,ze5 (n),yR4] yl6 ⟨by decide,by decide,zn8 _ yl5 yl5,by decide,trivial⟩ ym4).mono ?_;rintro e w5 ⟨rfl,q⟩;have H5:=hid q;clear q))
 go_wp2_with fail
 refine (Se H5.out (bl:=bl2) (ba:=ba2) (n:=((s.add [Qw,yR4,y0,ze5 (n)]).add [yEq,yR4,yR4,x.lock]).L.length) yl6 yl6 yna ym5).mono ?_
 rintro e w6 ⟨rfl,q⟩
 have H6:=hid q
 clear q
 go_wp2
 go_end0
 exact ⟨rfl,H6.out.less (K':=K) (λp hp=>List.mem_cons_of_mem _ (List.mem_cons_of_mem _ hp))⟩
theorem zys(h:Cw W x K w c s)(hG:s.g+100<10000000):
  Cl 129 #[ptr c] w λe w'=>e= .returned (.tuple #[])/\Cw W x K w' c (x.give s):=by
 have hth:=h.th
 have hL:=h.ok.l
 have H0:=hid h
 clear h
 go_enter Tryz.func129,Tryz.ntmps129
 go_wp2_with fail
 refine (Qp H0.out [zdp,yR4,y0] yl6 ⟨by decide,by decide,by decide,trivial⟩ ymg).mono ?_
 rintro e w1 ⟨rfl,q⟩
 have H1:=hid q
 clear q
 go_wp2_with fail
 refine (zbu H1.out).mono ?_
 rintro e w' ⟨rfl,rfl⟩
 go_wp2_with fail
 refine (Qp H1.out [yLt,yR5,yR4,yR7] yl6 ⟨by decide,by decide,by decide,by decide,trivial⟩ ymm).mono ?_
 rintro e w2 ⟨rfl,q⟩
 have H2:=hid q
 clear q
 go_wp2_with fail
 refine (Xo H2.out [yJz,yR5] yl6 ⟨by decide,by decide,trivial⟩ ymo).mono ?_
 rintro e w3 ⟨bl2,ba2,rfl,q⟩
 have H3:=hid q
 clear q
 go_wp2_with fail
 go_region_law (first
  |(go_simp;go_at_call 125;refine (Fz H3.out.drew 24 yl5 yl5).mono ?_;rintro e wj0 ⟨rfl,q⟩;have HJ0:=hid q;clear q)
  |(go_simp;go_at_call 60;refine (Qp HJ0.out [Qw,yR5,yR4,x.own (24)] yl6 ⟨by decide,by decide,by decide,Ea hth _ yl5 yl5,trivial⟩ ymp).mono ?_;rintro e w4 ⟨rfl,q⟩;have H4:=hid q;clear q))
 go_wp2_with fail
 refine (Qp H4.out [zp6,yR5] yl6 ⟨by decide,by decide,trivial⟩ ym4).mono ?_
 rintro e w5 ⟨rfl,q⟩
 have H5:=hid q
 clear q
 go_wp2_with fail
 refine (Qp H5.out [Fy,yR4,yR4,y1] yl6 ⟨by decide,by decide,by decide,by decide,trivial⟩ ym5).mono ?_
 rintro e w6 ⟨rfl,q⟩
 have H6:=hid q
 clear q
 go_wp2_with fail
 refine (zq1 H6.out (n:=(s.add [zdp,yR4,y0]).L.length) yna (by show s.g+6<_;omega)).mono ?_
 rintro e w7 ⟨rfl,q⟩
 have H7:=hid q
 clear q
 go_wp2_with fail
 refine (Se H7.out (bl:=bl2) (ba:=ba2) (n:=((s.add [zdp,yR4,y0]).add [yLt,yR5,yR4,yR7]).L.length) yl6 yl6 (by simp only [Qx,zak];omega) (by show s.g+7<_;omega)).mono ?_
 rintro e w8 ⟨rfl,q⟩
 have H8:=hid q
 clear q
 go_wp2
 go_end0
 exact ⟨rfl,H8.out.less (K':=K) (λp hp=>List.mem_cons_of_mem _ (List.mem_cons_of_mem _ hp))⟩
end
end Go.Proofs.YtiiepngikigmbaaGreatDoor
