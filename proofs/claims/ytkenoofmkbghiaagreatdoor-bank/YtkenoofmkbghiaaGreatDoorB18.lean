import Derived.Test.YtkenoofmkbghiaaGreatDoorB17
import Derived.Deep.RegionHeld3
set_option maxRecDepth 100000
set_option maxHeartbeats 2000000
namespace Go.Proofs.YtkenoofmkbghiaaGreatDoor
open Go.RowKit
variable{n:Int}{k:Bk}{bx:Nat}
section
variable{W w w':World}{x:Cx}{K:List (Nat×Nat×Value)}{m:Cm}{c:Nat}{s:Ck}
theorem Qx(s:Ck)(ws:List ByteArray):(s.add ws).L.length=s.L.length+1:=yus
theorem Vv(s:Ck)(n:Nat):(s.land n).L.length=s.L.length:=by simp [Ck.land]
theorem Ur(s:Ck):s.undoIf.L.length=s.L.length+1:=by simp [Ck.undoIf,Ck.add]
theorem zak(s:Ck)(n:Nat):(s.back n).L.length=s.L.length+1:=by simp [Ck.back,Ck.add]
theorem Sr(u:ByteArray)(n:Int)(s:Ck):(Zu u n s).L.length=s.L.length+2:=by simp [Zu,Ck.add]
theorem z2n(h:Cw W x K w c s)(hk:s.blk=some k)(h0:0<=n)(h1:n<=6)(hG:s.g+100<10000000):
  Cl 161 #[ptr c, .int .i64 n] w λe w'=>e= .returned (.tuple #[])/\Cw W x K w' c (x.lockC n s):=by
 have hth:=h.th
 have H0:=hid h
 clear h
 have q6:IntKind.i64.wrap (6+n)=6+n:=yum
 have q18:IntKind.i64.wrap (18+n)=18+n:=yum
 go_enter Tryz.func161,Tryz.ntmps161
 go_wp2_with fail
 go_region_law (first
  |(go_simp;go_at_call 134;refine (yjr H0.out.drew (6+n) yue yue).mono ?_;rintro e wj0 ⟨rfl,q⟩;have HJ0:=hid q;clear q)
  |(go_simp;go_at_call 71;refine (Qp HJ0.out [Qw,yR4,y0,x.own (6+n)] yuf ⟨by decide,by decide,by decide,Ea hth _ yue yue,trivial⟩ yuq).mono ?_;rintro e w1 ⟨rfl,q⟩;have H1:=hid q;clear q))
 go_wp2_with fail
 refine (Xo H1.out [yJz,yR4] yuf ⟨by decide,by decide,trivial⟩ yuv).mono ?_
 rintro e w2 ⟨bl1,ba1,rfl,q⟩
 have H2:=hid q
 clear q
 go_wp2_with fail
 go_region_law (first
  |(go_simp;go_at_call 174;refine (Fk H2.out.drew n yue yue).mono ?_;rintro e wj1 ⟨rfl,q⟩;have HJ1:=hid q;clear q)
  |(go_simp;go_at_call 71;refine (Qp HJ1.out [Qw,yR5,y0,ze5 (n)] yuf ⟨by decide,by decide,by decide,zn8 _ yue yue,trivial⟩ yuw).mono ?_;rintro e w3 ⟨rfl,q⟩;have H3:=hid q;clear q))
 go_wp2_with fail
 refine (Qp H3.out [yLt,yR4,yR5,yR6] yuf ⟨by decide,by decide,by decide,by decide,trivial⟩ yux).mono ?_
 rintro e w4 ⟨rfl,q⟩
 have H4:=hid q
 clear q
 go_wp2_with fail
 refine (zgi H4.out (k:=k) hk yvd).mono ?_
 rintro e w5 ⟨rfl,q⟩
 have H5:=hid q
 clear q
 go_wp2_with fail
 go_region_law (first
  |(go_simp;go_at_call 134;refine (yjr H5.out.drew (18+n) yue yue).mono ?_;rintro e wj2 ⟨rfl,q⟩;have HJ2:=hid q;clear q)
  |(go_simp;go_at_call 71;refine (Qp HJ2.out [Qh,y0,x.own (18+n),yR5] yuf ⟨by decide,by decide,Ea hth _ yue yue,by decide,trivial⟩ yve).mono ?_;rintro e w6 ⟨rfl,q⟩;have H6:=hid q;clear q))
 go_wp2_with fail
 go_region_law (first
  |(go_simp;go_at_call 174;refine (Fk H6.out.drew n yue yue).mono ?_;rintro e wj3 ⟨rfl,q⟩;have HJ3:=hid q;clear q)
  |(go_simp;go_at_call 176;refine (zl4 HJ3.out).mono ?_;rintro e wj4 ⟨rfl,q⟩;have HJ4:=hid q;clear q)
  |(go_simp;go_at_call 71;refine (Qp HJ4.out [zvf,yR4,y0,ze5 (n),yR5,x.lock] yuf ⟨by decide,by decide,by decide,zn8 _ yue yue,by decide,zyq hth,trivial⟩ (by show s.g+6<_;omega)).mono ?_;rintro e w7 ⟨rfl,q⟩;have H7:=hid q;clear q))
 go_wp2_with fail
 refine (zgi H7.out rfl (by show s.g+7<_;omega)).mono ?_
 rintro e w8 ⟨rfl,q⟩
 have H8:=hid q
 clear q
 go_wp2_with fail
 refine (Se H8.out (bl:=bl1) (ba:=ba1) (n:=(s.add [Qw,yR4,y0,x.own (6+n)]).L.length) yuf yuf (by simp only [Qx,Ur];omega) (by show s.g+8<_;omega)).mono ?_
 rintro e w9 ⟨rfl,q⟩
 have H9:=hid q
 clear q
 go_wp2
 go_end0
 exact ⟨rfl,H9.out.less (K':=K) (λp hp=>List.mem_cons_of_mem _ (List.mem_cons_of_mem _ hp))⟩
theorem z2o(h:Cw W x K w c s)(hk:s.blk=some k)(h0:0<=n)(h1:n<=6)(hG:s.g+100<10000000):
  Cl 162 #[ptr c, .int .i64 n] w λe w'=>e= .returned (.tuple #[])/\Cw W x K w' c (x.lookC n s):=by
 have hth:=h.th
 have H0:=hid h
 clear h
 have q12:IntKind.i64.wrap (12+n)=12+n:=yum
 go_enter Tryz.func162,Tryz.ntmps162
 go_wp2_with fail
 go_region_law (first
  |(go_simp;go_at_call 134;refine (yjr H0.out.drew (12+n) yue yue).mono ?_;rintro e wj0 ⟨rfl,q⟩;have HJ0:=hid q;clear q)
  |(go_simp;go_at_call 71;refine (Qp HJ0.out [Qw,yR4,y0,x.own (12+n)] yuf ⟨by decide,by decide,by decide,Ea hth _ yue yue,trivial⟩ yuq).mono ?_;rintro e w1 ⟨rfl,q⟩;have H1:=hid q;clear q))
 go_wp2_with fail
 refine (Xo H1.out [yJz,yR4] yuf ⟨by decide,by decide,trivial⟩ yuv).mono ?_
 rintro e w2 ⟨bl1,ba1,rfl,q⟩
 have H2:=hid q
 clear q
 go_wp2_with fail
 refine (zdu H2.out (u:=y0) yuh h0 yue (by show s.g+2+2<_;omega)).mono ?_
 rintro e w3 ⟨rfl,q⟩
 have H3:=hid q
 clear q
 go_wp2_with fail
 refine (zgi H3.out (k:=k) hk yvd).mono ?_
 rintro e w4 ⟨rfl,q⟩
 have H4:=hid q
 clear q
 go_wp2_with fail
 refine (Se H4.out (bl:=bl1) (ba:=ba1) (n:=(s.add [Qw,yR4,y0,x.own (12+n)]).L.length) yuf yuf (by simp only [Qx,Sr,Ur];omega) yve).mono ?_
 rintro e w5 ⟨rfl,q⟩
 have H5:=hid q
 clear q
 go_wp2
 go_end0
 exact ⟨rfl,H5.out.less (K':=K) (λp hp=>List.mem_cons_of_mem _ (List.mem_cons_of_mem _ hp))⟩
theorem zz2(h:Cw W x K w c s)(h0:0<=n)(h1:n<=6)(hG:s.g+100<10000000):
  Cl 163 #[ptr c, .int .i64 n] w λe w'=>e= .returned (.tuple #[])/\Cw W x K w' c (x.storeC n s):=by
 have hth:=h.th
 have H0:=hid h
 clear h
 have q0:IntKind.i64.wrap n=n:=yum
 have q6:IntKind.i64.wrap (6+n)=6+n:=yum
 go_enter Tryz.func163,Tryz.ntmps163
 go_wp2_with fail
 go_region_law (first
  |(go_simp;go_at_call 134;refine (yjr H0.out.drew (6+n) yue yue).mono ?_;rintro e wj0 ⟨rfl,q⟩;have HJ0:=hid q;clear q)
  |(go_simp;go_at_call 71;refine (Qp HJ0.out [Qw,yR4,y0,x.own (6+n)] yuf ⟨by decide,by decide,by decide,Ea hth _ yue yue,trivial⟩ yuq).mono ?_;rintro e w1 ⟨rfl,q⟩;have H1:=hid q;clear q))
 go_wp2_with fail
 refine (Xo H1.out [yJz,yR4] yuf ⟨by decide,by decide,trivial⟩ yuv).mono ?_
 rintro e w2 ⟨bl1,ba1,rfl,q⟩
 have H2:=hid q
 clear q
 go_wp2_with fail
 go_region_law (first
  |(go_simp;go_at_call 134;refine (yjr H2.out.drew n yue yue).mono ?_;rintro e wj1 ⟨rfl,q⟩;have HJ1:=hid q;clear q)
  |(go_simp;go_at_call 71;refine (Qp HJ1.out [Qw,yR4,y0,x.own (n)] yuf ⟨by decide,by decide,by decide,Ea hth _ yue yue,trivial⟩ yuw).mono ?_;rintro e w3 ⟨rfl,q⟩;have H3:=hid q;clear q))
 go_wp2_with fail
 go_region_law (first
  |(go_simp;go_at_call 152;refine (zl3 H3.out.drew n yue yue).mono ?_;rintro e wj2 ⟨rfl,q⟩;have HJ2:=hid q;clear q)
  |(go_simp;go_at_call 71;refine (Qp HJ2.out [Qh,y0,dec (n),yR4] yuf ⟨by decide,by decide,Sp _ yue yue,by decide,trivial⟩ yux).mono ?_;rintro e w4 ⟨rfl,q⟩;have H4:=hid q;clear q))
 go_wp2_with fail
 go_region_law (first
  |(go_simp;go_at_call 174;refine (Fk H4.out.drew n yue yue).mono ?_;rintro e wj3 ⟨rfl,q⟩;have HJ3:=hid q;clear q)
  |(go_simp;go_at_call 71;refine (Qp HJ3.out [Qh,y0,ze5 (n),yR5] yuf ⟨by decide,by decide,zn8 _ yue yue,by decide,trivial⟩ yvd).mono ?_;rintro e w5 ⟨rfl,q⟩;have H5:=hid q;clear q))
 go_wp2_with fail
 refine (Se H5.out (bl:=bl1) (ba:=ba1) (n:=(s.add [Qw,yR4,y0,x.own (6+n)]).L.length) yuf yuf yvk yve).mono ?_
 rintro e w6 ⟨rfl,q⟩
 have H6:=hid q
 clear q
 go_wp2
 go_end0
 exact ⟨rfl,H6.out.less (K':=K) (λp hp=>List.mem_cons_of_mem _ (List.mem_cons_of_mem _ hp))⟩
theorem zvk(h:Cw W x K w c s)(h0:0<=n)(h1:n<=6)(hG:s.g+100<10000000):
  Cl 177 #[ptr c, .int .i64 n] w λe w'=>e= .returned (.tuple #[])/\Cw W x K w' c (x.unlockC n s):=by
 have hth:=h.th
 have H0:=hid h
 clear h
 have q18:IntKind.i64.wrap (18+n)=18+n:=yum
 go_enter Tryz.func177,Tryz.ntmps177
 go_wp2_with fail
 go_region_law (first
  |(go_simp;go_at_call 174;refine (Fk H0.out.drew n yue yue).mono ?_;rintro e wj0 ⟨rfl,q⟩;have HJ0:=hid q;clear q)
  |(go_simp;go_at_call 71;refine (Qp HJ0.out [Qw,yR4,y0,ze5 (n)] yuf ⟨by decide,by decide,by decide,zn8 _ yue yue,trivial⟩ yuq).mono ?_;rintro e w1 ⟨rfl,q⟩;have H1:=hid q;clear q))
 go_wp2_with fail
 go_region_law (first
  |(go_simp;go_at_call 176;refine (zl4 H1.out.drew).mono ?_;rintro e wj1 ⟨rfl,q⟩;have HJ1:=hid q;clear q)
  |(go_simp;go_at_call 71;refine (Qp HJ1.out [yEq,yR4,yR4,x.lock] yuf ⟨by decide,by decide,by decide,zyq hth,trivial⟩ yuv).mono ?_;rintro e w2 ⟨rfl,q⟩;have H2:=hid q;clear q))
 go_wp2_with fail
 refine (Xo H2.out [yJz,yR4] yuf ⟨by decide,by decide,trivial⟩ yuw).mono ?_
 rintro e w3 ⟨bl2,ba2,rfl,q⟩
 have H3:=hid q
 clear q
 go_wp2_with fail
 go_region_law (first
  |(go_simp;go_at_call 134;refine (yjr H3.out.drew (18+n) yue yue).mono ?_;rintro e wj2 ⟨rfl,q⟩;have HJ2:=hid q;clear q)
  |(go_simp;go_at_call 71;refine (Qp HJ2.out [Qw,yR4,y0,x.own (18+n)] yuf ⟨by decide,by decide,by decide,Ea hth _ yue yue,trivial⟩ yux).mono ?_;rintro e w4 ⟨rfl,q⟩;have H4:=hid q;clear q))
 go_wp2_with fail
 go_region_law (first
  |(go_simp;go_at_call 174;refine (Fk H4.out.drew n yue yue).mono ?_;rintro e wj3 ⟨rfl,q⟩;have HJ3:=hid q;clear q)
  |(go_simp;go_at_call 71;refine (Qp HJ3.out [Qh,y0,ze5 (n),yR4] yuf ⟨by decide,by decide,zn8 _ yue yue,by decide,trivial⟩ yvd).mono ?_;rintro e w5 ⟨rfl,q⟩;have H5:=hid q;clear q))
 go_wp2_with fail
 refine (Se H5.out (bl:=bl2) (ba:=ba2) (n:=((s.add [Qw,yR4,y0,ze5 (n)]).add [yEq,yR4,yR4,x.lock]).L.length) yuf yuf yvk yve).mono ?_
 rintro e w6 ⟨rfl,q⟩
 have H6:=hid q
 clear q
 go_wp2
 go_end0
 exact ⟨rfl,H6.out.less (K':=K) (λp hp=>List.mem_cons_of_mem _ (List.mem_cons_of_mem _ hp))⟩
theorem zys(h:Cw W x K w c s)(hG:s.g+100<10000000):
  Cl 138 #[ptr c] w λe w'=>e= .returned (.tuple #[])/\Cw W x K w' c (x.give s):=by
 have hth:=h.th
 have hL:=h.ok.l
 have H0:=hid h
 clear h
 go_enter Tryz.func138,Tryz.ntmps138
 go_wp2_with fail
 refine (Qp H0.out [zdp,yR4,y0] yuf ⟨by decide,by decide,by decide,trivial⟩ yuq).mono ?_
 rintro e w1 ⟨rfl,q⟩
 have H1:=hid q
 clear q
 go_wp2_with fail
 refine (zbu H1.out).mono ?_
 rintro e w' ⟨rfl,rfl⟩
 go_wp2_with fail
 refine (Qp H1.out [yLt,yR5,yR4,yR7] yuf ⟨by decide,by decide,by decide,by decide,trivial⟩ yuv).mono ?_
 rintro e w2 ⟨rfl,q⟩
 have H2:=hid q
 clear q
 go_wp2_with fail
 refine (Xo H2.out [yJz,yR5] yuf ⟨by decide,by decide,trivial⟩ yuw).mono ?_
 rintro e w3 ⟨bl2,ba2,rfl,q⟩
 have H3:=hid q
 clear q
 go_wp2_with fail
 go_region_law (first
  |(go_simp;go_at_call 134;refine (yjr H3.out.drew 24 yue yue).mono ?_;rintro e wj0 ⟨rfl,q⟩;have HJ0:=hid q;clear q)
  |(go_simp;go_at_call 71;refine (Qp HJ0.out [Qw,yR5,yR4,x.own (24)] yuf ⟨by decide,by decide,by decide,Ea hth _ yue yue,trivial⟩ yux).mono ?_;rintro e w4 ⟨rfl,q⟩;have H4:=hid q;clear q))
 go_wp2_with fail
 refine (Qp H4.out [zp6,yR5] yuf ⟨by decide,by decide,trivial⟩ yvd).mono ?_
 rintro e w5 ⟨rfl,q⟩
 have H5:=hid q
 clear q
 go_wp2_with fail
 refine (Qp H5.out [yjq,yR4,yR4,y1] yuf ⟨by decide,by decide,by decide,by decide,trivial⟩ yve).mono ?_
 rintro e w6 ⟨rfl,q⟩
 have H6:=hid q
 clear q
 go_wp2_with fail
 refine (zq1 H6.out (n:=(s.add [zdp,yR4,y0]).L.length) yvk (by show s.g+6<_;omega)).mono ?_
 rintro e w7 ⟨rfl,q⟩
 have H7:=hid q
 clear q
 go_wp2_with fail
 refine (Se H7.out (bl:=bl2) (ba:=ba2) (n:=((s.add [zdp,yR4,y0]).add [yLt,yR5,yR4,yR7]).L.length) yuf yuf (by simp only [Qx,zak];omega) (by show s.g+7<_;omega)).mono ?_
 rintro e w8 ⟨rfl,q⟩
 have H8:=hid q
 clear q
 go_wp2
 go_end0
 exact ⟨rfl,H8.out.less (K':=K) (λp hp=>List.mem_cons_of_mem _ (List.mem_cons_of_mem _ hp))⟩
end
section
variable{W w w':World}{x:Cx}{K:List (Nat×Nat×Value)}{m:Cm}{c:Nat}{s:Ck}
theorem Cw.blk(h:Cw W x K w c s)(hk:s.blk=some k): ∃b,w.cell? ⟨c,5,none⟩=some (ptr b)/\w.cell? ⟨b,17,none⟩=some (.int .i64 k.again):=by
 obtain ⟨m,h⟩:=h
 refine ⟨m.b,?_,(h.bk k hk).ag⟩
 rw [h.c5]
 simp only [zjz,hk]
theorem zvl(h:Cw W x K w c s)(hbx:(bx,0,ptr c)∈K)(h0:0<=n)(h1:n<=6)(hG:s.g+100<10000000):
  Cl 155 #[.int .i64 n,ptr bx] w λe w'=>e= .returned (.tuple #[])/\Cw W x K w' c (s.add [Qh,y0,x.own (32+n),Zy (n)]):=by
 have hth:=h.th
 have cb:=h.kept hbx
 have H0:=hid h
 clear h
 have q32:IntKind.i64.wrap (32+n)=32+n:=yum
 go_enter Tryz.func155,Tryz.ntmps155
 go_wp2_with fail
 go_region_held3 (λw'=>w'.cell? ⟨bx,0,none⟩=some (ptr c)) (go_keep)
  (first
   |(go_at_call 134;refine (yjr H0.out.drew (32+n) yue yue).mono ?_;rintro e wj0 ⟨rfl,q⟩;have HJ0:=hid q;clear q;have cbj0:=HJ0.out.kept hbx)
   |(go_at_call 130;refine (zbt HJ0.out n yue yue).mono ?_;rintro e wj1 ⟨rfl,q⟩;have HJ1:=hid q;clear q;have cbj1:=HJ1.out.kept hbx)
   |(go_at_call 71;refine (Qp HJ1.out [Qh,y0,x.own (32+n),Zy (n)] yuf ⟨by decide,by decide,Ea hth _ yue yue,zz1 _ yue yue,trivial⟩ yuq).mono ?_;rintro e w1 ⟨rfl,q⟩;have H1:=hid q;clear q;have cbh1:=H1.out.kept hbx))
 go_wp2
 go_end0
 exact ⟨rfl,H1.out⟩
theorem zvm(h:Cw W x K w c s)(hbx:(bx,0,ptr c)∈K)(h0:0<=n)(h1:n<=6)(hG:s.g+100<10000000):
  Cl 156 #[.int .i64 n,ptr bx] w λe w'=>e= .returned (.tuple #[])/\Cw W x K w' c (s.add [Qw,Zy (n),y0,x.own (32+n)]):=by
 have hth:=h.th
 have cb:=h.kept hbx
 have H0:=hid h
 clear h
 have q32:IntKind.i64.wrap (32+n)=32+n:=yum
 go_enter Tryz.func156,Tryz.ntmps156
 go_wp2_with fail
 go_region_held3 (λw'=>w'.cell? ⟨bx,0,none⟩=some (ptr c)) (go_keep)
  (first
   |(go_at_call 130;refine (zbt H0.out.drew n yue yue).mono ?_;rintro e wj0 ⟨rfl,q⟩;have HJ0:=hid q;clear q;have cbj0:=HJ0.out.kept hbx)
   |(go_at_call 134;refine (yjr HJ0.out (32+n) yue yue).mono ?_;rintro e wj1 ⟨rfl,q⟩;have HJ1:=hid q;clear q;have cbj1:=HJ1.out.kept hbx)
   |(go_at_call 71;refine (Qp HJ1.out [Qw,Zy (n),y0,x.own (32+n)] yuf ⟨by decide,zz1 _ yue yue,by decide,Ea hth _ yue yue,trivial⟩ yuq).mono ?_;rintro e w1 ⟨rfl,q⟩;have H1:=hid q;clear q;have cbh1:=H1.out.kept hbx))
 go_wp2
 go_end0
 exact ⟨rfl,H1.out⟩
theorem zvn(h:Cw W x K w c s)(hbx:(bx,0,ptr c)∈K)(h0:0<=n)(h1:n<=6)(hG:s.g+100<10000000):
  Cl 159 #[.int .i64 n,ptr bx] w λe w'=>e= .returned (.tuple #[])/\Cw W x K w' c (s.add [Qh,y0,x.own (6+n),y0]):=by
 have hth:=h.th
 have cb:=h.kept hbx
 have H0:=hid h
 clear h
 have q6:IntKind.i64.wrap (6+n)=6+n:=yum
 go_enter Tryz.func159,Tryz.ntmps159
 go_wp2_with fail
 go_region_held3 (λw'=>w'.cell? ⟨bx,0,none⟩=some (ptr c)) (go_keep)
  (first
   |(go_at_call 134;refine (yjr H0.out.drew (6+n) yue yue).mono ?_;rintro e wj0 ⟨rfl,q⟩;have HJ0:=hid q;clear q;have cbj0:=HJ0.out.kept hbx)
   |(go_at_call 71;refine (Qp HJ0.out [Qh,y0,x.own (6+n),y0] yuf ⟨by decide,by decide,Ea hth _ yue yue,by decide,trivial⟩ yuq).mono ?_;rintro e w1 ⟨rfl,q⟩;have H1:=hid q;clear q;have cbh1:=H1.out.kept hbx))
 go_wp2
 go_end0
 exact ⟨rfl,H1.out⟩
theorem zvo(h:Cw W x K w c s)(hbx:(bx,0,ptr c)∈K)(h0:0<=n)(h1:n<=6)(hG:s.g+100<10000000):
  Cl 160 #[.int .i64 n,ptr bx] w λe w'=>e= .returned (.tuple #[])/\Cw W x K w' c (s.add [Qh,y0,x.own (12+n),y0]):=by
 have hth:=h.th
 have cb:=h.kept hbx
 have H0:=hid h
 clear h
 have q12:IntKind.i64.wrap (12+n)=12+n:=yum
 go_enter Tryz.func160,Tryz.ntmps160
 go_wp2_with fail
 go_region_held3 (λw'=>w'.cell? ⟨bx,0,none⟩=some (ptr c)) (go_keep)
  (first
   |(go_at_call 134;refine (yjr H0.out.drew (12+n) yue yue).mono ?_;rintro e wj0 ⟨rfl,q⟩;have HJ0:=hid q;clear q;have cbj0:=HJ0.out.kept hbx)
   |(go_at_call 71;refine (Qp HJ0.out [Qh,y0,x.own (12+n),y0] yuf ⟨by decide,by decide,Ea hth _ yue yue,by decide,trivial⟩ yuq).mono ?_;rintro e w1 ⟨rfl,q⟩;have H1:=hid q;clear q;have cbh1:=H1.out.kept hbx))
 go_wp2
 go_end0
 exact ⟨rfl,H1.out⟩
theorem zyt(h:Cw W x K w c s)(hk:s.blk=some k){to u:ByteArray}(hto:to.size<=30)(hu:u.size<=30)(h0:0<=n)(h1:n<=6)(hA:k.again<100000000)(hG:s.g+100<10000000):
  Cl 133 #[ptr c, .string to, .string u, .int .i64 n] w λe w'=>e= .returned (.tuple #[])/\Cw W x K w' c (x.readC to u n s):=by
 have hth:=h.th
 obtain ⟨b,c5,c17⟩:=h.blk hk
 have hR:x.readC to u n s=(((Zu u n (((Zu u n s).add [yJz,yR4,dec k.again]).add [Qw,yR5,u,dec n])).add [yJz,yR4,dec k.again]).add [Qh,u,x.own (12+n),y1]).add [zdp,to,yR5]:=by simp only [Cx.readC,Sq hk]
 rw [hR]
 have hdk:=Sp (k.again:Int) yue yue
 have H0:=hid h
 clear h hR
 have q12:IntKind.i64.wrap (12+n)=12+n:=yum
 go_enter Tryz.func133,Tryz.ntmps133
 go_wp2_with fail
 refine (zag H0.out k.again yue yue).mono ?_
 rintro e w1 ⟨rfl,q⟩
 have H1:=hid q
 clear q
 clear c5 c17
 go_wp2_with fail
 refine (zdu H1.out hu h0 yue (by show s.g+0+2<_;omega)).mono ?_
 rintro e w2 ⟨rfl,q⟩
 have H2:=hid q
 clear q
 go_wp2_with fail
 refine (Qp H2.out [yJz,yR4,dec k.again] yuf ⟨by decide,by decide,hdk,trivial⟩ yuw).mono ?_
 rintro e w3 ⟨rfl,q⟩
 have H3:=hid q
 clear q
 go_wp2_with fail
 go_region_law (first
  |(go_simp;go_at_call 152;refine (zl3 H3.out.drew n yue yue).mono ?_;rintro e wj0 ⟨rfl,q⟩;have HJ0:=hid q;clear q)
  |(go_simp;go_at_call 71;refine (Qp HJ0.out [Qw,yR5,u,dec (n)] yuf ⟨by decide,by decide,hu,Sp _ yue yue,trivial⟩ yux).mono ?_;rintro e w4 ⟨rfl,q⟩;have H4:=hid q;clear q))
 go_wp2_with fail
 refine (zdu H4.out hu h0 yue (by show s.g+4+2<_;omega)).mono ?_
 rintro e w5 ⟨rfl,q⟩
 have H5:=hid q
 clear q
 go_wp2_with fail
 refine (Qp H5.out [yJz,yR4,dec k.again] yuf ⟨by decide,by decide,hdk,trivial⟩ (by show s.g+6<_;omega)).mono ?_
 rintro e w6 ⟨rfl,q⟩
 have H6:=hid q
 clear q
 go_wp2_with fail
 go_region_law (first
  |(go_simp;go_at_call 134;refine (yjr H6.out.drew (12+n) yue yue).mono ?_;rintro e wj1 ⟨rfl,q⟩;have HJ1:=hid q;clear q)
  |(go_simp;go_at_call 71;refine (Qp HJ1.out [Qh,u,x.own (12+n),y1] yuf ⟨by decide,hu,Ea hth _ yue yue,by decide,trivial⟩ (by show s.g+7<_;omega)).mono ?_;rintro e w7 ⟨rfl,q⟩;have H7:=hid q;clear q))
 go_wp2_with fail
 refine (Qp H7.out [zdp,to,yR5] yuf ⟨by decide,hto,by decide,trivial⟩ (by show s.g+8<_;omega)).mono ?_
 rintro e w8 ⟨rfl,q⟩
 have H8:=hid q
 clear q
 go_wp2
 go_end0
 exact ⟨rfl,H8.out⟩
end
end Go.Proofs.YtkenoofmkbghiaaGreatDoor
