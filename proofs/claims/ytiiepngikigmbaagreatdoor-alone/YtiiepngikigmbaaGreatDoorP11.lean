import Derived.Test.YtiiepngikigmbaaGreatDoorP10
set_option maxRecDepth 100000
set_option maxHeartbeats 1000000
namespace Go.Proofs.YtiiepngikigmbaaGreatDoor
open Go.RowKit
section
variable{D:Nat->Prop}{w:World}{bm:Nat}{m:Nat->Int}{ts:List Tr}
theorem ybt(bm bt n cap:Nat)(i:Nat)(hc:w.cell? ⟨bm,256,none⟩=some (.slice (some ⟨bt,0,none⟩) n cap))(hi:i<n):
  Cl 38 #[ptr bm, .int .i64 i] w λe w'=>e= .returned (.bool true)/\w'=w:=by
 have hi':(i:Int)<(n:Int):=yl5
 go_enter Tryz.func38,Tryz.ntmps38
 go_wp2
 go_ret
 exact ⟨by simp,rfl⟩
theorem yee(bm bt n cap:Nat)(i:Nat)(hc:w.cell? ⟨bm,256,none⟩=some (.slice (some ⟨bt,0,none⟩) n cap))(hi:n<=i):
  Cl 38 #[ptr bm, .int .i64 i] w λe w'=>e= .returned (.bool false)/\w'=w:=by
 have hi': ¬(i:Int)<(n:Int):=yl5
 go_enter Tryz.func38,Tryz.ntmps38
 go_wp2
 go_ret
 exact ⟨by simp,rfl⟩
theorem MAt.slot(h:MAt D w bm m ts): ∃bt cap,w.cell? ⟨bm,256,none⟩=some (.slice (some ⟨bt,0,none⟩) ts.length cap)/\ ∀i (h:i<ts.length),w.cell? ⟨bt,i,none⟩=some (ptr ts[i].b):=
 let ⟨bt,cap,_,h1,_,h3⟩:=h.thr;⟨bt,cap,h1,h3⟩
theorem yc3(h:MAt D w bm m ts)(i:Nat)(hi:i<ts.length)(R:World->Prop)(hs:Cl 40 #[ptr ts[i].b] w λe w'=>e= .returned (.tuple #[])/\R w'):
  Cl 20 #[ptr bm, .int .i64 i] w λe w'=>e= .returned (.tuple #[])/\R w':=by
 obtain ⟨bt,cap,h1,h3⟩:=h.slot
 have hx:w.cell? ⟨bt,i,none⟩=some (.pointer (some ⟨ts[i].b,0,none⟩)):=h3 i hi
 have hi':(i:Int)<(ts.length:Int):=yl5
 have HS:=hid hs
 clear h h3 hs
 go_enter Tryz.func20,Tryz.ntmps20
 go_wp2_with fail
 refine (ybt bm bt _ cap i h1 hi).mono ?_
 rintro e w' ⟨rfl,rfl⟩
 go_wp2_with fail
 refine HS.out.mono ?_
 rintro e w1 ⟨rfl,hr⟩
 have HR:=hid hr
 clear hr HS
 go_wp2
 go_end0
 exact ⟨rfl,HR.out⟩
theorem yef(h:MAt D w bm m ts)(i:Nat)(hi:ts.length<=i):
  Cl 20 #[ptr bm, .int .i64 i] w λe w'=>e= .returned (.tuple #[])/\w'=w:=by
 obtain ⟨bt,cap,h1,h3⟩:=h.slot
 clear h h3
 go_enter Tryz.func20,Tryz.ntmps20
 go_wp2_with fail
 refine (yee bm bt _ cap i h1 hi).mono ?_
 rintro e w' ⟨rfl,rfl⟩
 go_wp2
 go_end0
 exact ⟨rfl,rfl⟩
theorem ybu(h:MAt D w bm m ts)(i:Nat)(hi:i<ts.length)(v:Bool)(R:World->Prop)(hs:Cl 41 #[ptr ts[i].b] w λe w'=>e= .returned (.bool v)/\R w'):
  Cl 21 #[ptr bm, .int .i64 i] w λe w'=>e= .returned (.tuple #[])/\R w':=by
 obtain ⟨bt,cap,h1,h3⟩:=h.slot
 have hx:w.cell? ⟨bt,i,none⟩=some (.pointer (some ⟨ts[i].b,0,none⟩)):=h3 i hi
 have hi':(i:Int)<(ts.length:Int):=yl5
 have HS:=hid hs
 clear h h3 hs
 go_enter Tryz.func21,Tryz.ntmps21
 go_wp2_with fail
 refine (ybt bm bt _ cap i h1 hi).mono ?_
 rintro e w' ⟨rfl,rfl⟩
 go_wp2_with fail
 refine HS.out.mono ?_
 rintro e w1 ⟨rfl,hr⟩
 have HR:=hid hr
 clear hr HS
 go_wp2
 go_end0
 exact ⟨rfl,HR.out⟩
theorem ybv(h:MAt D w bm m ts)(i:Nat)(hi:i<ts.length):
  Cl 19 #[ptr bm, .int .i64 i] w λe w'=>e= .returned (.int .i64 ts[i].T.st)/\w'=w:=by
 obtain ⟨bt,cap,h1,h3⟩:=h.slot
 have hx:w.cell? ⟨bt,i,none⟩=some (.pointer (some ⟨ts[i].b,0,none⟩)):=h3 i hi
 have hi':(i:Int)<(ts.length:Int):=yl5
 have hst:=(h.th i hi).state
 clear h h3
 go_enter Tryz.func19,Tryz.ntmps19
 go_wp2_with fail
 refine (ybt bm bt _ cap i h1 hi).mono ?_
 rintro e w' ⟨rfl,rfl⟩
 go_wp2_with fail
 refine (yd1 _ _ _ hst).mono ?_
 rintro e w1 ⟨rfl,rfl⟩
 go_wp2
 go_ret
 exact ⟨rfl,rfl⟩
end
theorem z77(x:Vl)(hx:x.ok): ∃t u F,z7o x= .iface t u/\(∀W,(method 473 t u "commits/codes.of").run Tryz.prog W= .ok (F,u) W)/\(∀args W,(callFunc F args).run Tryz.prog W= .ok (.enter F args) W)/\
  ∀(W:World) (b bm:Nat) (iv ov:Value) (T:Th),ThAt W b bm iv ov T->Cl F #[u,ifc b] W λe w'=>e= .returned (.int .i64 (x.of T))/\w'=W:=by
 obtain ⟨r,v⟩:=x
 cases r
 ·refine ⟨283, .int .i64 v,252,rfl,zac _,enters_of Tryz.func252 yl7 rfl,λW b bm iv ov T _=>?_⟩
  exact z8g _ _ _
 ·have hv:=hx rfl
  simp only at hv
  refine ⟨227, .int .i64 v,233,rfl,zad _,enters_of Tryz.func233 yl7 rfl,λW b bm iv ov T h=>?_⟩
  exact z8f b v _ W hv.1 hv.2 (h.regs _ yl5)
section
variable{w:World}{b bm:Nat}{iv ov:Value}{T:Th}{m:Nat->Int}
attribute [local go_sem] Jy ze8 zqc
theorem ygz(h:ThAt w b bm iv ov T)(hm:MemAt w bm m)(x:Vl)(hx:x.ok)(d:Int)(d0:0<=d)(d1:d<8):
  Cl 240 #[.agg #[.int .i64 d,z7o x],ifc b] w λe w'=>e= .returned (.tuple #[])/\Eff w b bm iv ov (T.setR d.toNat (x.of T)) m w':=by
 obtain ⟨t,u,F,he,hme,hen,hv⟩:=z77 x hx
 rw [he]
 have H:=hid h
 have HM:=hid hm
 have HV:=hid hv
 clear h hm hv he hx
 go_enter Tryz.func240,Tryz.ntmps240
 go_wp2
 go_region_with (first
  |(go_at_call 236;refine (z79 b d _ _ _ d0 d1 ((H.out.below (z7v _ _)).regs _ yl5) ((H.out.below (z7v _ _)).free _ yl5)).mono ?_;rintro e w3 ⟨rfl,rfl⟩)
  |(with_reducible refine (HV.out _ b bm iv ov T (H.out.below (z7v _ _))).mono ?_;rintro e w' ⟨rfl,rfl⟩))
 all_goals go_wp2
 all_goals go_end0
 all_goals exact ⟨rfl,((H.out.below (z7v _ _)).effReg (HM.out.below (z7v _ _)) yl5 _).base (z7v _ _)⟩
theorem z98(h:ThAt w b bm iv ov T)(hm:MemAt w bm m)(x:Vl)(hx:x.ok)(n:Int)(hz:x.of T=0):
  Cl 249 #[.agg #[z7o x, .int .i64 n],ifc b] w λe w'=>e= .returned (.tuple #[])/\Eff w b bm iv ov {T with pl:=n} m w':=by
 obtain ⟨t,u,F,he,hme,hen,hv⟩:=z77 x hx
 rw [he]
 have H:=hid h
 have HM:=hid hm
 have HV:=hid (hz▸hv (w.alloc (.cells #[.iface t u, .int .i64 n] 255)) b bm iv ov T (h.below (z7f _ _)))
 clear h hm hv he hx hz
 go_enter Tryz.func249,Tryz.ntmps249
 go_wp2_with fail
 refine HV.out.mono ?_
 rintro e w' ⟨rfl,rfl⟩
 go_wp2_with (go_at_call 260;refine (ycc b n _ _ (H.out.below (z7f _ _)).place ((H.out.below (z7f _ _)).free 10 yl5)).mono ?_;rintro e w1 ⟨rfl,rfl⟩)
 go_end0
 exact ⟨rfl,((H.out.below (z7f _ _)).effPlace (HM.out.below (z7f _ _)) n).base (z7f _ _)⟩
theorem yan(h:ThAt w b bm iv ov T)(hm:MemAt w bm m)(x:Vl)(hx:x.ok)(n:Int)(hz:x.of T≠0):
  Cl 249 #[.agg #[z7o x, .int .i64 n],ifc b] w λe w'=>e= .returned (.tuple #[])/\Eff w b bm iv ov T m w':=by
 obtain ⟨t,u,F,he,hme,hen,hv⟩:=z77 x hx
 rw [he]
 have H:=hid h
 have HM:=hid hm
 have HV:=hid (hv (w.alloc (.cells #[.iface t u, .int .i64 n] 255)) b bm iv ov T (h.below (z7f _ _)))
 have hz':(x.of T==0)=false:=by simp [hz]
 generalize x.of T=z at HV hz'
 clear h hm hv he hx hz
 go_enter Tryz.func249,Tryz.ntmps249
 go_wp2_with fail
 refine HV.out.mono ?_
 rintro e w' ⟨rfl,rfl⟩
 go_wp2
 go_end0
 exact ⟨rfl,ov,H.out.below (z7f _ _),HM.out.below (z7f _ _),Chg.of_below (z7f _ _), .inl rfl⟩
end
end Go.Proofs.YtiiepngikigmbaaGreatDoor
