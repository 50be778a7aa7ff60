import Derived.Test.YtkenoofmkbghiaaGreatDoorO06
set_option maxRecDepth 100000
set_option maxHeartbeats 1000000
namespace Go.Proofs.YtkenoofmkbghiaaGreatDoor
open Go.RowKit
attribute [local go_sem] zac zad zqc zcn zhh ze8 Jy zdi zjk Fw zjo zdl Fx
section
variable{w:World}{b bm:Nat}{iv ov:Value}{T:Th}{m:Nat->Int}
theorem yc2(h:ThAt w b bm iv ov T)(hm:MemAt w bm m)(x y z:Vl)(hx:x.ok)(n d:Int)(h0: ¬(0<=z6z x n T/\z6z x n T<256)):
  Cl 254 #[.agg #[.int .i64 d,z7o x, .int .i64 n,z7o y,z7o z],ifc b] w λe w'=>e= .returned (.tuple #[])/\Eff w b bm iv ov {T with q:=[],st:=9} (z6x m T.q) w':=by
 have hon:=λ(W:World) (ov':Value) (h':ThAt W b bm iv ov' {T with q:=[]}) (hm':MemAt W bm (z6x m T.q))=>z8q h' hm' x hx n h0
 obtain ⟨t,u,hxe⟩:=z7y x
 obtain ⟨t',u',hye⟩:=z7y y
 obtain ⟨t2,u2,hze⟩:=z7y z
 rw [hxe] at hon⊢
 rw [hye,hze]
 have HO:=hid hon
 have H:=hid h
 have HM:=hid hm
 have hb:=h.lt
 clear hon hxe hx h hm hye hze
 go_enter Tryz.func254,Tryz.ntmps254
 go_wp2_with fail
 refine (z8p (H.out.below (z7f _ _)) (HM.out.below (z7f _ _))).mono ?_
 rintro e w1 ⟨rfl,ov1,ht1,hm1,hc1,ho1⟩
 have hne: ∀i,¬z9n b bm ov w.heap.size i:=λi e=>by
  rcases e with e|e|e
  ·omega
  ·have:=HM.out.lt;omega
  ·exact ys0
 have b1:=(hc1.cell w.heap.size 1 yun (hne _)).trans (show _=some (Value.iface t u) by simp [go_sem])
 have b2:=(hc1.cell w.heap.size 2 yun (hne _)).trans (show _=some (Value.int .i64 n) by simp [go_sem])
 have HT:=hid ht1
 have HT2:=hid hm1
 have HC:=hid hc1
 have HO1:=hid ho1
 clear ht1 hm1 hc1 ho1 hne
 go_wp2_with fail
 refine (HO.out _ _ HT.out HT2.out).mono ?_
 rintro e w2 ⟨rfl,h2⟩
 have H2:=hid h2
 clear h2 HO
 go_wp2
 refine bodyPost_ret (results_none rfl _ _ _) rfl ?_
 exact ⟨rfl,(Eff.two ⟨HT.out,HT2.out,HC.out,HO1.out⟩ H2.out).base (z7f _ _)⟩
end
attribute [local go_sem] zac zad zqc zcn zhh ze8 Jy zdi zjk Fw zjo zdl Fx
section
variable{w:World}{b bm:Nat}{iv ov:Value}{T:Th}{m:Nat->Int}
theorem z8k(x:Vl): ∃t u,z7o x= .iface t u:=yvs
theorem ya5(h:ThAt w b bm iv ov T)(hm:MemAt w bm m)(x y:Vl)(hx:x.ok)(n:Int)(h0: ¬(0<=z6z x n T/\z6z x n T<256)):
  Cl 253 #[.agg #[z7o x, .int .i64 n,z7o y],ifc b] w λe w'=>e= .returned (.tuple #[])/\Eff w b bm iv ov {T with st:=9} m w':=by
 have hon:=λ(W:World) (hB:Below w.heap.size w W)=>z8q (h.below hB) (hm.below hB) x hx n h0
 obtain ⟨t,u,hxe⟩:=z8k x
 obtain ⟨t',u',hye⟩:=z8k y
 rw [hxe] at hon⊢
 rw [hye]
 have HO:=hid hon
 clear hon hxe hx h hm hye
 go_enter Tryz.func253,Tryz.ntmps253
 go_wp2_with fail
 refine (HO.out _ (z7f _ _)).mono ?_
 rintro e w1 ⟨rfl,h1⟩
 have H1:=hid h1
 clear h1 HO
 go_wp2
 go_end0
 exact ⟨rfl,H1.out.base (z7f _ _)⟩
theorem ya6(h:ThAt w b bm iv ov T)(hm:MemAt w bm m)(x:Vl)(hx:x.ok)(n v:Int)(h0:0<=z6z x n T)(h1:z6z x n T<256):
  Cl 253 #[.agg #[z7o x, .int .i64 n, .iface 291 (.int .i64 v)],ifc b] w λe w'=>e= .returned (.tuple #[])/\Eff w b bm iv ov {T with q:=(z62 T.q m (z6z x n T) v).1} (z62 T.q m (z6z x n T) v).2 w':=by
 have hmf: ∀(fn:Fn) (first cap:Array Value) (w:World),(Instr.makeFunc fn first cap).run Tryz.prog w= .ok (.func fn first cap) w:=λ_ _ _ _=>rfl
 have H:=hid h
 have HM:=hid hm
 clear h hm
 have hon:=λ(W:World) (hB:Below w.heap.size w W)=>z8h (H.out.below hB) x hx n h0 h1
 obtain ⟨t,u,hxe⟩:=z8k x
 rw [hxe] at hon⊢
 have HO:=hid hon
 clear hon hxe hx
 generalize z6z x n T=a at*
 go_enter Tryz.func253,Tryz.ntmps253
 go_wp2_with fail
 refine (HO.out _ (z7f _ _)).mono ?_
 rintro e w1 ⟨rfl,hb1⟩
 have hd:=yam (i:=2) (v:=some (.iface 291 (.int .i64 v))) hb1 yuy
 have HB:=hid ((z7f w _).trans (hb1.mono yun))
 clear hb1 HO
 go_wp2
 go_region_with (first
  |(go_at_call 261;refine (z8g _ _ _).mono ?_;rintro e w' ⟨rfl,rfl⟩)
  |(go_at_call 273;refine (yce (H.out.below HB.out.drew) (HM.out.below HB.out.drew) a v h0 h1).mono ?_;rintro e w2 ⟨rfl,h2⟩;have H2:=hid h2;clear h2))
 all_goals go_wp2
 all_goals go_end0
 all_goals exact ⟨rfl,H2.out.base HB.out.drew⟩
theorem ya7(h:ThAt w b bm iv ov T)(hm:MemAt w bm m)(x:Vl)(hx:x.ok)(n v:Int)(v0:0<=v)(v1:v<8)(h0:0<=z6z x n T)(h1:z6z x n T<256):
  Cl 253 #[.agg #[z7o x, .int .i64 n, .iface 236 (.int .i64 v)],ifc b] w λe w'=>e= .returned (.tuple #[])/\Eff w b bm iv ov {T with q:=(z62 T.q m (z6z x n T) (T.r v.toNat)).1} (z62 T.q m (z6z x n T) (T.r v.toNat)).2 w':=by
 have hmf: ∀(fn:Fn) (first cap:Array Value) (w:World),(Instr.makeFunc fn first cap).run Tryz.prog w= .ok (.func fn first cap) w:=λ_ _ _ _=>rfl
 have H:=hid h
 have HM:=hid hm
 clear h hm
 have hon:=λ(W:World) (hB:Below w.heap.size w W)=>z8h (H.out.below hB) x hx n h0 h1
 obtain ⟨t,u,hxe⟩:=z8k x
 rw [hxe] at hon⊢
 have HO:=hid hon
 clear hon hxe hx
 generalize z6z x n T=a at*
 go_enter Tryz.func253,Tryz.ntmps253
 go_wp2_with fail
 refine (HO.out _ (z7f _ _)).mono ?_
 rintro e w1 ⟨rfl,hb1⟩
 have hd:=yam (i:=2) (v:=some (.iface 236 (.int .i64 v))) hb1 yuy
 have HB:=hid ((z7f w _).trans (hb1.mono yun))
 have hreg:=(H.out.below HB.out.drew).regs v.toNat yum
 clear hb1 HO
 go_wp2
 go_region_with (first
  |(go_at_call 243;refine (z8f b v (T.r v.toNat) _ v0 v1 hreg).mono ?_;rintro e w' ⟨rfl,rfl⟩)
  |(go_at_call 273;refine (yce (H.out.below HB.out.drew) (HM.out.below HB.out.drew) a (T.r v.toNat) h0 h1).mono ?_;rintro e w2 ⟨rfl,h2⟩;have H2:=hid h2;clear h2))
 all_goals go_wp2
 all_goals go_end0
 all_goals exact ⟨rfl,H2.out.base HB.out.drew⟩
end
section
variable{D:Nat->Prop}{w:World}{bm:Nat}{m:Nat->Int}{ts:List Tr}
theorem ybt(bm bt n cap:Nat)(i:Nat)(hc:w.cell? ⟨bm,256,none⟩=some (.slice (some ⟨bt,0,none⟩) n cap))(hi:i<n):
  Cl 25 #[ptr bm, .int .i64 i] w λe w'=>e= .returned (.bool true)/\w'=w:=by
 have hi':(i:Int)<(n:Int):=yum
 go_enter Tryz.func25,Tryz.ntmps25
 go_wp2
 go_ret
 exact ⟨by simp,rfl⟩
theorem yee(bm bt n cap:Nat)(i:Nat)(hc:w.cell? ⟨bm,256,none⟩=some (.slice (some ⟨bt,0,none⟩) n cap))(hi:n<=i):
  Cl 25 #[ptr bm, .int .i64 i] w λe w'=>e= .returned (.bool false)/\w'=w:=by
 have hi': ¬(i:Int)<(n:Int):=yum
 go_enter Tryz.func25,Tryz.ntmps25
 go_wp2
 go_ret
 exact ⟨by simp,rfl⟩
theorem MAt.slot(h:MAt D w bm m ts): ∃bt cap,w.cell? ⟨bm,256,none⟩=some (.slice (some ⟨bt,0,none⟩) ts.length cap)/\ ∀i (h:i<ts.length),w.cell? ⟨bt,i,none⟩=some (ptr ts[i].b):=
 let ⟨bt,cap,_,h1,_,h3⟩:=h.thr;⟨bt,cap,h1,h3⟩
theorem yc3(h:MAt D w bm m ts)(i:Nat)(hi:i<ts.length)(R:World->Prop)(hs:Cl 34 #[ptr ts[i].b] w λe w'=>e= .returned (.tuple #[])/\R w'):
  Cl 24 #[ptr bm, .int .i64 i] w λe w'=>e= .returned (.tuple #[])/\R w':=by
 obtain ⟨bt,cap,h1,h3⟩:=h.slot
 have hx:w.cell? ⟨bt,i,none⟩=some (.pointer (some ⟨ts[i].b,0,none⟩)):=h3 i hi
 have hi':(i:Int)<(ts.length:Int):=yum
 have HS:=hid hs
 clear h h3 hs
 go_enter Tryz.func24,Tryz.ntmps24
 go_wp2_with fail
 refine (ybt bm bt _ cap i h1 hi).mono ?_
 rintro e w' ⟨rfl,rfl⟩
 go_wp2_with fail
 refine HS.out.mono ?_
 rintro e w1 ⟨rfl,hr⟩
 have HR:=hid hr
 clear hr HS
 go_wp2
 go_end0
 exact ⟨rfl,HR.out⟩
theorem yef(h:MAt D w bm m ts)(i:Nat)(hi:ts.length<=i):
  Cl 24 #[ptr bm, .int .i64 i] w λe w'=>e= .returned (.tuple #[])/\w'=w:=by
 obtain ⟨bt,cap,h1,h3⟩:=h.slot
 clear h h3
 go_enter Tryz.func24,Tryz.ntmps24
 go_wp2_with fail
 refine (yee bm bt _ cap i h1 hi).mono ?_
 rintro e w' ⟨rfl,rfl⟩
 go_wp2
 go_end0
 exact ⟨rfl,rfl⟩
theorem ybu(h:MAt D w bm m ts)(i:Nat)(hi:i<ts.length)(v:Bool)(R:World->Prop)(hs:Cl 33 #[ptr ts[i].b] w λe w'=>e= .returned (.bool v)/\R w'):
  Cl 23 #[ptr bm, .int .i64 i] w λe w'=>e= .returned (.tuple #[])/\R w':=by
 obtain ⟨bt,cap,h1,h3⟩:=h.slot
 have hx:w.cell? ⟨bt,i,none⟩=some (.pointer (some ⟨ts[i].b,0,none⟩)):=h3 i hi
 have hi':(i:Int)<(ts.length:Int):=yum
 have HS:=hid hs
 clear h h3 hs
 go_enter Tryz.func23,Tryz.ntmps23
 go_wp2_with fail
 refine (ybt bm bt _ cap i h1 hi).mono ?_
 rintro e w' ⟨rfl,rfl⟩
 go_wp2_with fail
 refine HS.out.mono ?_
 rintro e w1 ⟨rfl,hr⟩
 have HR:=hid hr
 clear hr HS
 go_wp2
 go_end0
 exact ⟨rfl,HR.out⟩
theorem ybv(h:MAt D w bm m ts)(i:Nat)(hi:i<ts.length):
  Cl 19 #[ptr bm, .int .i64 i] w λe w'=>e= .returned (.int .i64 ts[i].T.st)/\w'=w:=by
 obtain ⟨bt,cap,h1,h3⟩:=h.slot
 have hx:w.cell? ⟨bt,i,none⟩=some (.pointer (some ⟨ts[i].b,0,none⟩)):=h3 i hi
 have hi':(i:Int)<(ts.length:Int):=yum
 have hst:=(h.th i hi).state
 clear h h3
 go_enter Tryz.func19,Tryz.ntmps19
 go_wp2_with fail
 refine (ybt bm bt _ cap i h1 hi).mono ?_
 rintro e w' ⟨rfl,rfl⟩
 go_wp2_with fail
 refine (yd1 _ _ _ hst).mono ?_
 rintro e w1 ⟨rfl,rfl⟩
 go_wp2
 go_ret
 exact ⟨rfl,rfl⟩
end
theorem z77(x:Vl)(hx:x.ok): ∃t u F,z7o x= .iface t u/\(∀W,(method 481 t u "commits/codes.of").run Tryz.prog W= .ok (F,u) W)/\(∀args W,(callFunc F args).run Tryz.prog W= .ok (.enter F args) W)/\
  ∀(W:World) (b bm:Nat) (iv ov:Value) (T:Th),ThAt W b bm iv ov T->Cl F #[u,ifc b] W λe w'=>e= .returned (.int .i64 (x.of T))/\w'=W:=by
 obtain ⟨r,v⟩:=x
 cases r
 ·refine ⟨291, .int .i64 v,261,rfl,zac _,enters_of Tryz.func261 yuo rfl,λW b bm iv ov T _=>?_⟩
  exact z8g _ _ _
 ·have hv:=hx rfl
  simp only at hv
  refine ⟨236, .int .i64 v,243,rfl,zad _,enters_of Tryz.func243 yuo rfl,λW b bm iv ov T h=>?_⟩
  exact z8f b v _ W hv.1 hv.2 (h.regs _ yum)
section
variable{w:World}{b bm:Nat}{iv ov:Value}{T:Th}{m:Nat->Int}
attribute [local go_sem] Jy ze8 zqc
theorem ygz(h:ThAt w b bm iv ov T)(hm:MemAt w bm m)(x:Vl)(hx:x.ok)(d:Int)(d0:0<=d)(d1:d<8):
  Cl 250 #[.agg #[.int .i64 d,z7o x],ifc b] w λe w'=>e= .returned (.tuple #[])/\Eff w b bm iv ov (T.setR d.toNat (x.of T)) m w':=by
 obtain ⟨t,u,F,he,hme,hen,hv⟩:=z77 x hx
 rw [he]
 have H:=hid h
 have HM:=hid hm
 have HV:=hid hv
 clear h hm hv he hx
 go_enter Tryz.func250,Tryz.ntmps250
 go_wp2
 go_region_with (first
  |(go_at_call 246;refine (z79 b d _ _ _ d0 d1 ((H.out.below (z7v _ _)).regs _ yum) ((H.out.below (z7v _ _)).free _ yum)).mono ?_;rintro e w3 ⟨rfl,rfl⟩)
  |(with_reducible refine (HV.out _ b bm iv ov T (H.out.below (z7v _ _))).mono ?_;rintro e w' ⟨rfl,rfl⟩))
 all_goals go_wp2
 all_goals go_end0
 all_goals exact ⟨rfl,((H.out.below (z7v _ _)).effReg (HM.out.below (z7v _ _)) yum _).base (z7v _ _)⟩
theorem z98(h:ThAt w b bm iv ov T)(hm:MemAt w bm m)(x:Vl)(hx:x.ok)(n:Int)(hz:x.of T=0):
  Cl 259 #[.agg #[z7o x, .int .i64 n],ifc b] w λe w'=>e= .returned (.tuple #[])/\Eff w b bm iv ov {T with pl:=n} m w':=by
 obtain ⟨t,u,F,he,hme,hen,hv⟩:=z77 x hx
 rw [he]
 have H:=hid h
 have HM:=hid hm
 have HV:=hid (hz▸hv (w.alloc (.cells #[.iface t u, .int .i64 n] 264)) b bm iv ov T (h.below (z7f _ _)))
 clear h hm hv he hx hz
 go_enter Tryz.func259,Tryz.ntmps259
 go_wp2_with fail
 refine HV.out.mono ?_
 rintro e w' ⟨rfl,rfl⟩
 go_wp2_with (go_at_call 269;refine (ycc b n _ _ (H.out.below (z7f _ _)).place ((H.out.below (z7f _ _)).free 10 yum)).mono ?_;rintro e w1 ⟨rfl,rfl⟩)
 go_end0
 exact ⟨rfl,((H.out.below (z7f _ _)).effPlace (HM.out.below (z7f _ _)) n).base (z7f _ _)⟩
theorem yan(h:ThAt w b bm iv ov T)(hm:MemAt w bm m)(x:Vl)(hx:x.ok)(n:Int)(hz:x.of T≠0):
  Cl 259 #[.agg #[z7o x, .int .i64 n],ifc b] w λe w'=>e= .returned (.tuple #[])/\Eff w b bm iv ov T m w':=by
 obtain ⟨t,u,F,he,hme,hen,hv⟩:=z77 x hx
 rw [he]
 have H:=hid h
 have HM:=hid hm
 have HV:=hid (hv (w.alloc (.cells #[.iface t u, .int .i64 n] 264)) b bm iv ov T (h.below (z7f _ _)))
 have hz':(x.of T==0)=false:=by simp [hz]
 generalize x.of T=z at HV hz'
 clear h hm hv he hx hz
 go_enter Tryz.func259,Tryz.ntmps259
 go_wp2_with fail
 refine HV.out.mono ?_
 rintro e w' ⟨rfl,rfl⟩
 go_wp2
 go_end0
 exact ⟨rfl,ov,H.out.below (z7f _ _),HM.out.below (z7f _ _),Chg.of_below (z7f _ _), .inl rfl⟩
end
end Go.Proofs.YtkenoofmkbghiaaGreatDoor
