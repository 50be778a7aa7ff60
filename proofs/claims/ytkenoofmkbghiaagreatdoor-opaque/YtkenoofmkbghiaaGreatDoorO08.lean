import Derived.Test.YtkenoofmkbghiaaGreatDoorO07
set_option maxRecDepth 100000
set_option maxHeartbeats 2000000
namespace Go.Proofs.YtkenoofmkbghiaaGreatDoor
open Go.RowKit
attribute [local go_sem] zac zad zqc zcn zhh ze8 Jy zdi zjk Fw zjo zdl Fx
section
variable{w:World}{b bm:Nat}{iv ov:Value}{T:Th}{m:Nat->Int}
theorem ybw(h:ThAt w b bm iv ov T)(hm:MemAt w bm m)(x y:Vl)(hx:x.ok)(hy:y.ok)(n d:Int)(d0:0<=d)(d1:d<8)(h0:0<=z6z x n T)(h1:z6z x n T<256):
  Cl 255 #[.agg #[.int .i64 d,z7o x, .int .i64 n,z7o y],ifc b] w λe w'=>e= .returned (.tuple #[])/\
   Eff w b bm iv ov ({T with q:=[]}.setR d.toNat (z6x m T.q (z6z x n T).toNat)) (z60 (z6x m T.q) (z6z x n T).toNat (wrap64 (z6x m T.q (z6z x n T).toNat+y.of T))) w':=by
 have hmf: ∀(fn:Fn) (first cap:Array Value) (w:World),(Instr.makeFunc fn first cap).run Tryz.prog w= .ok (.func fn first cap) w:=λ_ _ _ _=>rfl
 have hon:=λ(W:World) (ov':Value) (h':ThAt W b bm iv ov' {T with q:=[]})=>z8h h' x hx n h0 h1
 obtain ⟨t,u,hxe⟩:=z7y x
 obtain ⟨ty,uy,Fy,hye,hmey,heny,hvy⟩:=z77 y hy
 rw [hxe] at hon⊢
 rw [hye]
 have HV:Hid (∀(W:World) (ov':Value),ThAt W b bm iv ov' {T with q:=[]}->Cl Fy #[uy,ifc b] W λe w'=>e= .returned (.int .i64 (y.of T))/\w'=W):=λW ov' h=>hvy W b bm iv ov' {T with q:=[]} h
 generalize y.of T=v at HV⊢
 clear hvy hye
 have HO:=hid hon
 have H:=hid h
 have HM:=hid hm
 have hb:=h.lt
 clear hon hxe hx h hm hy
 have e9:z6z x n {T with q:=[]}=z6z x n T:=by simp [z6z,Vl.of]
 have HO':Hid (∀(W:World) (ov':Value),ThAt W b bm iv ov' {T with q:=[]}->Cl 251 #[.agg #[.iface t u, .int .i64 n],ifc b] W λe w'=>e= .returned (.tuple #[.int .i64 (z6z x n T), .bool true])/\Below W.heap.size W w'):=λW ov' h'=>by have:=HO.out W ov' h';rw [e9] at this;exact this
 clear e9 HO
 have hdr:=z8p (H.out.below (z7f w (.cells #[.int .i64 d, .iface t u, .int .i64 n, .iface ty uy] 255))) (HM.out.below (z7f _ _))
 have HDR:=hid hdr
 clear hdr
 generalize z6z x n T=a at*
 generalize z6x m T.q=m1 at*
 have hne: ∀i,¬z9n b bm ov w.heap.size i:=λi e=>by
  rcases e with e|e|e
  ·omega
  ·have:=HM.out.lt;omega
  ·exact ys0
 have HNE:=hid hne
 clear hne
 go_enter Tryz.func255,Tryz.ntmps255
 go_wp2_with fail
 refine HDR.out.mono ?_
 rintro e w1 ⟨rfl,ov1,ht1,hm1,hc1,ho1⟩
 have b0:=(hc1.cell w.heap.size 0 yun (HNE.out _)).trans (show _=some (Value.int .i64 d) by simp [go_sem])
 have b1:=(hc1.cell w.heap.size 1 yun (HNE.out _)).trans (show _=some (Value.iface t u) by simp [go_sem])
 have b2:=(hc1.cell w.heap.size 2 yun (HNE.out _)).trans (show _=some (Value.int .i64 n) by simp [go_sem])
 have b3:=(hc1.cell w.heap.size 3 yun (HNE.out _)).trans (show _=some (Value.iface ty uy) by simp [go_sem])
 have hs1:w.heap.size<w1.heap.size:=yv2
 have HT:=hid ht1
 have HT2:=hid hm1
 have HC:=hid hc1
 have HO1:=hid ho1
 clear ht1 hm1 hc1 ho1 HDR
 go_wp2_with fail
 refine (HO'.out _ _ HT.out).mono ?_
 rintro e w2 ⟨rfl,hb2⟩
 have c0:=(hb2.cell (p:=⟨w.heap.size,0,none⟩) hs1).trans b0
 have c3:=(hb2.cell (p:=⟨w.heap.size,3,none⟩) hs1).trans b3
 have hs2:w.heap.size<w2.heap.size:=Nat.lt_of_lt_of_le hs1 hb2.size
 have HB2:=hid hb2
 clear hb2 HO' b0 b1 b2 b3
 go_wp2_with fail
 refine (yal (HT.out.below HB2.out) (HT2.out.below HB2.out) a h0 h1).mono ?_
 rintro e w3 ⟨rfl,hb3⟩
 have d0':=(hb3.cell (p:=⟨w.heap.size,0,none⟩) hs2).trans c0
 have d3':=(hb3.cell (p:=⟨w.heap.size,3,none⟩) hs2).trans c3
 have hs3:w.heap.size<w3.heap.size:=Nat.lt_of_lt_of_le hs2 hb3.size
 have HB3:=hid (HB2.out.trans (hb3.mono HB2.out.size))
 clear hb3 HB2 c0 c3
 have hse:z67 (List.reverse ([]:List (Int×Int))) a (m1 a.toNat)=m1 a.toNat:=by simp [z67]
 simp only [hse]
 clear hse
 generalize hva:m1 a.toNat=va
 have HVA:=hid hva
 clear hva
 go_wp2
 go_region_with (first
  |(go_at_call 52;refine (z8o (HT.out.below HB3.out.drew) (HT2.out.below HB3.out.drew) a (IntKind.i64.wrap (va+v)) h0 h1).mono ?_;rintro e w4 ⟨rfl,ov4,ht4,hm4,hc4,ho4⟩;have f0:=ya4 HNE.out (ych HO1.out) hc4 hs3 d0';have HT4:=hid ht4;have HM4:=hid hm4;have HC4:=hid hc4;have HO4:=hid ho4;clear ht4 hm4 hc4 ho4)
  |(with_reducible refine (HV.out _ ov1 (HT.out.below HB3.out.drew)).mono ?_;rintro e w' ⟨rfl,rfl⟩))
 all_goals go_wp2_with (go_at_call 246;refine (z79 b d _ _ _ d0 d1 (HT4.out.regs _ yum) (HT4.out.free _ yum)).mono ?_;rintro e w5 ⟨rfl,rfl⟩)
 all_goals go_end0
 all_goals
  refine ⟨rfl,?_⟩
  rw [HVA.out,<-IntWalk.i64_left]
  exact (Eff.two ⟨HT.out,HT2.out,HC.out,HO1.out⟩ (Eff.two (ov1:=ov4) ((Eff.mk HT4.out HM4.out HC4.out HO4.out).base4 HB3.out.drew) (HT4.out.effReg HM4.out yum va))).base (z7f _ _)
end
end Go.Proofs.YtkenoofmkbghiaaGreatDoor
