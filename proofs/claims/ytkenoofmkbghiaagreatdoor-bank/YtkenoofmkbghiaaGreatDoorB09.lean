import Derived.Test.YtkenoofmkbghiaaGreatDoorB07
set_option maxRecDepth 100000
set_option maxHeartbeats 4000000
namespace Go.Proofs.YtkenoofmkbghiaaGreatDoor
open Go.RowKit
attribute [local go_sem] zac zad zqc zcn zhh ze8 Jy zdi zjk Fw zjo zdl Fx
section
variable{w:World}{b bm:Nat}{iv ov:Value}{T:Th}{m:Nat->Int}
theorem yao(h:ThAt w b bm iv ov T)(hm:MemAt w bm m)(x y z:Vl)(hx:x.ok)(hy:y.ok)(hz:z.ok)(n d:Int)(d0:0<=d)(d1:d<8)(h0:0<=z6z x n T)(h1:z6z x n T<256)(hva:z6x m T.q (z6z x n T).toNat=y.of T):
  Cl 254 #[.agg #[.int .i64 d,z7o x, .int .i64 n,z7o y,z7o z],ifc b] w λe w'=>e= .returned (.tuple #[])/\
   Eff w b bm iv ov ({T with q:=[]}.setR d.toNat 1) (z60 (z6x m T.q) (z6z x n T).toNat (z.of T)) w':=by
 have hmf: ∀(fn:Fn) (first cap:Array Value) (w:World),(Instr.makeFunc fn first cap).run Tryz.prog w= .ok (.func fn first cap) w:=λ_ _ _ _=>rfl
 have hon:=λ(W:World) (ov':Value) (h':ThAt W b bm iv ov' {T with q:=[]})=>z8h h' x hx n h0 h1
 obtain ⟨t,u,hxe⟩:=z7y x
 obtain ⟨ty,uy,Fy,hye,hmey,heny,hvy⟩:=z77 y hy
 obtain ⟨tz,uz,Fz,hze,hmez,henz,hvz⟩:=z77 z hz
 rw [hxe] at hon⊢
 rw [hye,hze]
 have HV:Hid (∀(W:World) (ov':Value),ThAt W b bm iv ov' {T with q:=[]}->Cl Fy #[uy,ifc b] W λe w'=>e= .returned (.int .i64 (y.of T))/\w'=W):=λW ov' h=>hvy W b bm iv ov' {T with q:=[]} h
 have HZ:Hid (∀(W:World) (ov':Value),ThAt W b bm iv ov' {T with q:=[]}->Cl Fz #[uz,ifc b] W λe w'=>e= .returned (.int .i64 (z.of T))/\w'=W):=λW ov' h=>hvz W b bm iv ov' {T with q:=[]} h
 generalize y.of T=v at HV hva⊢
 generalize z.of T=v2 at HZ⊢
 clear hvy hye hvz hze
 have HO:=hid hon
 have H:=hid h
 have HM:=hid hm
 have hb:=h.lt
 clear hon hxe hx h hm hy hz
 have e9:z6z x n {T with q:=[]}=z6z x n T:=by simp [z6z,Vl.of]
 have HO':Hid (∀(W:World) (ov':Value),ThAt W b bm iv ov' {T with q:=[]}->Cl 251 #[.agg #[.iface t u, .int .i64 n],ifc b] W λe w'=>e= .returned (.tuple #[.int .i64 (z6z x n T), .bool true])/\Below W.heap.size W w'):=λW ov' h'=>by have:=HO.out W ov' h';rw [e9] at this;exact this
 clear e9 HO
 have hdr:=z8p (H.out.below (z7f w (.cells #[.int .i64 d, .iface t u, .int .i64 n, .iface ty uy, .iface tz uz] 253))) (HM.out.below (z7f _ _))
 have HDR:=hid hdr
 clear hdr
 generalize z6z x n T=a at*
 generalize z6x m T.q=m1 at*
 have HVA:=hid hva
 clear hva
 have hne: ∀i,¬z9n b bm ov w.heap.size i:=λi e=>by
  rcases e with e|e|e
  ·omega
  ·have:=HM.out.lt;omega
  ·exact ysx
 have HNE:=hid hne
 clear hne
 go_enter Tryz.func254,Tryz.ntmps254
 go_wp2_with fail
 refine HDR.out.mono ?_
 rintro e w1 ⟨rfl,ov1,ht1,hm1,hc1,ho1⟩
 have b0:=(hc1.cell w.heap.size 0 yuf (HNE.out _)).trans (show _=some (Value.int .i64 d) by simp [go_sem])
 have b1:=(hc1.cell w.heap.size 1 yuf (HNE.out _)).trans (show _=some (Value.iface t u) by simp [go_sem])
 have b2:=(hc1.cell w.heap.size 2 yuf (HNE.out _)).trans (show _=some (Value.int .i64 n) by simp [go_sem])
 have b3:=(hc1.cell w.heap.size 3 yuf (HNE.out _)).trans (show _=some (Value.iface ty uy) by simp [go_sem])
 have b4:=(hc1.cell w.heap.size 4 yuf (HNE.out _)).trans (show _=some (Value.iface tz uz) by simp [go_sem])
 have hs1:w.heap.size<w1.heap.size:=yvt
 have HT:=hid ht1
 have HT2:=hid hm1
 have HC:=hid hc1
 have HO1:=hid ho1
 clear ht1 hm1 hc1 ho1 HDR
 go_wp2_with fail
 refine (HO'.out _ _ HT.out).mono ?_
 rintro e w2 ⟨rfl,hb2⟩
 have c0:=(hb2.cell (p:=⟨w.heap.size,0,none⟩) hs1).trans b0
 have c3:=(hb2.cell (p:=⟨w.heap.size,3,none⟩) hs1).trans b3
 have c4:=(hb2.cell (p:=⟨w.heap.size,4,none⟩) hs1).trans b4
 have hs2:w.heap.size<w2.heap.size:=Nat.lt_of_lt_of_le hs1 hb2.size
 have HB2:=hid hb2
 clear hb2 HO' b0 b1 b2 b3 b4
 have hse:z67 (List.reverse ([]:List (Int×Int))) a (m1 a.toNat)=m1 a.toNat:=by simp [z67]
 have hld:=yal (HT.out.below HB2.out.drew) (HT2.out.below HB2.out.drew) a h0 h1
 simp only [hse] at hld
 have HLD:=hid hld
 clear hld hse
 have hne:(m1 a.toNat !=v)=false:=by simp [HVA.out]
 generalize m1 a.toNat=va at hne HLD HVA
 go_wp2
 go_region_with (first
  |(go_at_call 270;refine HLD.out.mono ?_;rintro e w3 ⟨rfl,hb3⟩;have d0':=(hb3.cell (p:=⟨w.heap.size,0,none⟩) hs2).trans c0;have d3':=(hb3.cell (p:=⟨w.heap.size,3,none⟩) hs2).trans c3;have d4':=(hb3.cell (p:=⟨w.heap.size,4,none⟩) hs2).trans c4;have hs3:=Nat.lt_of_lt_of_le hs2 hb3.size;have HB3:=hid (HB2.out.drew.trans (hb3.mono HB2.out.size));clear hb3)
  |(with_reducible refine (HV.out _ ov1 (HT.out.below HB3.out)).mono ?_;rintro e w' ⟨rfl,rfl⟩)
  |(with_reducible refine (HV.out _ ov1 (HT.out.below HB2.out.drew)).mono ?_;rintro e w' ⟨rfl,rfl⟩))
 all_goals
  go_wp2
  go_region_with (first
   |(go_at_call 52;refine (z8o (HT.out.below HB3.out.drew) (HT2.out.below HB3.out.drew) a v2 h0 h1).mono ?_;rintro e w4 ⟨rfl,ov4,ht4,hm4,hc4,ho4⟩;have f0:=ya4 HNE.out (ych HO1.out) hc4 hs3 d0';have HT4:=hid ht4;have HM4:=hid hm4;have HC4:=hid hc4;have HO4:=hid ho4;clear ht4 hm4 hc4 ho4)
   |(with_reducible refine (HZ.out _ ov1 (HT.out.below HB3.out.drew)).mono ?_;rintro e w' ⟨rfl,rfl⟩))
  all_goals go_wp2_with (go_at_call 246;refine (z79 b d _ _ _ d0 d1 (HT4.out.regs _ yue) (HT4.out.free _ yue)).mono ?_;rintro e w5 ⟨rfl,rfl⟩)
  all_goals go_end0
  all_goals
   refine ⟨rfl,?_⟩
   exact (Eff.two ⟨HT.out,HT2.out,HC.out,HO1.out⟩ (Eff.two (ov1:=ov4) ((Eff.mk HT4.out HM4.out HC4.out HO4.out).base4 HB3.out.drew) (HT4.out.effReg HM4.out yue 1))).base (z7f _ _)
theorem yap(h:ThAt w b bm iv ov T)(hm:MemAt w bm m)(x y z:Vl)(hx:x.ok)(hy:y.ok)(hz:z.ok)(n d:Int)(d0:0<=d)(d1:d<8)(h0:0<=z6z x n T)(h1:z6z x n T<256)(hva: ¬z6x m T.q (z6z x n T).toNat=y.of T):
  Cl 254 #[.agg #[.int .i64 d,z7o x, .int .i64 n,z7o y,z7o z],ifc b] w λe w'=>e= .returned (.tuple #[])/\
   Eff w b bm iv ov ({T with q:=[]}.setR d.toNat 0) (z6x m T.q) w':=by
 have hmf: ∀(fn:Fn) (first cap:Array Value) (w:World),(Instr.makeFunc fn first cap).run Tryz.prog w= .ok (.func fn first cap) w:=λ_ _ _ _=>rfl
 have hon:=λ(W:World) (ov':Value) (h':ThAt W b bm iv ov' {T with q:=[]})=>z8h h' x hx n h0 h1
 obtain ⟨t,u,hxe⟩:=z7y x
 obtain ⟨ty,uy,Fy,hye,hmey,heny,hvy⟩:=z77 y hy
 obtain ⟨tz,uz,Fz,hze,hmez,henz,hvz⟩:=z77 z hz
 rw [hxe] at hon⊢
 rw [hye,hze]
 have HV:Hid (∀(W:World) (ov':Value),ThAt W b bm iv ov' {T with q:=[]}->Cl Fy #[uy,ifc b] W λe w'=>e= .returned (.int .i64 (y.of T))/\w'=W):=λW ov' h=>hvy W b bm iv ov' {T with q:=[]} h
 have HZ:Hid (∀(W:World) (ov':Value),ThAt W b bm iv ov' {T with q:=[]}->Cl Fz #[uz,ifc b] W λe w'=>e= .returned (.int .i64 (z.of T))/\w'=W):=λW ov' h=>hvz W b bm iv ov' {T with q:=[]} h
 generalize y.of T=v at HV hva⊢
 generalize z.of T=v2 at HZ⊢
 clear hvy hye hvz hze
 have HO:=hid hon
 have H:=hid h
 have HM:=hid hm
 have hb:=h.lt
 clear hon hxe hx h hm hy hz
 have e9:z6z x n {T with q:=[]}=z6z x n T:=by simp [z6z,Vl.of]
 have HO':Hid (∀(W:World) (ov':Value),ThAt W b bm iv ov' {T with q:=[]}->Cl 251 #[.agg #[.iface t u, .int .i64 n],ifc b] W λe w'=>e= .returned (.tuple #[.int .i64 (z6z x n T), .bool true])/\Below W.heap.size W w'):=λW ov' h'=>by have:=HO.out W ov' h';rw [e9] at this;exact this
 clear e9 HO
 have hdr:=z8p (H.out.below (z7f w (.cells #[.int .i64 d, .iface t u, .int .i64 n, .iface ty uy, .iface tz uz] 253))) (HM.out.below (z7f _ _))
 have HDR:=hid hdr
 clear hdr
 generalize z6z x n T=a at*
 generalize z6x m T.q=m1 at*
 have HVA:=hid hva
 clear hva
 have hne: ∀i,¬z9n b bm ov w.heap.size i:=λi e=>by
  rcases e with e|e|e
  ·omega
  ·have:=HM.out.lt;omega
  ·exact ysx
 have HNE:=hid hne
 clear hne
 go_enter Tryz.func254,Tryz.ntmps254
 go_wp2_with fail
 refine HDR.out.mono ?_
 rintro e w1 ⟨rfl,ov1,ht1,hm1,hc1,ho1⟩
 have b0:=(hc1.cell w.heap.size 0 yuf (HNE.out _)).trans (show _=some (Value.int .i64 d) by simp [go_sem])
 have b1:=(hc1.cell w.heap.size 1 yuf (HNE.out _)).trans (show _=some (Value.iface t u) by simp [go_sem])
 have b2:=(hc1.cell w.heap.size 2 yuf (HNE.out _)).trans (show _=some (Value.int .i64 n) by simp [go_sem])
 have b3:=(hc1.cell w.heap.size 3 yuf (HNE.out _)).trans (show _=some (Value.iface ty uy) by simp [go_sem])
 have b4:=(hc1.cell w.heap.size 4 yuf (HNE.out _)).trans (show _=some (Value.iface tz uz) by simp [go_sem])
 have hs1:w.heap.size<w1.heap.size:=yvt
 have HT:=hid ht1
 have HT2:=hid hm1
 have HC:=hid hc1
 have HO1:=hid ho1
 clear ht1 hm1 hc1 ho1 HDR
 go_wp2_with fail
 refine (HO'.out _ _ HT.out).mono ?_
 rintro e w2 ⟨rfl,hb2⟩
 have c0:=(hb2.cell (p:=⟨w.heap.size,0,none⟩) hs1).trans b0
 have c3:=(hb2.cell (p:=⟨w.heap.size,3,none⟩) hs1).trans b3
 have c4:=(hb2.cell (p:=⟨w.heap.size,4,none⟩) hs1).trans b4
 have hs2:w.heap.size<w2.heap.size:=Nat.lt_of_lt_of_le hs1 hb2.size
 have HB2:=hid hb2
 clear hb2 HO' b0 b1 b2 b3 b4
 have hse:z67 (List.reverse ([]:List (Int×Int))) a (m1 a.toNat)=m1 a.toNat:=by simp [z67]
 have hld:=yal (HT.out.below HB2.out.drew) (HT2.out.below HB2.out.drew) a h0 h1
 simp only [hse] at hld
 have HLD:=hid hld
 clear hld hse
 have hne:(m1 a.toNat !=v)=true:=by have:=HVA.out;simpa using this
 generalize m1 a.toNat=va at hne HLD HVA
 go_wp2
 go_region_with (first
  |(go_at_call 270;refine HLD.out.mono ?_;rintro e w3 ⟨rfl,hb3⟩;have d0':=(hb3.cell (p:=⟨w.heap.size,0,none⟩) hs2).trans c0;have d3':=(hb3.cell (p:=⟨w.heap.size,3,none⟩) hs2).trans c3;have HB3:=hid (HB2.out.drew.trans (hb3.mono HB2.out.size));clear hb3)
  |(with_reducible refine (HV.out _ ov1 (HT.out.below HB3.out)).mono ?_;rintro e w' ⟨rfl,rfl⟩)
  |(with_reducible refine (HV.out _ ov1 (HT.out.below HB2.out.drew)).mono ?_;rintro e w' ⟨rfl,rfl⟩))
 all_goals go_wp2_with (go_at_call 246;refine (z79 b d _ _ _ d0 d1 ((HT.out.below HB3.out).regs _ yue) ((HT.out.below HB3.out).free _ yue)).mono ?_;rintro e w5 ⟨rfl,rfl⟩)
 all_goals refine bodyPost_ret (results_none rfl _ _ _) rfl ?_
 all_goals
  refine ⟨rfl,?_⟩
  exact (Eff.two ⟨HT.out,HT2.out,HC.out,HO1.out⟩ (((HT.out.below HB3.out).effReg (HT2.out.below HB3.out) yue 0).base HB3.out)).base (z7f _ _)
end
end Go.Proofs.YtkenoofmkbghiaaGreatDoor
