import Derived.Test.YtiiepngikigmbaaGreatDoorP09
set_option maxRecDepth 100000
set_option maxHeartbeats 1000000
namespace Go.Proofs.YtiiepngikigmbaaGreatDoor
open Go.RowKit
variable{w w':World}{ov' ov1:Value}{T':Th}{m':Nat->Int}
attribute [local go_sem] zac zad zqc zcn zhh ze8 Jy zdi zjk Fw zjo zdl Fx
section
variable{w:World}{b bm:Nat}{iv ov:Value}{T:Th}{m:Nat->Int}
theorem z7y(x:Vl): ∃t u,z7o x= .iface t u:=ym8
structure Eff4(w:World)(b bm:Nat)(iv ov ov':Value)(T':Th)(m':Nat->Int)(w':World):Prop where
 t:ThAt w' b bm iv ov' T'
 m:MemAt w' bm m'
 c:Chg (z9n b bm ov) w w'
 o:ov'.ownBlock=ov.ownBlock\/ ∃k,ov'.ownBlock=some k/\w.heap.size<=k
theorem Eff.mk(h1:ThAt w' b bm iv ov' T')(h2:MemAt w' bm m')(h3:Chg (z9n b bm ov) w w')(h4:ov'.ownBlock=ov.ownBlock\/ ∃k,ov'.ownBlock=some k/\w.heap.size<=k):Eff4 w b bm iv ov ov' T' m' w':=⟨h1,h2,h3,h4⟩
theorem Eff4.base4{W:World}(h:Eff4 W b bm iv ov ov' T' m' w')(hB:Below w.heap.size w W):ThAt w' b bm iv ov' T'/\MemAt w' bm m'/\Chg (z9n b bm ov) w w'/\(ov'.ownBlock=ov.ownBlock\/ ∃k,ov'.ownBlock=some k/\w.heap.size<=k):=
 ⟨h.t,h.m,(Chg.of_below hB).trans h.c,h.o.imp id (λ⟨k,e,hk⟩=>⟨k,e,Nat.le_trans hB.size hk⟩)⟩
theorem Eff.two{w1 w2:World}{T1 T2:Th}{m1 m2:Nat->Int}(h1:ThAt w1 b bm iv ov1 T1/\MemAt w1 bm m1/\Chg (z9n b bm ov) w w1/\(ov1.ownBlock=ov.ownBlock\/ ∃k,ov1.ownBlock=some k/\w.heap.size<=k))(h2:Eff w1 b bm iv ov1 T2 m2 w2):Eff w b bm iv ov T2 m2 w2:=
 let ⟨_,a,c,d,e⟩:=h2;Eff.then h1.2.2.1 h1.2.2.2 a c d e
theorem ych{o:Obj}(h:ov1.ownBlock=ov.ownBlock\/ ∃k,ov1.ownBlock=some k/\(w.alloc o).heap.size<=k):ov1.ownBlock=ov.ownBlock\/ ∃k,ov1.ownBlock=some k/\w.heap.size<k:=
 h.imp id (λ⟨k,a,c⟩=>⟨k,a,by simp at c;omega⟩)
theorem ya4{w3 w4:World}{i:Nat}{v:Option Value}(hne: ∀i,¬z9n b bm ov w.heap.size i)(ho:ov1.ownBlock=ov.ownBlock\/ ∃k,ov1.ownBlock=some k/\w.heap.size<k)
  (hc:Chg (z9n b bm ov1) w3 w4) (hs:w.heap.size<w3.heap.size) (hv:w3.cell? ⟨w.heap.size,i,none⟩=v):w4.cell? ⟨w.heap.size,i,none⟩=v:=by
 refine (hc.cell _ i hs λe=>?_).trans hv
 rcases e with e|e|e
 ·exact hne i (.inl e)
 ·exact hne i (.inr (.inl e))
 ·rcases ho with ho|⟨k,ho,hk⟩
  ·exact hne i (.inr (.inr (ho▸e)))
  ·rw [ho] at e;simp at e;omega
theorem ybs(h:ThAt w b bm iv ov T)(hm:MemAt w bm m)(x y:Vl)(hx:x.ok)(n d:Int)(h0: ¬(0<=z6z x n T/\z6z x n T<256)):
  Cl 245 #[.agg #[.int .i64 d,z7o x, .int .i64 n,z7o y],ifc b] w λe w'=>e= .returned (.tuple #[])/\Eff w b bm iv ov {T with q:=[],st:=9} (z6x m T.q) w':=by
 have hon:=λ(W:World) (ov':Value) (h':ThAt W b bm iv ov' {T with q:=[]}) (hm':MemAt W bm (z6x m T.q))=>z8q h' hm' x hx n h0
 obtain ⟨t,u,hxe⟩:=z7y x
 obtain ⟨t',u',hye⟩:=z7y y
 rw [hxe] at hon⊢
 rw [hye]
 have HO:=hid hon
 have H:=hid h
 have HM:=hid hm
 have hb:=h.lt
 clear hon hxe hx h hm hye
 go_enter Tryz.func245,Tryz.ntmps245
 go_wp2_with fail
 refine (z8p (H.out.below (z7f _ _)) (HM.out.below (z7f _ _))).mono ?_
 rintro e w1 ⟨rfl,ov1,ht1,hm1,hc1,ho1⟩
 have hne: ∀i,¬z9n b bm ov w.heap.size i:=λi e=>by
  rcases e with e|e|e
  ·omega
  ·have:=HM.out.lt;omega
  ·exact ykp
 have b1:=(hc1.cell w.heap.size 1 yl6 (hne _)).trans (show _=some (Value.iface t u) by simp [go_sem])
 have b2:=(hc1.cell w.heap.size 2 yl6 (hne _)).trans (show _=some (Value.int .i64 n) by simp [go_sem])
 have HT:=hid ht1
 have HT2:=hid hm1
 have HC:=hid hc1
 have HO1:=hid ho1
 clear ht1 hm1 hc1 ho1 hne
 go_wp2_with fail
 refine (HO.out _ _ HT.out HT2.out).mono ?_
 rintro e w2 ⟨rfl,h2⟩
 have H2:=hid h2
 clear h2 HO
 go_wp2
 refine bodyPost_ret (results_none rfl _ _ _) rfl ?_
 exact ⟨rfl,(Eff.two ⟨HT.out,HT2.out,HC.out,HO1.out⟩ H2.out).base (z7f _ _)⟩
end
attribute [local go_sem] zac zad zqc zcn zhh ze8 Jy zdi zjk Fw zjo zdl Fx
section
variable{w:World}{b bm:Nat}{iv ov:Value}{T:Th}{m:Nat->Int}
theorem yc2(h:ThAt w b bm iv ov T)(hm:MemAt w bm m)(x y z:Vl)(hx:x.ok)(n d:Int)(h0: ¬(0<=z6z x n T/\z6z x n T<256)):
  Cl 244 #[.agg #[.int .i64 d,z7o x, .int .i64 n,z7o y,z7o z],ifc b] w λe w'=>e= .returned (.tuple #[])/\Eff w b bm iv ov {T with q:=[],st:=9} (z6x m T.q) w':=by
 have hon:=λ(W:World) (ov':Value) (h':ThAt W b bm iv ov' {T with q:=[]}) (hm':MemAt W bm (z6x m T.q))=>z8q h' hm' x hx n h0
 obtain ⟨t,u,hxe⟩:=z7y x
 obtain ⟨t',u',hye⟩:=z7y y
 obtain ⟨t2,u2,hze⟩:=z7y z
 rw [hxe] at hon⊢
 rw [hye,hze]
 have HO:=hid hon
 have H:=hid h
 have HM:=hid hm
 have hb:=h.lt
 clear hon hxe hx h hm hye hze
 go_enter Tryz.func244,Tryz.ntmps244
 go_wp2_with fail
 refine (z8p (H.out.below (z7f _ _)) (HM.out.below (z7f _ _))).mono ?_
 rintro e w1 ⟨rfl,ov1,ht1,hm1,hc1,ho1⟩
 have hne: ∀i,¬z9n b bm ov w.heap.size i:=λi e=>by
  rcases e with e|e|e
  ·omega
  ·have:=HM.out.lt;omega
  ·exact ykp
 have b1:=(hc1.cell w.heap.size 1 yl6 (hne _)).trans (show _=some (Value.iface t u) by simp [go_sem])
 have b2:=(hc1.cell w.heap.size 2 yl6 (hne _)).trans (show _=some (Value.int .i64 n) by simp [go_sem])
 have HT:=hid ht1
 have HT2:=hid hm1
 have HC:=hid hc1
 have HO1:=hid ho1
 clear ht1 hm1 hc1 ho1 hne
 go_wp2_with fail
 refine (HO.out _ _ HT.out HT2.out).mono ?_
 rintro e w2 ⟨rfl,h2⟩
 have H2:=hid h2
 clear h2 HO
 go_wp2
 refine bodyPost_ret (results_none rfl _ _ _) rfl ?_
 exact ⟨rfl,(Eff.two ⟨HT.out,HT2.out,HC.out,HO1.out⟩ H2.out).base (z7f _ _)⟩
end
attribute [local go_sem] zac zad zqc zcn zhh ze8 Jy zdi zjk Fw zjo zdl Fx
section
variable{w:World}{b bm:Nat}{iv ov:Value}{T:Th}{m:Nat->Int}
theorem z8k(x:Vl): ∃t u,z7o x= .iface t u:=ym8
theorem ya5(h:ThAt w b bm iv ov T)(hm:MemAt w bm m)(x y:Vl)(hx:x.ok)(n:Int)(h0: ¬(0<=z6z x n T/\z6z x n T<256)):
  Cl 243 #[.agg #[z7o x, .int .i64 n,z7o y],ifc b] w λe w'=>e= .returned (.tuple #[])/\Eff w b bm iv ov {T with st:=9} m w':=by
 have hon:=λ(W:World) (hB:Below w.heap.size w W)=>z8q (h.below hB) (hm.below hB) x hx n h0
 obtain ⟨t,u,hxe⟩:=z8k x
 obtain ⟨t',u',hye⟩:=z8k y
 rw [hxe] at hon⊢
 rw [hye]
 have HO:=hid hon
 clear hon hxe hx h hm hye
 go_enter Tryz.func243,Tryz.ntmps243
 go_wp2_with fail
 refine (HO.out _ (z7f _ _)).mono ?_
 rintro e w1 ⟨rfl,h1⟩
 have H1:=hid h1
 clear h1 HO
 go_wp2
 go_end0
 exact ⟨rfl,H1.out.base (z7f _ _)⟩
theorem ya6(h:ThAt w b bm iv ov T)(hm:MemAt w bm m)(x:Vl)(hx:x.ok)(n v:Int)(h0:0<=z6z x n T)(h1:z6z x n T<256):
  Cl 243 #[.agg #[z7o x, .int .i64 n, .iface 283 (.int .i64 v)],ifc b] w λe w'=>e= .returned (.tuple #[])/\Eff w b bm iv ov {T with q:=(z62 T.q m (z6z x n T) v).1} (z62 T.q m (z6z x n T) v).2 w':=by
 have hmf: ∀(fn:Fn) (first cap:Array Value) (w:World),(Instr.makeFunc fn first cap).run Tryz.prog w= .ok (.func fn first cap) w:=λ_ _ _ _=>rfl
 have H:=hid h
 have HM:=hid hm
 clear h hm
 have hon:=λ(W:World) (hB:Below w.heap.size w W)=>z8h (H.out.below hB) x hx n h0 h1
 obtain ⟨t,u,hxe⟩:=z8k x
 rw [hxe] at hon⊢
 have HO:=hid hon
 clear hon hxe hx
 generalize z6z x n T=a at*
 go_enter Tryz.func243,Tryz.ntmps243
 go_wp2_with fail
 refine (HO.out _ (z7f _ _)).mono ?_
 rintro e w1 ⟨rfl,hb1⟩
 have hd:=yam (i:=2) (v:=some (.iface 283 (.int .i64 v))) hb1 ymi
 have HB:=hid ((z7f w _).trans (hb1.mono yl6))
 clear hb1 HO
 go_wp2
 go_region_with (first
  |(go_at_call 252;refine (z8g _ _ _).mono ?_;rintro e w' ⟨rfl,rfl⟩)
  |(go_at_call 264;refine (yce (H.out.below HB.out.drew) (HM.out.below HB.out.drew) a v h0 h1).mono ?_;rintro e w2 ⟨rfl,h2⟩;have H2:=hid h2;clear h2))
 all_goals go_wp2
 all_goals go_end0
 all_goals exact ⟨rfl,H2.out.base HB.out.drew⟩
theorem ya7(h:ThAt w b bm iv ov T)(hm:MemAt w bm m)(x:Vl)(hx:x.ok)(n v:Int)(v0:0<=v)(v1:v<8)(h0:0<=z6z x n T)(h1:z6z x n T<256):
  Cl 243 #[.agg #[z7o x, .int .i64 n, .iface 227 (.int .i64 v)],ifc b] w λe w'=>e= .returned (.tuple #[])/\Eff w b bm iv ov {T with q:=(z62 T.q m (z6z x n T) (T.r v.toNat)).1} (z62 T.q m (z6z x n T) (T.r v.toNat)).2 w':=by
 have hmf: ∀(fn:Fn) (first cap:Array Value) (w:World),(Instr.makeFunc fn first cap).run Tryz.prog w= .ok (.func fn first cap) w:=λ_ _ _ _=>rfl
 have H:=hid h
 have HM:=hid hm
 clear h hm
 have hon:=λ(W:World) (hB:Below w.heap.size w W)=>z8h (H.out.below hB) x hx n h0 h1
 obtain ⟨t,u,hxe⟩:=z8k x
 rw [hxe] at hon⊢
 have HO:=hid hon
 clear hon hxe hx
 generalize z6z x n T=a at*
 go_enter Tryz.func243,Tryz.ntmps243
 go_wp2_with fail
 refine (HO.out _ (z7f _ _)).mono ?_
 rintro e w1 ⟨rfl,hb1⟩
 have hd:=yam (i:=2) (v:=some (.iface 227 (.int .i64 v))) hb1 ymi
 have HB:=hid ((z7f w _).trans (hb1.mono yl6))
 have hreg:=(H.out.below HB.out.drew).regs v.toNat yl5
 clear hb1 HO
 go_wp2
 go_region_with (first
  |(go_at_call 233;refine (z8f b v (T.r v.toNat) _ v0 v1 hreg).mono ?_;rintro e w' ⟨rfl,rfl⟩)
  |(go_at_call 264;refine (yce (H.out.below HB.out.drew) (HM.out.below HB.out.drew) a (T.r v.toNat) h0 h1).mono ?_;rintro e w2 ⟨rfl,h2⟩;have H2:=hid h2;clear h2))
 all_goals go_wp2
 all_goals go_end0
 all_goals exact ⟨rfl,H2.out.base HB.out.drew⟩
end
end Go.Proofs.YtiiepngikigmbaaGreatDoor
