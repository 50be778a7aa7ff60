import Derived.Test.YtiiepngikigmbaaGreatDoorP07
set_option maxRecDepth 100000
set_option maxHeartbeats 1000000
namespace Go.Proofs.YtiiepngikigmbaaGreatDoor
open Go.RowKit
attribute [local go_sem] zac zad zqc zcn zhh ze8 Jy zdi zjk Fw zjo zdl Fx
section
variable{w:World}{b bm:Nat}{iv ov:Value}{T:Th}{m:Nat->Int}
theorem ygy(h:ThAt w b bm iv ov T)(hm:MemAt w bm m)(x:Vl)(hx:x.ok)(hl:T.out.length<1099511627776):
  Cl 247 #[.agg #[z7o x],ifc b] w λe w'=>e= .returned (.tuple #[])/\Eff w b bm iv ov {T with out:=T.out++[x.of T]} m w':=by
 have hmf: ∀(fn:Fn) (first cap:Array Value) (w:World),(Instr.makeFunc fn first cap).run Tryz.prog w= .ok (.func fn first cap) w:=λ_ _ _ _=>rfl
 obtain ⟨r,v⟩:=x
 have H:=hid h
 have HM:=hid hm
 have HL:=hid hl
 cases r
 ·simp only [z7o,Vl.of,Bool.false_eq_true,if_false]
  clear h hm hl hx
  go_enter Tryz.func247,Tryz.ntmps247
  go_wp2
  go_region_with (first
   |(go_at_call 252;refine (z8g _ _ _).mono ?_;rintro e w' ⟨rfl,rfl⟩)
   |(go_at_call 259;refine (yd5 (H.out.below (z7v _ _)) (HM.out.below (z7v _ _)) v HL.out).mono ?_;rintro e w1 ⟨rfl,h1⟩;have H1:=hid h1;clear h1))
  all_goals go_wp2
  all_goals go_end0
  all_goals exact ⟨rfl,H1.out.base (z7v _ _)⟩
 ·simp only [z7o,Vl.of,if_true]
  have hv:=hx rfl
  simp only at hv
  have hreg:=h.reg hv.1 hv.2
  generalize T.r v.toNat=u at hreg⊢
  clear h hm hl hx
  go_enter Tryz.func247,Tryz.ntmps247
  go_wp2
  go_region_with (first
   |(go_at_call 233;refine (z8f b v u _ hv.1 hv.2 (hreg _)).mono ?_;rintro e w' ⟨rfl,rfl⟩)
   |(go_at_call 259;refine (yd5 (H.out.below (z7v _ _)) (HM.out.below (z7v _ _)) u HL.out).mono ?_;rintro e w1 ⟨rfl,h1⟩;have H1:=hid h1;clear h1))
  all_goals go_wp2
  all_goals go_end0
  all_goals exact ⟨rfl,H1.out.base (z7v _ _)⟩
end
attribute [local go_sem] zac zad zqc zcn zhh ze8 Jy zdi zjk Fw zjo zdl Fx
section
variable{w:World}{b bm:Nat}{iv ov:Value}{T:Th}{m:Nat->Int}
theorem yal(h:ThAt w b bm iv ov T)(hm:MemAt w bm m)(a:Int)(h0:0<=a)(h1:a<256):
  Cl 261 #[ptr b, .int .i64 a] w λe W'=>e= .returned (.int .i64 (z67 T.q.reverse a (m a.toNat)))/\Below w.heap.size w W':=
 yiz b bm T.q a (m a.toNat) w h0 h1 hm.lt h.mem (hm.cells _ yl5) h.ring
theorem yam{w w1:World}{o:Obj}(h:Below (w.alloc o).heap.size (w.alloc o) w1){i:Nat}{v:Option Value}(hv:(w.alloc o).cell? ⟨w.heap.size,i,none⟩=v):w1.cell? ⟨w.heap.size,i,none⟩=v:=
 (h.cell (p:=⟨w.heap.size,i,none⟩) yl6).trans hv
theorem yc1(h:ThAt w b bm iv ov T)(hm:MemAt w bm m)(x:Vl)(hx:x.ok)(n d:Int)(d0:0<=d)(d1:d<8)(h0:0<=z6z x n T)(h1:z6z x n T<256):
  Cl 242 #[.agg #[.int .i64 d,z7o x, .int .i64 n],ifc b] w λe w'=>e= .returned (.tuple #[])/\Eff w b bm iv ov (T.setR d.toNat (z67 T.q.reverse (z6z x n T) (m (z6z x n T).toNat))) m w':=by
 have H:=hid h
 have HM:=hid hm
 clear h hm
 have hx1: ∃t u,z7o x= .iface t u:=ym8
 have hon:=λ(W:World) (hB:Below w.heap.size w W)=>z8h (H.out.below hB) x hx n h0 h1
 obtain ⟨t,u,hxe⟩:=hx1
 rw [hxe] at hon⊢
 have HO:=hid hon
 clear hon hxe hx
 generalize z6z x n T=a at*
 go_enter Tryz.func242,Tryz.ntmps242
 go_wp2_with fail
 refine (HO.out _ (z7f _ _)).mono ?_
 rintro e w1 ⟨rfl,hb1⟩
 have hd:=yam (i:=0) (v:=some (.int .i64 d)) hb1 ymi
 have hB1:Below w.heap.size w w1:=(z7f _ _).trans (hb1.mono yl6)
 have HB:=hid hB1
 have HB1:=hid hb1
 have hs1:w.heap.size<w1.heap.size:=by have:=hb1.size;simp at this;omega
 clear hb1 hB1 HO
 go_wp2
 go_region_with (first
  |(go_at_call 261;refine (yal (H.out.below HB.out.drew) (HM.out.below HB.out.drew) a h0 h1).mono ?_;rintro e w2 ⟨rfl,hb2⟩;have hd2:=(hb2.cell (p:=⟨w.heap.size,0,none⟩) hs1).trans hd;have HB2:=hid (HB.out.drew.trans (hb2.mono (Nat.le_of_lt hs1)));clear hb2)
  |(go_at_call 236;refine (z79 b d _ _ _ d0 d1 ((H.out.below HB2.out).regs _ yl5) ((H.out.below HB2.out).free _ yl5)).mono ?_;rintro e w3 ⟨rfl,rfl⟩))
 all_goals go_wp2
 all_goals go_end0
 all_goals exact ⟨rfl,((H.out.below HB2.out).effReg (HM.out.below HB2.out) yl5 _).base HB2.out⟩
theorem ybr(h:ThAt w b bm iv ov T)(hm:MemAt w bm m)(x:Vl)(hx:x.ok)(n d:Int)(h0: ¬(0<=z6z x n T/\z6z x n T<256)):
  Cl 242 #[.agg #[.int .i64 d,z7o x, .int .i64 n],ifc b] w λe w'=>e= .returned (.tuple #[])/\Eff w b bm iv ov {T with st:=9} m w':=by
 have hx1: ∃t u,z7o x= .iface t u:=ym8
 have hon:=λ(W:World) (hB:Below w.heap.size w W)=>z8q (h.below hB) (hm.below hB) x hx n h0
 obtain ⟨t,u,hxe⟩:=hx1
 rw [hxe] at hon⊢
 have HO:=hid hon
 clear hon hxe hx h hm
 go_enter Tryz.func242,Tryz.ntmps242
 go_wp2_with fail
 refine (HO.out _ (z7f _ _)).mono ?_
 rintro e w1 ⟨rfl,h1⟩
 have H1:=hid h1
 clear h1 HO
 go_wp2
 go_end0
 exact ⟨rfl,H1.out.base (z7f _ _)⟩
end
end Go.Proofs.YtiiepngikigmbaaGreatDoor
