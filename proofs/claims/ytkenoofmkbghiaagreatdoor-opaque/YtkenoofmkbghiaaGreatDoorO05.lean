import Derived.Test.YtkenoofmkbghiaaGreatDoorO04
set_option maxRecDepth 100000
set_option maxHeartbeats 1000000
namespace Go.Proofs.YtkenoofmkbghiaaGreatDoor
open Go.RowKit
attribute [local go_sem] zac zad zqc
def z7o(x:Vl):Value:=if x.reg=true then .iface 236 (.int .i64 x.v) else .iface 291 (.int .i64 x.v)
section
variable{w:World}{b bm:Nat}{iv ov:Value}{T:Th}{m:Nat->Int}
theorem ThAt.reg(h:ThAt w b bm iv ov T){r:Int}(h0:0<=r)(h1:r<8)(o:Obj):(w.alloc o).drew.cell? ⟨b,2+r.toNat,none⟩=some (.int .i64 (T.r r.toNat)):=
 (World.cell?_alloc_past _ _ _ h.lt).trans (h.regs _ yum)
def z6z(x:Vl)(n:Int)(T:Th):Int:=wrap64 (x.of T+n)
theorem z8h(h:ThAt w b bm iv ov T)(x:Vl)(hx:x.ok)(n:Int)(h0:0<=z6z x n T)(h1:z6z x n T<256):
  Cl 251 #[.agg #[z7o x, .int .i64 n],ifc b] w λe w'=>e= .returned (.tuple #[.int .i64 (z6z x n T), .bool true])/\Below w.heap.size w w':=by
 obtain ⟨r,v⟩:=x
 unfold z6z at h0 h1⊢
 cases r
 ·simp only [z7o,Vl.of,Bool.false_eq_true,if_false] at h0 h1⊢
  have e0: ¬wrap64 (v+n)<0:=yum
  have e1: ¬(256:Int)<=wrap64 (v+n):=yum
  clear h hx
  go_enter Tryz.func251,Tryz.ntmps251
  go_wp2
  go_region_with (go_at_call 261;refine (z8g _ _ _).mono ?_;rintro e w' ⟨rfl,rfl⟩)
  all_goals go_wp2
  all_goals go_ret2
  all_goals exact ⟨rfl,((Below.refl _ w).alloc (Nat.le_refl _) _).drew⟩
 ·simp only [z7o,Vl.of,if_true] at h0 h1⊢
  have hv:=hx rfl
  simp only at hv
  have hreg:=h.reg hv.1 hv.2
  generalize T.r v.toNat=u at hreg h0 h1⊢
  have e0: ¬wrap64 (u+n)<0:=yum
  have e1: ¬(256:Int)<=wrap64 (u+n):=yum
  clear h hx
  go_enter Tryz.func251,Tryz.ntmps251
  go_wp2
  go_region_with (go_at_call 243;go_must (refine (z8f b v u _ hv.1 hv.2 (hreg _)).mono ?_);rintro e w' ⟨rfl,rfl⟩)
  all_goals go_wp2
  all_goals go_ret2
  all_goals exact ⟨rfl,((Below.refl _ w).alloc (Nat.le_refl _) _).drew⟩
theorem z8q(h:ThAt w b bm iv ov T)(hm:MemAt w bm m)(x:Vl)(hx:x.ok)(n:Int)(h0: ¬(0<=z6z x n T/\z6z x n T<256)):
  Cl 251 #[.agg #[z7o x, .int .i64 n],ifc b] w λe w'=>e= .returned (.tuple #[.int .i64 0, .bool false])/\Eff w b bm iv ov {T with st:=9} m w':=by
 obtain ⟨r,v⟩:=x
 unfold z6z at h0
 have hfin: ∀o,Eff w b bm iv ov {T with st:=9} m ((w.alloc o).drew.setCell ⟨b,22,none⟩ (.int .i64 9)):=λo=>by
  have hb2:Below w.heap.size w (w.alloc o).drew:=((Below.refl _ w).alloc (Nat.le_refl _) o).drew
  exact ⟨ov,(h.below hb2).setState 9,(hm.below hb2).keep ((Chg.refl (λk i=>k=b/\i=22) _).setCell (λ_=>⟨rfl,rfl⟩) _) (λi _ e=>h.ne hm e.1.symm),(Chg.of_below hb2).setCell (λ_=>z9o _) _, .inl rfl⟩
 have HF:Hid (∀o,Eff w b bm iv ov {T with st:=9} m ((w.alloc o).drew.setCell ⟨b,22,none⟩ (.int .i64 9))):=hfin
 have hs: ∀o,(w.alloc o).drew.cell? ⟨b,22,none⟩=some (.int .i64 T.st):=λo=>(World.cell?_alloc_past _ _ _ h.lt).trans h.state
 have hz: ∀o,(w.alloc o).drew.frozen? ⟨b,22,none⟩=false:=λo=>(World.frozen?_alloc_past _ _ _ h.lt).trans (h.free 22 yum)
 clear hfin
 cases r
 ·simp only [z7o,Vl.of,Bool.false_eq_true,if_false] at h0⊢
  clear h hx
  by_cases e0:wrap64 (v+n)<0
  ·go_enter Tryz.func251,Tryz.ntmps251
   go_wp2
   go_region_with (go_at_call 261;refine (z8g _ _ _).mono ?_;rintro e w' ⟨rfl,rfl⟩)
   all_goals go_wp2_with (go_at_call 267;refine (z9c b 9 _ _ (hs _) (hz _)).mono ?_;rintro e w' ⟨rfl,rfl⟩)
   all_goals go_ret2
   all_goals exact ⟨rfl,HF.out _⟩
  ·have e1:(256:Int)<=wrap64 (v+n):=by omega
   go_enter Tryz.func251,Tryz.ntmps251
   go_wp2
   go_region_with (go_at_call 261;refine (z8g _ _ _).mono ?_;rintro e w' ⟨rfl,rfl⟩)
   all_goals go_wp2_with (go_at_call 267;refine (z9c b 9 _ _ (hs _) (hz _)).mono ?_;rintro e w' ⟨rfl,rfl⟩)
   all_goals go_ret2
   all_goals exact ⟨rfl,HF.out _⟩
 ·simp only [z7o,Vl.of,if_true] at h0⊢
  have hv:=hx rfl
  simp only at hv
  have hreg:=h.reg hv.1 hv.2
  generalize T.r v.toNat=u at hreg h0⊢
  clear h hx
  by_cases e0:wrap64 (u+n)<0
  ·go_enter Tryz.func251,Tryz.ntmps251
   go_wp2
   go_region_with (go_at_call 243;refine (z8f b v u _ hv.1 hv.2 (hreg _)).mono ?_;rintro e w' ⟨rfl,rfl⟩)
   all_goals go_wp2_with (go_at_call 267;refine (z9c b 9 _ _ (hs _) (hz _)).mono ?_;rintro e w' ⟨rfl,rfl⟩)
   all_goals go_ret2
   all_goals exact ⟨rfl,HF.out _⟩
  ·have e1:(256:Int)<=wrap64 (u+n):=by omega
   go_enter Tryz.func251,Tryz.ntmps251
   go_wp2
   go_region_with (go_at_call 243;refine (z8f b v u _ hv.1 hv.2 (hreg _)).mono ?_;rintro e w' ⟨rfl,rfl⟩)
   all_goals go_wp2_with (go_at_call 267;refine (z9c b 9 _ _ (hs _) (hz _)).mono ?_;rintro e w' ⟨rfl,rfl⟩)
   all_goals go_ret2
   all_goals exact ⟨rfl,HF.out _⟩
end
end Go.Proofs.YtkenoofmkbghiaaGreatDoor
